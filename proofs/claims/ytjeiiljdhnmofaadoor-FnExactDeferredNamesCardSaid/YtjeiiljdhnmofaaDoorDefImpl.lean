/- Contract: DeferredNames of the program. Condition: the tables hold what the program's text lays. -/
import Derived.Test.YtjeiiljdhnmofaaDoorKeepV
import Derived.Test.YtjeiiljdhnmofaaDoorPtValP
import Derived.Test.YtjeiiljdhnmofaaDoorShelf
import Derived.Maps.OwnIn
import Derived.RangeFuncBox
namespace Go.Proofs.YtjeiiljdhnmofaaDoor
open Go Go.RowKit Go.Shelf
attribute [local go_sem] Oper.semAt_some

theorem contains_any (v : Value) (l : List ByteArray) (t : ByteArray) (B : Nat) (w : World) (hl : l.length ≤ 100000) (h : OwnS w B v l) :
    Calls Tryd.prog 67 #[v, .string t] w fun e w' => e = .returned (.bool (Lib.containsS l t)) ∧ w' = w := by
  rcases ownS_row h with ⟨rfl, rfl⟩ | ⟨g, c, rfl, _, _, _, hc⟩
  · exact Tryd.slices_Contains_string_empty none 0 t w
  · have := Tryd.slices_Contains_string g 0 l.length c l t w (Nat.le_refl _) (by omega) (fun j hj => by
      rw [Nat.zero_add, hc j l[j] (List.getElem?_eq_getElem hj)]
      simp [List.getD, List.getElem?_eq_getElem hj])
    rw [List.take_length] at this
    exact this
theorem ownS_good {W : World} {lo : Nat} {v : Value} {l : List ByteArray} (h : OwnS W lo v l) : GoodV lo W v := fun g e => ownS_lt h e
theorem ownS_from (B B' lo : Nat) (f : List Nd → List ByteArray) : OwnFrom B' (fun (pre : List Nd) W => ∃ v, Boxed W B 58 v ∧ OwnS W lo v (f pre)) := by
  intro s W W' row h hg hr
  obtain ⟨v, hb, ho⟩ := h
  refine ⟨v, (boxed_own (β := Unit) B 58 (fun _ => v)) () W W' row hb hg (fun r e => (hr r e).2), ho.kept hg ?_⟩
  rcases ho.2 with ⟨e4, _⟩ | ⟨g', cap, cur, e4, _, hh, _⟩
  · rw [e4]; exact .inl rfl
  · refine .inr ?_
    rw [e4]
    intro e
    obtain ⟨_, o, hx, hn⟩ := hr g' e.symm
    rw [hh] at hx
    cases hx
    cases hn
theorem ownS_not {W : World} {B lo : Nat} {v : Value} {l : List ByteArray} (h : OwnS W lo v l) (hB : B < lo) : v.ownBlock ≠ some B := fun e => by have := (ownS_lt h e).1; omega
theorem namesC_snoc (l : List ByteArray) (qs : List Core) (q : Core) : namesC l (qs ++ [q]) = addName (namesC l qs) q := by rw [namesC_app]; rfl

set_option maxRecDepth 100000 in
set_option maxHeartbeats 4000000 in
theorem impl_DeferredNames_any (d : Nat) (x : Pt) (A : Option Addr) (n c : Nat) (W : World) (hv : PtV W 0 W.heap.size d x A n) (hT : Classes W) (hF : Forms W) :
    Calls Tryd.prog 38 #[x.ag A n c] W (RetsO W (open Classical in if ValidP x then namesC [] (ptPre x) else [])) := by
  refine (callsIn_wide (n := 9)).1 ?_
  obtain ⟨i0, hi, hz0, hz1, hz2⟩ := info_parts strInfo
  have HI := Lib.hid (And.intro hi (And.intro hz0 (And.intro hz1 hz2)))
  clear hi hz0 hz1 hz2
  have HT := Lib.hid hT
  have HF := Lib.hid hF
  have HV := Lib.hid hv
  have HVP : Hid (∀ q w, Below W.heap.size W w → CallsIn Fence.wide q Tryd.prog 13 #[x.ag A n c] w fun e w' => e = .returned (.bool (tt (ValidP x))) ∧ Below w.heap.size w w') := fun q w hb => callsIn_wide.2 (impl_ValidPattern_any d x A n c w (hv.go hb) (classes_go hT hb) (hF.go hb))
  have HP := Lib.hid (fun q X => patternNodes_any q x A n c X)
  clear hT hF hv
  have HS := Lib.hid (fun X Bt nb (hX : Below W.heap.size W X) (hnb : W.heap.size ≤ nb) (hb : Boxed X nb 58 (.slice none 0 0)) (hr : RW 29 X Bt #[.int .i64 x.k, .int .i64 x.n, .string x.t, .slice A n c]) => nodesG_stops (KV nb W.heap.size) (GV nb W.heap.size) 8 d W.heap.size Bt x A n c X (kp_KV hnb (Nat.le_refl _)) (fun Y hY => ⟨.slice none 0 0, (boxed_below hb hY).cell, fun g e => by cases e⟩) hr HV.out.1 (HV.out.2.below hX) hX.size)
  by_cases hp : ValidP x
  · rw [if_pos hp]
    rw [tt_true hp] at HVP
    have hcnt := hp.1
    obtain ⟨R, hR⟩ : ∃ R, namesC [] (ptPre x) = R := ⟨_, rfl⟩
    rw [hR]
    have HR := Lib.hid hR
    clear hR hp
    obtain ⟨k, m, t, ks⟩ := x
    change Hid (∀ q X, CallsIn Fence.wide q Tryd.prog 43 #[.agg #[.int .i64 k, .int .i64 m, .string t, .slice A n c]] X fun e w' => e = .returned (.func (.func 68) #[] #[.pointer (some ⟨X.heap.size, 0, none⟩)]) ∧ w' = X.alloc (.cells #[.int .i64 k, .int .i64 m, .string t, .slice A n c] 29)) at HP
    show CallsIn Fence.wide 9 Tryd.prog 38 #[.agg #[.int .i64 k, .int .i64 m, .string t, .slice A n c]] W _
    refine callsIn_of_wp_marks Tryd.func38 rfl trivial ?_ rfl
    simp only [Tryd.ntmps38, List.size_toArray, List.length_cons, List.length_nil, Nat.reduceAdd, Nat.reduceSub, Array.replicate_succ, Array.replicate_zero, List.push_toArray, List.append_toArray, List.nil_append, List.cons_append]
    gi_wp2_with (first
      | (refine ⟨trivial, ?_⟩; gi_at_call 13; refine (HVP.out _ _ (below_alloc _ _)).mono ?_; rintro e w1 ⟨rfl, hb⟩; have HB1 := Lib.hid ((below_alloc W _).trans (hb.mono (Nat.le_of_lt (lt_alloc W _)))); have hr := (RW.new W #[.int .i64 k, .int .i64 m, .string t, .slice A n c] 29).below hb (lt_alloc W _); have r0 : ∀ o, (w1.alloc o).cell? ⟨W.heap.size, 0, none⟩ = some (.int .i64 k) := (fun o => (hr.alloc o).cell 0); have r1 : ∀ o, (w1.alloc o).cell? ⟨W.heap.size, 1, none⟩ = some (.int .i64 m) := (fun o => (hr.alloc o).cell 1); have r2 : ∀ o, (w1.alloc o).cell? ⟨W.heap.size, 2, none⟩ = some (.string t) := (fun o => (hr.alloc o).cell 2); have r3 : ∀ o, (w1.alloc o).cell? ⟨W.heap.size, 3, none⟩ = some (.slice A n c) := (fun o => (hr.alloc o).cell 3); clear hb hr)
      | (refine ⟨trivial, ?_⟩; gi_at_call 43; refine (HP.out _ _).mono ?_; rintro e w' ⟨rfl, rfl⟩))
    have hN := (RW.new (w1.alloc (.cells #[.slice none 0 0] 58)) #[.int .i64 k, .int .i64 m, .string t, .slice A n c] 29)
    have bN := (Boxed.new w1 58 (.slice none 0 0)).alloc (.cells #[.int .i64 k, .int .i64 m, .string t, .slice A n c] 29)
    simp only [World.size_alloc] at hN bN
    have hB0 : Below W.heap.size W ((w1.alloc (.cells #[.slice none 0 0] 58)).alloc (.cells #[.int .i64 k, .int .i64 m, .string t, .slice A n c] 29)) := (HB1.out.alloc HB1.out.size _).alloc (by have := HB1.out.size; simp; omega) _
    have hsz : ((w1.alloc (.cells #[.slice none 0 0] 58)).alloc (.cells #[.int .i64 k, .int .i64 m, .string t, .slice A n c] 29)).heap.size = w1.heap.size + 2 := by simp
    obtain ⟨W0, hW0⟩ : ∃ W0, (w1.alloc (.cells #[.slice none 0 0] 58)).alloc (.cells #[.int .i64 k, .int .i64 m, .string t, .slice A n c] 29) = W0 := ⟨_, rfl⟩
    rw [hW0] at hN bN hB0 hsz ⊢
    obtain ⟨nb, hnb⟩ : ∃ nb, w1.heap.size = nb := ⟨_, rfl⟩
    have hs1 := HB1.out.size
    rw [hnb] at hN bN hsz hs1 ⊢
    clear hW0 HP HVP r0 r1 r2 r3 HB1 hnb
    have hlt0 : W.heap.size < W0.heap.size := by omega
    refine wpIn_rangeFunc_ownH rfl (by decide) (gf := 68) (lb := #[.pointer (some ⟨nb + 1, 0, none⟩)]) rfl trivial (enters_of Tryd.func68 (by kernel_rfl) rfl)
      (HS.out W0 (nb + 1) nb hB0 hs1 bN hN) KV.tr (fun W l o o' _ h hc _ => KV.walk W l o o' h hc) (Below.refl _ _) (fun _ => rfl)
      (fun pre W' => (∃ v, Boxed W' nb 58 v ∧ OwnS W' W.heap.size v (namesC [] (pre.map Nd.core))) ∧ Below W.heap.size W W')
      (fun _ _ _ => False)
      (OwnFrom.and (ownS_from nb W0.heap.size W.heap.size (fun pre => namesC [] (pre.map Nd.core))) (ownFrom_below (Nat.le_refl _) (by omega)))
      (fun _ _ _ _ _ hs _ _ => hs)
      ⟨⟨_, bN, World.ownsRow_nil _ _ _ _⟩, hB0⟩
      (fun y a' W' => ∃ Bx, nb < Bx ∧ RW 29 W' Bx #[.int .i64 y.k, .int .i64 y.m, .string y.t, .slice y.A y.n y.c] ∧ a' = { tmps := #[.agg #[.int .i64 k, .int .i64 m, .string t, .slice A n c], .pointer (some ⟨W.heap.size, 0, none⟩), .slice none 0 0, .pointer (some ⟨nb, 0, none⟩), .pointer (some ⟨Bx, 0, none⟩), .agg #[.int .i64 k, .int .i64 m, .string t, .slice A n c], .bool true, .bool false, .agg #[.int .i64 k, .int .i64 m, .string t, .slice A n c], .func (.func 68) #[] #[.pointer (some ⟨nb + 1, 0, none⟩)], y.ag, undef, undef, undef, undef, undef, undef, undef, undef, undef, undef, undef, undef, undef, undef, undef, undef], defers := [] })
      (fun y a' _ X Y row hs hg hr => by obtain ⟨Bx, h1, h2, h3⟩ := hs; exact ⟨Bx, h1, row_own Bx _ _ () X Y row h2 hg (fun r e => (hr r e).2), h3⟩)
      ?assign ?body ?done ?stop
    case assign =>
      rintro l pre y X K ⟨⟨v, hb, ho⟩, hB⟩ hK
      gi_wp2
      exact hK _ _ ((KeepsOthers.alloc _ _).from _) (KV.of_below (below_alloc _ _)) ⟨⟨v, hb.alloc _, ownS_keep ho (below_alloc _ _)⟩, hB.alloc hB.size _⟩ ⟨X.heap.size, hb.lt, RW.new _ _ _, rfl⟩
    case body =>
      rintro l pre y a' X hl ⟨r, hr⟩ ⟨⟨v, hb, ho⟩, hB⟩ ⟨Bx, hBx, bX, rfl⟩ hlt
      obtain ⟨L, hL⟩ : ∃ L, namesC [] (pre.map Nd.core) = L := ⟨_, rfl⟩
      rw [hL] at ho
      have hlen : L.length ≤ 60 := by
        have := namesC_len (pre.map Nd.core) []
        rw [hL, List.length_map] at this
        simp only [List.length_nil] at this
        omega
      have HSN : Hid (namesC [] ((pre ++ [y]).map Nd.core) = addName L y.core) := by
        show _ = _
        rw [List.map_append, List.map_singleton, namesC_snoc, hL]
      have HO := Lib.hid ho
      have HBX := Lib.hid hb
      have HBW := Lib.hid hB
      have HL := Lib.hid hlen
      have HNB := Lib.hid hs1
      have HC := Lib.hid (contains_any v L y.t W.heap.size X (by omega) ho)
      have cN := hb.cell
      have x0 : X.cell? ⟨Bx, 0, none⟩ = some (.int .i64 y.k) := bX.cell 0
      have x2 : X.cell? ⟨Bx, 2, none⟩ = some (.string y.t) := bX.cell 2
      have HNOP : Hid (addName L y.core = L → ownPostG W0.heap.size (KV nb W.heap.size) (fun pre W' => (∃ v, Boxed W' nb 58 v ∧ OwnS W' W.heap.size v (namesC [] (pre.map Nd.core))) ∧ Below W.heap.size W W') (fun _ _ _ => False) (pre ++ [y]) X .normal { tmps := #[], defers := [] } X) := by
        show _ → _
        intro e
        refine ⟨KeepsFrom.refl _ _, KV.of_below (Below.refl _ _), ⟨v, HBX.out, ?_⟩, HBW.out⟩
        rw [HSN.out, e]
        exact HO.out
      obtain ⟨yk, ym, yt, yA, yn, yc, yht, yhn⟩ := y
      change Hid (Calls Tryd.prog 67 #[v, .string yt] X fun e w' => e = .returned (.bool (Lib.containsS L yt)) ∧ w' = X) at HC
      change X.cell? ⟨Bx, 0, none⟩ = some (.int .i64 yk) at x0
      change X.cell? ⟨Bx, 2, none⟩ = some (.string yt) at x2
      have HSN2 : Hid (addName L (Nd.core ⟨yk, ym, yt, yA, yn, yc, yht, yhn⟩) = if yk = 24 then (if Lib.containsS L yt = true then L else L ++ [yt]) else L) := rfl
      clear hL hb hB bX hlt hlen ho hr
      by_cases h24 : yk = 24
      · subst h24
        obtain ⟨z, hz⟩ : ∃ z, Lib.containsS L yt = z := ⟨_, rfl⟩
        have HZ := Lib.hid hz
        rw [hz] at HC
        clear hz
        cases z
        · gi_wp2_with (first
            | (refine ⟨trivial, ?_⟩; gi_at_call 67; refine (CallsIn.inRound l (callsIn_wide.2 HC.out)).mono ?_; rintro e w5 ⟨rfl, rfl⟩)
            | (gi_at_builtin; refine wpListIn_append_own_at _ rfl _ _ 58 rfl W.heap.size 9 i0 (.string ⟨#[]⟩) 1 16 Tryd.underlying58 HI.out.1 HI.out.2.1 HI.out.2.2.1 HI.out.2.2.2 rfl (by decide) _ _ _ rfl (ownS_keep HO.out (below_alloc _ _)) ⟨w5.heap.size, 0, none⟩ 1 1 [.string yt] rfl rfl (cell_one_new _ _ _) (fun x hx => by simp at hx; subst hx; rfl) (by have := HL.out; unfold maxLen; omega) (by have := HL.out; omega) (by have := HBW.out.size; simp; omega) ?_; intro v1 w6 hown1 hgr1 _ hor; have HG6 := Lib.hid (GrowS.of_grown (below_alloc w5 _) hgr1 hor); obtain ⟨g1, cap1, rfl⟩ := ownsRow_succ hown1; obtain ⟨hv1, hv2, hr2, hk2, hb2⟩ := HBX.out.appended (by decide) HO.out HBW.out.size HNB.out hown1 hgr1; have HO6 := Lib.hid hown1; have HR2 := Lib.hid hr2; have HV2 := Lib.hid hv2; have HK2 := Lib.hid hk2; have HB2 := Lib.hid hb2; have cN6 := hv1.cell; have fN6 := hv1.frozen; clear hown1 hgr1 hor hv1 hv2 hr2 hk2 hb2))
          have e : addName L (Nd.core ⟨24, ym, yt, yA, yn, yc, yht, yhn⟩) = L ++ [yt] := by rw [HSN2.out, HZ.out]; rfl
          refine ⟨HK2.out.from _, KV.grow HBX.out HG6.out (HBX.out.not_row (by decide) HO.out).symm (fun g e => ownS_lt (l := L ++ [yt]) (by rw [OwnS, List.map_append, List.length_append]; exact HO6.out) e), ⟨_, HV2.out, ?_⟩, HBW.out.trans HB2.out⟩
          rw [HSN.out, e, OwnS, List.map_append, List.length_append]
          exact HR2.out
        · gi_wp2_with (refine ⟨trivial, ?_⟩; gi_at_call 67; refine (CallsIn.inRound l (callsIn_wide.2 HC.out)).mono ?_; rintro e w5 ⟨rfl, rfl⟩)
          exact HNOP.out (by rw [HSN2.out, HZ.out]; rfl)
      · have h24' : (yk == 24) = false := by simpa using h24
        gi_wp2_with fail
        refine ⟨trivial, ?_⟩
        gi_wp2
        exact HNOP.out (by rw [HSN2.out, if_neg h24])
    case done =>
      rintro D ys X hD hys ⟨⟨v, hb, ho⟩, hB⟩ hK
      have HRR : Hid (namesC [] (ys.map Nd.core) = R) := by show _ = _; rw [← HR.out, hys]
      have cN := hb.cell
      gi_wp2
      refine ⟨by simp, .inl ⟨_, _, rfl, run_takeDeferred hK, ?_⟩⟩
      refine ⟨_, results_tmp rfl _ _ _, ?_⟩
      rw [HRR.out] at ho
      exact retsO_own (ownsRow_putObj ho _ hK rfl) (hB.trans (belowK_b (w := W) (Nat.le_refl _) X D _ _ (by omega) hK rfl rfl))
    case stop =>
      rintro D cd pre X _ _ h _
      exact h.elim
  · rw [if_neg hp]
    rw [tt_false hp] at HVP
    obtain ⟨k, m, t, ks⟩ := x
    show CallsIn Fence.wide 9 Tryd.prog 38 #[.agg #[.int .i64 k, .int .i64 m, .string t, .slice A n c]] W _
    refine callsIn_of_wp_marks Tryd.func38 rfl trivial ?_ rfl
    simp only [Tryd.ntmps38, List.size_toArray, List.length_cons, List.length_nil, Nat.reduceAdd, Nat.reduceSub, Array.replicate_succ, Array.replicate_zero, List.push_toArray, List.append_toArray, List.nil_append, List.cons_append]
    clear hp
    gi_wp2_with (refine ⟨trivial, ?_⟩; gi_at_call 13; refine (HVP.out _ _ (below_alloc _ _)).mono ?_; rintro e w1 ⟨rfl, hb⟩; have HB1 := Lib.hid ((below_alloc W _).trans (hb.mono (Nat.le_of_lt (lt_alloc W _)))); clear hb)
    exact ⟨_, results_tmp rfl _ _ _, none, 0, rfl, fun h => absurd h (by simp), HB1.out⟩
end Go.Proofs.YtjeiiljdhnmofaaDoor
