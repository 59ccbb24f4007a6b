/- Contract: ValidPattern of the program. Condition: the tables hold what the program's text lays. -/
import Derived.Test.YtjeiiljdhnmofaaDoorPtIter
import Derived.Test.YtjeiiljdhnmofaaDoorPtFld
namespace Go.Proofs.YtjeiiljdhnmofaaDoor
open Go Go.RowKit Go.Shelf
attribute [local go_sem] Oper.semAt_some

/-- A node's fields fit its kind. -/
def properN (k m : Int) (t : ByteArray) (n : Nat) : Bool := (Pt.node k m t (List.replicate n (.node 0 0 ⟨#[]⟩ []))).proper
theorem proper_core (k m : Int) (t : ByteArray) (ks : List Pt) : (Pt.node k m t ks).proper = properN k m t ks.length := by
  show (decide (1 ≤ k ∧ k ≤ 24) && (((ks.length : Int) == kidsK k) && (textFits k t && ((m == 0) || (hasNum k && decide (0 ≤ m ∧ m ≤ 200)))))) = (decide (1 ≤ k ∧ k ≤ 24) && ((((List.replicate ks.length (Pt.node 0 0 ⟨#[]⟩ [])).length : Int) == kidsK k) && (textFits k t && ((m == 0) || (hasNum k && decide (0 ≤ m ∧ m ≤ 200))))))
  rw [List.length_replicate]
def okC (q : Core) : Bool := properN q.1 q.2.1 q.2.2.1 q.2.2.2
mutual
theorem all_pre : ∀ (x : Pt), ptAll x ↔ ∀ q ∈ ptPre x, okC q = true
  | .node k m t ks => by
    rw [ptAll, ptPre, all_pres ks, proper_core]
    simp [okC]
theorem all_pres : ∀ (xs : List Pt), ptAlls xs ↔ ∀ q ∈ ptPres xs, okC q = true
  | [] => by rw [ptAlls, ptPres]; simp
  | x :: xs => by
    rw [ptAlls, ptPres, all_pre x, all_pres xs]
    simp only [List.mem_append]
    constructor
    · rintro ⟨h1, h2⟩ q (h | h)
      · exact h1 q h
      · exact h2 q h
    · exact fun h => ⟨fun q hq => h q (.inl hq), fun q hq => h q (.inr hq)⟩
end
/-- All that came is proper, and not too much. -/
def Fine (ys : List Nd) : Prop := ys.length ≤ 60 ∧ ∀ y ∈ ys, okC y.core = true
theorem fine_all {x : Pt} {ys : List Nd} (h : ys.map Nd.core = ptPre x) (hf : Fine ys) : ValidP x := by
  refine ⟨by rw [← len_pre, ← h, List.length_map]; exact hf.1, (all_pre x).2 fun q hq => ?_⟩
  rw [← h] at hq
  obtain ⟨y, hy, rfl⟩ := List.mem_map.1 hq
  exact hf.2 y hy
theorem fine_part {x : Pt} {ys : List Nd} (h : ys.map Nd.core <+: ptPre x) (hv : ValidP x) : Fine ys := by
  refine ⟨?_, fun y hy => (all_pre x).1 hv.2 _ (h.subset (List.mem_map.2 ⟨y, hy, rfl⟩))⟩
  have h1 := h.length_le
  rw [List.length_map, len_pre] at h1
  exact Nat.le_trans h1 hv.1
theorem keepsFrom_below {B : Nat} {W W' : World} (h : Below W.heap.size W W') : KeepsFrom B W W' := ⟨h.size, fun k o _ hk _ => (h.block k (Array.getElem?_eq_some_iff.1 hk).1).trans hk⟩
theorem boxed_below {W W' : World} {B : Nat} {t : TypeId} {v : Value} (h : Boxed W B t v) (hb : Below W.heap.size W W') : Boxed W' B t v := (hb.block B h.lt).trans h
theorem row_own {β : Type} (B : Nat) (T : TypeId) (cs : Array Value) : Own (fun (_ : β) W => RW T W B cs) := fun s X Y row hs hg hrow =>
  (hg.block B hs.lt (fun e' => by obtain ⟨o, ho, hc⟩ := hrow B e'.symm; rw [show X.heap[B]? = _ from hs] at ho; cases ho; cases hc)).trans hs

set_option maxRecDepth 100000 in
set_option maxHeartbeats 4000000 in
theorem impl_ValidPattern_any (d : Nat) (x : Pt) (A : Option Addr) (n c : Nat) (W : World) (hv : PtV W 0 W.heap.size d x A n) (hT : Classes W) (hF : Forms W) :
    Calls Tryd.prog 13 #[x.ag A n c] W fun e w' => e = .returned (.bool (tt (ValidP x))) ∧ Below W.heap.size W w' := by
  refine (callsIn_wide (n := 9)).1 ?_
  have hdd : ∀ q : Nat, (Fence.wide.depth.isSome = true → 1 ≤ q) := fun q h => by cases h
  have HT := Lib.hid hT
  have HF := Lib.hid hF
  have HV := Lib.hid hv
  have HP := Lib.hid (fun q X => patternNodes_any q x A n c X)
  obtain ⟨C4, hC4⟩ : ∃ C4 : Array Value, #[.int .i64 x.k, .int .i64 x.n, .string x.t, .slice A n c] = C4 := ⟨_, rfl⟩
  have HC4 := Lib.hid hC4
  clear hT hF hv
  have hag : x.ag A n c = .agg #[.int .i64 x.k, .int .i64 x.n, .string x.t, .slice A n c] := rfl
  have HS := Lib.hid (fun X Bt (hX : Below W.heap.size W X) (hb : W.heap.size + 3 ≤ X.heap.size) (hr : RW 29 X Bt #[.int .i64 x.k, .int .i64 x.n, .string x.t, .slice A n c]) => nodes_stops 8 d (W.heap.size + 1) (W.heap.size + 3) W.heap.size Bt x A n c X (Nat.le_succ _) hb hr HV.out.1 (HV.out.2.below hX) hX.size)
  obtain ⟨k, m, t, ks⟩ := x
  change Hid (∀ q X, CallsIn Fence.wide q Tryd.prog 43 #[.agg #[.int .i64 k, .int .i64 m, .string t, .slice A n c]] X fun e w' => e = .returned (.func (.func 68) #[] #[.pointer (some ⟨X.heap.size, 0, none⟩)]) ∧ w' = X.alloc (.cells #[.int .i64 k, .int .i64 m, .string t, .slice A n c] 29)) at HP
  show CallsIn Fence.wide 9 Tryd.prog 13 #[.agg #[.int .i64 k, .int .i64 m, .string t, .slice A n c]] W _
  clear hC4 HC4 hag
  obtain ⟨P, hP⟩ : ∃ P, tt (ValidP (.node k m t ks)) = P := ⟨_, rfl⟩
  rw [hP]
  have HPP := Lib.hid hP
  clear hP
  refine callsIn_of_wp_marks Tryd.func13 rfl trivial ?_ rfl
  simp only [Tryd.ntmps13, List.size_toArray, List.length_cons, List.length_nil, Nat.reduceAdd, Nat.reduceSub, Array.replicate_succ, Array.replicate_zero, List.push_toArray, List.append_toArray, List.nil_append, List.cons_append]
  gi_wp2_with (refine ⟨trivial, ?_⟩; gi_at_call 43; refine (HP.out _ _).mono ?_; rintro e w' ⟨rfl, rfl⟩)
  try simp only [World.size_alloc]
  have bR := ((Boxed.new (W.alloc (.cells #[.int .i64 k, .int .i64 m, .string t, .slice A n c] 29)) 4 (.bool false)).alloc (.cells #[.int .i64 0] 3)).alloc (.cells #[.int .i64 k, .int .i64 m, .string t, .slice A n c] 29)
  have bC := (Boxed.new ((W.alloc (.cells #[.int .i64 k, .int .i64 m, .string t, .slice A n c] 29)).alloc (.cells #[.bool false] 4)) 3 (.int .i64 0)).alloc (.cells #[.int .i64 k, .int .i64 m, .string t, .slice A n c] 29)
  have bP := RW.new (((W.alloc (.cells #[.int .i64 k, .int .i64 m, .string t, .slice A n c] 29)).alloc (.cells #[.bool false] 4)).alloc (.cells #[.int .i64 0] 3)) #[.int .i64 k, .int .i64 m, .string t, .slice A n c] 29
  simp only [World.size_alloc] at bR bC bP
  have hB0 : Below W.heap.size W ((((W.alloc (.cells #[.int .i64 k, .int .i64 m, .string t, .slice A n c] 29)).alloc (.cells #[.bool false] 4)).alloc (.cells #[.int .i64 0] 3)).alloc (.cells #[.int .i64 k, .int .i64 m, .string t, .slice A n c] 29)) := ((((Below.refl _ W).alloc (Nat.le_refl _) _).alloc (by simp) _).alloc (by simp; omega) _).alloc (by simp; omega) _
  have hsz : ((((W.alloc (.cells #[.int .i64 k, .int .i64 m, .string t, .slice A n c] 29)).alloc (.cells #[.bool false] 4)).alloc (.cells #[.int .i64 0] 3)).alloc (.cells #[.int .i64 k, .int .i64 m, .string t, .slice A n c] 29)).heap.size = W.heap.size + 4 := by simp
  obtain ⟨W0, hW0⟩ : ∃ W0, (((W.alloc (.cells #[.int .i64 k, .int .i64 m, .string t, .slice A n c] 29)).alloc (.cells #[.bool false] 4)).alloc (.cells #[.int .i64 0] 3)).alloc (.cells #[.int .i64 k, .int .i64 m, .string t, .slice A n c] 29) = W0 := ⟨_, rfl⟩
  rw [hW0] at bR bC bP hB0 hsz ⊢
  clear hW0 HP
  refine wpIn_rangeFunc_ownH rfl (by decide) (gf := 68) (lb := #[.pointer (some ⟨W.heap.size + 1 + 1 + 1, 0, none⟩)]) rfl trivial (enters_of Tryd.func68 (by kernel_rfl) rfl)
    (HS.out W0 (W.heap.size + 1 + 1 + 1) hB0 (by omega) bP) KeepC.trans (fun W l o o' _ h hc _ => keepC_b W l o o' h hc) (Below.refl _ _) (fun _ => rfl)
    (fun pre W' => (Fine pre ∧ (Boxed W' (W.heap.size + 1 + 1) 3 (.int .i64 (pre.length : Int)) ∧ Boxed W' (W.heap.size + 1) 4 (.bool false))) ∧ Below W.heap.size W W')
    (fun cd pre W' => ((cd = .ret ∧ ¬ Fine pre) ∧ Boxed W' (W.heap.size + 1) 4 (.bool false)) ∧ Below W.heap.size W W')
    (OwnFrom.and (OwnFrom.and (ownFrom_pure _ (fun pre => Fine pre)) (OwnFrom.and (Own.from (boxed_own _ _ _) _) (Own.from (boxed_own _ _ _) _))) (ownFrom_below (Nat.le_refl _) (by omega)))
    (fun cd => OwnFrom.and (OwnFrom.and (ownFrom_pure _ (fun pre => cd = .ret ∧ ¬ Fine pre)) (Own.from (boxed_own _ _ _) _)) (ownFrom_below (Nat.le_refl _) (by omega)))
    ⟨⟨⟨by simp, by simp⟩, bC, bR⟩, hB0⟩
    (fun y a' W' => ∃ Bx, W.heap.size + 1 + 1 < Bx ∧ RW 29 W' Bx #[.int .i64 y.k, .int .i64 y.m, .string y.t, .slice y.A y.n y.c] ∧ a' = { tmps := #[.agg #[.int .i64 k, .int .i64 m, .string t, .slice A n c], .pointer (some ⟨W.heap.size, 0, none⟩), .pointer (some ⟨W.heap.size + 1, 0, none⟩), .pointer (some ⟨W.heap.size + 1 + 1, 0, none⟩), .pointer (some ⟨Bx, 0, none⟩), .agg #[.int .i64 k, .int .i64 m, .string t, .slice A n c], .func (.func 68) #[] #[.pointer (some ⟨W.heap.size + 1 + 1 + 1, 0, none⟩)], y.ag, undef, undef, undef, undef, undef, undef, undef, undef, undef], defers := [] })
    (fun y a' _ X Y row hs hg hr => by obtain ⟨Bx, h1, h2, h3⟩ := hs; exact ⟨Bx, h1, row_own Bx _ _ () X Y row h2 hg (fun r e => (hr r e).2), h3⟩)
    ?assign ?body ?done ?stop
  case assign =>
    rintro l pre y X K ⟨⟨hf, bC1, bR1⟩, hB1⟩ hK
    gi_wp2
    exact hK _ _ ((KeepsOthers.alloc _ _).from _) (KeepC.alloc _ _ _ _) ⟨⟨hf, bC1.alloc _, bR1.alloc _⟩, hB1.alloc hB1.size _⟩ ⟨X.heap.size, bC1.lt, RW.new _ _ _, rfl⟩
  case body =>
    rintro l pre y a' X hl ⟨r, hr⟩ ⟨⟨hf, bC1, bR1⟩, hB1⟩ ⟨Bx, hBx, bX, rfl⟩ hlt
    have HFI := Lib.hid hf
    have hl60 := hf.1
    have HFD : Hid (∀ X', Below W.heap.size W X' → Calls Tryd.prog 44 #[y.ag] X' fun e w' => e = .returned (.bool (okC y.core)) ∧ Below X'.heap.size X' w') := fun X' h => hasFieldsOfKind_any y.k y.m y.t (List.replicate y.n (.node 0 0 ⟨#[]⟩ [])) y.A y.n y.c X' y.ht (List.length_replicate) y.hn (classes_go HT.out h) (HF.out.go h)
    have bC2 : Boxed (X.setCell ⟨W.heap.size + 1 + 1, 0, none⟩ (.int .i64 ((pre.length : Int) + 1))) (W.heap.size + 1 + 1) 3 (.int .i64 ((pre.length : Int) + 1)) := bC1.set _
    have bR2 : Boxed (X.setCell ⟨W.heap.size + 1 + 1, 0, none⟩ (.int .i64 ((pre.length : Int) + 1))) (W.heap.size + 1) 4 (.bool false) := bR1.other (by omega) _
    have HB2 : Hid (Below W.heap.size W (X.setCell ⟨W.heap.size + 1 + 1, 0, none⟩ (.int .i64 ((pre.length : Int) + 1)))) := hB1.setCell (p := ⟨W.heap.size + 1 + 1, 0, none⟩) (by dsimp only; omega) _
    have bX2 : RW 29 (X.setCell ⟨W.heap.size + 1 + 1, 0, none⟩ (.int .i64 ((pre.length : Int) + 1))) Bx #[.int .i64 y.k, .int .i64 y.m, .string y.t, .slice y.A y.n y.c] := bX.other (by dsimp only; omega) _
    have cC := bC1.cell
    have fC := bC1.frozen
    have cR2 := bR2.cell
    have fR2 := bR2.frozen
    have cC2 := bC2.cell
    have x0 : (X.setCell ⟨W.heap.size + 1 + 1, 0, none⟩ (.int .i64 ((pre.length : Int) + 1))).cell? ⟨Bx, 0, none⟩ = some (.int .i64 y.k) := bX2.cell 0
    have x1 : (X.setCell ⟨W.heap.size + 1 + 1, 0, none⟩ (.int .i64 ((pre.length : Int) + 1))).cell? ⟨Bx, 1, none⟩ = some (.int .i64 y.m) := bX2.cell 1
    have x2 : (X.setCell ⟨W.heap.size + 1 + 1, 0, none⟩ (.int .i64 ((pre.length : Int) + 1))).cell? ⟨Bx, 2, none⟩ = some (.string y.t) := bX2.cell 2
    have x3 : (X.setCell ⟨W.heap.size + 1 + 1, 0, none⟩ (.int .i64 ((pre.length : Int) + 1))).cell? ⟨Bx, 3, none⟩ = some (.slice y.A y.n y.c) := bX2.cell 3
    have HKS := Lib.hid ((KeepsOthers.setCell X ⟨W.heap.size + 1 + 1, 0, none⟩ (.int .i64 ((pre.length : Int) + 1))).from W0.heap.size)
    obtain ⟨z, hz⟩ : ∃ z, okC y.core = z := ⟨_, rfl⟩
    have HZ := Lib.hid hz
    clear hz hf bC1 bR1 hB1 bX hr hlt
    by_cases h60 : pre.length + 1 ≤ 60
    · have d1 : decide (60 < (pre.length : Int) + 1) = false := by simp; omega
      cases z
      · have HNF : Hid (¬ Fine (pre ++ [y])) := by
          show ¬ _
          intro h
          have h1 := h.2 y (List.mem_append.2 (.inr (by simp)))
          rw [HZ.out] at h1
          cases h1
        gi_wp2_with (refine ⟨trivial, ?_⟩; gi_at_call 44; refine (CallsIn.inRound l (callsIn_wide.2 (HFD.out _ HB2.out))).mono ?_; rintro e w5 ⟨rfl, hb⟩; rw [HZ.out]; have bC5 := boxed_below bC2 hb; have bR5 := boxed_below bR2 hb; have HB5 := Lib.hid (HB2.out.trans (hb.mono HB2.out.size)); have HK5 := Lib.hid ((KeepC.set (a := W.heap.size + 1) (b := W.heap.size + 3) (W := X) (q := ⟨W.heap.size + 1 + 1, 0, none⟩) (by dsimp only; omega) (by dsimp only; omega) (.int .i64 ((pre.length : Int) + 1))).trans (KeepC.of_below hb (Nat.le_refl _))); have HF5 := Lib.hid (((KeepsOthers.setCell X ⟨W.heap.size + 1 + 1, 0, none⟩ (.int .i64 ((pre.length : Int) + 1))).from W0.heap.size).trans (keepsFrom_below hb)); have cR5 := bR5.cell; have fR5 := bR5.frozen; clear hb)
        exact ⟨HF5.out.trans ((KeepsOthers.setCell _ _ _).from _), ⟨⟨rfl, HNF.out⟩, bR5.set _⟩, HB5.out.setCell (p := ⟨W.heap.size + 1, 0, none⟩) (by dsimp only; omega) _⟩
      · have HFI2 : Hid (Fine (pre ++ [y])) := by
          refine ⟨by simp; omega, fun q hq => ?_⟩
          rcases List.mem_append.1 hq with h | h
          · exact HFI.out.2 q h
          · simp only [List.mem_singleton] at h
            rw [h]
            exact HZ.out
        gi_wp2_with (refine ⟨trivial, ?_⟩; gi_at_call 44; refine (CallsIn.inRound l (callsIn_wide.2 (HFD.out _ HB2.out))).mono ?_; rintro e w5 ⟨rfl, hb⟩; rw [HZ.out]; have bC5 := boxed_below bC2 hb; have bR5 := boxed_below bR2 hb; have HB5 := Lib.hid (HB2.out.trans (hb.mono HB2.out.size)); have HK5 := Lib.hid ((KeepC.set (a := W.heap.size + 1) (b := W.heap.size + 3) (W := X) (q := ⟨W.heap.size + 1 + 1, 0, none⟩) (by dsimp only; omega) (by dsimp only; omega) (.int .i64 ((pre.length : Int) + 1))).trans (KeepC.of_below hb (Nat.le_refl _))); have HF5 := Lib.hid (((KeepsOthers.setCell X ⟨W.heap.size + 1 + 1, 0, none⟩ (.int .i64 ((pre.length : Int) + 1))).from W0.heap.size).trans (keepsFrom_below hb)); have cR5 := bR5.cell; have fR5 := bR5.frozen; clear hb)
        exact ⟨HF5.out, HK5.out, ⟨HFI2.out, by rw [List.length_append]; exact bC5, bR5⟩, HB5.out⟩
    · have d1 : decide (60 < (pre.length : Int) + 1) = true := by simp; omega
      have HNF : Hid (¬ Fine (pre ++ [y])) := by
        show ¬ _
        intro h
        have h1 := h.1
        rw [List.length_append] at h1
        exact h60 h1
      gi_wp2_with fail
      refine ⟨trivial, ?_⟩
      gi_wp2
      exact ⟨HKS.out.trans ((KeepsOthers.setCell _ _ _).from _), ⟨⟨rfl, HNF.out⟩, bR2.set _⟩, HB2.out.setCell (p := ⟨W.heap.size + 1, 0, none⟩) (by dsimp only; omega) _⟩
  case done =>
    rintro D ys X hD hys ⟨⟨hf, bC1, bR1⟩, hB1⟩ hK
    have HPT : Hid (P = true) := by show _ = _; rw [← HPP.out]; exact tt_true (fine_all hys hf)
    have cR := bR1.cell
    have fR := bR1.frozen
    gi_wp2
    have hK' := (KeepsOthers.setCell X ⟨W.heap.size + 1, 0, none⟩ (.bool true)).same D _ hK rfl
    refine ⟨by simp, .inl ⟨_, _, rfl, run_takeDeferred hK', ?_⟩⟩
    have hc5 := cell_kept (bR1.set (.bool true)).cell (grownBy_putObj' _ D (.deferred none)) (fun r e => by cases e; exact ⟨_, hK', rfl⟩)
    refine ⟨.bool true, ?_, by rw [HPT.out], (hB1.setCell (p := ⟨W.heap.size + 1, 0, none⟩) (by dsimp only; omega) _).trans (belowK_b (w := W) (Nat.le_refl _) _ D _ _ (by omega) hK' rfl rfl)⟩
    simp [results, Tryd.f13, go_sem, hc5]
  case stop =>
    rintro D cd pre X hD hpre ⟨⟨⟨rfl, hnf⟩, bR1⟩, hB1⟩ hK
    have HPF : Hid (P = false) := by show _ = _; rw [← HPP.out]; exact tt_false (fun h => hnf (fine_part hpre h))
    have cR := bR1.cell
    gi_wp2
    refine ⟨by simp, .inl ⟨_, _, rfl, run_takeDeferred hK, ?_⟩⟩
    have hc5 := cell_kept cR (grownBy_putObj' _ D (.deferred none)) (fun r e => by cases e; exact ⟨_, hK, rfl⟩)
    refine ⟨.bool false, ?_, by rw [HPF.out], hB1.trans (belowK_b (w := W) (Nat.le_refl _) X D _ _ (by omega) hK rfl rfl)⟩
    simp [results, Tryd.f13, go_sem, hc5]
end Go.Proofs.YtjeiiljdhnmofaaDoor
