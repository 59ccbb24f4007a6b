/- Contract: chainOf of the program. Condition: the tables hold what the program's text lays. -/
import Derived.Test.YtjeiiljdhnmofaaDoorBack
import Derived.Test.YtjeiiljdhnmofaaDoorKeepV
namespace Go.Proofs.YtjeiiljdhnmofaaDoor
open Go Go.RowKit Go.Shelf
attribute [local go_sem] Oper.semAt_some

/-- The chain behind the rounds so far. -/
def stB {W₀ : World} {d : Nat} (κ : Int) (n : Nat) (p : Pt) (y : Bk W₀ d) : Pt := if (y.i : Int) = (n : Int) - 1 then y.x else .node κ 0 ⟨#[]⟩ [y.x, p]
def chB {W₀ : World} {d : Nat} (κ ν : Int) (n : Nat) (ys : List (Bk W₀ d)) : Pt := ys.foldl (stB κ n) (.node ν 0 ⟨#[]⟩ [])
theorem chB_snoc {W₀ : World} {d : Nat} (κ ν : Int) (n : Nat) (ys : List (Bk W₀ d)) (y : Bk W₀ d) : chB κ ν n (ys ++ [y]) = stB κ n (chB κ ν n ys) y := by
  unfold chB
  rw [List.foldl_append]
  rfl
theorem chB_eq {W₀ : World} {d : Nat} {κ ν : Int} {n : Nat} {xs : List Pt} (hl : xs.length = n) : ∀ (r : Nat) (ys : List (Bk W₀ d)), ys.length = r → BackOf n xs ys → chB κ ν n ys = if r = 0 then .node ν 0 ⟨#[]⟩ [] else chP κ ν (xs.drop (n - r))
  | 0, ys, h, _ => by
    obtain rfl : ys = [] := List.eq_nil_of_length_eq_zero h
    rfl
  | r + 1, ys, h, hb => by
    rw [if_neg (by omega)]
    have hne : ys ≠ [] := fun e => by rw [e] at h; simp at h
    obtain ⟨zs, y, rfl⟩ : ∃ zs y, ys = zs ++ [y] := ⟨ys.dropLast, ys.getLast hne, (List.dropLast_concat_getLast hne).symm⟩
    have hz : zs.length = r := by simp at h; omega
    have hrn : r + 1 ≤ n := by have := hb.1; omega
    have hbz : BackOf n xs zs := ⟨by omega, fun q z hq => hb.2 q z (by rw [List.getElem?_append_left (List.getElem?_eq_some_iff.1 hq).1]; exact hq)⟩
    have ih := chB_eq (κ := κ) (ν := ν) hl r zs hz hbz
    obtain ⟨h1, h2⟩ := hb.2 r y (by rw [List.getElem?_append_right (by omega), hz, Nat.sub_self]; rfl)
    rw [chB_snoc, ih, stB]
    rw [show n - (r + 1) = n - 1 - r from by omega]
    by_cases h0 : r = 0
    · subst h0
      rw [if_pos (by rw [h1]; omega)]
      exact (chP_last h2 (by omega)).symm
    · rw [if_neg (by rw [h1]; omega), if_neg h0, chP_step h2 (by omega)]
      rw [show n - r = n - 1 - r + 1 from by omega]
/-- The boxes of chainOf: kind, list, result; the chain's box holds it. -/
def ChK (W : World) (κ : Int) (A : Option Addr) (n c : Nat) (w : World) : Prop :=
  RW 2 w W.heap.size #[.int .i64 κ] ∧ RW 27 w (W.heap.size + 2) #[.slice A n c] ∧ RW 29 w (W.heap.size + 3) #[.int .i64 0, .int .i64 0, .string ⟨#[]⟩, .slice none 0 0]
abbrev ChS (W : World) : Nat → Prop := fun i => W.heap.size ≤ i ∧ i ≤ W.heap.size + 5
def ChC (W : World) (D : Nat) (y : Pt) (w : World) : Prop :=
  ∃ (A' : Option Addr) (n' c' : Nat), n' ≤ c' ∧ RW 29 w (W.heap.size + 4) #[.int .i64 y.k, .int .i64 y.n, .string y.t, .slice A' n' c'] ∧ y.t.size ≤ maxLen ∧ PtN w (ChS W) D A' n' y.kids
theorem cells_grown {X Y : World} {row : Option Nat} (hg : X.grownBy Y row) (hr : ∀ r, row = some r → ∃ o : Obj, X.heap[r]? = some o ∧ o.isCells = false) {i : Nat} {o : Obj} (hi : X.heap[i]? = some o) (hc : o.isCells = true) : Y.heap[i]? = some o := by
  refine (hg.block i (Array.getElem?_eq_some_iff.1 hi).1 (fun e => ?_)).trans hi
  obtain ⟨o', ho, hn⟩ := hr i e.symm
  rw [hi, Option.some.injEq] at ho
  rw [ho] at hc
  rw [hc] at hn
  cases hn
theorem ChC.keep {W w w' : World} {D : Nat} {y : Pt} (h : ChC W D y w) (hs : w.heap.size ≤ w'.heap.size) (hk : ∀ (i : Nat) (o : Obj), w.heap[i]? = some o → o.isCells = true → w'.heap[i]? = some o) : ChC W D y w' := by
  obtain ⟨A', n', c', h1, h2, h3, h4⟩ := h
  exact ⟨A', n', c', h1, hk _ _ h2 rfl, h3, h4.keep hs fun p v _ _ hv => cell_same hv fun o ho hc => hk _ o ho hc⟩
theorem ChK.keep {W w w' : World} {κ : Int} {A : Option Addr} {n c : Nat} (h : ChK W κ A n c w) (hk : ∀ (i : Nat) (o : Obj), w.heap[i]? = some o → o.isCells = true → w'.heap[i]? = some o) : ChK W κ A n c w' := ⟨hk _ _ h.1 rfl, hk _ _ h.2.1 rfl, hk _ _ h.2.2 rfl⟩
theorem below_cells_keep {w w' : World} (h : Below w.heap.size w w') : ∀ (i : Nat) (o : Obj), w.heap[i]? = some o → o.isCells = true → w'.heap[i]? = some o := fun i _ hi _ => (h.block i (Array.getElem?_eq_some_iff.1 hi).1).trans hi
theorem own_grown {β : Type} (B : Nat) (Q : β → World → Prop) (hQ : ∀ s w w', Q s w → w.heap.size ≤ w'.heap.size → (∀ (i : Nat) (o : Obj), w.heap[i]? = some o → o.isCells = true → w'.heap[i]? = some o) → Q s w') : OwnFrom B Q := fun s _ _ _ hs hg hr =>
  hQ s _ _ hs hg.size (fun _ _ hi hc => cells_grown hg (fun r e => (hr r e).2) hi hc)
theorem ChK.sets {W w : World} {κ : Int} {A : Option Addr} {n c : Nat} (h : ChK W κ A n c w) (vs : List Value) (o : Nat) : ChK W κ A n c (w.setCells (W.heap.size + 4) o vs) := ⟨RW.others (by omega) h.1, RW.others (by omega) h.2.1, RW.others (by omega) h.2.2⟩
theorem PtN.sets {S : Nat → Prop} {d n g : Nat} {A : Option Addr} {xs : List Pt} (hS : S g) : ∀ {vs : List Value} {w : World} {o : Nat}, PtN w S d A n xs → PtN (w.setCells g o vs) S d A n xs
  | [], _, _, h => h
  | v :: r, w, o, h => PtN.sets hS (vs := r) (h.set (a := ⟨g, o, none⟩) hS v)
theorem keepsOthers_sets (g : Nat) : ∀ (vs : List Value) (w : World) (o : Nat), KeepsOthers w (w.setCells g o vs)
  | [], w, _ => KeepsOthers.refl w
  | v :: r, w, o => (KeepsOthers.setCell w ⟨g, o, none⟩ v).trans (keepsOthers_sets g r _ _)
theorem keepC_sets {a b g : Nat} (h1 : a ≤ g) (h2 : g < b) : ∀ (vs : List Value) (w : World) (o : Nat), KeepC a b w (w.setCells g o vs)
  | [], w, _ => KeepC.refl _ _ _
  | v :: r, w, o => (KeepC.set (q := ⟨g, o, none⟩) h1 h2 v).trans (keepC_sets h1 h2 r _ _)

set_option maxRecDepth 100000 in
set_option maxHeartbeats 4000000 in
theorem chainOf_any (κ ν : Int) (hκ : κ = 18 ∨ κ = 19) (hν : ν = 1 ∨ ν = 16) (d : Nat) (A : Option Addr) (n c : Nat) (xs : List Pt) (W : World) (hd : PtD W 0 W.heap.size (d + 1) A n xs) (hT : Classes W) (hF : Forms W) :
    Calls Tryd.prog 65 #[.int .i64 κ, .agg #[.int .i64 ν, .int .i64 0, .string ⟨#[]⟩, .slice none 0 0], .slice A n c] W (RetChO (d + n) (chA κ ν xs) (tt (ValidP (chP κ ν xs))) W) := by
  refine (callsIn_wide (n := 9)).1 ?_
  have HT := Lib.hid hT
  have HF := Lib.hid hF
  have HD := Lib.hid hd
  have HL := Lib.hid hd.1
  have hnm := hd.2.1
  unfold maxLen at hnm
  clear hT hF hd
  refine callsIn_of_wp_marks Tryd.func65 rfl trivial ?_ rfl
  simp only [Tryd.ntmps65, List.size_toArray, List.length_cons, List.length_nil, Nat.reduceAdd, Nat.reduceSub, Array.replicate_succ, Array.replicate_zero, List.push_toArray, List.append_toArray, List.nil_append, List.cons_append]
  gi_wp2_with (refine ⟨trivial, ?_⟩; gi_at_call 80; refine (backward_any _ A n c _).mono ?_; rintro e w' ⟨rfl, rfl⟩)
  have n0 := RW.new W #[.int .i64 κ] 2
  have n1 := RW.new (W.alloc (.cells #[.int .i64 κ] 2)) #[.int .i64 ν, .int .i64 0, .string ⟨#[]⟩, .slice none 0 0] 29
  have n2 := RW.new ((W.alloc (.cells #[.int .i64 κ] 2)).alloc (.cells #[.int .i64 ν, .int .i64 0, .string ⟨#[]⟩, .slice none 0 0] 29)) #[.slice A n c] 27
  have n3 := RW.new (((W.alloc (.cells #[.int .i64 κ] 2)).alloc (.cells #[.int .i64 ν, .int .i64 0, .string ⟨#[]⟩, .slice none 0 0] 29)).alloc (.cells #[.slice A n c] 27)) #[.int .i64 0, .int .i64 0, .string ⟨#[]⟩, .slice none 0 0] 29
  have n4 := RW.new ((((W.alloc (.cells #[.int .i64 κ] 2)).alloc (.cells #[.int .i64 ν, .int .i64 0, .string ⟨#[]⟩, .slice none 0 0] 29)).alloc (.cells #[.slice A n c] 27)).alloc (.cells #[.int .i64 0, .int .i64 0, .string ⟨#[]⟩, .slice none 0 0] 29)) #[.int .i64 ν, .int .i64 0, .string ⟨#[]⟩, .slice none 0 0] 29
  have n5 := RW.new (((((W.alloc (.cells #[.int .i64 κ] 2)).alloc (.cells #[.int .i64 ν, .int .i64 0, .string ⟨#[]⟩, .slice none 0 0] 29)).alloc (.cells #[.slice A n c] 27)).alloc (.cells #[.int .i64 0, .int .i64 0, .string ⟨#[]⟩, .slice none 0 0] 29)).alloc (.cells #[.int .i64 ν, .int .i64 0, .string ⟨#[]⟩, .slice none 0 0] 29)) #[.slice A n c] 27
  simp only [World.size_alloc] at n1 n2 n3 n4 n5
  obtain ⟨W0, hW0⟩ : ∃ W0, (((((W.alloc (.cells #[.int .i64 κ] 2)).alloc (.cells #[.int .i64 ν, .int .i64 0, .string ⟨#[]⟩, .slice none 0 0] 29)).alloc (.cells #[.slice A n c] 27)).alloc (.cells #[.int .i64 0, .int .i64 0, .string ⟨#[]⟩, .slice none 0 0] 29)).alloc (.cells #[.int .i64 ν, .int .i64 0, .string ⟨#[]⟩, .slice none 0 0] 29)).alloc (.cells #[.slice A n c] 27) = W0 := ⟨_, rfl⟩
  have hsz : W0.heap.size = W.heap.size + 6 := by rw [← hW0]; simp
  have hB0 : Below W.heap.size W W0 := by rw [← hW0]; exact (((((below_alloc W _).alloc (by simp) _).alloc (by simp; omega) _).alloc (by simp; omega) _).alloc (by simp; omega) _).alloc (by simp; omega) _
  have hK0 : ChK W κ A n c W0 := by rw [← hW0]; exact ⟨((((n0.alloc _).alloc _).alloc _).alloc _).alloc _, ((n2.alloc _).alloc _).alloc _, (n3.alloc _).alloc _⟩
  have hC0 : ChC W (d + 0) (.node ν 0 ⟨#[]⟩ []) W0 := by
    rw [← hW0]
    refine ⟨none, 0, 0, Nat.le_refl _, n4.alloc _, Nat.zero_le _, ?_⟩
    cases d with
    | zero => exact ⟨rfl, rfl⟩
    | succ d => exact ⟨rfl, Nat.zero_le _, fun h => absurd h (by omega)⟩
  have hB5 : RW 27 W0 (W.heap.size + 5) #[.slice A n c] := by rw [← hW0]; exact n5
  rw [hW0]
  clear hW0 n0 n1 n2 n3 n4 n5
  refine wpIn_rangeFunc_ownH rfl (by decide) (gf := 89) (lb := #[.pointer (some ⟨W.heap.size + 1 + 1 + 1 + 1 + 1, 0, none⟩)]) rfl trivial (enters_of Tryd.func89 (by kernel_rfl) rfl)
    (back_stops 8 d (W.heap.size + 4) (W.heap.size + 5) (W.heap.size + 5) A n c xs W W0 HD.out hB0 (by omega) hB5 (.inr (Nat.le_refl _))) KeepC.trans (fun W l o o' _ h hc _ => keepC_b W l o o' h hc) (Below.refl _ _) (fun _ => rfl)
    (fun pre W' => (ChK W κ A n c W' ∧ ChC W (d + pre.length) (chB κ ν n pre) W') ∧ Below W.heap.size W W')
    (fun _ _ _ => False)
    (OwnFrom.and (own_grown _ _ (fun pre w w' h hs hk => ⟨h.1.keep hk, h.2.keep hs hk⟩)) (ownFrom_below (Nat.le_refl _) (by omega)))
    (fun _ _ _ _ _ hs _ _ => hs)
    ⟨⟨hK0, hC0⟩, hB0⟩
    (fun y a' W' => ∃ Bx, W.heap.size + 4 < Bx ∧ RW 29 W' Bx #[.int .i64 y.x.k, .int .i64 y.x.n, .string y.x.t, .slice y.A y.n y.c] ∧ a' = { tmps := #[.int .i64 κ, .agg #[.int .i64 ν, .int .i64 0, .string ⟨#[]⟩, .slice none 0 0], .slice A n c, .pointer (some ⟨W.heap.size, 0, none⟩), .pointer (some ⟨W.heap.size + 1, 0, none⟩), .pointer (some ⟨W.heap.size + 1 + 1, 0, none⟩), .pointer (some ⟨W.heap.size + 1 + 1 + 1, 0, none⟩), .bool false, .pointer (some ⟨W.heap.size + 1 + 1 + 1 + 1, 0, none⟩), .int .i64 (y.i : Int), .pointer (some ⟨Bx, 0, none⟩), .agg #[.int .i64 ν, .int .i64 0, .string ⟨#[]⟩, .slice none 0 0], .slice A n c, .func (.func 89) #[] #[.pointer (some ⟨W.heap.size + 1 + 1 + 1 + 1 + 1, 0, none⟩)], .int .i64 (y.i : Int), y.x.ag y.A y.n y.c, undef, undef, undef, undef, undef, undef, undef, undef, undef, undef, undef, undef, undef, undef, undef, undef, undef], defers := [] })
    (fun y a' _ X Y row hs hg hr => by obtain ⟨Bx, h1, h2, h3⟩ := hs; exact ⟨Bx, h1, row_own Bx _ _ () X Y row h2 hg (fun r e => (hr r e).2), h3⟩)
    ?assign ?body ?done ?stop
  case assign =>
    rintro l pre y X K ⟨⟨hk, hc⟩, hB⟩ hK
    obtain ⟨yi, ⟨yk, ym, yt, yks⟩, yA, yn, yc, h1, h2, h3⟩ := y
    gi_wp2
    exact hK _ _ ((KeepsOthers.alloc _ _).from _) (KeepC.alloc _ _ _ _) ⟨⟨hk.keep (below_cells_keep (below_alloc _ _)), hc.keep (below_alloc _ _).size (below_cells_keep (below_alloc _ _))⟩, hB.alloc hB.size _⟩ ⟨X.heap.size, by obtain ⟨_, _, _, _, h4, _⟩ := hc; exact h4.lt, RW.new _ _ _, rfl⟩
  case body =>
    rintro l pre y a' X hl ⟨r, hr⟩ ⟨⟨hk, hc⟩, hB⟩ ⟨Bx, hBx, bX, rfl⟩ hlt
    obtain ⟨pA, pn, pc, hpc, hr4, hpt, hpn⟩ := hc
    have HSN := Lib.hid (chB_snoc κ ν n pre y)
    obtain ⟨P, hP⟩ : ∃ P, chB κ ν n pre = P := ⟨_, rfl⟩
    rw [hP] at hr4 hpt hpn HSN
    have HFIN : Hid (∀ X', KeepsOthers X X' → KeepC (W.heap.size + 4) (W.heap.size + 5) X X' → ChK W κ A n c X' → ChC W (d + pre.length + 1) (stB κ n P y) X' → Below W.heap.size W X' → KeepsFrom (W.heap.size + 6) X X' ∧ KeepC (W.heap.size + 4) (W.heap.size + 5) X X' ∧ ((ChK W κ A n c X' ∧ ChC W (d + (pre ++ [y]).length) (chB κ ν n (pre ++ [y])) X') ∧ Below W.heap.size W X')) := by
      show ∀ X', _ → _ → _ → _ → _ → _
      intro X' h1 h2 h3 h4 h5
      refine ⟨h1.from _, h2, ⟨h3, ?_⟩, h5⟩
      rw [HSN.out, List.length_append]
      exact h4
    obtain ⟨yi, ⟨yk, ym, yt, yks⟩, yA, yn, yc, hync, hyt, hyd⟩ := y
    obtain ⟨pk, pm, pt, pks⟩ := P
    have HK := Lib.hid hk
    have HB := Lib.hid hB
    have HR4 := Lib.hid hr4
    have HPC := Lib.hid hpc
    have HPT := Lib.hid hpt
    have HPN := Lib.hid hpn
    have HYD : Hid (PtN X (ChS W) d yA yn yks) := (hyd.below hB).away (fun b _ h2 hs => by have := hs.1; omega) hB.size
    have HYT : Hid (yt.size ≤ maxLen) := hyt
    have HYC := Lib.hid hync
    have HBX := Lib.hid bX
    have x0 : X.cell? ⟨Bx, 0, none⟩ = some (.int .i64 yk) := bX.cell 0
    have x1 : X.cell? ⟨Bx, 1, none⟩ = some (.int .i64 ym) := bX.cell 1
    have x2 : X.cell? ⟨Bx, 2, none⟩ = some (.string yt) := bX.cell 2
    have x3 : X.cell? ⟨Bx, 3, none⟩ = some (.slice yA yn yc) := bX.cell 3
    have l0 : X.cell? ⟨W.heap.size + 1 + 1, 0, none⟩ = some (.slice A n c) := hk.2.1.cell 0
    have k0 : X.cell? ⟨W.heap.size, 0, none⟩ = some (.int .i64 κ) := hk.1.cell 0
    have c0 : X.cell? ⟨W.heap.size + 1 + 1 + 1 + 1, 0, none⟩ = some (.int .i64 pk) := hr4.cell 0
    have c1 : X.cell? ⟨W.heap.size + 1 + 1 + 1 + 1, 1, none⟩ = some (.int .i64 pm) := hr4.cell 1
    have c2 : X.cell? ⟨W.heap.size + 1 + 1 + 1 + 1, 2, none⟩ = some (.string pt) := hr4.cell 2
    have c3 : X.cell? ⟨W.heap.size + 1 + 1 + 1 + 1, 3, none⟩ = some (.slice pA pn pc) := hr4.cell 3
    have g0 : X.frozen? ⟨W.heap.size + 1 + 1 + 1 + 1, 0, none⟩ = false := hr4.frozen 0
    have g1 : X.frozen? ⟨W.heap.size + 1 + 1 + 1 + 1, 1, none⟩ = false := hr4.frozen 1
    have g2 : X.frozen? ⟨W.heap.size + 1 + 1 + 1 + 1, 2, none⟩ = false := hr4.frozen 2
    have g3 : X.frozen? ⟨W.heap.size + 1 + 1 + 1 + 1, 3, none⟩ = false := hr4.frozen 3
    have HBXL : Hid (W.heap.size + 5 < X.heap.size) := by have h1 := bX.lt; show _ < _; omega
    by_cases hi : (yi : Int) = (n : Int) - 1
    · have e : ((yi : Int) == (n : Int) - 1) = true := by simp [hi]
      have HST : Hid (stB κ n (.node pk pm pt pks) (⟨yi, .node yk ym yt yks, yA, yn, yc, hync, hyt, hyd⟩ : Bk W d) = .node yk ym yt yks) := by show stB _ _ _ _ = _; rw [stB, if_pos hi]
      clear hi hk hB hr4 hpc hpt hpn bX hP
      gi_wp2_with fail
      exact HFIN.out (X.setCells (W.heap.size + 4) 0 [.int .i64 yk, .int .i64 ym, .string yt, .slice yA yn yc]) (keepsOthers_sets _ _ _ _) (keepC_sets (Nat.le_refl _) (Nat.lt_succ_self _) _ _ _) (HK.out.sets _ _) (by
        rw [HST.out]
        exact ⟨yA, yn, yc, HYC.out, (((HR4.out.set_ 0 _).set_ 1 _).set_ 2 _).set_ 3 _, HYT.out, (PtN.sets ⟨by omega, by omega⟩ HYD.out).ups (by omega)⟩) (HB.out.trans (below_cells (by omega) _ _ _))
    · have e : ((yi : Int) == (n : Int) - 1) = false := by simp; omega
      have HST : Hid (stB κ n (.node pk pm pt pks) (⟨yi, .node yk ym yt yks, yA, yn, yc, hync, hyt, hyd⟩ : Bk W d) = .node κ 0 ⟨#[]⟩ [.node yk ym yt yks, .node pk pm pt pks]) := by show stB _ _ _ _ = _; rw [stB, if_neg hi]
      have a0 : ∀ o, (X.alloc o).cell? ⟨W.heap.size + 1 + 1 + 1 + 1, 0, none⟩ = some (.int .i64 pk) := fun o => (HR4.out.alloc o).cell 0
      have b0 : ∀ o, (X.alloc o).frozen? ⟨W.heap.size + 1 + 1 + 1 + 1, 0, none⟩ = false := fun o => (HR4.out.alloc o).frozen 0
      have a1 : ∀ o, (X.alloc o).cell? ⟨W.heap.size + 1 + 1 + 1 + 1, 1, none⟩ = some (.int .i64 pm) := fun o => (HR4.out.alloc o).cell 1
      have b1 : ∀ o, (X.alloc o).frozen? ⟨W.heap.size + 1 + 1 + 1 + 1, 1, none⟩ = false := fun o => (HR4.out.alloc o).frozen 1
      have a2 : ∀ o, (X.alloc o).cell? ⟨W.heap.size + 1 + 1 + 1 + 1, 2, none⟩ = some (.string pt) := fun o => (HR4.out.alloc o).cell 2
      have b2 : ∀ o, (X.alloc o).frozen? ⟨W.heap.size + 1 + 1 + 1 + 1, 2, none⟩ = false := fun o => (HR4.out.alloc o).frozen 2
      have a3 : ∀ o, (X.alloc o).cell? ⟨W.heap.size + 1 + 1 + 1 + 1, 3, none⟩ = some (.slice pA pn pc) := fun o => (HR4.out.alloc o).cell 3
      have b3 : ∀ o, (X.alloc o).frozen? ⟨W.heap.size + 1 + 1 + 1 + 1, 3, none⟩ = false := fun o => (HR4.out.alloc o).frozen 3
      clear hi hk hB hr4 hpc hpt hpn bX hP
      gi_wp2_with fail
      exact HFIN.out ((X.alloc (.cells #[.int .i64 yk, .int .i64 ym, .string yt, .slice yA yn yc, .int .i64 pk, .int .i64 pm, .string pt, .slice pA pn pc] 29)).setCells (W.heap.size + 4) 0 [.int .i64 κ, .int .i64 0, .string ⟨#[]⟩, .slice (some ⟨X.heap.size, 0, none⟩) 2 2]) ((KeepsOthers.alloc _ _).trans (keepsOthers_sets _ _ _ _)) ((KeepC.alloc _ _ _ _).trans (keepC_sets (Nat.le_refl _) (Nat.lt_succ_self _) _ _ _)) ((HK.out.keep (below_cells_keep (below_alloc _ _))).sets _ _) (by
        rw [HST.out]
        refine ⟨some ⟨X.heap.size, 0, none⟩, 2, 2, Nat.le_refl _, ((((HR4.out.alloc _).set_ 0 _).set_ 1 _).set_ 2 _).set_ 3 _, Nat.zero_le _, PtN.sets ⟨by omega, by omega⟩ ?_⟩
        exact two_kids (S := ChS W) (x := .node yk ym yt yks) (y := .node pk pm pt pks) (RW.new X _ 29) (fun h => by have := HBXL.out; have := h.2; omega) rfl HYC.out HPC.out HYT.out ((HYD.out.below (below_alloc _ _)).ups (by omega)) HPT.out (HPN.out.below (below_alloc _ _))) ((HB.out.alloc HB.out.size _).trans (below_cells (by omega) _ _ _))
  case done =>
    rintro D ys X hD ⟨hys, hyn⟩ ⟨⟨hk, hc⟩, hB⟩ hK
    obtain ⟨A1, n1, c1, hpc, hr4, hpt, hpn⟩ := hc
    have hP : chB κ ν n ys = chP κ ν xs := by
      rw [chB_eq HL.out n ys hyn hys]
      rcases Nat.eq_zero_or_pos n with h0 | h0
      · subst h0
        obtain rfl : xs = [] := List.eq_nil_of_length_eq_zero HL.out
        rfl
      · rw [if_neg (by omega), Nat.sub_self, List.drop_zero]
    rw [hP] at hr4 hpt hpn
    rw [hyn] at hpn
    have HCA : Hid ((ValidP (chP κ ν xs) → chA κ ν xs = chP κ ν xs) ∧ (¬ ValidP (chP κ ν xs) → chA κ ν xs = .node 0 0 ⟨#[]⟩ [])) := ⟨fun h => by rw [chA, if_pos h], fun h => by rw [chA, if_neg h]⟩
    obtain ⟨P, hPP⟩ : ∃ P, chP κ ν xs = P := ⟨_, rfl⟩
    have HPE := Lib.hid hPP
    rw [hPP] at hr4 hpt hpn HCA
    clear hP hPP
    obtain ⟨pk, pm, pt, pks⟩ := P
    have HK := Lib.hid hk
    have HB := Lib.hid hB
    have HR4 := Lib.hid hr4
    have HPC := Lib.hid hpc
    have HPT := Lib.hid hpt
    have HN := Lib.hid hpn
    have HKD := Lib.hid hK
    have HDL : Hid (D < X.heap.size) := (Array.getElem?_eq_some_iff.1 hK).1
    have HDW : Hid (W.heap.size + 6 ≤ D) := by show _ ≤ _; omega
    have cc0 : X.cell? ⟨W.heap.size + 1 + 1 + 1 + 1, 0, none⟩ = some (.int .i64 pk) := hr4.cell 0
    have cc1 : X.cell? ⟨W.heap.size + 1 + 1 + 1 + 1, 1, none⟩ = some (.int .i64 pm) := hr4.cell 1
    have cc2 : X.cell? ⟨W.heap.size + 1 + 1 + 1 + 1, 2, none⟩ = some (.string pt) := hr4.cell 2
    have cc3 : X.cell? ⟨W.heap.size + 1 + 1 + 1 + 1, 3, none⟩ = some (.slice A1 n1 c1) := hr4.cell 3
    have HVP : Hid (∀ q, CallsIn Fence.wide q Tryd.prog 13 #[.agg #[.int .i64 pk, .int .i64 pm, .string pt, .slice A1 n1 c1]] X fun e w' => e = .returned (.bool (tt (ValidP (.node pk pm pt pks)))) ∧ Below X.heap.size X w') := fun q => callsIn_wide.2 (impl_ValidPattern_any (d + n) (.node pk pm pt pks) A1 n1 c1 X ⟨hpt, hpn.tree⟩ (classes_go HT.out hB) (HF.out.go hB))
    by_cases hv : ValidP (.node pk pm pt pks)
    · rw [tt_true hv] at HVP
      have HA : Hid (chA κ ν xs = .node pk pm pt pks ∧ tt (ValidP (chP κ ν xs)) = true) := ⟨HCA.out.1 hv, by rw [HPE.out, tt_true hv]⟩
      have HCN : Hid (ptCnt (.node pk pm pt pks) ≤ 1000) := by have := hv.1; show _ ≤ _; omega
      clear hk hB hr4 hpc hpt hpn hK hv hys hyn
      gi_wp2_with (first | (refine ⟨trivial, ?_⟩; gi_at_call 13; refine (HVP.out _).mono ?_; rintro e w5 ⟨rfl, hb⟩; have HB5 := Lib.hid (HB.out.trans (hb.mono HB.out.size)); have HK5 := Lib.hid (HK.out.keep (below_cells_keep hb)); have HR5 := Lib.hid (HR4.out.below hb HR4.out.lt); have HD5 : Hid (w5.heap[D]? = some (.deferred (some []))) := (hb.block D HDL.out).trans HKD.out; have HN5 := Lib.hid (HN.out.below hb); have d0 : w5.cell? ⟨W.heap.size + 1 + 1 + 1 + 1, 0, none⟩ = some (.int .i64 pk) := HR5.out.cell 0; have d1 : w5.cell? ⟨W.heap.size + 1 + 1 + 1 + 1, 1, none⟩ = some (.int .i64 pm) := HR5.out.cell 1; have d2 : w5.cell? ⟨W.heap.size + 1 + 1 + 1 + 1, 2, none⟩ = some (.string pt) := HR5.out.cell 2; have d3 : w5.cell? ⟨W.heap.size + 1 + 1 + 1 + 1, 3, none⟩ = some (.slice A1 n1 c1) := HR5.out.cell 3; have s0 : w5.cell? ⟨W.heap.size + 1 + 1 + 1, 0, none⟩ = some (.int .i64 0) := HK5.out.2.2.cell 0; have s1 : w5.cell? ⟨W.heap.size + 1 + 1 + 1, 1, none⟩ = some (.int .i64 0) := HK5.out.2.2.cell 1; have s2 : w5.cell? ⟨W.heap.size + 1 + 1 + 1, 2, none⟩ = some (.string ⟨#[]⟩) := HK5.out.2.2.cell 2; have s3 : w5.cell? ⟨W.heap.size + 1 + 1 + 1, 3, none⟩ = some (.slice none 0 0) := HK5.out.2.2.cell 3; have f0 : w5.frozen? ⟨W.heap.size + 1 + 1 + 1, 0, none⟩ = false := HK5.out.2.2.frozen 0; have f1 : w5.frozen? ⟨W.heap.size + 1 + 1 + 1, 1, none⟩ = false := HK5.out.2.2.frozen 1; have f2 : w5.frozen? ⟨W.heap.size + 1 + 1 + 1, 2, none⟩ = false := HK5.out.2.2.frozen 2; have f3 : w5.frozen? ⟨W.heap.size + 1 + 1 + 1, 3, none⟩ = false := HK5.out.2.2.frozen 3; have HSZ5 : Hid (D < w5.heap.size ∧ X.heap.size ≤ w5.heap.size) := ⟨Nat.lt_of_lt_of_le HDL.out hb.size, hb.size⟩; clear hb cc0 cc1 cc2 cc3) | (refine ⟨trivial, ?_⟩; gi_at_call 61; refine (callsIn_wide.2 (clone_any (d + n) (.node pk pm pt pks) A1 n1 c1 w5 HPT.out HPC.out HN5.out.tree HCN.out)).mono ?_; rintro e w6 ⟨A9, c9, hnc9, he, h⟩; obtain rfl : e = .returned (.agg #[.int .i64 pk, .int .i64 pm, .string pt, .slice A9 n1 c9]) := he; have HNC9 := Lib.hid hnc9; have HV := h; have HB6 := Lib.hid (HB5.out.trans (h.out.2.mono HB5.out.size)); have HK6 := Lib.hid (HK5.out.keep (below_cells_keep h.out.2)); have HD6 : Hid (w6.heap[D]? = some (.deferred (some []))) := (h.out.2.block D HSZ5.out.1).trans HD5.out; have s0 : w6.cell? ⟨W.heap.size + 1 + 1 + 1, 0, none⟩ = some (.int .i64 0) := HK6.out.2.2.cell 0; have s1 : w6.cell? ⟨W.heap.size + 1 + 1 + 1, 1, none⟩ = some (.int .i64 0) := HK6.out.2.2.cell 1; have s2 : w6.cell? ⟨W.heap.size + 1 + 1 + 1, 2, none⟩ = some (.string ⟨#[]⟩) := HK6.out.2.2.cell 2; have s3 : w6.cell? ⟨W.heap.size + 1 + 1 + 1, 3, none⟩ = some (.slice none 0 0) := HK6.out.2.2.cell 3; have f0 : w6.frozen? ⟨W.heap.size + 1 + 1 + 1, 0, none⟩ = false := HK6.out.2.2.frozen 0; have f1 : w6.frozen? ⟨W.heap.size + 1 + 1 + 1, 1, none⟩ = false := HK6.out.2.2.frozen 1; have f2 : w6.frozen? ⟨W.heap.size + 1 + 1 + 1, 2, none⟩ = false := HK6.out.2.2.frozen 2; have f3 : w6.frozen? ⟨W.heap.size + 1 + 1 + 1, 3, none⟩ = false := HK6.out.2.2.frozen 3; clear h hnc9))
      have hk7 : (w6.setCells (W.heap.size + 3) 0 [.int .i64 pk, .int .i64 pm, .string pt, .slice A9 n1 c9]).heap[D]? = some (.deferred (some [])) := (keepsOthers_sets _ _ _ _).same D _ HD6.out rfl
      have hr7 : RW 29 (w6.setCells (W.heap.size + 3) 0 [.int .i64 pk, .int .i64 pm, .string pt, .slice A9 n1 c9]) (W.heap.size + 3) #[.int .i64 pk, .int .i64 pm, .string pt, .slice A9 n1 c9] := (((HK6.out.2.2.set_ 0 _).set_ 1 _).set_ 2 _).set_ 3 _
      have hr8 : RW 29 ((w6.setCells (W.heap.size + 3) 0 [.int .i64 pk, .int .i64 pm, .string pt, .slice A9 n1 c9]).putObj D (.deferred none)) (W.heap.size + 3) #[.int .i64 pk, .int .i64 pm, .string pt, .slice A9 n1 c9] := cells_grown (grownBy_putObj' _ D (.deferred none)) (fun r e => by cases e; exact ⟨_, hk7, rfl⟩) hr7 rfl
      have hbb : Below W.heap.size W ((w6.setCells (W.heap.size + 3) 0 [.int .i64 pk, .int .i64 pm, .string pt, .slice A9 n1 c9]).putObj D (.deferred none)) := (HB6.out.trans (below_cells (by omega) _ _ _)).trans (belowK_b (w := W) (Nat.le_refl _) _ D _ _ (by omega) hk7 rfl rfl)
      refine ⟨by simp, .inl ⟨_, _, rfl, run_takeDeferred hk7, ?_⟩⟩
      refine ⟨.tuple #[.agg #[.int .i64 pk, .int .i64 pm, .string pt, .slice A9 n1 c9], .bool true], ?_, ?_⟩
      · show (results _ _).run _ ((w6.setCells (W.heap.size + 3) 0 [.int .i64 pk, .int .i64 pm, .string pt, .slice A9 n1 c9]).putObj D (.deferred none)) = .ok _ ((w6.setCells (W.heap.size + 3) 0 [.int .i64 pk, .int .i64 pm, .string pt, .slice A9 n1 c9]).putObj D (.deferred none))
        generalize (w6.setCells (W.heap.size + 3) 0 [.int .i64 pk, .int .i64 pm, .string pt, .slice A9 n1 c9]).putObj D (.deferred none) = w9 at hr8 ⊢
        have h0 : w9.cell? ⟨W.heap.size + 1 + 1 + 1, 0, none⟩ = some (.int .i64 pk) := hr8.cell 0
        have h1 : w9.cell? ⟨W.heap.size + 1 + 1 + 1, 1, none⟩ = some (.int .i64 pm) := hr8.cell 1
        have h2 : w9.cell? ⟨W.heap.size + 1 + 1 + 1, 2, none⟩ = some (.string pt) := hr8.cell 2
        have h3 : w9.cell? ⟨W.heap.size + 1 + 1 + 1, 3, none⟩ = some (.slice A9 n1 c9) := hr8.cell 3
        rw [results_cell_tmp rfl]
        go_simp
      · rw [HA.out.1, HA.out.2]
        refine ⟨A9, n1, c9, HNC9.out, rfl, Lib.hid ⟨⟨HPT.out, ?_⟩, hbb⟩⟩
        have hs5 := HSZ5.out
        have hdw := HDW.out
        have hk1 : KeepO (W.heap.size + 3) (W.heap.size + 4) w6 (w6.setCells (W.heap.size + 3) 0 [.int .i64 pk, .int .i64 pm, .string pt, .slice A9 n1 c9]) := keepO_cells _ _ _ _
        have hk2 : KeepO D (D + 1) (w6.setCells (W.heap.size + 3) 0 [.int .i64 pk, .int .i64 pm, .string pt, .slice A9 n1 c9]) ((w6.setCells (W.heap.size + 3) 0 [.int .i64 pk, .int .i64 pm, .string pt, .slice A9 n1 c9]).putObj D (.deferred none)) := ⟨rfl, rfl, rfl, by simp [World.putObj], fun k _ ho => World.putObj_heap_other (by omega)⟩
        have hb5 := HB5.out.size
        exact ((HV.out.1.2.keep hk1 (.inr (by omega))).keep hk2 (.inr (by omega))).mono hb5 (Nat.le_trans hk1.size hk2.size)
    · rw [tt_false hv] at HVP
      have HA : Hid (chA κ ν xs = .node 0 0 ⟨#[]⟩ [] ∧ tt (ValidP (chP κ ν xs)) = false) := ⟨HCA.out.2 hv, by rw [HPE.out, tt_false hv]⟩
      clear hk hB hr4 hpc hpt hpn hK hv hys hyn
      gi_wp2_with (first | (refine ⟨trivial, ?_⟩; gi_at_call 13; refine (HVP.out _).mono ?_; rintro e w5 ⟨rfl, hb⟩; have HB5 := Lib.hid (HB.out.trans (hb.mono HB.out.size)); have HK5 := Lib.hid (HK.out.keep (below_cells_keep hb)); have HR5 := Lib.hid (HR4.out.below hb HR4.out.lt); have HD5 : Hid (w5.heap[D]? = some (.deferred (some []))) := (hb.block D HDL.out).trans HKD.out; have HN5 := Lib.hid (HN.out.below hb); have d0 : w5.cell? ⟨W.heap.size + 1 + 1 + 1 + 1, 0, none⟩ = some (.int .i64 pk) := HR5.out.cell 0; have d1 : w5.cell? ⟨W.heap.size + 1 + 1 + 1 + 1, 1, none⟩ = some (.int .i64 pm) := HR5.out.cell 1; have d2 : w5.cell? ⟨W.heap.size + 1 + 1 + 1 + 1, 2, none⟩ = some (.string pt) := HR5.out.cell 2; have d3 : w5.cell? ⟨W.heap.size + 1 + 1 + 1 + 1, 3, none⟩ = some (.slice A1 n1 c1) := HR5.out.cell 3; have s0 : w5.cell? ⟨W.heap.size + 1 + 1 + 1, 0, none⟩ = some (.int .i64 0) := HK5.out.2.2.cell 0; have s1 : w5.cell? ⟨W.heap.size + 1 + 1 + 1, 1, none⟩ = some (.int .i64 0) := HK5.out.2.2.cell 1; have s2 : w5.cell? ⟨W.heap.size + 1 + 1 + 1, 2, none⟩ = some (.string ⟨#[]⟩) := HK5.out.2.2.cell 2; have s3 : w5.cell? ⟨W.heap.size + 1 + 1 + 1, 3, none⟩ = some (.slice none 0 0) := HK5.out.2.2.cell 3; have f0 : w5.frozen? ⟨W.heap.size + 1 + 1 + 1, 0, none⟩ = false := HK5.out.2.2.frozen 0; have f1 : w5.frozen? ⟨W.heap.size + 1 + 1 + 1, 1, none⟩ = false := HK5.out.2.2.frozen 1; have f2 : w5.frozen? ⟨W.heap.size + 1 + 1 + 1, 2, none⟩ = false := HK5.out.2.2.frozen 2; have f3 : w5.frozen? ⟨W.heap.size + 1 + 1 + 1, 3, none⟩ = false := HK5.out.2.2.frozen 3; have HSZ5 : Hid (D < w5.heap.size ∧ X.heap.size ≤ w5.heap.size) := ⟨Nat.lt_of_lt_of_le HDL.out hb.size, hb.size⟩; clear hb cc0 cc1 cc2 cc3))
      have hk7 : (w5.setCells (W.heap.size + 3) 0 [.int .i64 0, .int .i64 0, .string ⟨#[]⟩, .slice none 0 0]).heap[D]? = some (.deferred (some [])) := (keepsOthers_sets _ _ _ _).same D _ HD5.out rfl
      have hr7 : RW 29 (w5.setCells (W.heap.size + 3) 0 [.int .i64 0, .int .i64 0, .string ⟨#[]⟩, .slice none 0 0]) (W.heap.size + 3) #[.int .i64 0, .int .i64 0, .string ⟨#[]⟩, .slice none 0 0] := (((HK5.out.2.2.set_ 0 _).set_ 1 _).set_ 2 _).set_ 3 _
      have hr8 : RW 29 ((w5.setCells (W.heap.size + 3) 0 [.int .i64 0, .int .i64 0, .string ⟨#[]⟩, .slice none 0 0]).putObj D (.deferred none)) (W.heap.size + 3) #[.int .i64 0, .int .i64 0, .string ⟨#[]⟩, .slice none 0 0] := cells_grown (grownBy_putObj' _ D (.deferred none)) (fun r e => by cases e; exact ⟨_, hk7, rfl⟩) hr7 rfl
      have hbb : Below W.heap.size W ((w5.setCells (W.heap.size + 3) 0 [.int .i64 0, .int .i64 0, .string ⟨#[]⟩, .slice none 0 0]).putObj D (.deferred none)) := (HB5.out.trans (below_cells (by omega) _ _ _)).trans (belowK_b (w := W) (Nat.le_refl _) _ D _ _ (by omega) hk7 rfl rfl)
      refine ⟨by simp, .inl ⟨_, _, rfl, run_takeDeferred hk7, ?_⟩⟩
      refine ⟨.tuple #[.agg #[.int .i64 0, .int .i64 0, .string ⟨#[]⟩, .slice none 0 0], .bool false], ?_, ?_⟩
      · show (results _ _).run _ ((w5.setCells (W.heap.size + 3) 0 [.int .i64 0, .int .i64 0, .string ⟨#[]⟩, .slice none 0 0]).putObj D (.deferred none)) = .ok _ ((w5.setCells (W.heap.size + 3) 0 [.int .i64 0, .int .i64 0, .string ⟨#[]⟩, .slice none 0 0]).putObj D (.deferred none))
        generalize (w5.setCells (W.heap.size + 3) 0 [.int .i64 0, .int .i64 0, .string ⟨#[]⟩, .slice none 0 0]).putObj D (.deferred none) = w9 at hr8 ⊢
        have h0 : w9.cell? ⟨W.heap.size + 1 + 1 + 1, 0, none⟩ = some (.int .i64 0) := hr8.cell 0
        have h1 : w9.cell? ⟨W.heap.size + 1 + 1 + 1, 1, none⟩ = some (.int .i64 0) := hr8.cell 1
        have h2 : w9.cell? ⟨W.heap.size + 1 + 1 + 1, 2, none⟩ = some (.string ⟨#[]⟩) := hr8.cell 2
        have h3 : w9.cell? ⟨W.heap.size + 1 + 1 + 1, 3, none⟩ = some (.slice none 0 0) := hr8.cell 3
        rw [results_cell_tmp rfl]
        go_simp
      · rw [HA.out.1, HA.out.2]
        refine ⟨none, 0, 0, Nat.le_refl _, rfl, Lib.hid ⟨⟨Nat.zero_le _, ?_⟩, hbb⟩⟩
        exact PtO.upTo (d := 0) ⟨rfl, rfl⟩ (Nat.zero_le _)
  case stop =>
    rintro D cd pre X _ _ h _
    exact h.elim
end Go.Proofs.YtjeiiljdhnmofaaDoor
