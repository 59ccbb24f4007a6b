/- Contracts: arithmeticTable, Arithmetic at subtraction from zero, Negated of the program. Conditions: the tables hold what the program's text lays. -/
import Derived.Test.YtnckcfgaolekoaaDoorNegT
import Derived.Test.YtnckcfgaolekoaaDoorConvI
import Derived.Test.YtnckcfgaolekoaaDoorValImpl
import Derived.Laws.PanicsMore
import Derived.Laws.EntriesVeiled
import Derived.Laws.Rows
import Derived.Laws.Tables
import Derived.Deep.RegionHeld3
namespace Go.Proofs.YtnckcfgaolekoaaDoor
open Go Go.RowKit

theorem results_cell1 {fn : Func} {p : Tmp} {ty : TypeId} (h : fn.results = #[.cell p ty]) (tmps : Array Value) (P : Program) (w : World) :
    (results fn tmps).run P w = ((asAddr (tmps.getD p undef)).run P w).andThen fun a w₁ => (loadVar ty a).run P w₁ := by
  simp only [results, h]
  simp [Sem.run_bind, Result.andThen]
set_option maxHeartbeats 1000000 in
theorem ar_table_any (W : World) :
    Calls Tryd.prog 25 #[] W fun e w' => e = .returned (.agg #[.func (.func 33) #[] #[], .func (.func 34) #[] #[], .func (.func 35) #[] #[], .func (.func 36) #[] #[]]) ∧ Below W.heap.size W w' := by
  go_enter Tryd.func25, Tryd.ntmps25
  go_wp2_with fail
  exact bodyPost_ret (v := .agg #[.func (.func 33) #[] #[], .func (.func 34) #[] #[], .func (.func 35) #[] #[], .func (.func 36) #[] #[]]) (by rw [results_cell1 rfl]; go_simp) rfl ⟨rfl, by repeat (first | exact Below.refl _ _ | refine Below.setCell ?_ (by first | (simp; done) | (simp; omega)) _ | refine Below.alloc ?_ (by first | (simp; done) | (simp; omega)) _)⟩
theorem idx4_1 (v1 v2 v3 v4 : Value) (w : World) : (Instr.index 48 (.agg #[v1, v2, v3, v4]) (.int .i64 1)).run Tryd.prog w = .ok v2 w := by
  simp [Instr.index, run_underlying Tryd.underlying48, asIntOf, go_sem]
theorem minus_any (x y : Int) (W : World) :
    Calls Tryd.prog 34 #[.int .i64 x, .int .i64 y] W fun e w' => e = .returned (.int .i64 (wrap64 (x - y))) ∧ Below W.heap.size W w' := by
  go_enter Tryd.func34, Tryd.ntmps34
  go_wp2_with fail
  go_ret
  exact ⟨rfl, Below.refl _ _⟩

def n0 : Va := ⟨2, 0, ⟨#[]⟩, 0⟩
theorem n0_ok : n0.ok = true := by
  simp [n0, Va.ok, validV]
  rfl
theorem n0_ti : tiE 2 0 ⟨#[]⟩ 0 = .returned (.tuple #[.int .i64 0, .bool true]) := by
  unfold tiE
  rw [if_neg (by rw [show validV 2 0 ⟨#[]⟩ 0 = true from n0_ok]; decide), if_pos (by decide)]
/-- Two boxes and a result's cells. -/
def A3 (W w : World) (a b : Va) : Prop :=
  C4 w W.heap.size a ∧ C4 w (W.heap.size + 1) b ∧ C4 w (W.heap.size + 1 + 1) nz ∧ (∀ i, w.frozen? ⟨W.heap.size + 1 + 1, i, none⟩ = false) ∧ Below W.heap.size W w ∧ W.heap.size + 1 + 1 < w.heap.size
theorem A3.go {W w w' : World} {a b : Va} (h : A3 W w a b) (hb : Below w.heap.size w w') : A3 W w' a b :=
  ⟨h.1.below hb (by have := h.2.2.2.2.2; omega), h.2.1.below hb (by have := h.2.2.2.2.2; omega), h.2.2.1.below hb h.2.2.2.2.2, fun i => (hb.frozen (p := ⟨W.heap.size + 1 + 1, i, none⟩) h.2.2.2.2.2).trans (h.2.2.2.1 i), h.2.2.2.2.1.trans (hb.mono h.2.2.2.2.1.size), Nat.lt_of_lt_of_le h.2.2.2.2.2 hb.size⟩
theorem A3.new (W : World) (a b : Va) : ∀ X, X = ((W.alloc (.cells #[.int .i64 a.k, .int .i64 a.n, .string a.t, .int .i64 a.r] 25)).alloc (.cells #[.int .i64 b.k, .int .i64 b.n, .string b.t, .int .i64 b.r] 25)).alloc (.cells #[.int .i64 0, .int .i64 0, .string ⟨#[]⟩, .int .i64 0] 25) → A3 W X a b := fun X e => by
  obtain ⟨X1, h1⟩ : ∃ X1, W.alloc (.cells #[.int .i64 a.k, .int .i64 a.n, .string a.t, .int .i64 a.r] 25) = X1 := ⟨_, rfl⟩
  obtain ⟨c1, b1, s1⟩ := one_newV W 25 #[.int .i64 a.k, .int .i64 a.n, .string a.t, .int .i64 a.r] X1 h1.symm
  rw [h1] at e
  obtain ⟨X2, h2⟩ : ∃ X2, X1.alloc (.cells #[.int .i64 b.k, .int .i64 b.n, .string b.t, .int .i64 b.r] 25) = X2 := ⟨_, rfl⟩
  obtain ⟨c2, b2, s2⟩ := one_newV X1 25 #[.int .i64 b.k, .int .i64 b.n, .string b.t, .int .i64 b.r] X2 h2.symm
  rw [h2] at e
  obtain ⟨c3, b3, s3⟩ := one_newV X2 25 #[.int .i64 0, .int .i64 0, .string ⟨#[]⟩, .int .i64 0] X e
  have f3 : ∀ i, X.frozen? ⟨X2.heap.size, i, none⟩ = false := fun i => by
    rw [e]
    have : (X2.alloc (.cells #[.int .i64 0, .int .i64 0, .string ⟨#[]⟩, .int .i64 0] 25)).heap[X2.heap.size]? = some (.cells #[.int .i64 0, .int .i64 0, .string ⟨#[]⟩, .int .i64 0] 25 (0, 0)) := (MapKept.heap_alloc X2 _).1
    unfold World.frozen?
    rw [this]
    simp
  have C1 : C4 X1 W.heap.size a := ⟨c1 0, c1 1, c1 2, c1 3⟩
  have C2 : C4 X2 (W.heap.size + 1) b := by rw [← s1]; exact ⟨c2 0, c2 1, c2 2, c2 3⟩
  have C3 : C4 X (W.heap.size + 1 + 1) nz := by rw [← s1, ← s2]; exact ⟨c3 0, c3 1, c3 2, c3 3⟩
  rw [s2, s1] at f3
  exact ⟨(C1.below b2 (by omega)).below b3 (by omega), C2.below b3 (by omega), C3, f3, (b1.trans (b2.mono (by omega))).trans (b3.mono (by omega)), by omega⟩
/-- .. and the two in a row behind them. -/
theorem A3.row (W : World) (a b : Va) : ∀ X, X = (((W.alloc (.cells #[.int .i64 a.k, .int .i64 a.n, .string a.t, .int .i64 a.r] 25)).alloc (.cells #[.int .i64 b.k, .int .i64 b.n, .string b.t, .int .i64 b.r] 25)).alloc (.cells #[.int .i64 0, .int .i64 0, .string ⟨#[]⟩, .int .i64 0] 25)).alloc (.cells #[.int .i64 a.k, .int .i64 a.n, .string a.t, .int .i64 a.r, .int .i64 b.k, .int .i64 b.n, .string b.t, .int .i64 b.r] 25) →
    A3 W X a b ∧ E8 X (W.heap.size + 1 + 1 + 1) a b ∧ W.heap.size + 1 + 1 + 1 < X.heap.size := fun X e => by
  have hsz : (((W.alloc (.cells #[.int .i64 a.k, .int .i64 a.n, .string a.t, .int .i64 a.r] 25)).alloc (.cells #[.int .i64 b.k, .int .i64 b.n, .string b.t, .int .i64 b.r] 25)).alloc (.cells #[.int .i64 0, .int .i64 0, .string ⟨#[]⟩, .int .i64 0] 25)).heap.size = W.heap.size + 1 + 1 + 1 := by simp
  obtain ⟨X3, h3⟩ : ∃ X3, ((W.alloc (.cells #[.int .i64 a.k, .int .i64 a.n, .string a.t, .int .i64 a.r] 25)).alloc (.cells #[.int .i64 b.k, .int .i64 b.n, .string b.t, .int .i64 b.r] 25)).alloc (.cells #[.int .i64 0, .int .i64 0, .string ⟨#[]⟩, .int .i64 0] 25) = X3 := ⟨_, rfl⟩
  have t3 := A3.new W a b X3 h3.symm
  rw [h3] at e hsz
  obtain ⟨c4, b4, s4⟩ := one_newV X3 25 #[.int .i64 a.k, .int .i64 a.n, .string a.t, .int .i64 a.r, .int .i64 b.k, .int .i64 b.n, .string b.t, .int .i64 b.r] X e
  rw [hsz] at c4
  exact ⟨t3.go b4, ⟨⟨c4 0, c4 1, c4 2, c4 3⟩, c4 4, c4 5, c4 6, c4 7⟩, by omega⟩

set_option maxHeartbeats 1000000 in
set_option maxRecDepth 100000 in
theorem impl_Ar_bad (a : Va) (W : World) (hs : a.t.size ≤ 1048576) (hT : Tabs W) (hx : a.ok = false) :
    Calls Tryd.prog 12 #[.int .i64 9, n0.ag, a.ag] W fun e w' => e = .returned (.tuple #[.agg #[.int .i64 0, .int .i64 0, .string ⟨#[]⟩, .int .i64 0], .int .i64 1]) ∧ Below W.heap.size W w' := by
  have H0 := Lib.hid (A3.new W n0 a)
  have H4 := Lib.hid (A3.row W n0 a)
  have HA := Lib.hid hs
  have HM : Hid (a.t.size ≤ maxLen) := Nat.le_trans hs (by unfold maxLen; omega)
  have HZ0 : Hid (n0.t.size ≤ maxLen) := Nat.zero_le _
  have HZ1 : Hid (n0.t.size ≤ 1048576) := Nat.zero_le _
  have HT := Lib.hid hT
  have HX := Lib.hid hx
  clear hs hT hx
  unfold Va.ag n0
  go_enter Tryd.func12, Tryd.ntmps12
  go_wp2_with (first
    | (go_at_call 20; refine (within_i64 _ _ _ _).mono ?_; rintro e w9 ⟨rfl, rfl⟩; rw [show decide ((8 : Int) ≤ 9 ∧ (9 : Int) ≤ 11) = true from rfl])
    | (go_at_call 21; obtain ⟨hh, h8, hl⟩ := H4.out _ rfl; have HH := Lib.hid hh; have HQ := areValid_two n0 a (W.heap.size + 1 + 1 + 1) 2 _ h8 hl HZ0.out HM.out (HT.out.go hh.2.2.2.2.1); rw [n0_ok, HX.out] at HQ; refine Calls.mono HQ ?_; clear HQ hh h8 hl; rintro e w1 ⟨he, hb⟩; subst he; replace HH := Lib.hid (HH.out.go hb); clear hb; obtain ⟨⟨x0, x1, x2, x3⟩, ⟨y0, y1, y2, y3⟩, ⟨z0, z1, z2, z3⟩, fz, _, lz⟩ := HH.out))
  exact bodyPost_ret (v := .tuple #[.agg #[.int .i64 0, .int .i64 0, .string ⟨#[]⟩, .int .i64 0], .int .i64 1]) (by rw [results_cell_tmp rfl]; go_simp) rfl ⟨rfl, by repeat (first | exact HH.out.2.2.2.2.1 | refine Below.setCell ?_ (by first | (simp; done) | (simp; omega)) _ | refine Below.alloc ?_ (by first | (simp; done) | (have := (HH.out.2.2.2.2.1).size; simp; omega)) _)⟩

set_option maxHeartbeats 1000000 in
set_option maxRecDepth 100000 in
theorem impl_Ar_ty (a : Va) (W : World) (hs : a.t.size ≤ 1048576) (hT : Tabs W) (hx : a.ok = true) (m : Int) (hy : tiE a.k a.n a.t a.r = .returned (.tuple #[.int .i64 m, .bool false])) :
    Calls Tryd.prog 12 #[.int .i64 9, n0.ag, a.ag] W fun e w' => e = .returned (.tuple #[.agg #[.int .i64 0, .int .i64 0, .string ⟨#[]⟩, .int .i64 0], .int .i64 4]) ∧ Below W.heap.size W w' := by
  have H0 := Lib.hid (A3.new W n0 a)
  have H4 := Lib.hid (A3.row W n0 a)
  have HA := Lib.hid hs
  have HM : Hid (a.t.size ≤ maxLen) := Nat.le_trans hs (by unfold maxLen; omega)
  have HZ0 : Hid (n0.t.size ≤ maxLen) := Nat.zero_le _
  have HZ1 : Hid (n0.t.size ≤ 1048576) := Nat.zero_le _
  have HT := Lib.hid hT
  have HX := Lib.hid hx
  have HY := Lib.hid hy
  clear hs hT hx hy
  unfold Va.ag n0
  go_enter Tryd.func12, Tryd.ntmps12
  go_wp2_with (first
    | (go_at_call 20; refine (within_i64 _ _ _ _).mono ?_; rintro e w9 ⟨rfl, rfl⟩; rw [show decide ((8 : Int) ≤ 9 ∧ (9 : Int) ≤ 11) = true from rfl])
    | (go_at_call 21; obtain ⟨hh, h8, hl⟩ := H4.out _ rfl; have HH := Lib.hid hh; have HQ := areValid_two n0 a (W.heap.size + 1 + 1 + 1) 2 _ h8 hl HZ0.out HM.out (HT.out.go hh.2.2.2.2.1); rw [n0_ok, HX.out] at HQ; refine Calls.mono HQ ?_; clear HQ hh h8 hl; rintro e w1 ⟨he, hb⟩; subst he; replace HH := Lib.hid (HH.out.go hb); clear hb; obtain ⟨⟨x0, x1, x2, x3⟩, ⟨y0, y1, y2, y3⟩, ⟨z0, z1, z2, z3⟩, fz, _, lz⟩ := HH.out)
    | (go_at_call 22; have HQ := convI_case n0 a _ HZ1.out HA.out (HT.out.go HH.out.2.2.2.2.1) 0 m true false n0_ti HY.out; refine Calls.mono HQ ?_; clear HQ; rintro e w2 ⟨he, hb⟩; subst he; clear x0 x1 x2 x3 y0 y1 y2 y3 z0 z1 z2 z3 fz lz; replace HH := Lib.hid (HH.out.go hb); clear hb; obtain ⟨⟨x0, x1, x2, x3⟩, ⟨y0, y1, y2, y3⟩, ⟨z0, z1, z2, z3⟩, fz, _, lz⟩ := HH.out))
  exact bodyPost_ret (v := .tuple #[.agg #[.int .i64 0, .int .i64 0, .string ⟨#[]⟩, .int .i64 0], .int .i64 4]) (by rw [results_cell_tmp rfl]; go_simp) rfl ⟨rfl, by repeat (first | exact HH.out.2.2.2.2.1 | refine Below.setCell ?_ (by first | (simp; done) | (simp; omega)) _ | refine Below.alloc ?_ (by first | (simp; done) | (have := (HH.out.2.2.2.2.1).size; simp; omega)) _)⟩

set_option maxHeartbeats 1000000 in
set_option maxRecDepth 100000 in
theorem impl_Ar_no (a : Va) (W : World) (hs : a.t.size ≤ 1048576) (hT : Tabs W) (hx : a.ok = true) (m : Int) (hy : tiE a.k a.n a.t a.r = .returned (.tuple #[.int .i64 m, .bool true])) (hz : validV 2 (wrap64 (-m)) ⟨#[]⟩ 0 = false) :
    Calls Tryd.prog 12 #[.int .i64 9, n0.ag, a.ag] W fun e w' => e = .returned (.tuple #[.agg #[.int .i64 0, .int .i64 0, .string ⟨#[]⟩, .int .i64 0], .int .i64 3]) ∧ Below W.heap.size W w' := by
  have H0 := Lib.hid (A3.new W n0 a)
  have H4 := Lib.hid (A3.row W n0 a)
  have HA := Lib.hid hs
  have HM : Hid (a.t.size ≤ maxLen) := Nat.le_trans hs (by unfold maxLen; omega)
  have HZ0 : Hid (n0.t.size ≤ maxLen) := Nat.zero_le _
  have HZ1 : Hid (n0.t.size ≤ 1048576) := Nat.zero_le _
  have HT := Lib.hid hT
  have HX := Lib.hid hx
  have HY := Lib.hid hy
  have HZ := Lib.hid hz
  have hix := idx4_1
  have hw : wrap64 1 = 1 := by unfold wrap64; decide
  have hw9 : wrap64 (9 - 8) = 1 := by unfold wrap64; decide
  clear hs hT hx hy hz
  unfold Va.ag n0
  go_enter Tryd.func12, Tryd.ntmps12
  go_wp2_with (first
    | (go_at_call 20; refine (within_i64 _ _ _ _).mono ?_; rintro e w9 ⟨rfl, rfl⟩; rw [show decide ((8 : Int) ≤ 9 ∧ (9 : Int) ≤ 11) = true from rfl])
    | (go_at_call 21; obtain ⟨hh, h8, hl⟩ := H4.out _ rfl; have HH := Lib.hid hh; have HQ := areValid_two n0 a (W.heap.size + 1 + 1 + 1) 2 _ h8 hl HZ0.out HM.out (HT.out.go hh.2.2.2.2.1); rw [n0_ok, HX.out] at HQ; refine Calls.mono HQ ?_; clear HQ hh h8 hl; rintro e w1 ⟨he, hb⟩; subst he; replace HH := Lib.hid (HH.out.go hb); clear hb; obtain ⟨⟨x0, x1, x2, x3⟩, ⟨y0, y1, y2, y3⟩, ⟨z0, z1, z2, z3⟩, fz, _, lz⟩ := HH.out)
    | (go_at_call 22; have HQ := convI_case n0 a _ HZ1.out HA.out (HT.out.go HH.out.2.2.2.2.1) 0 m true true n0_ti HY.out; refine Calls.mono HQ ?_; clear HQ; rintro e w2 ⟨he, hb⟩; subst he; clear x0 x1 x2 x3 y0 y1 y2 y3 z0 z1 z2 z3 fz lz; replace HH := Lib.hid (HH.out.go hb); clear hb; obtain ⟨⟨x0, x1, x2, x3⟩, ⟨y0, y1, y2, y3⟩, ⟨z0, z1, z2, z3⟩, fz, _, lz⟩ := HH.out)
    | (go_at_call 25; refine Calls.mono (ar_table_any _) ?_; rintro e w3 ⟨he, hb⟩; subst he; clear x0 x1 x2 x3 y0 y1 y2 y3 z0 z1 z2 z3 fz lz; replace HH := Lib.hid (HH.out.go hb); clear hb; obtain ⟨⟨x0, x1, x2, x3⟩, ⟨y0, y1, y2, y3⟩, ⟨z0, z1, z2, z3⟩, fz, _, lz⟩ := HH.out)
    | (go_at_call 34; refine Calls.mono (minus_any _ _ _) ?_; rintro e w4 ⟨he, hb⟩; rw [Int.zero_sub] at he; subst he; clear x0 x1 x2 x3 y0 y1 y2 y3 z0 z1 z2 z3 fz lz; replace HH := Lib.hid (HH.out.go hb); clear hb; obtain ⟨⟨x0, x1, x2, x3⟩, ⟨y0, y1, y2, y3⟩, ⟨z0, z1, z2, z3⟩, fz, _, lz⟩ := HH.out)
    | (go_at_call 24; refine Calls.mono (impl_IntegerValue_any _ _ (HT.out.go HH.out.2.2.2.2.1).1) ?_; rintro e w5 ⟨he, hb⟩; rw [HZ.out, orV_f] at he; subst he; clear x0 x1 x2 x3 y0 y1 y2 y3 z0 z1 z2 z3 fz lz; replace HH := Lib.hid (HH.out.go hb); clear hb; obtain ⟨⟨x0, x1, x2, x3⟩, ⟨y0, y1, y2, y3⟩, ⟨z0, z1, z2, z3⟩, fz, _, lz⟩ := HH.out))
  exact bodyPost_ret (v := .tuple #[.agg #[.int .i64 0, .int .i64 0, .string ⟨#[]⟩, .int .i64 0], .int .i64 3]) (by rw [results_cell_tmp rfl]; go_simp) rfl ⟨rfl, by repeat (first | exact HH.out.2.2.2.2.1 | refine Below.setCell ?_ (by first | (simp; done) | (simp; omega)) _ | refine Below.alloc ?_ (by first | (simp; done) | (have := (HH.out.2.2.2.2.1).size; simp; omega)) _)⟩

set_option maxHeartbeats 1000000 in
set_option maxRecDepth 100000 in
theorem impl_Ar_yes (a : Va) (W : World) (hs : a.t.size ≤ 1048576) (hT : Tabs W) (hx : a.ok = true) (m : Int) (hy : tiE a.k a.n a.t a.r = .returned (.tuple #[.int .i64 m, .bool true])) (hz : validV 2 (wrap64 (-m)) ⟨#[]⟩ 0 = true) :
    Calls Tryd.prog 12 #[.int .i64 9, n0.ag, a.ag] W fun e w' => e = .returned (.tuple #[.agg #[.int .i64 2, .int .i64 (wrap64 (-m)), .string ⟨#[]⟩, .int .i64 0], .int .i64 0]) ∧ Below W.heap.size W w' := by
  have H0 := Lib.hid (A3.new W n0 a)
  have H4 := Lib.hid (A3.row W n0 a)
  have HA := Lib.hid hs
  have HM : Hid (a.t.size ≤ maxLen) := Nat.le_trans hs (by unfold maxLen; omega)
  have HZ0 : Hid (n0.t.size ≤ maxLen) := Nat.zero_le _
  have HZ1 : Hid (n0.t.size ≤ 1048576) := Nat.zero_le _
  have HT := Lib.hid hT
  have HX := Lib.hid hx
  have HY := Lib.hid hy
  have HZ := Lib.hid hz
  have hix := idx4_1
  have hw : wrap64 1 = 1 := by unfold wrap64; decide
  have hw9 : wrap64 (9 - 8) = 1 := by unfold wrap64; decide
  clear hs hT hx hy hz
  unfold Va.ag n0
  go_enter Tryd.func12, Tryd.ntmps12
  go_wp2_with (first
    | (go_at_call 20; refine (within_i64 _ _ _ _).mono ?_; rintro e w9 ⟨rfl, rfl⟩; rw [show decide ((8 : Int) ≤ 9 ∧ (9 : Int) ≤ 11) = true from rfl])
    | (go_at_call 21; obtain ⟨hh, h8, hl⟩ := H4.out _ rfl; have HH := Lib.hid hh; have HQ := areValid_two n0 a (W.heap.size + 1 + 1 + 1) 2 _ h8 hl HZ0.out HM.out (HT.out.go hh.2.2.2.2.1); rw [n0_ok, HX.out] at HQ; refine Calls.mono HQ ?_; clear HQ hh h8 hl; rintro e w1 ⟨he, hb⟩; subst he; replace HH := Lib.hid (HH.out.go hb); clear hb; obtain ⟨⟨x0, x1, x2, x3⟩, ⟨y0, y1, y2, y3⟩, ⟨z0, z1, z2, z3⟩, fz, _, lz⟩ := HH.out)
    | (go_at_call 22; have HQ := convI_case n0 a _ HZ1.out HA.out (HT.out.go HH.out.2.2.2.2.1) 0 m true true n0_ti HY.out; refine Calls.mono HQ ?_; clear HQ; rintro e w2 ⟨he, hb⟩; subst he; clear x0 x1 x2 x3 y0 y1 y2 y3 z0 z1 z2 z3 fz lz; replace HH := Lib.hid (HH.out.go hb); clear hb; obtain ⟨⟨x0, x1, x2, x3⟩, ⟨y0, y1, y2, y3⟩, ⟨z0, z1, z2, z3⟩, fz, _, lz⟩ := HH.out)
    | (go_at_call 25; refine Calls.mono (ar_table_any _) ?_; rintro e w3 ⟨he, hb⟩; subst he; clear x0 x1 x2 x3 y0 y1 y2 y3 z0 z1 z2 z3 fz lz; replace HH := Lib.hid (HH.out.go hb); clear hb; obtain ⟨⟨x0, x1, x2, x3⟩, ⟨y0, y1, y2, y3⟩, ⟨z0, z1, z2, z3⟩, fz, _, lz⟩ := HH.out)
    | (go_at_call 34; refine Calls.mono (minus_any _ _ _) ?_; rintro e w4 ⟨he, hb⟩; rw [Int.zero_sub] at he; subst he; clear x0 x1 x2 x3 y0 y1 y2 y3 z0 z1 z2 z3 fz lz; replace HH := Lib.hid (HH.out.go hb); clear hb; obtain ⟨⟨x0, x1, x2, x3⟩, ⟨y0, y1, y2, y3⟩, ⟨z0, z1, z2, z3⟩, fz, _, lz⟩ := HH.out)
    | (go_at_call 24; refine Calls.mono (impl_IntegerValue_any _ _ (HT.out.go HH.out.2.2.2.2.1).1) ?_; rintro e w5 ⟨he, hb⟩; rw [HZ.out, orV_t] at he; subst he; clear x0 x1 x2 x3 y0 y1 y2 y3 z0 z1 z2 z3 fz lz; replace HH := Lib.hid (HH.out.go hb); clear hb; obtain ⟨⟨x0, x1, x2, x3⟩, ⟨y0, y1, y2, y3⟩, ⟨z0, z1, z2, z3⟩, fz, _, lz⟩ := HH.out))
  exact bodyPost_ret (v := .tuple #[.agg #[.int .i64 2, .int .i64 (wrap64 (-m)), .string ⟨#[]⟩, .int .i64 0], .int .i64 0]) (by rw [results_cell_tmp rfl]; go_simp) rfl ⟨rfl, by repeat (first | exact HH.out.2.2.2.2.1 | refine Below.setCell ?_ (by first | (simp; done) | (simp; omega)) _ | refine Below.alloc ?_ (by first | (simp; done) | (have := (HH.out.2.2.2.2.1).size; simp; omega)) _)⟩

theorem impl_Ar_any (a : Va) (W : World) (hs : a.t.size ≤ 1048576) (hT : Tabs W) (m : Int) (b : Bool) (hy : tiE a.k a.n a.t a.r = .returned (.tuple #[.int .i64 m, .bool b])) :
    Calls Tryd.prog 12 #[.int .i64 9, n0.ag, a.ag] W fun e w' => e = .returned (.tuple #[(negR a.ok b (validV 2 (wrap64 (-m)) ⟨#[]⟩ 0) (wrap64 (-m))).1.ag, .int .i64 (negR a.ok b (validV 2 (wrap64 (-m)) ⟨#[]⟩ 0) (wrap64 (-m))).2]) ∧ Below W.heap.size W w' := by
  unfold negR
  by_cases h0 : a.ok = false
  · rw [if_pos h0]; exact impl_Ar_bad a W hs hT h0
  rw [if_neg h0]
  by_cases h1 : b = false
  · rw [if_pos h1]; subst h1; exact impl_Ar_ty a W hs hT (tru' h0) m hy
  rw [if_neg h1]
  obtain rfl := tru' h1
  by_cases h2 : validV 2 (wrap64 (-m)) ⟨#[]⟩ 0 = false
  · rw [if_pos h2]; exact impl_Ar_no a W hs hT (tru' h0) m hy h2
  · rw [if_neg h2]; exact impl_Ar_yes a W hs hT (tru' h0) m hy (tru' h2)

theorem put_below (w : World) (p : Nat) (v : Va) : Below p w ((((w.setCell ⟨p, 0, none⟩ (.int .i64 v.k)).setCell ⟨p, 1, none⟩ (.int .i64 v.n)).setCell ⟨p, 2, none⟩ (.string v.t)).setCell ⟨p, 3, none⟩ (.int .i64 v.r)) :=
  
  have hB : p ≤ p := Nat.le_refl p
  ((((Below.refl _ _).setCell hB _).setCell hB _).setCell hB _).setCell hB _

set_option maxHeartbeats 1000000 in
set_option maxRecDepth 100000 in
theorem impl_Negated_any (a v : Va) (c : Int) (W : World) (hs : a.t.size ≤ 1048576) (hT : Tabs W) (m : Int) (b : Bool) (hy : tiE a.k a.n a.t a.r = .returned (.tuple #[.int .i64 m, .bool b])) (hv : negR a.ok b (validV 2 (wrap64 (-m)) ⟨#[]⟩ 0) (wrap64 (-m)) = (v, c)) :
    Calls Tryd.prog 7 #[a.ag] W fun e w' => e = .returned (.tuple #[v.ag, .int .i64 c]) ∧ Below W.heap.size W w' := by
  have HN := Lib.hid (N2.new W a)
  have HAr : Hid (∀ w, Tabs w → Calls Tryd.prog 12 #[.int .i64 9, .agg #[.int .i64 2, .int .i64 0, .string ⟨#[]⟩, .int .i64 0], .agg #[.int .i64 a.k, .int .i64 a.n, .string a.t, .int .i64 a.r]] w fun e w' => e = .returned (.tuple #[.agg #[.int .i64 v.k, .int .i64 v.n, .string v.t, .int .i64 v.r], .int .i64 c]) ∧ Below w.heap.size w w') := fun w ht => by
    have h := impl_Ar_any a w hs ht m b hy
    rw [hv] at h
    exact h
  have HT := Lib.hid hT
  clear hs hT hy hv
  unfold Va.ag
  go_enter Tryd.func7, Tryd.ntmps7
  go_wp2_with fail
  have HD0 := Lib.hid ((HN.out _ rfl).go (Below.refl _ _).drew)
  clear HN
  go_region_held3 (fun w => C4 w W.heap.size a)
    (first | exact HD0.out.1 | exact H1.out.1 | exact H2.out.1 | exact H3.out | go_keep)
    ((first
      | (go_at_call 13; refine (numberValue_any 0 _).mono ?_; rintro e w1 ⟨rfl, hb⟩; have H1 := Lib.hid (HD0.out.go hb); clear hb)
      | (go_at_call 12; refine Calls.mono (HAr.out _ (HT.out.go H1.out.2.2.2.1)) ?_; rintro e w2 ⟨he, hb⟩; subst he; have H2 := Lib.hid (H1.out.go hb); have H3 := Lib.hid (H2.out.1.below (put_below w2 (W.heap.size + 1) v) (Nat.lt_succ_self _)); obtain ⟨⟨x0, x1, x2, x3⟩, ⟨z0, z1, z2, z3⟩, fz, _, lz⟩ := H2.out; have f0 := fz 0; have f1 := fz 1; have f2 := fz 2; have f3 := fz 3; clear hb)))
  go_split_ands
  go_wp2_with fail
  exact bodyPost_ret (v := .tuple #[.agg #[.int .i64 v.k, .int .i64 v.n, .string v.t, .int .i64 v.r], .int .i64 c]) (by rw [results_cell_tmp rfl]; go_simp) rfl ⟨rfl, by repeat (first | exact H2.out.2.2.2.1 | refine Below.setCell ?_ (by first | (simp; done) | (simp; omega)) _)⟩
end Go.Proofs.YtnckcfgaolekoaaDoor
