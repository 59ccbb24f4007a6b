/- Contracts: l10Integer, Negated of the model. No condition. -/
import Derived.Test.YtnckcfgaolekoaaDoorToInt2
import Derived.Test.YtnckcfgaolekoaaDoorLawTwo
namespace Go.Proofs.YtnckcfgaolekoaaDoor
open Go Go.RowKit

def nz : Va := ⟨0, 0, ⟨#[]⟩, 0⟩
/-- What Negated answers: by whether the value is valid, is a number, and whether the negative is in range. -/
def negR (x b z : Bool) (j : Int) : Va × Int := if x = false then (nz, 1) else if b = false then (nz, 4) else if z = false then (nz, 3) else (⟨2, j, ⟨#[]⟩, 0⟩, 0)

set_option maxHeartbeats 400000 in
theorem l10Integer_no (n : Int) (W : World) (hz : validV 2 n ⟨#[]⟩ 0 = false) :
    Calls Tryd.prog 11 #[.int .i64 n] W fun e w' => e = .returned (.tuple #[.agg #[.int .i64 0, .int .i64 0, .string ⟨#[]⟩, .int .i64 0], .int .i64 3]) ∧ Below W.heap.size W w' := by
  have HZ := Lib.hid hz
  clear hz
  go_enter Tryd.func11, Tryd.ntmps11
  go_wp2_with (go_at_call 19; refine (spec_IntegerValue_any _ _).mono ?_; rintro e w1 ⟨he, hb⟩; rw [HZ.out, orV_f] at he; subst he; have HB := Lib.hid (((Below.refl _ _).alloc (Nat.le_refl _) _).trans (hb.mono (B' := W.heap.size) (by simp))); obtain ⟨hc, hf⟩ := bcell hb; have hz1 : W.heap.size < w1.heap.size := Nat.lt_of_lt_of_le (by simp) hb.size; clear hb)
  exact bodyPost_ret (v := .tuple #[.agg #[.int .i64 0, .int .i64 0, .string ⟨#[]⟩, .int .i64 0], .int .i64 3]) (by rw [results_cell_tmp rfl]; go_simp) rfl ⟨rfl, by repeat (first | exact HB.out | refine Below.setCell ?_ (by first | (simp; done) | (simp; omega)) _ | refine Below.alloc ?_ (by first | (simp; done) | (have := (HB.out).size; simp; omega)) _)⟩

set_option maxHeartbeats 400000 in
theorem l10Integer_yes (n : Int) (W : World) (hz : validV 2 n ⟨#[]⟩ 0 = true) :
    Calls Tryd.prog 11 #[.int .i64 n] W fun e w' => e = .returned (.tuple #[.agg #[.int .i64 2, .int .i64 n, .string ⟨#[]⟩, .int .i64 0], .int .i64 0]) ∧ Below W.heap.size W w' := by
  have HZ := Lib.hid hz
  clear hz
  go_enter Tryd.func11, Tryd.ntmps11
  go_wp2_with (go_at_call 19; refine (spec_IntegerValue_any _ _).mono ?_; rintro e w1 ⟨he, hb⟩; rw [HZ.out, orV_t] at he; subst he; have HB := Lib.hid (((Below.refl _ _).alloc (Nat.le_refl _) _).trans (hb.mono (B' := W.heap.size) (by simp))); obtain ⟨hc, hf⟩ := bcell hb; have hz1 : W.heap.size < w1.heap.size := Nat.lt_of_lt_of_le (by simp) hb.size; clear hb)
  exact bodyPost_ret (v := .tuple #[.agg #[.int .i64 2, .int .i64 n, .string ⟨#[]⟩, .int .i64 0], .int .i64 0]) (by rw [results_cell_tmp rfl]; go_simp) rfl ⟨rfl, by repeat (first | exact HB.out | refine Below.setCell ?_ (by first | (simp; done) | (simp; omega)) _ | refine Below.alloc ?_ (by first | (simp; done) | (have := (HB.out).size; simp; omega)) _)⟩

/-- A box and a result's cells. -/
def N2 (W w : World) (a : Va) : Prop := C4 w W.heap.size a ∧ C4 w (W.heap.size + 1) nz ∧ (∀ i, w.frozen? ⟨W.heap.size + 1, i, none⟩ = false) ∧ Below W.heap.size W w ∧ W.heap.size + 1 < w.heap.size
theorem N2.go {W w w' : World} {a : Va} (h : N2 W w a) (hb : Below w.heap.size w w') : N2 W w' a :=
  ⟨h.1.below hb (by have := h.2.2.2.2; omega), h.2.1.below hb h.2.2.2.2, fun i => (hb.frozen (p := ⟨W.heap.size + 1, i, none⟩) h.2.2.2.2).trans (h.2.2.1 i), h.2.2.2.1.trans (hb.mono h.2.2.2.1.size), Nat.lt_of_lt_of_le h.2.2.2.2 hb.size⟩
theorem N2.new (W : World) (a : Va) : ∀ X, X = (W.alloc (.cells #[.int .i64 a.k, .int .i64 a.n, .string a.t, .int .i64 a.r] 25)).alloc (.cells #[.int .i64 0, .int .i64 0, .string ⟨#[]⟩, .int .i64 0] 25) → N2 W X a := fun X e => by
  obtain ⟨h1, h2, h3, h4⟩ := two_newV W 25 a nz X e
  refine ⟨h1, h2, fun i => ?_, h3, by omega⟩
  subst e
  have : ((W.alloc (.cells #[.int .i64 a.k, .int .i64 a.n, .string a.t, .int .i64 a.r] 25)).alloc (.cells #[.int .i64 0, .int .i64 0, .string ⟨#[]⟩, .int .i64 0] 25)).heap[(W.alloc (.cells #[.int .i64 a.k, .int .i64 a.n, .string a.t, .int .i64 a.r] 25)).heap.size]? = some (.cells #[.int .i64 0, .int .i64 0, .string ⟨#[]⟩, .int .i64 0] 25 (0, 0)) := (MapKept.heap_alloc _ _).1
  rw [show (W.alloc (.cells #[.int .i64 a.k, .int .i64 a.n, .string a.t, .int .i64 a.r] 25)).heap.size = W.heap.size + 1 by simp] at this
  unfold World.frozen?
  rw [this]
  simp

set_option maxHeartbeats 400000 in
set_option maxRecDepth 100000 in
theorem spec_Neg_bad (a : Va) (W : World) (hs : a.t.size ≤ 1048576) (hx : a.ok = false) :
    Calls Tryd.prog 5 #[a.ag] W fun e w' => e = .returned (.tuple #[.agg #[.int .i64 0, .int .i64 0, .string ⟨#[]⟩, .int .i64 0], .int .i64 1]) ∧ Below W.heap.size W w' := by
  have H0 := Lib.hid (N2.new W a)
  have HA := Lib.hid hs
  have HM : Hid (a.t.size ≤ maxLen) := Nat.le_trans hs (by unfold maxLen; omega)
  have HX : Hid (validV a.k a.n a.t a.r = false) := hx
  clear hs hx
  unfold Va.ag
  go_enter Tryd.func5, Tryd.ntmps5
  go_wp2_with (first
    | (go_at_call 9; have HH := Lib.hid (H0.out _ rfl); refine (spec_ValidValue_any _ _ _ _ _ HM.out).mono ?_; rintro e w1 ⟨rfl, hb⟩; rw [HX.out]; replace HH := Lib.hid (HH.out.go hb); clear hb; obtain ⟨⟨x0, x1, x2, x3⟩, ⟨z0, z1, z2, z3⟩, fz, _, lz⟩ := HH.out))
  exact bodyPost_ret (v := .tuple #[.agg #[.int .i64 0, .int .i64 0, .string ⟨#[]⟩, .int .i64 0], .int .i64 1]) (by rw [results_cell_tmp rfl]; go_simp) rfl ⟨rfl, by repeat (first | exact HH.out.2.2.2.1 | refine Below.setCell ?_ (by first | (simp; done) | (simp; omega)) _ | refine Below.alloc ?_ (by first | (simp; done) | (have := (HH.out.2.2.2.1).size; simp; omega)) _)⟩

set_option maxHeartbeats 400000 in
set_option maxRecDepth 100000 in
theorem spec_Neg_ty (a : Va) (W : World) (hs : a.t.size ≤ 1048576) (hx : a.ok = true) (m : Int) (hy : tiE a.k a.n a.t a.r = .returned (.tuple #[.int .i64 m, .bool false])) :
    Calls Tryd.prog 5 #[a.ag] W fun e w' => e = .returned (.tuple #[.agg #[.int .i64 0, .int .i64 0, .string ⟨#[]⟩, .int .i64 0], .int .i64 4]) ∧ Below W.heap.size W w' := by
  have H0 := Lib.hid (N2.new W a)
  have HA := Lib.hid hs
  have HM : Hid (a.t.size ≤ maxLen) := Nat.le_trans hs (by unfold maxLen; omega)
  have HX : Hid (validV a.k a.n a.t a.r = true) := hx
  have HY := Lib.hid hy
  clear hs hx hy
  unfold Va.ag
  go_enter Tryd.func5, Tryd.ntmps5
  go_wp2_with (first
    | (go_at_call 9; have HH := Lib.hid (H0.out _ rfl); refine (spec_ValidValue_any _ _ _ _ _ HM.out).mono ?_; rintro e w1 ⟨rfl, hb⟩; rw [HX.out]; replace HH := Lib.hid (HH.out.go hb); clear hb; obtain ⟨⟨x0, x1, x2, x3⟩, ⟨z0, z1, z2, z3⟩, fz, _, lz⟩ := HH.out)
    | (go_at_call 10; refine (spec_ToInteger_any _ _ _ _ _ HA.out).mono ?_; rintro e w2 ⟨he, hb⟩; rw [HY.out] at he; subst he; clear x0 x1 x2 x3 z0 z1 z2 z3 fz lz; replace HH := Lib.hid (HH.out.go hb); clear hb; obtain ⟨⟨x0, x1, x2, x3⟩, ⟨z0, z1, z2, z3⟩, fz, _, lz⟩ := HH.out))
  exact bodyPost_ret (v := .tuple #[.agg #[.int .i64 0, .int .i64 0, .string ⟨#[]⟩, .int .i64 0], .int .i64 4]) (by rw [results_cell_tmp rfl]; go_simp) rfl ⟨rfl, by repeat (first | exact HH.out.2.2.2.1 | refine Below.setCell ?_ (by first | (simp; done) | (simp; omega)) _ | refine Below.alloc ?_ (by first | (simp; done) | (have := (HH.out.2.2.2.1).size; simp; omega)) _)⟩
end Go.Proofs.YtnckcfgaolekoaaDoor
