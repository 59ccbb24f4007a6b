/- Contract: Negated of the model, whole. No condition. -/
import Derived.Test.YtnckcfgaolekoaaDoorNegS
namespace Go.Proofs.YtnckcfgaolekoaaDoor
open Go Go.RowKit

set_option maxHeartbeats 400000 in
set_option maxRecDepth 100000 in
theorem spec_Neg_no (a : Va) (W : World) (hs : a.t.size ≤ 1048576) (hx : a.ok = true) (m : Int) (hy : tiE a.k a.n a.t a.r = .returned (.tuple #[.int .i64 m, .bool true])) (hz : validV 2 (wrap64 (-m)) ⟨#[]⟩ 0 = false) :
    Calls Tryd.prog 5 #[a.ag] W fun e w' => e = .returned (.tuple #[.agg #[.int .i64 0, .int .i64 0, .string ⟨#[]⟩, .int .i64 0], .int .i64 3]) ∧ Below W.heap.size W w' := by
  have H0 := Lib.hid (N2.new W a)
  have HA := Lib.hid hs
  have HM : Hid (a.t.size ≤ maxLen) := Nat.le_trans hs (by unfold maxLen; omega)
  have HX : Hid (validV a.k a.n a.t a.r = true) := hx
  have HY := Lib.hid hy
  have HZ := Lib.hid hz
  clear hs hx hy hz
  unfold Va.ag
  go_enter Tryd.func5, Tryd.ntmps5
  go_wp2_with (first
    | (go_at_call 9; have HH := Lib.hid (H0.out _ rfl); refine (spec_ValidValue_any _ _ _ _ _ HM.out).mono ?_; rintro e w1 ⟨rfl, hb⟩; rw [HX.out]; replace HH := Lib.hid (HH.out.go hb); clear hb; obtain ⟨⟨x0, x1, x2, x3⟩, ⟨z0, z1, z2, z3⟩, fz, _, lz⟩ := HH.out)
    | (go_at_call 10; refine (spec_ToInteger_any _ _ _ _ _ HA.out).mono ?_; rintro e w2 ⟨he, hb⟩; rw [HY.out] at he; subst he; clear x0 x1 x2 x3 z0 z1 z2 z3 fz lz; replace HH := Lib.hid (HH.out.go hb); clear hb; obtain ⟨⟨x0, x1, x2, x3⟩, ⟨z0, z1, z2, z3⟩, fz, _, lz⟩ := HH.out)
    | (go_at_call 11; refine (l10Integer_no _ _ HZ.out).mono ?_; rintro e w3 ⟨rfl, hb⟩; clear x0 x1 x2 x3 z0 z1 z2 z3 fz lz; replace HH := Lib.hid (HH.out.go hb); clear hb; obtain ⟨⟨x0, x1, x2, x3⟩, ⟨z0, z1, z2, z3⟩, fz, _, lz⟩ := HH.out))
  exact bodyPost_ret (v := .tuple #[.agg #[.int .i64 0, .int .i64 0, .string ⟨#[]⟩, .int .i64 0], .int .i64 3]) (by rw [results_cell_tmp rfl]; go_simp) rfl ⟨rfl, by repeat (first | exact HH.out.2.2.2.1 | refine Below.setCell ?_ (by first | (simp; done) | (simp; omega)) _ | refine Below.alloc ?_ (by first | (simp; done) | (have := (HH.out.2.2.2.1).size; simp; omega)) _)⟩

set_option maxHeartbeats 400000 in
set_option maxRecDepth 100000 in
theorem spec_Neg_yes (a : Va) (W : World) (hs : a.t.size ≤ 1048576) (hx : a.ok = true) (m : Int) (hy : tiE a.k a.n a.t a.r = .returned (.tuple #[.int .i64 m, .bool true])) (hz : validV 2 (wrap64 (-m)) ⟨#[]⟩ 0 = true) :
    Calls Tryd.prog 5 #[a.ag] W fun e w' => e = .returned (.tuple #[.agg #[.int .i64 2, .int .i64 (wrap64 (-m)), .string ⟨#[]⟩, .int .i64 0], .int .i64 0]) ∧ Below W.heap.size W w' := by
  have H0 := Lib.hid (N2.new W a)
  have HA := Lib.hid hs
  have HM : Hid (a.t.size ≤ maxLen) := Nat.le_trans hs (by unfold maxLen; omega)
  have HX : Hid (validV a.k a.n a.t a.r = true) := hx
  have HY := Lib.hid hy
  have HZ := Lib.hid hz
  clear hs hx hy hz
  unfold Va.ag
  go_enter Tryd.func5, Tryd.ntmps5
  go_wp2_with (first
    | (go_at_call 9; have HH := Lib.hid (H0.out _ rfl); refine (spec_ValidValue_any _ _ _ _ _ HM.out).mono ?_; rintro e w1 ⟨rfl, hb⟩; rw [HX.out]; replace HH := Lib.hid (HH.out.go hb); clear hb; obtain ⟨⟨x0, x1, x2, x3⟩, ⟨z0, z1, z2, z3⟩, fz, _, lz⟩ := HH.out)
    | (go_at_call 10; refine (spec_ToInteger_any _ _ _ _ _ HA.out).mono ?_; rintro e w2 ⟨he, hb⟩; rw [HY.out] at he; subst he; clear x0 x1 x2 x3 z0 z1 z2 z3 fz lz; replace HH := Lib.hid (HH.out.go hb); clear hb; obtain ⟨⟨x0, x1, x2, x3⟩, ⟨z0, z1, z2, z3⟩, fz, _, lz⟩ := HH.out)
    | (go_at_call 11; refine (l10Integer_yes _ _ HZ.out).mono ?_; rintro e w3 ⟨rfl, hb⟩; clear x0 x1 x2 x3 z0 z1 z2 z3 fz lz; replace HH := Lib.hid (HH.out.go hb); clear hb; obtain ⟨⟨x0, x1, x2, x3⟩, ⟨z0, z1, z2, z3⟩, fz, _, lz⟩ := HH.out))
  exact bodyPost_ret (v := .tuple #[.agg #[.int .i64 2, .int .i64 (wrap64 (-m)), .string ⟨#[]⟩, .int .i64 0], .int .i64 0]) (by rw [results_cell_tmp rfl]; go_simp) rfl ⟨rfl, by repeat (first | exact HH.out.2.2.2.1 | refine Below.setCell ?_ (by first | (simp; done) | (simp; omega)) _ | refine Below.alloc ?_ (by first | (simp; done) | (have := (HH.out.2.2.2.1).size; simp; omega)) _)⟩

theorem spec_Negated_any (a : Va) (W : World) (hs : a.t.size ≤ 1048576) (m : Int) (b : Bool) (hy : tiE a.k a.n a.t a.r = .returned (.tuple #[.int .i64 m, .bool b])) :
    Calls Tryd.prog 5 #[a.ag] W fun e w' => e = .returned (.tuple #[(negR a.ok b (validV 2 (wrap64 (-m)) ⟨#[]⟩ 0) (wrap64 (-m))).1.ag, .int .i64 (negR a.ok b (validV 2 (wrap64 (-m)) ⟨#[]⟩ 0) (wrap64 (-m))).2]) ∧ Below W.heap.size W w' := by
  unfold negR
  by_cases h0 : a.ok = false
  · rw [if_pos h0]; exact spec_Neg_bad a W hs h0
  rw [if_neg h0]
  by_cases h1 : b = false
  · rw [if_pos h1]; subst h1; exact spec_Neg_ty a W hs (tru' h0) m hy
  rw [if_neg h1]
  obtain rfl := tru' h1
  by_cases h2 : validV 2 (wrap64 (-m)) ⟨#[]⟩ 0 = false
  · rw [if_pos h2]; exact spec_Neg_no a W hs (tru' h0) m hy h2
  · rw [if_neg h2]; exact spec_Neg_yes a W hs (tru' h0) m hy (tru' h2)
end Go.Proofs.YtnckcfgaolekoaaDoor
