/- Contract: the program's ValidScope. Condition: the table holds what the program's text lays. -/
import Derived.Test.YtnedihiagaepjaaDoorLimBd
import Derived.Test.YtnedihiagaepjaaDoorLimFn
import Derived.Test.YtnedihiagaepjaaDoorLimRt
namespace Go.Proofs.YtnedihiagaepjaaDoor
open Go Go.RowKit

theorem vars_any (A0 A1 A2 : Option Addr) (n0 c0 n1 c1 n2 c2 : Nat) (W : World) : Calls Tryd.prog 53 #[.agg #[.slice A0 n0 c0, .slice A1 n1 c1, .slice A2 n2 c2]] W fun e w' => e = .returned (.slice A0 n0 c0) ∧ Below W.heap.size W w' := by
  go_enter Tryd.func53, Tryd.ntmps53
  go_wp2_with fail
  go_ret
  exact ⟨rfl, below_alloc _ _⟩
theorem functions_any (A0 A1 A2 : Option Addr) (n0 c0 n1 c1 n2 c2 : Nat) (W : World) : Calls Tryd.prog 55 #[.agg #[.slice A0 n0 c0, .slice A1 n1 c1, .slice A2 n2 c2]] W fun e w' => e = .returned (.slice A1 n1 c1) ∧ Below W.heap.size W w' := by
  go_enter Tryd.func55, Tryd.ntmps55
  go_wp2_with fail
  go_ret
  exact ⟨rfl, below_alloc _ _⟩
theorem types_any (A0 A1 A2 : Option Addr) (n0 c0 n1 c1 n2 c2 : Nat) (W : World) : Calls Tryd.prog 57 #[.agg #[.slice A0 n0 c0, .slice A1 n1 c1, .slice A2 n2 c2]] W fun e w' => e = .returned (.slice A2 n2 c2) ∧ Below W.heap.size W w' := by
  go_enter Tryd.func57, Tryd.ntmps57
  go_wp2_with fail
  go_ret
  exact ⟨rfl, below_alloc _ _⟩

theorem scOk_bool (x : Sc) : tt (ScOk x) = (tt (ListOk bdOk Bd.name_ 40 x.vars_) && (tt (ListOk fnOk Fn.name_ 12 x.functions_) && tt (ListOk rtOk Rt.name_ 8 x.types_))) := by
  rw [Bool.eq_iff_iff]
  simp only [Bool.and_eq_true, tt_iff]
  rfl
set_option maxHeartbeats 4000000 in
set_option maxRecDepth 100000 in
theorem impl_ValidScope_any (x : Sc) (l : ScLay) (W : World) (hv : ScV W W.heap.size x l) (hT : Classes W) :
    Calls Tryd.prog 30 #[x.ag l] W fun e w' => e = .returned (.bool (tt (ScOk x))) ∧ Below W.heap.size W w' := by
  rw [scOk_bool]
  obtain ⟨x0, x1, x2⟩ := x
  obtain ⟨A0, n0, c0, h0, A1, n1, c1, h1, A2, n2, c2, h2⟩ := l
  obtain ⟨k0, k1, k2⟩ := hv
  dsimp only at k0 k1 k2 ⊢
  show Calls Tryd.prog 30 #[.agg #[.slice A0 n0 c0, .slice A1 n1 c1, .slice A2 n2 c2]] W _
  have HX0 := Lib.hid k0
  have HX1 := Lib.hid k1
  have HX2 := Lib.hid k2
  have HC := Lib.hid (one_newS W 36 #[.slice A0 n0 c0, .slice A1 n1 c1, .slice A2 n2 c2])
  have HT := Lib.hid (fun (w : World) (hb : Below W.heap.size W w) => classes_up hT hb)
  obtain ⟨z0, hz0⟩ : ∃ z, tt (ListOk bdOk Bd.name_ 40 x0) = z := ⟨_, rfl⟩
  obtain ⟨z1, hz1⟩ : ∃ z, tt (ListOk fnOk Fn.name_ 12 x1) = z := ⟨_, rfl⟩
  obtain ⟨z2, hz2⟩ : ∃ z, tt (ListOk rtOk Rt.name_ 8 x2) = z := ⟨_, rfl⟩
  rw [hz0, hz1, hz2]
  have HZ0 := Lib.hid hz0
  have HZ1 := Lib.hid hz1
  have HZ2 := Lib.hid hz2
  clear hz0 hz1 hz2 k0 k1 k2 hT
  cases z0
  · go_enter Tryd.func30, Tryd.ntmps30
    go_wp2_with (first | (go_at_call 53; obtain ⟨g0, g1, g2⟩ := HC.out _ rfl; refine (vars_any A0 A1 A2 n0 c0 n1 c1 n2 c2 _).mono ?_; rintro e w1 ⟨rfl, hb⟩; have HB1 := Lib.hid (g1.trans (hb.mono g1.size)); have HA1 := Lib.hid (g0.below hb g2); clear g0 g1 g2 hb) | (go_at_call 54; have HQ := withinBd_any A0 n0 c0 40 x0 w1 (HX0.out.go HB1.out) (by decide) (HT.out _ HB1.out); refine Calls.mono HQ ?_; clear HQ; rintro e w2 ⟨rfl, hb⟩; rw [HZ0.out]; have HB2 := Lib.hid (HB1.out.trans (hb.mono HB1.out.size)); have HA2 := Lib.hid (HA1.out.below hb HA1.out.lt); have q0 : w2.cell? ⟨W.heap.size, 0, none⟩ = some (.slice A0 n0 c0) := HA2.out.cell 0; have q1 : w2.cell? ⟨W.heap.size, 1, none⟩ = some (.slice A1 n1 c1) := HA2.out.cell 1; have q2 : w2.cell? ⟨W.heap.size, 2, none⟩ = some (.slice A2 n2 c2) := HA2.out.cell 2; clear hb))
    go_ret
    exact ⟨rfl, HB2.out⟩
  cases z1
  · go_enter Tryd.func30, Tryd.ntmps30
    go_wp2_with (first | (go_at_call 53; obtain ⟨g0, g1, g2⟩ := HC.out _ rfl; refine (vars_any A0 A1 A2 n0 c0 n1 c1 n2 c2 _).mono ?_; rintro e w1 ⟨rfl, hb⟩; have HB1 := Lib.hid (g1.trans (hb.mono g1.size)); have HA1 := Lib.hid (g0.below hb g2); clear g0 g1 g2 hb) | (go_at_call 54; have HQ := withinBd_any A0 n0 c0 40 x0 w1 (HX0.out.go HB1.out) (by decide) (HT.out _ HB1.out); refine Calls.mono HQ ?_; clear HQ; rintro e w2 ⟨rfl, hb⟩; rw [HZ0.out]; have HB2 := Lib.hid (HB1.out.trans (hb.mono HB1.out.size)); have HA2 := Lib.hid (HA1.out.below hb HA1.out.lt); have q0 : w2.cell? ⟨W.heap.size, 0, none⟩ = some (.slice A0 n0 c0) := HA2.out.cell 0; have q1 : w2.cell? ⟨W.heap.size, 1, none⟩ = some (.slice A1 n1 c1) := HA2.out.cell 1; have q2 : w2.cell? ⟨W.heap.size, 2, none⟩ = some (.slice A2 n2 c2) := HA2.out.cell 2; clear hb) | (go_at_call 55; refine (functions_any A0 A1 A2 n0 c0 n1 c1 n2 c2 _).mono ?_; rintro e w3 ⟨rfl, hb⟩; have HB3 := Lib.hid (HB2.out.trans (hb.mono HB2.out.size)); have HA3 := Lib.hid (HA2.out.below hb HA2.out.lt); clear hb q0 q1 q2) | (go_at_call 56; have HQ := withinFn_any A1 n1 c1 12 x1 w3 (HX1.out.go HB3.out) (by decide) (HT.out _ HB3.out); refine Calls.mono HQ ?_; clear HQ; rintro e w4 ⟨rfl, hb⟩; rw [HZ1.out]; have HB4 := Lib.hid (HB3.out.trans (hb.mono HB3.out.size)); have HA4 := Lib.hid (HA3.out.below hb HA3.out.lt); have q0 : w4.cell? ⟨W.heap.size, 0, none⟩ = some (.slice A0 n0 c0) := HA4.out.cell 0; have q1 : w4.cell? ⟨W.heap.size, 1, none⟩ = some (.slice A1 n1 c1) := HA4.out.cell 1; have q2 : w4.cell? ⟨W.heap.size, 2, none⟩ = some (.slice A2 n2 c2) := HA4.out.cell 2; clear hb))
    go_ret
    exact ⟨rfl, HB4.out⟩
  cases z2
  all_goals
    go_enter Tryd.func30, Tryd.ntmps30
    go_wp2_with (first | (go_at_call 53; obtain ⟨g0, g1, g2⟩ := HC.out _ rfl; refine (vars_any A0 A1 A2 n0 c0 n1 c1 n2 c2 _).mono ?_; rintro e w1 ⟨rfl, hb⟩; have HB1 := Lib.hid (g1.trans (hb.mono g1.size)); have HA1 := Lib.hid (g0.below hb g2); clear g0 g1 g2 hb) | (go_at_call 54; have HQ := withinBd_any A0 n0 c0 40 x0 w1 (HX0.out.go HB1.out) (by decide) (HT.out _ HB1.out); refine Calls.mono HQ ?_; clear HQ; rintro e w2 ⟨rfl, hb⟩; rw [HZ0.out]; have HB2 := Lib.hid (HB1.out.trans (hb.mono HB1.out.size)); have HA2 := Lib.hid (HA1.out.below hb HA1.out.lt); have q0 : w2.cell? ⟨W.heap.size, 0, none⟩ = some (.slice A0 n0 c0) := HA2.out.cell 0; have q1 : w2.cell? ⟨W.heap.size, 1, none⟩ = some (.slice A1 n1 c1) := HA2.out.cell 1; have q2 : w2.cell? ⟨W.heap.size, 2, none⟩ = some (.slice A2 n2 c2) := HA2.out.cell 2; clear hb) | (go_at_call 55; refine (functions_any A0 A1 A2 n0 c0 n1 c1 n2 c2 _).mono ?_; rintro e w3 ⟨rfl, hb⟩; have HB3 := Lib.hid (HB2.out.trans (hb.mono HB2.out.size)); have HA3 := Lib.hid (HA2.out.below hb HA2.out.lt); clear hb q0 q1 q2) | (go_at_call 56; have HQ := withinFn_any A1 n1 c1 12 x1 w3 (HX1.out.go HB3.out) (by decide) (HT.out _ HB3.out); refine Calls.mono HQ ?_; clear HQ; rintro e w4 ⟨rfl, hb⟩; rw [HZ1.out]; have HB4 := Lib.hid (HB3.out.trans (hb.mono HB3.out.size)); have HA4 := Lib.hid (HA3.out.below hb HA3.out.lt); have q0 : w4.cell? ⟨W.heap.size, 0, none⟩ = some (.slice A0 n0 c0) := HA4.out.cell 0; have q1 : w4.cell? ⟨W.heap.size, 1, none⟩ = some (.slice A1 n1 c1) := HA4.out.cell 1; have q2 : w4.cell? ⟨W.heap.size, 2, none⟩ = some (.slice A2 n2 c2) := HA4.out.cell 2; clear hb) | (go_at_call 57; refine (types_any A0 A1 A2 n0 c0 n1 c1 n2 c2 _).mono ?_; rintro e w5 ⟨rfl, hb⟩; have HB5 := Lib.hid (HB4.out.trans (hb.mono HB4.out.size)); have HA5 := Lib.hid (HA4.out.below hb HA4.out.lt); clear hb q0 q1 q2) | (go_at_call 58; have HQ := withinRt_any A2 n2 c2 8 x2 w5 (HX2.out.go HB5.out) (by decide) (HT.out _ HB5.out); refine Calls.mono HQ ?_; clear HQ; rintro e w6 ⟨rfl, hb⟩; rw [HZ2.out]; have HB6 := Lib.hid (HB5.out.trans (hb.mono HB5.out.size)); have HA6 := Lib.hid (HA5.out.below hb HA5.out.lt); have q0 : w6.cell? ⟨W.heap.size, 0, none⟩ = some (.slice A0 n0 c0) := HA6.out.cell 0; have q1 : w6.cell? ⟨W.heap.size, 1, none⟩ = some (.slice A1 n1 c1) := HA6.out.cell 1; have q2 : w6.cell? ⟨W.heap.size, 2, none⟩ = some (.slice A2 n2 c2) := HA6.out.cell 2; clear hb))
    go_ret
    exact ⟨rfl, HB6.out⟩
end Go.Proofs.YtnedihiagaepjaaDoor
