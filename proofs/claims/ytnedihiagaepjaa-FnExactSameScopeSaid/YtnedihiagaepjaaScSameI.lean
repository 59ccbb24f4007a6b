/- Contract: loop.example/g00873/impl.SameScope. No condition. -/
import Derived.Test.YtnedihiagaepjaaScsEq
import Derived.Test.YtnedihiagaepjaaBdSame
import Derived.Test.YtnedihiagaepjaaFnSame
import Derived.Test.YtnedihiagaepjaaRtSame
namespace Go.Proofs.Ytnedihiagaepjaa
open Go Go.RowKit

theorem sameSc_bool_impl_SameScope_any (x y : Sc) : tt (x = y) = (tt (x.vars_ = y.vars_) && (tt (x.functions_ = y.functions_) && (tt (x.types_ = y.types_)))) := by
  rw [Bool.eq_iff_iff]
  simp only [Bool.and_eq_true, tt_iff, beq_iff_eq]
  obtain ⟨a0, a1, a2⟩ := x
  obtain ⟨b0, b1, b2⟩ := y
  simp only [Sc.mk.injEq]

set_option maxHeartbeats 4000000 in
set_option maxRecDepth 100000 in
theorem impl_SameScope_any (x y : Sc) (l l' : ScLay) (W : World) (hx : ScV W W.heap.size x l) (hy : ScV W W.heap.size y l') :
    Calls Try.prog 11 #[x.ag l, y.ag l'] W fun e w' => e = .returned (.bool (tt (x = y))) ∧ Below W.heap.size W w' := by
  rw [sameSc_bool_impl_SameScope_any]
  obtain ⟨x0, x1, x2⟩ := x
  obtain ⟨y0, y1, y2⟩ := y
  obtain ⟨A0, n0, c0, h0, A1, n1, c1, h1, A2, n2, c2, h2⟩ := l
  obtain ⟨A0', n0', c0', h0', A1', n1', c1', h1', A2', n2', c2', h2'⟩ := l'
  obtain ⟨k0, k1, k2⟩ := hx
  obtain ⟨j0, j1, j2⟩ := hy
  try unfold ScV at k0 j0 k1 j1 k2 j2
  dsimp only at k0 j0 k1 j1 k2 j2 ⊢
  have HK0 := Lib.hid k0
  have HJ0 := Lib.hid j0
  have HK1 := Lib.hid k1
  have HJ1 := Lib.hid j1
  have HK2 := Lib.hid k2
  have HJ2 := Lib.hid j2
  clear k0 j0 k1 j1 k2 j2
  have HC := Lib.hid (two_new W 33 #[.slice A0 n0 c0, .slice A1 n1 c1, .slice A2 n2 c2] #[.slice A0' n0' c0', .slice A1' n1' c1', .slice A2' n2' c2'])
  obtain ⟨z0, hz0⟩ : ∃ z, tt (x0 = y0) = z := ⟨_, rfl⟩
  have HZ0 := Lib.hid hz0
  obtain ⟨z1, hz1⟩ : ∃ z, tt (x1 = y1) = z := ⟨_, rfl⟩
  have HZ1 := Lib.hid hz1
  obtain ⟨z2, hz2⟩ : ∃ z, tt (x2 = y2) = z := ⟨_, rfl⟩
  have HZ2 := Lib.hid hz2
  rw [hz0, hz1, hz2]
  clear hz0 hz1 hz2
  show Calls Try.prog 11 #[.agg #[.slice A0 n0 c0, .slice A1 n1 c1, .slice A2 n2 c2], .agg #[.slice A0' n0' c0', .slice A1' n1' c1', .slice A2' n2' c2']] W _
  cases z0
  · skip
    go_enter Try.func11, Try.ntmps11
    have tk1 : True := trivial
    go_wp2_with (go_at_call 39; have tk := tk1; obtain ⟨g0, g1, g2, g3⟩ := HC.out _ rfl; have HQ := equalBindings_any A0 A0' n0 n0' c0 c0' x0 y0 _ (HK0.out.go g2) (HJ0.out.go g2); refine Calls.mono HQ ?_; clear HQ; rintro e w1 ⟨rfl, hb⟩; rw [HZ0.out]; have HA1 := Lib.hid (g0.below hb (by omega)); have HD1 := Lib.hid (g1.below hb (by omega)); have HB1 := Lib.hid (g2.trans (hb.mono g2.size)); have HG1 : Hid (W.heap.size + 2 ≤ w1.heap.size) := (by have := hb.size; show _ ≤ _; omega); clear g0 g1 g2 g3 hb tk tk1)
    go_ret
    exact ⟨rfl, HB1.out⟩
  cases z1
  · skip
    go_enter Try.func11, Try.ntmps11
    have tk1 : True := trivial
    go_wp2_with (go_at_call 39; have tk := tk1; obtain ⟨g0, g1, g2, g3⟩ := HC.out _ rfl; have HQ := equalBindings_any A0 A0' n0 n0' c0 c0' x0 y0 _ (HK0.out.go g2) (HJ0.out.go g2); refine Calls.mono HQ ?_; clear HQ; rintro e w1 ⟨rfl, hb⟩; rw [HZ0.out]; have HA1 := Lib.hid (g0.below hb (by omega)); have HD1 := Lib.hid (g1.below hb (by omega)); have HB1 := Lib.hid (g2.trans (hb.mono g2.size)); have HG1 : Hid (W.heap.size + 2 ≤ w1.heap.size) := (by have := hb.size; show _ ≤ _; omega); have q11 : w1.cell? ⟨W.heap.size, 1, none⟩ = some (.slice A1 n1 c1) := HA1.out.cell 1; have p11 : w1.cell? ⟨W.heap.size + 1, 1, none⟩ = some (.slice A1' n1' c1') := HD1.out.cell 1; clear g0 g1 g2 g3 hb tk tk1)
    have tk2 : True := trivial
    go_wp2_with (go_at_call 40; have tk := tk2; have HQ := equalFuncF_any A1 A1' n1 n1' c1 c1' x1 y1 _ (HK1.out.go HB1.out) (HJ1.out.go HB1.out); refine Calls.mono HQ ?_; clear HQ; rintro e w2 ⟨rfl, hb⟩; rw [HZ1.out]; have hg := HG1.out; have HA2 := Lib.hid (HA1.out.below hb (by omega)); have HD2 := Lib.hid (HD1.out.below hb (by omega)); have HB2 := Lib.hid (HB1.out.trans (hb.mono HB1.out.size)); have HG2 : Hid (W.heap.size + 2 ≤ w2.heap.size) := (Nat.le_trans hg hb.size); clear hg hb tk tk2)
    go_ret
    exact ⟨rfl, HB2.out⟩
  cases z2
  · skip
    go_enter Try.func11, Try.ntmps11
    have tk1 : True := trivial
    go_wp2_with (go_at_call 39; have tk := tk1; obtain ⟨g0, g1, g2, g3⟩ := HC.out _ rfl; have HQ := equalBindings_any A0 A0' n0 n0' c0 c0' x0 y0 _ (HK0.out.go g2) (HJ0.out.go g2); refine Calls.mono HQ ?_; clear HQ; rintro e w1 ⟨rfl, hb⟩; rw [HZ0.out]; have HA1 := Lib.hid (g0.below hb (by omega)); have HD1 := Lib.hid (g1.below hb (by omega)); have HB1 := Lib.hid (g2.trans (hb.mono g2.size)); have HG1 : Hid (W.heap.size + 2 ≤ w1.heap.size) := (by have := hb.size; show _ ≤ _; omega); have q11 : w1.cell? ⟨W.heap.size, 1, none⟩ = some (.slice A1 n1 c1) := HA1.out.cell 1; have p11 : w1.cell? ⟨W.heap.size + 1, 1, none⟩ = some (.slice A1' n1' c1') := HD1.out.cell 1; clear g0 g1 g2 g3 hb tk tk1)
    have tk2 : True := trivial
    go_wp2_with (go_at_call 40; have tk := tk2; have HQ := equalFuncF_any A1 A1' n1 n1' c1 c1' x1 y1 _ (HK1.out.go HB1.out) (HJ1.out.go HB1.out); refine Calls.mono HQ ?_; clear HQ; rintro e w2 ⟨rfl, hb⟩; rw [HZ1.out]; have hg := HG1.out; have HA2 := Lib.hid (HA1.out.below hb (by omega)); have HD2 := Lib.hid (HD1.out.below hb (by omega)); have HB2 := Lib.hid (HB1.out.trans (hb.mono HB1.out.size)); have HG2 : Hid (W.heap.size + 2 ≤ w2.heap.size) := (Nat.le_trans hg hb.size); have q22 : w2.cell? ⟨W.heap.size, 2, none⟩ = some (.slice A2 n2 c2) := HA2.out.cell 2; have p22 : w2.cell? ⟨W.heap.size + 1, 2, none⟩ = some (.slice A2' n2' c2') := HD2.out.cell 2; clear hg hb tk tk2)
    have tk3 : True := trivial
    go_wp2_with (go_at_call 42; have tk := tk3; have HQ := equalFuncT_any A2 A2' n2 n2' c2 c2' x2 y2 _ (HK2.out.go HB2.out) (HJ2.out.go HB2.out); refine Calls.mono HQ ?_; clear HQ; rintro e w3 ⟨rfl, hb⟩; rw [HZ2.out]; have hg := HG2.out; have HA3 := Lib.hid (HA2.out.below hb (by omega)); have HD3 := Lib.hid (HD2.out.below hb (by omega)); have HB3 := Lib.hid (HB2.out.trans (hb.mono HB2.out.size)); have HG3 : Hid (W.heap.size + 2 ≤ w3.heap.size) := (Nat.le_trans hg hb.size); clear hg hb tk tk3)
    go_ret
    exact ⟨rfl, HB3.out⟩
  go_enter Try.func11, Try.ntmps11
  have tk1 : True := trivial
  go_wp2_with (go_at_call 39; have tk := tk1; obtain ⟨g0, g1, g2, g3⟩ := HC.out _ rfl; have HQ := equalBindings_any A0 A0' n0 n0' c0 c0' x0 y0 _ (HK0.out.go g2) (HJ0.out.go g2); refine Calls.mono HQ ?_; clear HQ; rintro e w1 ⟨rfl, hb⟩; rw [HZ0.out]; have HA1 := Lib.hid (g0.below hb (by omega)); have HD1 := Lib.hid (g1.below hb (by omega)); have HB1 := Lib.hid (g2.trans (hb.mono g2.size)); have HG1 : Hid (W.heap.size + 2 ≤ w1.heap.size) := (by have := hb.size; show _ ≤ _; omega); have q11 : w1.cell? ⟨W.heap.size, 1, none⟩ = some (.slice A1 n1 c1) := HA1.out.cell 1; have p11 : w1.cell? ⟨W.heap.size + 1, 1, none⟩ = some (.slice A1' n1' c1') := HD1.out.cell 1; clear g0 g1 g2 g3 hb tk tk1)
  have tk2 : True := trivial
  go_wp2_with (go_at_call 40; have tk := tk2; have HQ := equalFuncF_any A1 A1' n1 n1' c1 c1' x1 y1 _ (HK1.out.go HB1.out) (HJ1.out.go HB1.out); refine Calls.mono HQ ?_; clear HQ; rintro e w2 ⟨rfl, hb⟩; rw [HZ1.out]; have hg := HG1.out; have HA2 := Lib.hid (HA1.out.below hb (by omega)); have HD2 := Lib.hid (HD1.out.below hb (by omega)); have HB2 := Lib.hid (HB1.out.trans (hb.mono HB1.out.size)); have HG2 : Hid (W.heap.size + 2 ≤ w2.heap.size) := (Nat.le_trans hg hb.size); have q22 : w2.cell? ⟨W.heap.size, 2, none⟩ = some (.slice A2 n2 c2) := HA2.out.cell 2; have p22 : w2.cell? ⟨W.heap.size + 1, 2, none⟩ = some (.slice A2' n2' c2') := HD2.out.cell 2; clear hg hb tk tk2)
  have tk3 : True := trivial
  go_wp2_with (go_at_call 42; have tk := tk3; have HQ := equalFuncT_any A2 A2' n2 n2' c2 c2' x2 y2 _ (HK2.out.go HB2.out) (HJ2.out.go HB2.out); refine Calls.mono HQ ?_; clear HQ; rintro e w3 ⟨rfl, hb⟩; rw [HZ2.out]; have hg := HG2.out; have HA3 := Lib.hid (HA2.out.below hb (by omega)); have HD3 := Lib.hid (HD2.out.below hb (by omega)); have HB3 := Lib.hid (HB2.out.trans (hb.mono HB2.out.size)); have HG3 : Hid (W.heap.size + 2 ≤ w3.heap.size) := (Nat.le_trans hg hb.size); clear hg hb tk tk3)
  go_ret
  exact ⟨rfl, HB3.out⟩
end Go.Proofs.Ytnedihiagaepjaa
