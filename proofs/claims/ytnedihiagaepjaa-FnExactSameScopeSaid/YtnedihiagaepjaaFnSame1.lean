/- Contract: loop.example/g00873/impl.sameFunction. No condition. -/
import Derived.Test.YtnedihiagaepjaaFnsEq
import Derived.Test.YtnedihiagaepjaaStSame
namespace Go.Proofs.Ytnedihiagaepjaa
open Go Go.RowKit

theorem sameFn_bool_sameFunction_any (x y : Fn) : tt (x = y) = ((x.name_.toList == y.name_.toList) && (tt (x.params_ = y.params_) && (tt (x.locals_ = y.locals_) && ((x.label_.toList == y.label_.toList))))) := by
  rw [Bool.eq_iff_iff]
  simp only [Bool.and_eq_true, tt_iff, beq_iff_eq]
  obtain ⟨a0, a1, a2, a3⟩ := x
  obtain ⟨b0, b1, b2, b3⟩ := y
  simp only [Fn.mk.injEq]
  constructor
  · rintro ⟨h0, h1, h2, h3⟩
    exact ⟨by rw [h0], h1, h2, by rw [h3]⟩
  · rintro ⟨h0, h1, h2, h3⟩
    exact ⟨WideShapes.bytes_inj (by rw [← ByteArray.toList_eq, ← ByteArray.toList_eq]; exact h0), h1, h2, WideShapes.bytes_inj (by rw [← ByteArray.toList_eq, ← ByteArray.toList_eq]; exact h3)⟩

set_option maxHeartbeats 4000000 in
set_option maxRecDepth 100000 in
theorem sameFunction_any (x y : Fn) (l l' : FnLay) (W : World) (hx : FnV W W.heap.size x l) (hy : FnV W W.heap.size y l') :
    Calls Try.prog 41 #[x.ag l, y.ag l'] W fun e w' => e = .returned (.bool (tt (x = y))) ∧ Below W.heap.size W w' := by
  rw [sameFn_bool_sameFunction_any]
  obtain ⟨x0, x1, x2, x3⟩ := x
  obtain ⟨y0, y1, y2, y3⟩ := y
  obtain ⟨A1, n1, c1, h1, A2, n2, c2, h2⟩ := l
  obtain ⟨A1', n1', c1', h1', A2', n2', c2', h2'⟩ := l'
  obtain ⟨k1, k2, k0, k3⟩ := hx
  obtain ⟨j1, j2, j0, j3⟩ := hy
  try unfold FnV at k1 j1 k2 j2 k0 j0 k3 j3
  dsimp only at k1 j1 k2 j2 k0 j0 k3 j3 ⊢
  have HK1 := Lib.hid k1
  have HJ1 := Lib.hid j1
  have HK2 := Lib.hid k2
  have HJ2 := Lib.hid j2
  clear k1 j1 k2 j2 k0 j0 k3 j3
  have HC := Lib.hid (two_new W 40 #[.string x0, .slice A1 n1 c1, .slice A2 n2 c2, .string x3] #[.string y0, .slice A1' n1' c1', .slice A2' n2' c2', .string y3])
  obtain ⟨z0, hz0⟩ : ∃ z, (x0.toList == y0.toList) = z := ⟨_, rfl⟩
  obtain ⟨z1, hz1⟩ : ∃ z, tt (x1 = y1) = z := ⟨_, rfl⟩
  have HZ1 := Lib.hid hz1
  obtain ⟨z2, hz2⟩ : ∃ z, tt (x2 = y2) = z := ⟨_, rfl⟩
  have HZ2 := Lib.hid hz2
  obtain ⟨z3, hz3⟩ : ∃ z, (x3.toList == y3.toList) = z := ⟨_, rfl⟩
  rw [hz0, hz1, hz2, hz3]
  clear hz1 hz2
  show Calls Try.prog 41 #[.agg #[.string x0, .slice A1 n1 c1, .slice A2 n2 c2, .string x3], .agg #[.string y0, .slice A1' n1' c1', .slice A2' n2' c2', .string y3]] W _
  cases z0
  · skip
    go_enter Try.func41, Try.ntmps41
    go_wp2_with fail
    go_ret
    exact ⟨rfl, (below_alloc _ _).alloc (by simp) _⟩
  cases z1
  · skip
    go_enter Try.func41, Try.ntmps41
    have tk1 : True := trivial
    go_wp2_with (go_at_call 78; have tk := tk1; obtain ⟨g0, g1, g2, g3⟩ := HC.out _ rfl; have HQ := equalStrings_any A1 A1' n1 n1' c1 c1' x1 y1 _ (HK1.out.go g2) (HJ1.out.go g2); refine Calls.mono HQ ?_; clear HQ; rintro e w1 ⟨rfl, hb⟩; rw [HZ1.out]; have HA1 := Lib.hid (g0.below hb (by omega)); have HD1 := Lib.hid (g1.below hb (by omega)); have HB1 := Lib.hid (g2.trans (hb.mono g2.size)); have HG1 : Hid (W.heap.size + 2 ≤ w1.heap.size) := (by have := hb.size; show _ ≤ _; omega); clear g0 g1 g2 g3 hb tk tk1)
    go_ret
    exact ⟨rfl, HB1.out⟩
  cases z2
  · skip
    go_enter Try.func41, Try.ntmps41
    have tk1 : True := trivial
    go_wp2_with (go_at_call 78; have tk := tk1; obtain ⟨g0, g1, g2, g3⟩ := HC.out _ rfl; have HQ := equalStrings_any A1 A1' n1 n1' c1 c1' x1 y1 _ (HK1.out.go g2) (HJ1.out.go g2); refine Calls.mono HQ ?_; clear HQ; rintro e w1 ⟨rfl, hb⟩; rw [HZ1.out]; have HA1 := Lib.hid (g0.below hb (by omega)); have HD1 := Lib.hid (g1.below hb (by omega)); have HB1 := Lib.hid (g2.trans (hb.mono g2.size)); have HG1 : Hid (W.heap.size + 2 ≤ w1.heap.size) := (by have := hb.size; show _ ≤ _; omega); have q12 : w1.cell? ⟨W.heap.size, 2, none⟩ = some (.slice A2 n2 c2) := HA1.out.cell 2; have p12 : w1.cell? ⟨W.heap.size + 1, 2, none⟩ = some (.slice A2' n2' c2') := HD1.out.cell 2; clear g0 g1 g2 g3 hb tk tk1)
    have tk2 : True := trivial
    go_wp2_with (go_at_call 78; have tk := tk2; have HQ := equalStrings_any A2 A2' n2 n2' c2 c2' x2 y2 _ (HK2.out.go HB1.out) (HJ2.out.go HB1.out); refine Calls.mono HQ ?_; clear HQ; rintro e w2 ⟨rfl, hb⟩; rw [HZ2.out]; have hg := HG1.out; have HA2 := Lib.hid (HA1.out.below hb (by omega)); have HD2 := Lib.hid (HD1.out.below hb (by omega)); have HB2 := Lib.hid (HB1.out.trans (hb.mono HB1.out.size)); have HG2 : Hid (W.heap.size + 2 ≤ w2.heap.size) := (Nat.le_trans hg hb.size); clear hg hb tk tk2)
    go_ret
    exact ⟨rfl, HB2.out⟩
  cases z3
  · skip
    go_enter Try.func41, Try.ntmps41
    have tk1 : True := trivial
    go_wp2_with (go_at_call 78; have tk := tk1; obtain ⟨g0, g1, g2, g3⟩ := HC.out _ rfl; have HQ := equalStrings_any A1 A1' n1 n1' c1 c1' x1 y1 _ (HK1.out.go g2) (HJ1.out.go g2); refine Calls.mono HQ ?_; clear HQ; rintro e w1 ⟨rfl, hb⟩; rw [HZ1.out]; have HA1 := Lib.hid (g0.below hb (by omega)); have HD1 := Lib.hid (g1.below hb (by omega)); have HB1 := Lib.hid (g2.trans (hb.mono g2.size)); have HG1 : Hid (W.heap.size + 2 ≤ w1.heap.size) := (by have := hb.size; show _ ≤ _; omega); have q12 : w1.cell? ⟨W.heap.size, 2, none⟩ = some (.slice A2 n2 c2) := HA1.out.cell 2; have p12 : w1.cell? ⟨W.heap.size + 1, 2, none⟩ = some (.slice A2' n2' c2') := HD1.out.cell 2; clear g0 g1 g2 g3 hb tk tk1)
    have tk2 : True := trivial
    go_wp2_with (go_at_call 78; have tk := tk2; have HQ := equalStrings_any A2 A2' n2 n2' c2 c2' x2 y2 _ (HK2.out.go HB1.out) (HJ2.out.go HB1.out); refine Calls.mono HQ ?_; clear HQ; rintro e w2 ⟨rfl, hb⟩; rw [HZ2.out]; have hg := HG1.out; have HA2 := Lib.hid (HA1.out.below hb (by omega)); have HD2 := Lib.hid (HD1.out.below hb (by omega)); have HB2 := Lib.hid (HB1.out.trans (hb.mono HB1.out.size)); have HG2 : Hid (W.heap.size + 2 ≤ w2.heap.size) := (Nat.le_trans hg hb.size); have q23 : w2.cell? ⟨W.heap.size, 3, none⟩ = some (.string x3) := HA2.out.cell 3; have p23 : w2.cell? ⟨W.heap.size + 1, 3, none⟩ = some (.string y3) := HD2.out.cell 3; clear hg hb tk tk2)
    go_ret
    exact ⟨rfl, HB2.out⟩
  go_enter Try.func41, Try.ntmps41
  have tk1 : True := trivial
  go_wp2_with (go_at_call 78; have tk := tk1; obtain ⟨g0, g1, g2, g3⟩ := HC.out _ rfl; have HQ := equalStrings_any A1 A1' n1 n1' c1 c1' x1 y1 _ (HK1.out.go g2) (HJ1.out.go g2); refine Calls.mono HQ ?_; clear HQ; rintro e w1 ⟨rfl, hb⟩; rw [HZ1.out]; have HA1 := Lib.hid (g0.below hb (by omega)); have HD1 := Lib.hid (g1.below hb (by omega)); have HB1 := Lib.hid (g2.trans (hb.mono g2.size)); have HG1 : Hid (W.heap.size + 2 ≤ w1.heap.size) := (by have := hb.size; show _ ≤ _; omega); have q12 : w1.cell? ⟨W.heap.size, 2, none⟩ = some (.slice A2 n2 c2) := HA1.out.cell 2; have p12 : w1.cell? ⟨W.heap.size + 1, 2, none⟩ = some (.slice A2' n2' c2') := HD1.out.cell 2; clear g0 g1 g2 g3 hb tk tk1)
  have tk2 : True := trivial
  go_wp2_with (go_at_call 78; have tk := tk2; have HQ := equalStrings_any A2 A2' n2 n2' c2 c2' x2 y2 _ (HK2.out.go HB1.out) (HJ2.out.go HB1.out); refine Calls.mono HQ ?_; clear HQ; rintro e w2 ⟨rfl, hb⟩; rw [HZ2.out]; have hg := HG1.out; have HA2 := Lib.hid (HA1.out.below hb (by omega)); have HD2 := Lib.hid (HD1.out.below hb (by omega)); have HB2 := Lib.hid (HB1.out.trans (hb.mono HB1.out.size)); have HG2 : Hid (W.heap.size + 2 ≤ w2.heap.size) := (Nat.le_trans hg hb.size); have q23 : w2.cell? ⟨W.heap.size, 3, none⟩ = some (.string x3) := HA2.out.cell 3; have p23 : w2.cell? ⟨W.heap.size + 1, 3, none⟩ = some (.string y3) := HD2.out.cell 3; clear hg hb tk tk2)
  go_ret
  exact ⟨rfl, HB2.out⟩
end Go.Proofs.Ytnedihiagaepjaa
