/- Contract: loop.example/g00873/impl.SameConsole. No condition. -/
import Derived.Test.YtjhemdgeafglhaaCnsEq
import Derived.Test.YtjhemdgeafglhaaStSame
import Derived.Test.YtjhemdgeafglhaaFlSame
namespace Go.Proofs.Ytjhemdgeafglhaa
open Go Go.RowKit

theorem sameCn_bool_impl_SameConsole_any (x y : Cn) : tt (x = y) = (tt (x.input_ = y.input_) && ((x.at_ == y.at_) && (tt (x.output_ = y.output_) && (tt (x.files_ = y.files_) && (tt (x.trace_ = y.trace_)))))) := by
  rw [Bool.eq_iff_iff]
  simp only [Bool.and_eq_true, tt_iff, beq_iff_eq]
  obtain ⟨a0, a1, a2, a3, a4⟩ := x
  obtain ⟨b0, b1, b2, b3, b4⟩ := y
  simp only [Cn.mk.injEq]

set_option maxHeartbeats 4000000 in
set_option maxRecDepth 100000 in
theorem impl_SameConsole_any (x y : Cn) (l l' : CnLay) (W : World) (hx : CnV W W.heap.size x l) (hy : CnV W W.heap.size y l') :
    Calls Try.prog 8 #[x.ag l, y.ag l'] W fun e w' => e = .returned (.bool (tt (x = y))) ∧ Below W.heap.size W w' := by
  rw [sameCn_bool_impl_SameConsole_any]
  obtain ⟨x0, x1, x2, x3, x4⟩ := x
  obtain ⟨y0, y1, y2, y3, y4⟩ := y
  obtain ⟨A0, n0, c0, h0, A2, n2, c2, h2, A3, n3, c3, h3, A4, n4, c4, h4⟩ := l
  obtain ⟨A0', n0', c0', h0', A2', n2', c2', h2', A3', n3', c3', h3', A4', n4', c4', h4'⟩ := l'
  obtain ⟨k0, k2, k3, k4⟩ := hx
  obtain ⟨j0, j2, j3, j4⟩ := hy
  try unfold CnV at k0 j0 k2 j2 k3 j3 k4 j4
  dsimp only at k0 j0 k2 j2 k3 j3 k4 j4 ⊢
  have HK0 := Lib.hid k0
  have HJ0 := Lib.hid j0
  have HK2 := Lib.hid k2
  have HJ2 := Lib.hid j2
  have HK3 := Lib.hid k3
  have HJ3 := Lib.hid j3
  have HK4 := Lib.hid k4
  have HJ4 := Lib.hid j4
  clear k0 j0 k2 j2 k3 j3 k4 j4
  have HC := Lib.hid (two_new W 30 #[.slice A0 n0 c0, .int .i64 x1, .slice A2 n2 c2, .slice A3 n3 c3, .slice A4 n4 c4] #[.slice A0' n0' c0', .int .i64 y1, .slice A2' n2' c2', .slice A3' n3' c3', .slice A4' n4' c4'])
  obtain ⟨z0, hz0⟩ : ∃ z, tt (x0 = y0) = z := ⟨_, rfl⟩
  have HZ0 := Lib.hid hz0
  obtain ⟨z1, hz1⟩ : ∃ z, (x1 == y1) = z := ⟨_, rfl⟩
  obtain ⟨z2, hz2⟩ : ∃ z, tt (x2 = y2) = z := ⟨_, rfl⟩
  have HZ2 := Lib.hid hz2
  obtain ⟨z3, hz3⟩ : ∃ z, tt (x3 = y3) = z := ⟨_, rfl⟩
  have HZ3 := Lib.hid hz3
  obtain ⟨z4, hz4⟩ : ∃ z, tt (x4 = y4) = z := ⟨_, rfl⟩
  have HZ4 := Lib.hid hz4
  rw [hz0, hz1, hz2, hz3, hz4]
  clear hz0 hz2 hz3 hz4
  show Calls Try.prog 8 #[.agg #[.slice A0 n0 c0, .int .i64 x1, .slice A2 n2 c2, .slice A3 n3 c3, .slice A4 n4 c4], .agg #[.slice A0' n0' c0', .int .i64 y1, .slice A2' n2' c2', .slice A3' n3' c3', .slice A4' n4' c4']] W _
  cases z0
  · skip
    go_enter Try.func8, Try.ntmps8
    have tk1 : True := trivial
    go_wp2_with (go_at_call 21; have tk := tk1; obtain ⟨g0, g1, g2, g3⟩ := HC.out _ rfl; have HQ := equalStrings_any A0 A0' n0 n0' c0 c0' x0 y0 _ (HK0.out.go g2) (HJ0.out.go g2); refine Calls.mono HQ ?_; clear HQ; rintro e w1 ⟨rfl, hb⟩; rw [HZ0.out]; have HA1 := Lib.hid (g0.below hb (by omega)); have HD1 := Lib.hid (g1.below hb (by omega)); have HB1 := Lib.hid (g2.trans (hb.mono g2.size)); have HG1 : Hid (W.heap.size + 2 ≤ w1.heap.size) := (by have := hb.size; show _ ≤ _; omega); clear g0 g1 g2 g3 hb tk tk1)
    go_ret
    exact ⟨rfl, HB1.out⟩
  cases z1
  · skip
    go_enter Try.func8, Try.ntmps8
    have tk1 : True := trivial
    go_wp2_with (go_at_call 21; have tk := tk1; obtain ⟨g0, g1, g2, g3⟩ := HC.out _ rfl; have HQ := equalStrings_any A0 A0' n0 n0' c0 c0' x0 y0 _ (HK0.out.go g2) (HJ0.out.go g2); refine Calls.mono HQ ?_; clear HQ; rintro e w1 ⟨rfl, hb⟩; rw [HZ0.out]; have HA1 := Lib.hid (g0.below hb (by omega)); have HD1 := Lib.hid (g1.below hb (by omega)); have HB1 := Lib.hid (g2.trans (hb.mono g2.size)); have HG1 : Hid (W.heap.size + 2 ≤ w1.heap.size) := (by have := hb.size; show _ ≤ _; omega); have q11 : w1.cell? ⟨W.heap.size, 1, none⟩ = some (.int .i64 x1) := HA1.out.cell 1; have p11 : w1.cell? ⟨W.heap.size + 1, 1, none⟩ = some (.int .i64 y1) := HD1.out.cell 1; clear g0 g1 g2 g3 hb tk tk1)
    go_ret
    exact ⟨rfl, HB1.out⟩
  cases z2
  · skip
    go_enter Try.func8, Try.ntmps8
    have tk1 : True := trivial
    go_wp2_with (go_at_call 21; have tk := tk1; obtain ⟨g0, g1, g2, g3⟩ := HC.out _ rfl; have HQ := equalStrings_any A0 A0' n0 n0' c0 c0' x0 y0 _ (HK0.out.go g2) (HJ0.out.go g2); refine Calls.mono HQ ?_; clear HQ; rintro e w1 ⟨rfl, hb⟩; rw [HZ0.out]; have HA1 := Lib.hid (g0.below hb (by omega)); have HD1 := Lib.hid (g1.below hb (by omega)); have HB1 := Lib.hid (g2.trans (hb.mono g2.size)); have HG1 : Hid (W.heap.size + 2 ≤ w1.heap.size) := (by have := hb.size; show _ ≤ _; omega); have q11 : w1.cell? ⟨W.heap.size, 1, none⟩ = some (.int .i64 x1) := HA1.out.cell 1; have p11 : w1.cell? ⟨W.heap.size + 1, 1, none⟩ = some (.int .i64 y1) := HD1.out.cell 1; have q12 : w1.cell? ⟨W.heap.size, 2, none⟩ = some (.slice A2 n2 c2) := HA1.out.cell 2; have p12 : w1.cell? ⟨W.heap.size + 1, 2, none⟩ = some (.slice A2' n2' c2') := HD1.out.cell 2; clear g0 g1 g2 g3 hb tk tk1)
    have tk2 : True := trivial
    go_wp2_with (go_at_call 21; have tk := tk2; have HQ := equalStrings_any A2 A2' n2 n2' c2 c2' x2 y2 _ (HK2.out.go HB1.out) (HJ2.out.go HB1.out); refine Calls.mono HQ ?_; clear HQ; rintro e w2 ⟨rfl, hb⟩; rw [HZ2.out]; have hg := HG1.out; have HA2 := Lib.hid (HA1.out.below hb (by omega)); have HD2 := Lib.hid (HD1.out.below hb (by omega)); have HB2 := Lib.hid (HB1.out.trans (hb.mono HB1.out.size)); have HG2 : Hid (W.heap.size + 2 ≤ w2.heap.size) := (Nat.le_trans hg hb.size); clear hg hb tk tk2)
    go_ret
    exact ⟨rfl, HB2.out⟩
  cases z3
  · skip
    go_enter Try.func8, Try.ntmps8
    have tk1 : True := trivial
    go_wp2_with (go_at_call 21; have tk := tk1; obtain ⟨g0, g1, g2, g3⟩ := HC.out _ rfl; have HQ := equalStrings_any A0 A0' n0 n0' c0 c0' x0 y0 _ (HK0.out.go g2) (HJ0.out.go g2); refine Calls.mono HQ ?_; clear HQ; rintro e w1 ⟨rfl, hb⟩; rw [HZ0.out]; have HA1 := Lib.hid (g0.below hb (by omega)); have HD1 := Lib.hid (g1.below hb (by omega)); have HB1 := Lib.hid (g2.trans (hb.mono g2.size)); have HG1 : Hid (W.heap.size + 2 ≤ w1.heap.size) := (by have := hb.size; show _ ≤ _; omega); have q11 : w1.cell? ⟨W.heap.size, 1, none⟩ = some (.int .i64 x1) := HA1.out.cell 1; have p11 : w1.cell? ⟨W.heap.size + 1, 1, none⟩ = some (.int .i64 y1) := HD1.out.cell 1; have q12 : w1.cell? ⟨W.heap.size, 2, none⟩ = some (.slice A2 n2 c2) := HA1.out.cell 2; have p12 : w1.cell? ⟨W.heap.size + 1, 2, none⟩ = some (.slice A2' n2' c2') := HD1.out.cell 2; clear g0 g1 g2 g3 hb tk tk1)
    have tk2 : True := trivial
    go_wp2_with (go_at_call 21; have tk := tk2; have HQ := equalStrings_any A2 A2' n2 n2' c2 c2' x2 y2 _ (HK2.out.go HB1.out) (HJ2.out.go HB1.out); refine Calls.mono HQ ?_; clear HQ; rintro e w2 ⟨rfl, hb⟩; rw [HZ2.out]; have hg := HG1.out; have HA2 := Lib.hid (HA1.out.below hb (by omega)); have HD2 := Lib.hid (HD1.out.below hb (by omega)); have HB2 := Lib.hid (HB1.out.trans (hb.mono HB1.out.size)); have HG2 : Hid (W.heap.size + 2 ≤ w2.heap.size) := (Nat.le_trans hg hb.size); have q23 : w2.cell? ⟨W.heap.size, 3, none⟩ = some (.slice A3 n3 c3) := HA2.out.cell 3; have p23 : w2.cell? ⟨W.heap.size + 1, 3, none⟩ = some (.slice A3' n3' c3') := HD2.out.cell 3; clear hg hb tk tk2)
    have tk3 : True := trivial
    go_wp2_with (go_at_call 22; have tk := tk3; have HQ := equalFuncFl_any A3 A3' n3 n3' c3 c3' x3 y3 _ (HK3.out.go HB2.out) (HJ3.out.go HB2.out); refine Calls.mono HQ ?_; clear HQ; rintro e w3 ⟨rfl, hb⟩; rw [HZ3.out]; have hg := HG2.out; have HA3 := Lib.hid (HA2.out.below hb (by omega)); have HD3 := Lib.hid (HD2.out.below hb (by omega)); have HB3 := Lib.hid (HB2.out.trans (hb.mono HB2.out.size)); have HG3 : Hid (W.heap.size + 2 ≤ w3.heap.size) := (Nat.le_trans hg hb.size); clear hg hb tk tk3)
    go_ret
    exact ⟨rfl, HB3.out⟩
  cases z4
  · skip
    go_enter Try.func8, Try.ntmps8
    have tk1 : True := trivial
    go_wp2_with (go_at_call 21; have tk := tk1; obtain ⟨g0, g1, g2, g3⟩ := HC.out _ rfl; have HQ := equalStrings_any A0 A0' n0 n0' c0 c0' x0 y0 _ (HK0.out.go g2) (HJ0.out.go g2); refine Calls.mono HQ ?_; clear HQ; rintro e w1 ⟨rfl, hb⟩; rw [HZ0.out]; have HA1 := Lib.hid (g0.below hb (by omega)); have HD1 := Lib.hid (g1.below hb (by omega)); have HB1 := Lib.hid (g2.trans (hb.mono g2.size)); have HG1 : Hid (W.heap.size + 2 ≤ w1.heap.size) := (by have := hb.size; show _ ≤ _; omega); have q11 : w1.cell? ⟨W.heap.size, 1, none⟩ = some (.int .i64 x1) := HA1.out.cell 1; have p11 : w1.cell? ⟨W.heap.size + 1, 1, none⟩ = some (.int .i64 y1) := HD1.out.cell 1; have q12 : w1.cell? ⟨W.heap.size, 2, none⟩ = some (.slice A2 n2 c2) := HA1.out.cell 2; have p12 : w1.cell? ⟨W.heap.size + 1, 2, none⟩ = some (.slice A2' n2' c2') := HD1.out.cell 2; clear g0 g1 g2 g3 hb tk tk1)
    have tk2 : True := trivial
    go_wp2_with (go_at_call 21; have tk := tk2; have HQ := equalStrings_any A2 A2' n2 n2' c2 c2' x2 y2 _ (HK2.out.go HB1.out) (HJ2.out.go HB1.out); refine Calls.mono HQ ?_; clear HQ; rintro e w2 ⟨rfl, hb⟩; rw [HZ2.out]; have hg := HG1.out; have HA2 := Lib.hid (HA1.out.below hb (by omega)); have HD2 := Lib.hid (HD1.out.below hb (by omega)); have HB2 := Lib.hid (HB1.out.trans (hb.mono HB1.out.size)); have HG2 : Hid (W.heap.size + 2 ≤ w2.heap.size) := (Nat.le_trans hg hb.size); have q23 : w2.cell? ⟨W.heap.size, 3, none⟩ = some (.slice A3 n3 c3) := HA2.out.cell 3; have p23 : w2.cell? ⟨W.heap.size + 1, 3, none⟩ = some (.slice A3' n3' c3') := HD2.out.cell 3; clear hg hb tk tk2)
    have tk3 : True := trivial
    go_wp2_with (go_at_call 22; have tk := tk3; have HQ := equalFuncFl_any A3 A3' n3 n3' c3 c3' x3 y3 _ (HK3.out.go HB2.out) (HJ3.out.go HB2.out); refine Calls.mono HQ ?_; clear HQ; rintro e w3 ⟨rfl, hb⟩; rw [HZ3.out]; have hg := HG2.out; have HA3 := Lib.hid (HA2.out.below hb (by omega)); have HD3 := Lib.hid (HD2.out.below hb (by omega)); have HB3 := Lib.hid (HB2.out.trans (hb.mono HB2.out.size)); have HG3 : Hid (W.heap.size + 2 ≤ w3.heap.size) := (Nat.le_trans hg hb.size); have q34 : w3.cell? ⟨W.heap.size, 4, none⟩ = some (.slice A4 n4 c4) := HA3.out.cell 4; have p34 : w3.cell? ⟨W.heap.size + 1, 4, none⟩ = some (.slice A4' n4' c4') := HD3.out.cell 4; clear hg hb tk tk3)
    have tk4 : True := trivial
    go_wp2_with (go_at_call 21; have tk := tk4; have HQ := equalStrings_any A4 A4' n4 n4' c4 c4' x4 y4 _ (HK4.out.go HB3.out) (HJ4.out.go HB3.out); refine Calls.mono HQ ?_; clear HQ; rintro e w4 ⟨rfl, hb⟩; rw [HZ4.out]; have hg := HG3.out; have HA4 := Lib.hid (HA3.out.below hb (by omega)); have HD4 := Lib.hid (HD3.out.below hb (by omega)); have HB4 := Lib.hid (HB3.out.trans (hb.mono HB3.out.size)); have HG4 : Hid (W.heap.size + 2 ≤ w4.heap.size) := (Nat.le_trans hg hb.size); clear hg hb tk tk4)
    go_ret
    exact ⟨rfl, HB4.out⟩
  go_enter Try.func8, Try.ntmps8
  have tk1 : True := trivial
  go_wp2_with (go_at_call 21; have tk := tk1; obtain ⟨g0, g1, g2, g3⟩ := HC.out _ rfl; have HQ := equalStrings_any A0 A0' n0 n0' c0 c0' x0 y0 _ (HK0.out.go g2) (HJ0.out.go g2); refine Calls.mono HQ ?_; clear HQ; rintro e w1 ⟨rfl, hb⟩; rw [HZ0.out]; have HA1 := Lib.hid (g0.below hb (by omega)); have HD1 := Lib.hid (g1.below hb (by omega)); have HB1 := Lib.hid (g2.trans (hb.mono g2.size)); have HG1 : Hid (W.heap.size + 2 ≤ w1.heap.size) := (by have := hb.size; show _ ≤ _; omega); have q11 : w1.cell? ⟨W.heap.size, 1, none⟩ = some (.int .i64 x1) := HA1.out.cell 1; have p11 : w1.cell? ⟨W.heap.size + 1, 1, none⟩ = some (.int .i64 y1) := HD1.out.cell 1; have q12 : w1.cell? ⟨W.heap.size, 2, none⟩ = some (.slice A2 n2 c2) := HA1.out.cell 2; have p12 : w1.cell? ⟨W.heap.size + 1, 2, none⟩ = some (.slice A2' n2' c2') := HD1.out.cell 2; clear g0 g1 g2 g3 hb tk tk1)
  have tk2 : True := trivial
  go_wp2_with (go_at_call 21; have tk := tk2; have HQ := equalStrings_any A2 A2' n2 n2' c2 c2' x2 y2 _ (HK2.out.go HB1.out) (HJ2.out.go HB1.out); refine Calls.mono HQ ?_; clear HQ; rintro e w2 ⟨rfl, hb⟩; rw [HZ2.out]; have hg := HG1.out; have HA2 := Lib.hid (HA1.out.below hb (by omega)); have HD2 := Lib.hid (HD1.out.below hb (by omega)); have HB2 := Lib.hid (HB1.out.trans (hb.mono HB1.out.size)); have HG2 : Hid (W.heap.size + 2 ≤ w2.heap.size) := (Nat.le_trans hg hb.size); have q23 : w2.cell? ⟨W.heap.size, 3, none⟩ = some (.slice A3 n3 c3) := HA2.out.cell 3; have p23 : w2.cell? ⟨W.heap.size + 1, 3, none⟩ = some (.slice A3' n3' c3') := HD2.out.cell 3; clear hg hb tk tk2)
  have tk3 : True := trivial
  go_wp2_with (go_at_call 22; have tk := tk3; have HQ := equalFuncFl_any A3 A3' n3 n3' c3 c3' x3 y3 _ (HK3.out.go HB2.out) (HJ3.out.go HB2.out); refine Calls.mono HQ ?_; clear HQ; rintro e w3 ⟨rfl, hb⟩; rw [HZ3.out]; have hg := HG2.out; have HA3 := Lib.hid (HA2.out.below hb (by omega)); have HD3 := Lib.hid (HD2.out.below hb (by omega)); have HB3 := Lib.hid (HB2.out.trans (hb.mono HB2.out.size)); have HG3 : Hid (W.heap.size + 2 ≤ w3.heap.size) := (Nat.le_trans hg hb.size); have q34 : w3.cell? ⟨W.heap.size, 4, none⟩ = some (.slice A4 n4 c4) := HA3.out.cell 4; have p34 : w3.cell? ⟨W.heap.size + 1, 4, none⟩ = some (.slice A4' n4' c4') := HD3.out.cell 4; clear hg hb tk tk3)
  have tk4 : True := trivial
  go_wp2_with (go_at_call 21; have tk := tk4; have HQ := equalStrings_any A4 A4' n4 n4' c4 c4' x4 y4 _ (HK4.out.go HB3.out) (HJ4.out.go HB3.out); refine Calls.mono HQ ?_; clear HQ; rintro e w4 ⟨rfl, hb⟩; rw [HZ4.out]; have hg := HG3.out; have HA4 := Lib.hid (HA3.out.below hb (by omega)); have HD4 := Lib.hid (HD3.out.below hb (by omega)); have HB4 := Lib.hid (HB3.out.trans (hb.mono HB3.out.size)); have HG4 : Hid (W.heap.size + 2 ≤ w4.heap.size) := (Nat.le_trans hg hb.size); clear hg hb tk tk4)
  go_ret
  exact ⟨rfl, HB4.out⟩
end Go.Proofs.Ytjhemdgeafglhaa
