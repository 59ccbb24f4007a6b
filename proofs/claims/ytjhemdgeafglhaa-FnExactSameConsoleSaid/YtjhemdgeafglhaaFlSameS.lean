/- Contract: loop.example/g00873/spec.l21SameFile. No condition. -/
import Derived.Test.YtjhemdgeafglhaaFlsEq
import Derived.Test.YtjhemdgeafglhaaStSame21
namespace Go.Proofs.Ytjhemdgeafglhaa
open Go Go.RowKit

theorem sameFl_bool_l21SameFile_any (x y : Fl) : tt (x = y) = ((x.name_.toList == y.name_.toList) && (tt (x.lines_ = y.lines_) && ((x.mode_ == y.mode_) && ((x.at_ == y.at_))))) := by
  rw [Bool.eq_iff_iff]
  simp only [Bool.and_eq_true, tt_iff, beq_iff_eq]
  obtain ⟨a0, a1, a2, a3⟩ := x
  obtain ⟨b0, b1, b2, b3⟩ := y
  simp only [Fl.mk.injEq]
  constructor
  · rintro ⟨h0, h1, h2, h3⟩
    exact ⟨by rw [h0], h1, h2, h3⟩
  · rintro ⟨h0, h1, h2, h3⟩
    exact ⟨WideShapes.bytes_inj (by rw [← ByteArray.toList_eq, ← ByteArray.toList_eq]; exact h0), h1, h2, h3⟩

set_option maxHeartbeats 4000000 in
set_option maxRecDepth 100000 in
theorem l21SameFile_any (x y : Fl) (l l' : FlLay) (W : World) (hx : FlV W W.heap.size x l) (hy : FlV W W.heap.size y l') :
    Calls Try.prog 18 #[x.ag l, y.ag l'] W fun e w' => e = .returned (.bool (tt (x = y))) ∧ Below W.heap.size W w' := by
  rw [sameFl_bool_l21SameFile_any]
  obtain ⟨x0, x1, x2, x3⟩ := x
  obtain ⟨y0, y1, y2, y3⟩ := y
  obtain ⟨A1, n1, c1, h1⟩ := l
  obtain ⟨A1', n1', c1', h1'⟩ := l'
  obtain ⟨k1, k0⟩ := hx
  obtain ⟨j1, j0⟩ := hy
  try unfold FlV at k1 j1 k0 j0
  dsimp only at k1 j1 k0 j0 ⊢
  have HK1 := Lib.hid k1
  have HJ1 := Lib.hid j1
  clear k1 j1 k0 j0
  have HC := Lib.hid (two_new W 62 #[.string x0, .slice A1 n1 c1, .int .i64 x2, .int .i64 x3] #[.string y0, .slice A1' n1' c1', .int .i64 y2, .int .i64 y3])
  obtain ⟨z0, hz0⟩ : ∃ z, (x0.toList == y0.toList) = z := ⟨_, rfl⟩
  obtain ⟨z1, hz1⟩ : ∃ z, tt (x1 = y1) = z := ⟨_, rfl⟩
  have HZ1 := Lib.hid hz1
  obtain ⟨z2, hz2⟩ : ∃ z, (x2 == y2) = z := ⟨_, rfl⟩
  obtain ⟨z3, hz3⟩ : ∃ z, (x3 == y3) = z := ⟨_, rfl⟩
  rw [hz0, hz1, hz2, hz3]
  clear hz1
  show Calls Try.prog 18 #[.agg #[.string x0, .slice A1 n1 c1, .int .i64 x2, .int .i64 x3], .agg #[.string y0, .slice A1' n1' c1', .int .i64 y2, .int .i64 y3]] W _
  cases z0
  · skip
    go_enter Try.func18, Try.ntmps18
    go_wp2_with fail
    go_ret
    exact ⟨rfl, (below_alloc _ _).alloc (by simp) _⟩
  cases z1
  · skip
    go_enter Try.func18, Try.ntmps18
    have tk1 : True := trivial
    go_wp2_with (go_at_call 17; have tk := tk1; obtain ⟨g0, g1, g2, g3⟩ := HC.out _ rfl; have HQ := l21SameTexts_any A1 A1' n1 n1' c1 c1' x1 y1 _ (HK1.out.go g2) (HJ1.out.go g2); refine Calls.mono HQ ?_; clear HQ; rintro e w1 ⟨rfl, hb⟩; rw [HZ1.out]; have HA1 := Lib.hid (g0.below hb (by omega)); have HD1 := Lib.hid (g1.below hb (by omega)); have HB1 := Lib.hid (g2.trans (hb.mono g2.size)); have HG1 : Hid (W.heap.size + 2 ≤ w1.heap.size) := (by have := hb.size; show _ ≤ _; omega); clear g0 g1 g2 g3 hb tk tk1)
    go_ret
    exact ⟨rfl, HB1.out⟩
  cases z2
  · skip
    go_enter Try.func18, Try.ntmps18
    have tk1 : True := trivial
    go_wp2_with (go_at_call 17; have tk := tk1; obtain ⟨g0, g1, g2, g3⟩ := HC.out _ rfl; have HQ := l21SameTexts_any A1 A1' n1 n1' c1 c1' x1 y1 _ (HK1.out.go g2) (HJ1.out.go g2); refine Calls.mono HQ ?_; clear HQ; rintro e w1 ⟨rfl, hb⟩; rw [HZ1.out]; have HA1 := Lib.hid (g0.below hb (by omega)); have HD1 := Lib.hid (g1.below hb (by omega)); have HB1 := Lib.hid (g2.trans (hb.mono g2.size)); have HG1 : Hid (W.heap.size + 2 ≤ w1.heap.size) := (by have := hb.size; show _ ≤ _; omega); have q12 : w1.cell? ⟨W.heap.size, 2, none⟩ = some (.int .i64 x2) := HA1.out.cell 2; have p12 : w1.cell? ⟨W.heap.size + 1, 2, none⟩ = some (.int .i64 y2) := HD1.out.cell 2; clear g0 g1 g2 g3 hb tk tk1)
    go_ret
    exact ⟨rfl, HB1.out⟩
  cases z3
  · skip
    go_enter Try.func18, Try.ntmps18
    have tk1 : True := trivial
    go_wp2_with (go_at_call 17; have tk := tk1; obtain ⟨g0, g1, g2, g3⟩ := HC.out _ rfl; have HQ := l21SameTexts_any A1 A1' n1 n1' c1 c1' x1 y1 _ (HK1.out.go g2) (HJ1.out.go g2); refine Calls.mono HQ ?_; clear HQ; rintro e w1 ⟨rfl, hb⟩; rw [HZ1.out]; have HA1 := Lib.hid (g0.below hb (by omega)); have HD1 := Lib.hid (g1.below hb (by omega)); have HB1 := Lib.hid (g2.trans (hb.mono g2.size)); have HG1 : Hid (W.heap.size + 2 ≤ w1.heap.size) := (by have := hb.size; show _ ≤ _; omega); have q12 : w1.cell? ⟨W.heap.size, 2, none⟩ = some (.int .i64 x2) := HA1.out.cell 2; have p12 : w1.cell? ⟨W.heap.size + 1, 2, none⟩ = some (.int .i64 y2) := HD1.out.cell 2; have q13 : w1.cell? ⟨W.heap.size, 3, none⟩ = some (.int .i64 x3) := HA1.out.cell 3; have p13 : w1.cell? ⟨W.heap.size + 1, 3, none⟩ = some (.int .i64 y3) := HD1.out.cell 3; clear g0 g1 g2 g3 hb tk tk1)
    go_ret
    exact ⟨rfl, HB1.out⟩
  go_enter Try.func18, Try.ntmps18
  have tk1 : True := trivial
  go_wp2_with (go_at_call 17; have tk := tk1; obtain ⟨g0, g1, g2, g3⟩ := HC.out _ rfl; have HQ := l21SameTexts_any A1 A1' n1 n1' c1 c1' x1 y1 _ (HK1.out.go g2) (HJ1.out.go g2); refine Calls.mono HQ ?_; clear HQ; rintro e w1 ⟨rfl, hb⟩; rw [HZ1.out]; have HA1 := Lib.hid (g0.below hb (by omega)); have HD1 := Lib.hid (g1.below hb (by omega)); have HB1 := Lib.hid (g2.trans (hb.mono g2.size)); have HG1 : Hid (W.heap.size + 2 ≤ w1.heap.size) := (by have := hb.size; show _ ≤ _; omega); have q12 : w1.cell? ⟨W.heap.size, 2, none⟩ = some (.int .i64 x2) := HA1.out.cell 2; have p12 : w1.cell? ⟨W.heap.size + 1, 2, none⟩ = some (.int .i64 y2) := HD1.out.cell 2; have q13 : w1.cell? ⟨W.heap.size, 3, none⟩ = some (.int .i64 x3) := HA1.out.cell 3; have p13 : w1.cell? ⟨W.heap.size + 1, 3, none⟩ = some (.int .i64 y3) := HD1.out.cell 3; clear g0 g1 g2 g3 hb tk tk1)
  go_ret
  exact ⟨rfl, HB1.out⟩
end Go.Proofs.Ytjhemdgeafglhaa
