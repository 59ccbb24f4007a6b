/- Contracts: SameMatch of both. No condition. -/
import Derived.Test.YtcaomjagibbgiaaMtsEq
import Derived.Test.YtcaomjagibbgiaaCpsSame
namespace Go.Proofs.Ytcaomjagibbgiaa
open Go Go.RowKit

theorem sameMt_bool (x y : Mt) : tt (x = y) = ((x.start_ == y.start_) && ((x.end_ == y.end_) && tt (x.captures_ = y.captures_))) := by
  rw [Bool.eq_iff_iff]
  simp only [Bool.and_eq_true, tt_iff, beq_iff_eq]
  obtain ⟨a, b, c⟩ := x
  obtain ⟨a', b', c'⟩ := y
  simp only [Mt.mk.injEq]

set_option maxHeartbeats 1000000 in
set_option maxRecDepth 100000 in
theorem spec_SameMatch_any (x y : Mt) (l l' : MtLay) (W : World) (hx : MtV W W.heap.size x l) (hy : MtV W W.heap.size y l') :
    Calls Try.prog 9 #[x.ag l, y.ag l'] W fun e w' => e = .returned (.bool (tt (x = y))) ∧ Below W.heap.size W w' := by
  rw [sameMt_bool]
  obtain ⟨x0, x1, x2⟩ := x
  obtain ⟨y0, y1, y2⟩ := y
  obtain ⟨A2, n2, c2, h2⟩ := l
  obtain ⟨B2, m2, d2, j2⟩ := l'
  unfold MtV at hx hy
  dsimp only at hx hy ⊢
  have HX := Lib.hid hx
  have HY := Lib.hid hy
  clear hx hy
  have HC := Lib.hid (two_new W 29 #[.int .i64 x0, .int .i64 x1, .slice A2 n2 c2] #[.int .i64 y0, .int .i64 y1, .slice B2 m2 d2])
  obtain ⟨z0, hz0⟩ : ∃ z, (x0 == y0) = z := ⟨_, rfl⟩
  obtain ⟨z1, hz1⟩ : ∃ z, (x1 == y1) = z := ⟨_, rfl⟩
  obtain ⟨z2, hz2⟩ : ∃ z, tt (x2 = y2) = z := ⟨_, rfl⟩
  have HZ := Lib.hid hz2
  rw [hz0, hz1, hz2]
  clear hz2
  show Calls Try.prog 9 #[.agg #[.int .i64 x0, .int .i64 x1, .slice A2 n2 c2], .agg #[.int .i64 y0, .int .i64 y1, .slice B2 m2 d2]] W _
  cases z0
  · go_enter Try.func9, Try.ntmps9
    go_wp2_with fail
    go_ret
    exact ⟨rfl, (below_alloc _ _).alloc (by simp) _⟩
  cases z1
  · go_enter Try.func9, Try.ntmps9
    go_wp2_with fail
    go_ret
    exact ⟨rfl, (below_alloc _ _).alloc (by simp) _⟩
  cases z2
  all_goals
    go_enter Try.func9, Try.ntmps9
    go_wp2_with (go_at_call 28; obtain ⟨g0, g1, g2, g3⟩ := HC.out _ rfl; have HQ := l12SameCaptures_any A2 B2 n2 m2 c2 d2 x2 y2 _ (HX.out.go g2) (HY.out.go g2); refine Calls.mono HQ ?_; clear HQ; rintro e w1 ⟨rfl, hb⟩; rw [HZ.out]; have HB1 := Lib.hid (g2.trans (hb.mono g2.size)); clear g0 g1 g2 g3 hb HX)
    all_goals go_ret
    all_goals exact ⟨rfl, HB1.out⟩


set_option maxHeartbeats 1000000 in
set_option maxRecDepth 100000 in
theorem impl_SameMatch_any (x y : Mt) (l l' : MtLay) (W : World) (hx : MtV W W.heap.size x l) (hy : MtV W W.heap.size y l') :
    Calls Try.prog 11 #[x.ag l, y.ag l'] W fun e w' => e = .returned (.bool (tt (x = y))) ∧ Below W.heap.size W w' := by
  rw [sameMt_bool]
  obtain ⟨x0, x1, x2⟩ := x
  obtain ⟨y0, y1, y2⟩ := y
  obtain ⟨A2, n2, c2, h2⟩ := l
  obtain ⟨B2, m2, d2, j2⟩ := l'
  unfold MtV at hx hy
  dsimp only at hx hy ⊢
  have HX := Lib.hid hx
  have HY := Lib.hid hy
  clear hx hy
  have HC := Lib.hid (two_new W 29 #[.int .i64 x0, .int .i64 x1, .slice A2 n2 c2] #[.int .i64 y0, .int .i64 y1, .slice B2 m2 d2])
  obtain ⟨z0, hz0⟩ : ∃ z, (x0 == y0) = z := ⟨_, rfl⟩
  obtain ⟨z1, hz1⟩ : ∃ z, (x1 == y1) = z := ⟨_, rfl⟩
  obtain ⟨z2, hz2⟩ : ∃ z, tt (x2 = y2) = z := ⟨_, rfl⟩
  have HZ := Lib.hid hz2
  rw [hz0, hz1, hz2]
  clear hz2
  show Calls Try.prog 11 #[.agg #[.int .i64 x0, .int .i64 x1, .slice A2 n2 c2], .agg #[.int .i64 y0, .int .i64 y1, .slice B2 m2 d2]] W _
  cases z0
  · go_enter Try.func11, Try.ntmps11
    go_wp2_with fail
    go_ret
    exact ⟨rfl, (below_alloc _ _).alloc (by simp) _⟩
  cases z1
  · go_enter Try.func11, Try.ntmps11
    go_wp2_with fail
    go_ret
    exact ⟨rfl, (below_alloc _ _).alloc (by simp) _⟩
  cases z2
  all_goals
    go_enter Try.func11, Try.ntmps11
    go_wp2_with (go_at_call 30; obtain ⟨g0, g1, g2, g3⟩ := HC.out _ rfl; have HQ := equalCaptures_any A2 B2 n2 m2 c2 d2 x2 y2 _ (HX.out.go g2) (HY.out.go g2); refine Calls.mono HQ ?_; clear HQ; rintro e w1 ⟨rfl, hb⟩; rw [HZ.out]; have HB1 := Lib.hid (g2.trans (hb.mono g2.size)); clear g0 g1 g2 g3 hb HX)
    all_goals go_ret
    all_goals exact ⟨rfl, HB1.out⟩
end Go.Proofs.Ytcaomjagibbgiaa
