/- Contract: convertBoth at integers. Condition: the tables hold what the program's text lays. -/
import Derived.Test.YtpjjpfjnjhahcaaGreatDoorToInt2
namespace Go.Proofs.YtpjjpfjnjhahcaaGreatDoor
open Go Go.RowKit

set_option maxHeartbeats 1000000 in
/-- Both made numbers. -/
theorem convI_case (a b : Va) (W : World) (ha : a.t.size ≤ 1048576) (hb : b.t.size ≤ 1048576) (hT : Tabs W) (x y : Int) (p q : Bool) (hx : tiE a.k a.n a.t a.r = .returned (.tuple #[.int .i64 x, .bool p])) (hy : tiE b.k b.n b.t b.r = .returned (.tuple #[.int .i64 y, .bool q])) :
    Calls Tryz.prog 54 #[.func (.func 27) #[] #[], a.ag, b.ag] W fun e w' => e = .returned (.tuple #[.int .i64 x, .int .i64 y, .bool (p && q)]) ∧ Below W.heap.size W w' := by
  have HT := Lib.hid hT
  have HA := Lib.hid ha
  have HB := Lib.hid hb
  clear hT ha hb
  unfold Va.ag
  have HC := Lib.hid (two_newV W 25 a b)
  have HX := Lib.hid hx
  have HY := Lib.hid hy
  clear hx hy
  have T1 : True := trivial
  cases p
  all_goals
    go_enter Tryz.func54, Tryz.ntmps54
    go_wp2_with (first
      | (go_at_call 27; have tk := T1; obtain ⟨x0, x1, x2, x3⟩ := HC.out _ rfl; have HQ := impl_ToInteger_any a.k a.n a.t a.r _ HA.out (HT.out.go x2); rw [HX.out] at HQ; refine Calls.mono HQ ?_; clear HQ T1 tk; rintro e w1 ⟨rfl, hb⟩; have HB1 : Hid (Below W.heap.size W w1) := x2.trans (hb.mono x2.size); obtain ⟨y0, y1, y2, y3⟩ := x1.below hb (by omega); clear hb x0 x1 x2 x3)
      | (go_at_call 27; have HQ := impl_ToInteger_any b.k b.n b.t b.r _ HB.out (HT.out.go HB1.out); rw [HY.out] at HQ; refine Calls.mono HQ ?_; clear HQ; rintro e w2 ⟨rfl, hb⟩; have HB2 : Hid (Below W.heap.size W w2) := HB1.out.trans (hb.mono HB1.out.size); clear hb))
    go_ret3
    exact ⟨rfl, HB2.out⟩
end Go.Proofs.YtpjjpfjnjhahcaaGreatDoor
