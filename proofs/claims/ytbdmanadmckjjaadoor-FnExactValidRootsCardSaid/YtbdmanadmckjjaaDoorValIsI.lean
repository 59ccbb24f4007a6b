/- Contract: IsReference of the program. Condition: the table holds what the program's text lays. -/
import Derived.Test.YtbdmanadmckjjaaDoorValImpl
namespace Go.Proofs.YtbdmanadmckjjaaDoor
open Go Go.RowKit

/-- What IsReference answers. -/
def isRefV (k n : Int) (t : ByteArray) (r : Int) : Bool := validV k n t r && decide (4 ≤ k ∧ k ≤ 6)

theorem impl_IsReference_any (k n : Int) (t : ByteArray) (r : Int) (W : World) (hs : t.size ≤ maxLen) (hT : Classes W) :
    Calls Tryd.prog 71 #[.agg #[.int .i64 k, .int .i64 n, .string t, .int .i64 r]] W fun e w' => e = .returned (.bool (isRefV k n t r)) ∧ Below W.heap.size W w' := by
  have HS := Lib.hid hs
  have HT : Hid (Classes W) := hT
  have HG : Hid (0 < W.heap.size) := heap_pos (hT.at_ 0 (by decide))
  clear hs hT
  unfold isRefV
  obtain ⟨x, hx⟩ : ∃ x, validV k n t r = x := ⟨_, rfl⟩
  have HX := Lib.hid hx
  obtain ⟨y, hy⟩ : ∃ y, decide (4 ≤ k ∧ k ≤ 6) = y := ⟨_, rfl⟩
  have HY := Lib.hid hy
  rw [hx, hy]
  clear hx hy
  cases y
  · rw [Bool.and_false]
    go_enter Tryd.func71, Tryd.ntmps71
    go_wp2_with (go_at_call 66; refine (within_i64 _ _ _ _).mono ?_; rintro e w' ⟨rfl, rfl⟩; rw [HY.out])
    go_ret
    exact ⟨rfl, (Below.refl _ _).alloc (Nat.le_refl _) _⟩
  · cases x
    all_goals
      go_enter Tryd.func71, Tryd.ntmps71
      go_wp2_with (first
        | (go_at_call 66; refine (within_i64 _ _ _ _).mono ?_; rintro e w' ⟨rfl, rfl⟩; rw [HY.out])
        | (go_at_call 72; refine (impl_ValidValue_any _ _ _ _ _ HS.out (HT.out.below ((Below.refl W.heap.size W).alloc (Nat.le_refl _) _) HG.out)).mono ?_; rintro e w1 ⟨rfl, hb⟩; rw [HX.out]; have HB := Lib.hid (((Below.refl _ _).alloc (Nat.le_refl _) _).trans (hb.mono (B' := W.heap.size) (by simp))); clear hb))
      go_ret
      exact ⟨rfl, HB.out⟩
end Go.Proofs.YtbdmanadmckjjaaDoor
