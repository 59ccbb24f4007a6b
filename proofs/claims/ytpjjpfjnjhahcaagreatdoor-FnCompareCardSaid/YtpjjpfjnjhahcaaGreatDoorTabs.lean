/- The tables that the program's conversions read; bounds of a valid value. -/
import Derived.Test.YtpjjpfjnjhahcaaGreatDoorValImpl
import Derived.Test.YtpjjpfjnjhahcaaGreatDoorPow
namespace Go.Proofs.YtpjjpfjnjhahcaaGreatDoor
open Go Go.RowKit

theorem vnum {n : Int} {t : ByteArray} {r : Int} (h : validV 2 n t r = true) : -1000000000000 ≤ n ∧ n ≤ 1000000000000 := by
  unfold validV at h
  rw [if_neg (by decide), if_pos rfl] at h
  simp only [Bool.and_eq_true, decide_eq_true_eq] at h
  exact h.2
theorem vtext {n : Int} {t : ByteArray} {r : Int} (h : validV 1 n t r = true) : t.size ≤ 200 := by
  unfold validV at h
  rw [if_pos rfl] at h
  simp only [Bool.and_eq_true, decide_eq_true_eq] at h
  exact h.2
/-- The tables that the program's conversions read, in a world. -/
def Tabs (W : World) : Prop := Classes W ∧ PowTab W ∧ 1 < W.heap.size
theorem Tabs.go {W w : World} (h : Tabs W) (hb : Below W.heap.size W w) : Tabs w :=
  ⟨h.1.below hb (heap_pos (h.1.at_ 0 (by decide))), var?_below hb gPow h.2.2 h.2.1, Nat.lt_of_lt_of_le h.2.2 hb.size⟩
end Go.Proofs.YtpjjpfjnjhahcaaGreatDoor
