/- Contracts: IsOperator of the model and of the program. Condition of the second: the table holds what the program's text lays. -/
import Derived.Test.YtdfikepfjdoooaaDoorClass
import Derived.Lib.Hide
import Derived.Below
namespace Go.Proofs.YtdfikepfjdoooaaDoor
open Go Go.RowKit

/-- What IsOperator answers. -/
def isOp (s : ByteArray) : Bool := s.size == 1 && opB (PlainAid.bt s 0)

theorem spec_IsOperator_any (s : ByteArray) (W : World) (hs : s.size ≤ maxLen) :
    Calls Tryd.prog 101 #[.string s] W fun e w' => e = .returned (.bool (isOp s)) ∧ W = w' := by
  unfold maxLen at hs
  have hb := PlainAid.get_bt s
  by_cases h : s.size = 1
  · have e1 : isOp s = opB (PlainAid.bt s 0) := by simp [isOp, h]
    have b0 := PlainAid.bt_nonneg s 0
    have b1 := PlainAid.bt_le s 0
    have hsz : ((s.size : Int) == 1) = true := by simp [h]
    have hlt : 0 < s.size := by omega
    have HS : Hid (s.size = 1) := h
    clear h
    rw [e1]
    go_enter Tryd.func101, Tryd.ntmps101
    go_wp2_with (go_at_call 112; refine (l02Operator_any _ _ (by omega) (by omega)).mono ?_; rintro e w' ⟨rfl, rfl⟩)
    all_goals go_ret
    all_goals exact ⟨rfl, rfl⟩
  · have e1 : isOp s = false := by simp [isOp, h]
    have hsz : ((s.size : Int) == 1) = false := by simp; omega
    clear h
    rw [e1]
    go_enter Tryd.func101, Tryd.ntmps101
    go_wp2_with (go_at_call 112; fail)
    all_goals go_ret
    all_goals exact ⟨rfl, rfl⟩

theorem impl_IsOperator_any (s : ByteArray) (W : World) (hs : s.size ≤ maxLen) (hT : Classes W) :
    Calls Tryd.prog 84 #[.string s] W fun e w' => e = .returned (.bool (isOp s)) ∧ W = w' := by
  unfold maxLen at hs
  have hb := PlainAid.get_bt s
  by_cases h : s.size = 1
  · have e1 : isOp s = (cls (PlainAid.bt s 0) == 4) := by simp [isOp, h, opB]
    have b0 := PlainAid.bt_nonneg s 0
    have b1 := PlainAid.bt_le s 0
    have hsz : ((s.size : Int) == 1) = true := by simp [h]
    have hlt : 0 < s.size := by omega
    have HS : Hid (s.size = 1) := h
    clear h
    rw [e1]
    have HT : Hid (Classes W) := hT
    clear hT
    go_enter Tryd.func84, Tryd.ntmps84
    go_wp2_with (go_at_call 92; refine (classOf_any _ _ HT.out).mono ?_; rintro e w' ⟨rfl, rfl⟩)
    all_goals go_ret
    all_goals exact ⟨rfl, rfl⟩
  · have e1 : isOp s = false := by simp [isOp, h]
    have hsz : ((s.size : Int) == 1) = false := by simp; omega
    clear h hT
    rw [e1]
    go_enter Tryd.func84, Tryd.ntmps84
    go_wp2_with (go_at_call 92; fail)
    all_goals go_ret
    all_goals exact ⟨rfl, rfl⟩

end Go.Proofs.YtdfikepfjdoooaaDoor
