/- Contracts: IsOperator of the model and of the program. Condition of the second: the table holds what the program's text lays. -/
import Derived.Test.YtfobjedobojbnabDoorClass
import Derived.Lib.Hide
import Derived.Below
namespace Go.Proofs.YtfobjedobojbnabDoor
open Go Go.RowKit

theorem l02Operator_any (c : Int) (W : World) (h0 : 0 ≤ c) (h1 : c ≤ 255) :
    Calls Tryd.prog 87 #[.int .u8 c] W fun e w' => e = .returned (.bool (opB c)) ∧ W = w' := by
  rw [opB_mem h0 h1]
  go_enter Tryd.func87, Tryd.ntmps87
  go_wp2
  all_goals go_ret
  all_goals (refine ⟨?_, rfl⟩; simp_all)
/-- What IsOperator answers. -/
def isOp (s : ByteArray) : Bool := s.size == 1 && opB (PlainAid.bt s 0)

theorem spec_IsOperator_any (s : ByteArray) (W : World) (hs : s.size ≤ maxLen) :
    Calls Tryd.prog 67 #[.string s] W fun e w' => e = .returned (.bool (isOp s)) ∧ W = w' := by
  unfold maxLen at hs
  have hb := PlainAid.get_bt s
  by_cases h : s.size = 1
  · have e1 : isOp s = opB (PlainAid.bt s 0) := by simp [isOp, h]
    have b0 := PlainAid.bt_nonneg s 0
    have b1 := PlainAid.bt_le s 0
    have hsz : ((s.size : Int) == 1) = true := by simp [h]
    have hlt : 0 < s.size := by omega
    have HS : Hid (s.size = 1) := h
    clear h
    rw [e1]
    go_enter Tryd.func67, Tryd.ntmps67
    go_wp2_with (go_at_call 87; refine (l02Operator_any _ _ (by omega) (by omega)).mono ?_; rintro e w' ⟨rfl, rfl⟩)
    all_goals go_ret
    all_goals exact ⟨rfl, rfl⟩
  · have e1 : isOp s = false := by simp [isOp, h]
    have hsz : ((s.size : Int) == 1) = false := by simp; omega
    clear h
    rw [e1]
    go_enter Tryd.func67, Tryd.ntmps67
    go_wp2_with (go_at_call 87; fail)
    all_goals go_ret
    all_goals exact ⟨rfl, rfl⟩

theorem impl_IsOperator_any (s : ByteArray) (W : World) (hs : s.size ≤ maxLen) (hT : Classes W) :
    Calls Tryd.prog 55 #[.string s] W fun e w' => e = .returned (.bool (isOp s)) ∧ W = w' := by
  unfold maxLen at hs
  have hb := PlainAid.get_bt s
  by_cases h : s.size = 1
  · have e1 : isOp s = (cls (PlainAid.bt s 0) == 4) := by simp [isOp, h, opB]
    have b0 := PlainAid.bt_nonneg s 0
    have b1 := PlainAid.bt_le s 0
    have hsz : ((s.size : Int) == 1) = true := by simp [h]
    have hlt : 0 < s.size := by omega
    have HS : Hid (s.size = 1) := h
    clear h
    rw [e1]
    have HT : Hid (Classes W) := hT
    clear hT
    go_enter Tryd.func55, Tryd.ntmps55
    go_wp2_with (go_at_call 76; refine (classOf_any _ _ HT.out).mono ?_; rintro e w' ⟨rfl, rfl⟩)
    all_goals go_ret
    all_goals exact ⟨rfl, rfl⟩
  · have e1 : isOp s = false := by simp [isOp, h]
    have hsz : ((s.size : Int) == 1) = false := by simp; omega
    clear h hT
    rw [e1]
    go_enter Tryd.func55, Tryd.ntmps55
    go_wp2_with (go_at_call 76; fail)
    all_goals go_ret
    all_goals exact ⟨rfl, rfl⟩

end Go.Proofs.YtfobjedobojbnabDoor
