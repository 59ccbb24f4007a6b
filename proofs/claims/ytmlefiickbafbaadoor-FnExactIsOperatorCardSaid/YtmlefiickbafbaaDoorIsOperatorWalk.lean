/- The law's walk: FnExactIsOperator. Condition: the table holds what the program's text lays. -/
import Derived.Test.YtmlefiickbafbaaDoorClass
import Derived.Test.YtmlefiickbafbaaDoorCards
namespace Go.Proofs.YtmlefiickbafbaaDoor
open Go Go.RowKit

/-- What IsOperator answers. -/
def isOp (s : ByteArray) : Bool := s.size == 1 && opB (PlainAid.bt s 0)

theorem spec_IsOperator_any (s : ByteArray) (W : World) (hs : s.size ≤ maxLen) :
    Calls Tryd.prog 29 #[.string s] W fun e w' => e = .returned (.bool (isOp s)) ∧ W = w' := by
  unfold maxLen at hs
  have hb := PlainAid.get_bt s
  by_cases h : s.size = 1
  · have e1 : isOp s = opB (PlainAid.bt s 0) := by simp [isOp, h]
    have b0 := PlainAid.bt_nonneg s 0
    have b1 := PlainAid.bt_le s 0
    have hsz : ((s.size : Int) == 1) = true := by simp [h]
    have hlt : 0 < s.size := by omega
    have HS : Hid (s.size = 1) := h
    clear h
    rw [e1]
    go_enter Tryd.func29, Tryd.ntmps29
    go_wp2_with (go_at_call 49; refine (l02Operator_any _ _ (by omega) (by omega)).mono ?_; rintro e w' ⟨rfl, rfl⟩)
    all_goals go_ret
    all_goals exact ⟨rfl, rfl⟩
  · have e1 : isOp s = false := by simp [isOp, h]
    have hsz : ((s.size : Int) == 1) = false := by simp; omega
    clear h
    rw [e1]
    go_enter Tryd.func29, Tryd.ntmps29
    go_wp2_with (go_at_call 49; fail)
    all_goals go_ret
    all_goals exact ⟨rfl, rfl⟩

theorem impl_IsOperator_any (s : ByteArray) (W : World) (hs : s.size ≤ maxLen) (hT : Classes W) :
    Calls Tryd.prog 30 #[.string s] W fun e w' => e = .returned (.bool (isOp s)) ∧ W = w' := by
  unfold maxLen at hs
  have hb := PlainAid.get_bt s
  by_cases h : s.size = 1
  · have e1 : isOp s = (cls (PlainAid.bt s 0) == 4) := by simp [isOp, h, opB]
    have b0 := PlainAid.bt_nonneg s 0
    have b1 := PlainAid.bt_le s 0
    have hsz : ((s.size : Int) == 1) = true := by simp [h]
    have hlt : 0 < s.size := by omega
    have HS : Hid (s.size = 1) := h
    clear h
    rw [e1]
    have HT : Hid (Classes W) := hT
    clear hT
    go_enter Tryd.func30, Tryd.ntmps30
    go_wp2_with (go_at_call 50; refine (classOf_any _ _ HT.out).mono ?_; rintro e w' ⟨rfl, rfl⟩)
    all_goals go_ret
    all_goals exact ⟨rfl, rfl⟩
  · have e1 : isOp s = false := by simp [isOp, h]
    have hsz : ((s.size : Int) == 1) = false := by simp; omega
    clear h hT
    rw [e1]
    go_enter Tryd.func30, Tryd.ntmps30
    go_wp2_with (go_at_call 50; fail)
    all_goals go_ret
    all_goals exact ⟨rfl, rfl⟩

theorem walk_FnExactIsOperator (a0 : ByteArray) (w0 : a0.size ≤ maxLen) (W : World) (hL : laidMetH Tryd.prog Rows.fnExactIsOperatorRow.laid W) :
    Calls Tryd.prog 9 #[.string a0] W fun e w' => e = .returned (.bool true) ∧ Below W.heap.size W w' := by
  have hT : Classes W := Lib.tabIs_of_head (rest := []) gClasses (by kernel_rfl) Tryd.underlying81 Tryd.underlying5 (by kernel_rfl) (by kernel_rfl) hL
  have HT : Hid (Classes W) := hT
  clear hT hL
  go_enter Tryd.func9, Tryd.ntmps9
  go_wp2_with (first
    | (go_at_call 29; refine (spec_IsOperator_any _ _ w0).mono ?_; rintro e w' ⟨rfl, rfl⟩)
    | (go_at_call 30; refine (impl_IsOperator_any _ _ w0 HT.out).mono ?_; rintro e w' ⟨rfl, rfl⟩))
  all_goals go_ret
  all_goals exact ⟨rfl, Below.refl _ _⟩
end Go.Proofs.YtmlefiickbafbaaDoor
