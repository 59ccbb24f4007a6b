/- The law's walk: FnExactIsName. Condition: the table holds what the program's text lays. -/
import Derived.Test.YtmlefiickbafbabDoorName
import Derived.Test.YtmlefiickbafbabDoorCards
namespace Go.Proofs.YtmlefiickbafbabDoor
open Go Go.RowKit

theorem walk_FnExactIsName (a0 : ByteArray) (w0 : a0.size ≤ maxLen) (W : World) (hL : laidMetH Tryd.prog Rows.fnExactIsNameRow.laid W) :
    Calls Tryd.prog 3 #[.string a0] W fun e w' => e = .returned (.bool true) ∧ Below W.heap.size W w' := by
  have HT : Hid (Classes W) := Lib.tabIs_of_head (rest := []) gClasses (by kernel_rfl) Tryd.underlying74 Tryd.underlying5 (by kernel_rfl) (by kernel_rfl) hL
  clear hL
  have HS : Hid (a0.size ≤ maxLen) := w0
  unfold maxLen at w0
  obtain ⟨p, hp⟩ : ∃ p, isNameB a0 = p := ⟨_, rfl⟩
  have HP := Lib.hid hp
  clear hp
  by_cases h : (a0.size : Int) ≤ 1048576
  · go_enter Tryd.func3, Tryd.ntmps3
    go_wp2_with (first
      | (go_at_call 11; refine (spec_IsName_any _ _ HS.out).mono ?_; rintro e w' ⟨rfl, rfl⟩; rw [HP.out])
      | (go_at_call 12; refine (impl_IsName_any _ _ HS.out HT.out).mono ?_; rintro e w1 ⟨rfl, hb⟩; rw [HP.out]; have HB := Lib.hid hb; clear hb))
    all_goals go_ret
    all_goals exact ⟨rfl, HB.out⟩
  · have h' : 1048576 < (a0.size : Int) := by omega
    clear h
    go_enter Tryd.func3, Tryd.ntmps3
    go_wp2_with fail
    go_ret
    exact ⟨rfl, Below.refl _ _⟩
end Go.Proofs.YtmlefiickbafbabDoor
