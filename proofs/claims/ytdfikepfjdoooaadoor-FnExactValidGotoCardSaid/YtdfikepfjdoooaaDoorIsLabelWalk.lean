/- IsLabel of the model and of the program; the law's walk: FnExactIsLabel. Condition: the table holds what the program's text lays. -/
import Derived.Test.YtdfikepfjdoooaaDoorName
import Derived.Test.YtdfikepfjdoooaaDoorCards
namespace Go.Proofs.YtdfikepfjdoooaaDoor
open Go Go.RowKit

theorem spec_IsLabel_any (s : ByteArray) (W : World) (hs : s.size ≤ maxLen) :
    Calls Tryd.prog 36 #[.string s] W fun e w' => e = .returned (.bool (isNameB s)) ∧ W = w' := by
  have HS := Lib.hid hs
  clear hs
  go_enter Tryd.func36, Tryd.ntmps36
  go_wp2_with (go_at_call 85; refine (spec_IsName_any _ _ HS.out).mono ?_; rintro e w' ⟨rfl, rfl⟩)
  go_ret
  exact ⟨rfl, rfl⟩
theorem impl_IsLabel_any (s : ByteArray) (W : World) (hs : s.size ≤ maxLen) (hT : Classes W) :
    Calls Tryd.prog 37 #[.string s] W fun e w' => e = .returned (.bool (isNameB s)) ∧ Below W.heap.size W w' := by
  have HS := Lib.hid hs
  have HT := Lib.hid hT
  clear hs hT
  go_enter Tryd.func37, Tryd.ntmps37
  go_wp2_with (go_at_call 83; refine (impl_IsName_any _ _ HS.out HT.out).mono ?_; rintro e w1 ⟨rfl, hb⟩; have HB := Lib.hid hb; clear hb)
  go_ret
  exact ⟨rfl, HB.out⟩

theorem walk_FnExactIsLabel (a0 : ByteArray) (w0 : a0.size ≤ maxLen) (W : World) (hL : laidMetH Tryd.prog Rows.fnExactIsLabelRow.laid W) :
    Calls Tryd.prog 9 #[.string a0] W fun e w' => e = .returned (.bool true) ∧ Below W.heap.size W w' := by
  have HT : Hid (Classes W) := Lib.tabIs_of_head (rest := []) gClasses (by kernel_rfl) Tryd.underlying118 Tryd.underlying5 (by kernel_rfl) (by kernel_rfl) hL
  clear hL
  have HS : Hid (a0.size ≤ maxLen) := w0
  unfold maxLen at w0
  obtain ⟨p, hp⟩ : ∃ p, isNameB a0 = p := ⟨_, rfl⟩
  have HP := Lib.hid hp
  clear hp
  by_cases h : (a0.size : Int) ≤ 1048576
  · go_enter Tryd.func9, Tryd.ntmps9
    go_wp2_with (first
      | (go_at_call 36; refine (spec_IsLabel_any _ _ HS.out).mono ?_; rintro e w' ⟨rfl, rfl⟩; rw [HP.out])
      | (go_at_call 37; refine (impl_IsLabel_any _ _ HS.out HT.out).mono ?_; rintro e w1 ⟨rfl, hb⟩; rw [HP.out]; have HB := Lib.hid hb; clear hb))
    all_goals go_ret
    all_goals exact ⟨rfl, HB.out⟩
  · have h' : 1048576 < (a0.size : Int) := by omega
    clear h
    go_enter Tryd.func9, Tryd.ntmps9
    go_wp2_with fail
    go_ret
    exact ⟨rfl, Below.refl _ _⟩
end Go.Proofs.YtdfikepfjdoooaaDoor
