/- The law's walk: FnExactIsBlankLine. No condition. -/
import Derived.Test.YtmlefiickbafbaaDoorBlank
import Derived.Test.YtmlefiickbafbaaDoorCards
namespace Go.Proofs.YtmlefiickbafbaaDoor
open Go Go.RowKit
theorem walk_FnExactIsBlankLine (a0 : ByteArray) (w0 : a0.size ≤ maxLen) (W : World) (_hL : laidMetH Tryd.prog Rows.fnExactIsBlankLineRow.laid W) :
    Calls Tryd.prog 6 #[.string a0] W fun e w' => e = .returned (.bool true) ∧ Below W.heap.size W w' := by
  clear _hL
  have HS : Hid (a0.size ≤ maxLen) := w0
  unfold maxLen at w0
  obtain ⟨p, hp⟩ : ∃ p, blankB a0 = p := ⟨_, rfl⟩
  have HP := Lib.hid hp
  clear hp
  by_cases h : (a0.size : Int) ≤ 1048576
  · go_enter Tryd.func6, Tryd.ntmps6
    go_wp2_with (first
      | (go_at_call 19; refine (spec_IsBlankLine_any _ _ HS.out).mono ?_; rintro e w' ⟨rfl, rfl⟩; rw [HP.out])
      | (go_at_call 20; refine (impl_IsBlankLine_any _ _).mono ?_; rintro e w1 ⟨rfl, rfl⟩; rw [HP.out]))
    all_goals go_ret
    all_goals exact ⟨rfl, Below.refl _ _⟩
  · have h' : 1048576 < (a0.size : Int) := by omega
    clear h
    go_enter Tryd.func6, Tryd.ntmps6
    go_wp2_with fail
    go_ret
    exact ⟨rfl, Below.refl _ _⟩
end Go.Proofs.YtmlefiickbafbaaDoor
