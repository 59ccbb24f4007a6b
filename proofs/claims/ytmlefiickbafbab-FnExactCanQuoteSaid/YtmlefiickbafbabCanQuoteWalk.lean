/- The laws' walks: FnExactCanQuote, FnExactQuoteString. No condition. -/
import Derived.Test.YtmlefiickbafbabCan
namespace Go.Proofs.Ytmlefiickbafbab
open Go Go.RowKit

theorem walk_FnExactCanQuote (a0 : ByteArray) (w0 : a0.size ≤ maxLen) (W : World) :
    Calls Try.prog 3 #[.string a0] W fun e w' => e = .returned (.bool true) ∧ Below W.heap.size W w' := by
  have HS : Hid (a0.size ≤ maxLen) := w0
  unfold maxLen at w0
  obtain ⟨p, hp⟩ : ∃ p, canB a0 = p := ⟨_, rfl⟩
  have HP := Lib.hid hp
  clear hp
  by_cases h : (a0.size : Int) ≤ 1048576
  · go_enter Try.func3, Try.ntmps3
    go_wp2_with (first
      | (go_at_call 5; refine (spec_CanQuote_any _ _ HS.out).mono ?_; rintro e w' ⟨rfl, rfl⟩; rw [HP.out])
      | (go_at_call 6; refine (impl_CanQuote_any _ _ HS.out).mono ?_; rintro e w1 ⟨rfl, hb⟩; rw [HP.out]; have HB := Lib.hid hb; clear hb))
    all_goals go_ret
    all_goals exact ⟨rfl, HB.out⟩
  · have h' : 1048576 < (a0.size : Int) := by omega
    clear h
    go_enter Try.func3, Try.ntmps3
    go_wp2_with fail
    go_ret
    exact ⟨rfl, Below.refl _ _⟩

theorem walk_FnExactQuoteString (a0 : ByteArray) (w0 : a0.size ≤ maxLen) (W : World) :
    Calls Try.prog 4 #[.string a0] W fun e w' => e = .returned (.bool true) ∧ Below W.heap.size W w' := by
  have HS : Hid (a0.size ≤ maxLen) := w0
  unfold maxLen at w0
  obtain ⟨p, hp⟩ : ∃ p, quoteS a0 = p := ⟨_, rfl⟩
  have HP := Lib.hid hp
  clear hp
  by_cases h : (a0.size : Int) ≤ 1048576
  · go_enter Try.func4, Try.ntmps4
    go_wp2_with (first
      | (go_at_call 7; refine (spec_QuoteString_any _ _ HS.out).mono ?_; rintro e w' ⟨rfl, rfl⟩; rw [HP.out])
      | (go_at_call 8; refine (impl_QuoteString_any _ _ HS.out).mono ?_; rintro e w1 ⟨rfl, hb⟩; rw [HP.out]; have HB := Lib.hid hb; clear hb))
    all_goals go_ret
    all_goals exact ⟨rfl, HB.out⟩
  · have h' : 1048576 < (a0.size : Int) := by omega
    clear h
    go_enter Try.func4, Try.ntmps4
    go_wp2_with fail
    go_ret
    exact ⟨rfl, Below.refl _ _⟩
end Go.Proofs.Ytmlefiickbafbab
