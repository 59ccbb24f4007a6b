/- The law's walk: FnExactReverseText. No condition. -/
import Derived.Test.YtgagijddbokfhabRev
namespace Go.Proofs.Ytgagijddbokfhab
open Go Go.RowKit

theorem walk_FnExactReverseText (a0 : ByteArray) (w0 : a0.size ≤ maxLen) (W : World) :
    Calls Try.prog 3 #[.string a0] W fun e w' => e = .returned (.bool true) ∧ Below W.heap.size W w' := by
  unfold maxLen at w0
  obtain ⟨p, hp⟩ : ∃ p, revE a0 = p := ⟨_, rfl⟩
  have HP := Lib.hid hp
  clear hp
  by_cases h : (a0.size : Int) ≤ 1048576
  · have HS : Hid (a0.size ≤ 1048576) := by show _ ≤ _; omega
    go_enter Try.func3, Try.ntmps3
    go_wp2_with (first
      | (go_at_call 7; refine (spec_ReverseText_any _ _ HS.out).mono ?_; rintro e w1 ⟨rfl, hb⟩; rw [HP.out]; have HB := Lib.hid hb; clear hb)
      | (go_at_call 8; refine (impl_ReverseText_any _ _ HS.out).mono ?_; rintro e w2 ⟨rfl, hb⟩; rw [HP.out]; have HB2 := Lib.hid (HB.out.trans (hb.mono HB.out.size)); clear hb))
    all_goals go_ret
    all_goals exact ⟨rfl, HB2.out⟩
  · have h' : 1048576 < (a0.size : Int) := by omega
    clear h
    go_enter Try.func3, Try.ntmps3
    go_wp2_with fail
    go_ret
    exact ⟨rfl, Below.refl _ _⟩
end Go.Proofs.Ytgagijddbokfhab
