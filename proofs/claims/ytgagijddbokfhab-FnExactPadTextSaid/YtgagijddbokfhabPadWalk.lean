/- The law's walk: FnExactPadText. No condition. -/
import Derived.Test.YtgagijddbokfhabPad
namespace Go.Proofs.Ytgagijddbokfhab
open Go Go.RowKit

set_option maxHeartbeats 1000000 in
theorem walk_FnExactPadText (s : ByteArray) (w0 : s.size ≤ maxLen) (n : Int) (_ : (Lit.int .i64 n).wf = true) (f : ByteArray) (w2 : f.size ≤ maxLen) (left : Bool) (W : World) :
    Calls Try.prog 5 #[.string s, .int .i64 n, .string f, .bool left] W fun e w' => e = .returned (.bool true) ∧ Below W.heap.size W w' := by
  unfold maxLen at w0 w2
  obtain ⟨p, hp⟩ : ∃ p, padS s n f left = p := ⟨_, rfl⟩
  obtain ⟨q, hq⟩ : ∃ q, padOk n f = q := ⟨_, rfl⟩
  have HP := Lib.hid hp
  have HQ := Lib.hid hq
  clear hp hq
  by_cases h : (s.size : Int) ≤ 1048576
  · have HS : Hid (s.size ≤ 1048576) := by show _ ≤ _; omega
    by_cases h2 : (f.size : Int) ≤ 1048576
    · have HF : Hid (f.size ≤ 1048576) := by show _ ≤ _; omega
      go_enter Try.func5, Try.ntmps5
      go_wp2_with (first
        | (go_at_call 11; refine (spec_PadText_any _ _ _ _ _ HS.out HF.out).mono ?_; rintro e w' ⟨rfl, rfl⟩; rw [HP.out, HQ.out])
        | (go_at_call 12; refine (impl_PadText_any _ _ _ _ _ HS.out HF.out).mono ?_; rintro e w1 ⟨rfl, hb⟩; rw [HP.out, HQ.out]; have HB := Lib.hid hb; clear hb))
      all_goals go_ret
      all_goals exact ⟨rfl, HB.out⟩
    · have h' : 1048576 < (f.size : Int) := by omega
      clear h2
      go_enter Try.func5, Try.ntmps5
      go_wp2_with fail
      go_ret
      exact ⟨rfl, Below.refl _ _⟩
  · have h' : 1048576 < (s.size : Int) := by omega
    clear h
    go_enter Try.func5, Try.ntmps5
    go_wp2_with fail
    go_ret
    exact ⟨rfl, Below.refl _ _⟩
end Go.Proofs.Ytgagijddbokfhab
