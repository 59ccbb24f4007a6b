/- Contracts: l12Fits of the model, fits of the program. No condition but a string's length. -/
import Derived.Test.YtdlhoakcpdaboaaMt1Eq
import Derived.Test.YtdlhoakcpdaboaaIn
import Derived.Test.YtdlhoakcpdaboaaWithin
namespace Go.Proofs.Ytdlhoakcpdaboaa
open Go Go.RowKit

set_option maxRecDepth 100000 in
theorem l12Fits_any (s : ByteArray) (a b : Int) (A : Option Addr) (n c : Nat) (W : World) (hs : s.size ≤ maxLen) :
    Calls Try.prog 33 #[.string s, .agg #[.int .i64 a, .int .i64 b, .slice A n c]] W fun e w' => e = .returned (.bool (decide (0 ≤ a ∧ a ≤ b ∧ b ≤ (s.size : Int)))) ∧ Below W.heap.size W w' := by
  unfold maxLen at hs
  by_cases h1 : 0 ≤ b ∧ b ≤ (s.size : Int)
  · have d1 : decide (0 ≤ b ∧ b ≤ (s.size : Int)) = true := by simp [h1]
    obtain ⟨z, hz⟩ : ∃ z, decide (0 ≤ a ∧ a ≤ b) = z := ⟨_, rfl⟩
    have e : decide (0 ≤ a ∧ a ≤ b ∧ b ≤ (s.size : Int)) = z := by rw [← hz]; congr 1; simp; omega
    rw [e]
    have HZ := Lib.hid hz
    have HD := Lib.hid d1
    clear hz d1 e h1
    cases z
    all_goals
      go_enter Try.func33, Try.ntmps33
      go_wp2_with (go_at_call 49; refine (l00In_any _ _ _ _).mono ?_; rintro e w1 ⟨rfl, rfl⟩; first | rw [HD.out] | rw [HZ.out])
      all_goals go_ret
      all_goals exact ⟨rfl, below_alloc _ _⟩
  · have d1 : decide (0 ≤ b ∧ b ≤ (s.size : Int)) = false := by simp; omega
    have e : decide (0 ≤ a ∧ a ≤ b ∧ b ≤ (s.size : Int)) = false := by simp; omega
    rw [e]
    have HD := Lib.hid d1
    clear d1 e h1
    go_enter Try.func33, Try.ntmps33
    go_wp2_with (go_at_call 49; refine (l00In_any _ _ _ _).mono ?_; rintro e w1 ⟨rfl, rfl⟩; rw [HD.out])
    all_goals go_ret
    all_goals exact ⟨rfl, below_alloc _ _⟩


set_option maxRecDepth 100000 in
theorem fits_any (s : ByteArray) (a b : Int) (A : Option Addr) (n c : Nat) (W : World) (hs : s.size ≤ maxLen) :
    Calls Try.prog 35 #[.string s, .agg #[.int .i64 a, .int .i64 b, .slice A n c]] W fun e w' => e = .returned (.bool (decide (0 ≤ a ∧ a ≤ b ∧ b ≤ (s.size : Int)))) ∧ Below W.heap.size W w' := by
  unfold maxLen at hs
  by_cases h : 0 ≤ a ∧ a ≤ b
  · have HD := Lib.hid (show decide (0 ≤ a ∧ a ≤ b) = true by simp [h])
    obtain ⟨z, hz⟩ : ∃ z, decide (b ≤ (s.size : Int)) = z := ⟨_, rfl⟩
    have e : decide (0 ≤ a ∧ a ≤ b ∧ b ≤ (s.size : Int)) = z := by rw [← hz]; congr 1; simp; omega
    rw [e]
    clear e h
    cases z
    all_goals
      go_enter Try.func35, Try.ntmps35
      go_wp2_with (go_at_call 51; refine (withinB_i64 _ _ _ _).mono ?_; rintro e w1 ⟨rfl, rfl⟩; rw [HD.out])
      all_goals go_ret
      all_goals exact ⟨rfl, below_alloc _ _⟩
  · have HD := Lib.hid (show decide (0 ≤ a ∧ a ≤ b) = false by simp; omega)
    have e : decide (0 ≤ a ∧ a ≤ b ∧ b ≤ (s.size : Int)) = false := by simp; omega
    rw [e]
    clear e h
    go_enter Try.func35, Try.ntmps35
    go_wp2_with (go_at_call 51; refine (withinB_i64 _ _ _ _).mono ?_; rintro e w1 ⟨rfl, rfl⟩; rw [HD.out])
    all_goals go_ret
    all_goals exact ⟨rfl, below_alloc _ _⟩
end Go.Proofs.Ytdlhoakcpdaboaa
