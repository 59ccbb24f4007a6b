/- Contract: l00In of the model. No condition. -/
import Derived.Test.YtjhemdgeafglhaaDoorBase
namespace Go.Proofs.YtjhemdgeafglhaaDoor
open Go Go.RowKit

theorem l00In_any (x lo hi : Int) (W : World) :
    Calls Tryd.prog 29 #[.int .i64 x, .int .i64 lo, .int .i64 hi] W fun e w' => e = .returned (.bool (decide (lo ≤ x ∧ x ≤ hi))) ∧ W = w' := by
  by_cases h0 : lo ≤ x
  · have d0 : decide (lo ≤ x) = true := by simp [h0]
    by_cases h1 : x ≤ hi
    · have d1 : decide (x ≤ hi) = true := by simp [h1]
      have e : decide (lo ≤ x ∧ x ≤ hi) = true := by simp [h0, h1]
      rw [e]
      go_enter Tryd.func29, Tryd.ntmps29
      go_wp2
      all_goals go_ret
      all_goals exact ⟨rfl, rfl⟩
    · have d1 : decide (x ≤ hi) = false := by simp; omega
      have e : decide (lo ≤ x ∧ x ≤ hi) = false := by simp; omega
      rw [e]
      go_enter Tryd.func29, Tryd.ntmps29
      go_wp2
      all_goals go_ret
      all_goals exact ⟨rfl, rfl⟩
  · have d0 : decide (lo ≤ x) = false := by simp; omega
    have e : decide (lo ≤ x ∧ x ≤ hi) = false := by simp; omega
    rw [e]
    go_enter Tryd.func29, Tryd.ntmps29
    go_wp2
    all_goals go_ret
    all_goals exact ⟨rfl, rfl⟩
end Go.Proofs.YtjhemdgeafglhaaDoor
