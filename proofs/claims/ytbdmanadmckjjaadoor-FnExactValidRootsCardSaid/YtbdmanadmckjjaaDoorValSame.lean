/- Contract: SameValue of the model. No condition. -/
import Derived.Test.YtbdmanadmckjjaaDoorValText
import Derived.Test.YtbdmanadmckjjaaDoorSameV
namespace Go.Proofs.YtbdmanadmckjjaaDoor
open Go Go.RowKit Go.Sort

theorem spec_SameValue_any (k n : Int) (t : ByteArray) (r k' n' : Int) (t' : ByteArray) (r' : Int) (W : World) :
    Calls Tryd.prog 90 #[.agg #[.int .i64 k, .int .i64 n, .string t, .int .i64 r], .agg #[.int .i64 k', .int .i64 n', .string t', .int .i64 r']] W fun e w' => e = .returned (.bool (sameV k n t r k' n' t' r')) ∧ Below W.heap.size W w' := by
  unfold sameV
  obtain ⟨z1, h1⟩ : ∃ z, (k == k') = z := ⟨_, rfl⟩
  obtain ⟨z2, h2⟩ : ∃ z, (n == n') = z := ⟨_, rfl⟩
  obtain ⟨z3, h3⟩ : ∃ z, (t.toList == t'.toList) = z := ⟨_, rfl⟩
  obtain ⟨z4, h4⟩ : ∃ z, (r == r') = z := ⟨_, rfl⟩
  rw [h1, h2, h3, h4]
  cases z1
  · go_enter Tryd.func90, Tryd.ntmps90
    go_wp2_with fail
    go_ret
    exact ⟨rfl, ((Below.refl _ _).alloc (Nat.le_refl _) _).alloc (by simp) _⟩
  cases z2
  · go_enter Tryd.func90, Tryd.ntmps90
    go_wp2_with fail
    go_ret
    exact ⟨rfl, ((Below.refl _ _).alloc (Nat.le_refl _) _).alloc (by simp) _⟩
  cases z3
  · go_enter Tryd.func90, Tryd.ntmps90
    go_wp2_with fail
    go_ret
    exact ⟨rfl, ((Below.refl _ _).alloc (Nat.le_refl _) _).alloc (by simp) _⟩
  cases z4
  all_goals
    go_enter Tryd.func90, Tryd.ntmps90
    go_wp2_with fail
    go_ret
    exact ⟨rfl, ((Below.refl _ _).alloc (Nat.le_refl _) _).alloc (by simp) _⟩
end Go.Proofs.YtbdmanadmckjjaaDoor
