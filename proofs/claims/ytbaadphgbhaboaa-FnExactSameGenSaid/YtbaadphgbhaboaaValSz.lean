/- Contracts: szValue, toValue of the laws. No condition but that a string fits in memory. -/
import Derived.Test.YtbaadphgbhaboaaWf
namespace Go.Proofs.Ytbaadphgbhaboaa
open Go Go.RowKit

theorem szValue_fits (k n : Int) (t : ByteArray) (r L : Int) (W : World) (ht : (t.size : Int) ≤ L) (hL : L ≤ 1048576) :
    Calls Try.prog 53 #[.agg #[.int .i64 k, .int .i64 n, .string t, .int .i64 r], .int .i64 L] W fun e w' => e = .returned (.int .i64 (L - t.size)) ∧ Below W.heap.size W w' := by
  go_enter Try.func53, Try.ntmps53
  go_wp2
  all_goals go_ret
  all_goals exact ⟨rfl, (Below.refl _ _).alloc (Nat.le_refl _) _⟩
theorem szValue_long (k n : Int) (t : ByteArray) (r L : Int) (W : World) (ht : L < (t.size : Int)) (h0 : 0 ≤ L) (hL : L ≤ 1048576) (hm : t.size ≤ maxLen) :
    Calls Try.prog 53 #[.agg #[.int .i64 k, .int .i64 n, .string t, .int .i64 r], .int .i64 L] W fun e w' => e = .returned (.int .i64 (-1)) ∧ Below W.heap.size W w' := by
  unfold maxLen at hm
  go_enter Try.func53, Try.ntmps53
  go_wp2
  all_goals go_ret
  all_goals exact ⟨rfl, (Below.refl _ _).alloc (Nat.le_refl _) _⟩

theorem toValue_any (k n : Int) (t : ByteArray) (r : Int) (W : World) :
    Calls Try.prog 56 #[.agg #[.int .i64 k, .int .i64 n, .string t, .int .i64 r]] W fun e w' => e = .returned (.agg #[.int .i64 k, .int .i64 n, .string t, .int .i64 r]) ∧ Below W.heap.size W w' := by
  go_enter Try.func56, Try.ntmps56
  go_wp2
  exact bodyPost_ret (v := .agg #[.int .i64 k, .int .i64 n, .string t, .int .i64 r]) (by simp [results, Try.results56, go_sem]) rfl
    ⟨rfl, by repeat (first | exact Below.refl _ _ | refine Below.setCell ?_ (by first | (simp; done) | (simp; omega)) _ | refine Below.alloc ?_ (by first | (simp; done) | (simp; omega)) _)⟩
end Go.Proofs.Ytbaadphgbhaboaa
