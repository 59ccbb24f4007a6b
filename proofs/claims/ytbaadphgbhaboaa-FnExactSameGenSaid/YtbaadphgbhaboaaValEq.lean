/- laws.eqValue where both are the same. No condition. -/
import Derived.Test.YtbaadphgbhaboaaBase
namespace Go.Proofs.Ytbaadphgbhaboaa
open Go Go.RowKit

theorem eqValue_same (k n : Int) (t : ByteArray) (r : Int) (W : World) :
    Calls Try.prog 59 #[.agg #[.int .i64 k, .int .i64 n, .string t, .int .i64 r], .agg #[.int .i64 k, .int .i64 n, .string t, .int .i64 r]] W fun e w' => e = .returned (.bool true) ∧ Below W.heap.size W w' := by
  go_enter Try.func59, Try.ntmps59
  go_wp2
  all_goals go_ret
  all_goals exact ⟨rfl, by repeat (first | exact Below.refl _ _ | refine Below.alloc ?_ (by first | (simp; done) | (simp; omega)) _)⟩
end Go.Proofs.Ytbaadphgbhaboaa
