/- Contract: placeOf of the program. No condition. -/
import Derived.Test.YtnneidpdfommjaaMrEq1
import Derived.Test.YtnneidpdfommjaaMcsSame
namespace Go.Proofs.Ytnneidpdfommjaa
open Go Go.RowKit Go.Sort

/-- What placeOf answers. -/
def placeMr (r : Bool) (pc cu tp : Int) (n : Nat) (la : Int) : Mc := ⟨if r then 2 else 1, pc, cu, tp, (n : Int), la⟩
set_option maxHeartbeats 2000000 in
set_option maxRecDepth 100000 in
theorem placeOf_any (x0 x1 x4 x5 x6 x7 x9 x10 : Int) (x2 : ByteArray) (x3 x8 : Bool) (A11 A12 A13 A14 : Option Addr) (n11 c11 n12 c12 n13 c13 n14 c14 : Nat) (W : World) :
    Calls Try.prog 16 #[.agg #[.int .i64 x0, .int .i64 x1, .string x2, .bool x3, .int .i64 x4, .int .i64 x5, .int .i64 x6, .int .i64 x7, .bool x8, .int .i64 x9, .int .i64 x10, .slice A11 n11 c11, .slice A12 n12 c12, .slice A13 n13 c13, .slice A14 n14 c14]] W fun e w' => e = .returned (placeMr x8 x5 x6 x7 n14 x9).ag ∧ Below W.heap.size W w' := by
  cases x8
  all_goals
    go_enter Try.func16, Try.ntmps16
    go_wp2
  · exact bodyPost_ret (v := .agg #[.int .i64 1, .int .i64 x5, .int .i64 x6, .int .i64 x7, .int .i64 n14, .int .i64 x9]) (by simp [results, Try.results16, go_sem]) rfl
      ⟨rfl, by repeat (first | exact Below.refl _ _ | refine Below.setCell ?_ (by first | (simp; done) | (simp; omega)) _ | refine Below.alloc ?_ (by first | (simp; done) | (simp; omega)) _)⟩
  · exact bodyPost_ret (v := .agg #[.int .i64 2, .int .i64 x5, .int .i64 x6, .int .i64 x7, .int .i64 n14, .int .i64 x9]) (by simp [results, Try.results16, go_sem]) rfl
      ⟨rfl, by repeat (first | exact Below.refl _ _ | refine Below.setCell ?_ (by first | (simp; done) | (simp; omega)) _ | refine Below.alloc ?_ (by first | (simp; done) | (simp; omega)) _)⟩
end Go.Proofs.Ytnneidpdfommjaa
