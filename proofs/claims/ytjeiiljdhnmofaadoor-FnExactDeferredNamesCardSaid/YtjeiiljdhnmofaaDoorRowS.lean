/- The laws' functions on rows of strings that calls hand back. No condition. -/
import Derived.Test.YtjeiiljdhnmofaaDoorRowS0
import Derived.Test.YtjeiiljdhnmofaaDoorStrs
namespace Go.Proofs.YtjeiiljdhnmofaaDoor
open Go Go.RowKit

/-- markStringS of such a row. -/
theorem mark_rowO {w : World} {B C : Nat} {xs : List ByteArray} {A : Option Addr} (c : Nat) (h : RowO w B C A xs) (hB : B ≤ w.heap.size) (hC : C ≤ w.heap.size) (hn : xs.length ≤ 1048577) :
    Calls Tryd.prog 40 #[.slice A xs.length c, .int .i64 1] w fun e w' => e = .returned (.int .i64 ((1 + xs.length : Nat) : Int)) ∧ Below B w w' ∧ SR w' w'.heap.size A xs.length (marks 1 xs.length) := by
  rcases Nat.eq_zero_or_pos xs.length with h0 | h0
  · rw [h0]
    go_enter Tryd.func40, Tryd.ntmps40
    go_wp2
    go_loopw [1, 5] (fun q i wr => i = .int .i64 0 ∧ q = .int .i64 1 ∧ wr = w) (fun _ _ _ => 0)
    case atStart => exact ⟨rfl, rfl, rfl⟩
    case round =>
      obtain ⟨rfl, rfl, rfl⟩ := hrel
      go_wp2_with fail
      go_ret
      exact ⟨rfl, Below.refl _ _, rfl, fun h => absurd h (by omega)⟩
  · obtain ⟨g, cs, rfl, h1, h2, h3, h4, h5⟩ := h h0
    exact (markStringS_any g xs.length c 1 cs w h3 h4 (by omega) (by omega)).mono fun e w' ⟨e1, e2, e3⟩ => ⟨e1, e2.mono h1, e3.more (by have := e2.size; omega)⟩
/-- heldStringS of a marked row. -/
theorem held_rowO {w : World} {n C : Nat} {A : Option Addr} (c : Nat) (h : SR w C A n (marks 1 n)) (hC : C ≤ w.heap.size) (hn : n ≤ 1048577) :
    Calls Tryd.prog 41 #[.slice A n c, .int .i64 1] w fun e w' => e = .returned (.int .i64 ((1 + n : Nat) : Int)) ∧ Below w.heap.size w w' :=
  heldStringS_any A n c 1 w (h.more hC) (by omega) (by omega)
/-- eqStringS of two rows of one list. -/
theorem eq_rowsO {w : World} {B C B' C' : Nat} {xs : List ByteArray} {A A' : Option Addr} (c c' : Nat) (h : RowO w B C A xs) (h' : RowO w B' C' A' xs) (hC : C ≤ w.heap.size) (hC' : C' ≤ w.heap.size) (hn : xs.length ≤ 9223372036854775807) :
    Calls Tryd.prog 39 #[.slice A xs.length c, .slice A' xs.length c'] w fun e w' => e = .returned (.bool true) ∧ Below w.heap.size w w' :=
  eqStringS_same _ _ _ c c' xs w (h.sr.more hC) (h'.sr.more hC') hn
end Go.Proofs.YtjeiiljdhnmofaaDoor
