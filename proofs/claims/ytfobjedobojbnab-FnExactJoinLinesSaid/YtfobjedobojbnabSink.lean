/- A builder behind an interface; a builder kept. No condition. -/
import Derived.Test.YtfobjedobojbnabBuild
namespace Go.Proofs.Ytfobjedobojbnab
open Go Go.RowKit

theorem grown_of_below {w w' : World} (h : Below w.heap.size w w') (row : Option Nat) : w.grownBy w' row := ⟨h.os, h.tape, h.output, h.size, fun j hj _ => h.block j hj⟩
theorem nil_ahead (a : Addr) (w : World) : (nilAhead 164 34 (.pointer (some a)) "WriteString").run Try.prog w = .ok (some false) w := by kernel_rfl
theorem method_ws (a : Addr) (w : World) : (method 164 34 (.pointer (some a)) "WriteString").run Try.prog w = .ok (30, .pointer (some a)) w := by kernel_rfl

theorem strCells_app (a b : ByteArray) : Lib.strCells (a ++ b) = Lib.strCells a ++ Lib.strCells b := by
  simp [Lib.strCells_eq, Lib.byteCells_append]
theorem builder_keep {B b : Nat} {bs : List Value} {w w' : World} (h : Lib.IsBuilder 37 5 B b bs w) (hb : Below w.heap.size w w') : Lib.IsBuilder 37 5 B b bs w' := by
  rcases h with h | h
  · have hl := h.lt
    obtain ⟨h1, v, hbk, hown, hne⟩ := h
    exact .inl ⟨h1, v, (hb.block b hl).trans hbk, hown.kept (grown_of_below hb none) (by cases hv : v.ownBlock <;> simp), hne⟩
  · have hl := h.lt
    obtain ⟨h1, v, hbk, hown, hne⟩ := h
    exact .inr ⟨h1, v, (hb.block b hl).trans hbk, hown.kept (grown_of_below hb none) (by cases hv : v.ownBlock <;> simp), hne⟩
end Go.Proofs.Ytfobjedobojbnab
