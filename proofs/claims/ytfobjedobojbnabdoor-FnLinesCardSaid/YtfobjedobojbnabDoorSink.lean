/- A builder behind an interface; a builder kept. No condition. -/
import Derived.Test.YtfobjedobojbnabDoorBuild
namespace Go.Proofs.YtfobjedobojbnabDoor
open Go Go.RowKit

theorem grown_of_below {w w' : World} (h : Below w.heap.size w w') (row : Option Nat) : w.grownBy w' row := ⟨h.os, h.tape, h.output, h.size, fun j hj _ => h.block j hj⟩
theorem nil_ahead (a : Addr) (w : World) : (nilAhead 260 57 (.pointer (some a)) "WriteString").run Tryd.prog w = .ok (some false) w := by kernel_rfl
theorem method_ws (a : Addr) (w : World) : (method 260 57 (.pointer (some a)) "WriteString").run Tryd.prog w = .ok (153, .pointer (some a)) w := by kernel_rfl

theorem strCells_app (a b : ByteArray) : Lib.strCells (a ++ b) = Lib.strCells a ++ Lib.strCells b := by
  simp [Lib.strCells_eq, Lib.byteCells_append]
theorem builder_keep {B b : Nat} {bs : List Value} {w w' : World} (h : Lib.IsBuilder 59 5 B b bs w) (hb : Below w.heap.size w w') : Lib.IsBuilder 59 5 B b bs w' := by
  rcases h with h | h
  · have hl := h.lt
    obtain ⟨h1, v, hbk, hown, hne⟩ := h
    exact .inl ⟨h1, v, (hb.block b hl).trans hbk, hown.kept (grown_of_below hb none) (by cases hv : v.ownBlock <;> simp), hne⟩
  · have hl := h.lt
    obtain ⟨h1, v, hbk, hown, hne⟩ := h
    exact .inr ⟨h1, v, (hb.block b hl).trans hbk, hown.kept (grown_of_below hb none) (by cases hv : v.ownBlock <;> simp), hne⟩
theorem String_str (B b : Nat) (s : ByteArray) (w : World) (h : Lib.IsBuilder 59 5 B b (Lib.strCells s) w) (hBw : B ≤ w.heap.size) :
    Calls Tryd.prog 41 #[.pointer (some ⟨b, 0, none⟩)] w fun e w' => e = .returned (.string s) ∧ Below B w w' := by
  have h1 := Tryd.Builder_String_any B b s.data.toList w (by rw [← Lib.strCells_eq]; exact h) hBw
  rw [Lib.mk_data] at h1
  exact h1
end Go.Proofs.YtfobjedobojbnabDoor
