/- Two values of a law, boxed. No condition. -/
import Derived.Test.YtpjjpfjnjhahcaaGreatDoorTwoV
import Derived.Deep.RegionHeld3
namespace Go.Proofs.YtpjjpfjnjhahcaaGreatDoor
open Go Go.RowKit

/-- The law's two arguments lie in blocks g, g + 1. -/
def L2 (W w : World) (a b : Va) : Prop := C4 w W.heap.size a ∧ C4 w (W.heap.size + 1) b ∧ Below W.heap.size W w ∧ W.heap.size + 1 < w.heap.size
theorem L2.go {W w w' : World} {a b : Va} (h : L2 W w a b) (hb : Below w.heap.size w w') : L2 W w' a b :=
  ⟨h.1.below hb (by have := h.2.2.2; omega), h.2.1.below hb h.2.2.2, h.2.2.1.trans (hb.mono h.2.2.1.size), Nat.lt_of_lt_of_le h.2.2.2 hb.size⟩
theorem L2.set {W w : World} {a b : Va} (h : L2 W w a b) {p : Addr} (hp : W.heap.size + 1 < p.block) (u : Value) : L2 W (w.setCell p u) a b :=
  have hb : Below (W.heap.size + 2) w (w.setCell p u) := (Below.refl _ _).setCell hp u
  ⟨h.1.below hb (by omega), h.2.1.below hb (by omega), h.2.2.1.setCell (by omega) u, Nat.lt_of_lt_of_le h.2.2.2 hb.size⟩
abbrev FlatL (W : World) (a b : Va) (w : World) : Prop := ((w.cell? ⟨W.heap.size, 0, none⟩ = some (.int .i64 a.k) ∧ w.cell? ⟨W.heap.size, 1, none⟩ = some (.int .i64 a.n) ∧ w.cell? ⟨W.heap.size, 2, none⟩ = some (.string a.t) ∧ w.cell? ⟨W.heap.size, 3, none⟩ = some (.int .i64 a.r)) ∧
  (w.cell? ⟨W.heap.size + 1, 0, none⟩ = some (.int .i64 b.k) ∧ w.cell? ⟨W.heap.size + 1, 1, none⟩ = some (.int .i64 b.n) ∧ w.cell? ⟨W.heap.size + 1, 2, none⟩ = some (.string b.t) ∧ w.cell? ⟨W.heap.size + 1, 3, none⟩ = some (.int .i64 b.r))) ∧ L2 W w a b
theorem L2.flat {W w : World} {a b : Va} (h : L2 W w a b) : FlatL W a b w := ⟨⟨h.1, h.2.1⟩, h⟩
end Go.Proofs.YtpjjpfjnjhahcaaGreatDoor
