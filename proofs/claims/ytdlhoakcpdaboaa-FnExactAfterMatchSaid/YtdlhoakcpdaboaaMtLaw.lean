/- What lies where in a law of a string and a match. -/
import Derived.Test.YtdlhoakcpdaboaaMt1Eq
namespace Go.Proofs.Ytdlhoakcpdaboaa
open Go Go.RowKit

/-- The law's match lies in block g. -/
def Law1 (W : World) (x0 x1 : Int) (A2a : Option Addr) (n2a c2a : Nat) (w : World) : Prop := RW 24 w W.heap.size #[.int .i64 x0, .int .i64 x1, .slice A2a n2a c2a] ∧ Below W.heap.size W w
theorem Law1.grow {W w w' : World} {x0 x1 : Int} {A2a : Option Addr} {n2a c2a : Nat} (h : Law1 W x0 x1 A2a n2a c2a w) (hb : Below w.heap.size w w') : Law1 W x0 x1 A2a n2a c2a w' :=
  ⟨h.1.below hb h.1.lt, h.2.trans (hb.mono h.2.size)⟩
/-- .. and its copy in block p. -/
def Law2 (W : World) (x0 x1 : Int) (x2 : List Cp) (A2a : Option Addr) (n2a c2a : Nat) (p : Nat) (A2p : Option Addr) (n2p c2p : Nat) (h2p : n2p ≤ c2p) (w : World) : Prop :=
  Law1 W x0 x1 A2a n2a c2a w ∧ RW 29 w p #[.int .i64 x0, .int .i64 x1, .slice A2p n2p c2p] ∧ MtV w w.heap.size ⟨x0, x1, x2⟩ ⟨A2p, n2p, c2p, h2p⟩
section
variable {W w w' : World} {x0 x1 : Int} {x2 : List Cp} {A2a A2p : Option Addr} {n2a c2a p n2p c2p : Nat} {h2p : n2p ≤ c2p}
theorem Law2.grow (h : Law2 W x0 x1 x2 A2a n2a c2a p A2p n2p c2p h2p w) (hb : Below w.heap.size w w') : Law2 W x0 x1 x2 A2a n2a c2a p A2p n2p c2p h2p w' :=
  ⟨h.1.grow hb, h.2.1.below hb h.2.1.lt, h.2.2.go hb⟩
end
abbrev Flat2 (W : World) (x0 x1 : Int) (x2 : List Cp) (A2a : Option Addr) (n2a c2a : Nat) (p : Nat) (A2p : Option Addr) (n2p c2p : Nat) (h2p : n2p ≤ c2p) (w : World) : Prop :=
  (w.cell? ⟨W.heap.size, 0, none⟩ = some (.int .i64 x0) ∧ w.cell? ⟨W.heap.size, 1, none⟩ = some (.int .i64 x1) ∧ w.cell? ⟨W.heap.size, 2, none⟩ = some (.slice A2a n2a c2a)) ∧
  (w.cell? ⟨p, 0, none⟩ = some (.int .i64 x0) ∧ w.cell? ⟨p, 1, none⟩ = some (.int .i64 x1) ∧ w.cell? ⟨p, 2, none⟩ = some (.slice A2p n2p c2p)) ∧ Law2 W x0 x1 x2 A2a n2a c2a p A2p n2p c2p h2p w
theorem Law2.flat {W w : World} {x0 x1 : Int} {x2 : List Cp} {A2a A2p : Option Addr} {n2a c2a p n2p c2p : Nat} {h2p : n2p ≤ c2p} (h : Law2 W x0 x1 x2 A2a n2a c2a p A2p n2p c2p h2p w) : Flat2 W x0 x1 x2 A2a n2a c2a p A2p n2p c2p h2p w :=
  ⟨⟨h.1.1.cell 0, h.1.1.cell 1, h.1.1.cell 2⟩, ⟨h.2.1.cell 0, h.2.1.cell 1, h.2.1.cell 2⟩, h⟩

end Go.Proofs.Ytdlhoakcpdaboaa
