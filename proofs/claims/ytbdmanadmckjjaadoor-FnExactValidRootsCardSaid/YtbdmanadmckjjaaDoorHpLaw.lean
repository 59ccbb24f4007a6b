/- A law's heap in its block, and its copy: what the laws' walks carry. No condition. -/
import Derived.Test.YtbdmanadmckjjaaDoorObsEq
import Derived.Test.YtbdmanadmckjjaaDoorEqHeap
namespace Go.Proofs.YtbdmanadmckjjaaDoor
open Go Go.RowKit

/-- The law's heap lies in block p. -/
def LawH (W : World) (p : Nat) (nx : Int) (A : Option Addr) (n c : Nat) (w : World) : Prop := RW 24 w p #[.int .i64 nx, .slice A n c] ∧ Below W.heap.size W w
section
variable {W w w' : World} {p q : Nat} {nx : Int} {A : Option Addr} {n c g : Nat} {os : List Ob}
theorem LawH.grow (h : LawH W p nx A n c w) (hb : Below w.heap.size w w') : LawH W p nx A n c w' := ⟨h.1.below hb h.1.lt, h.2.trans (hb.mono h.2.size)⟩
/-- .. and its copy in block q. -/
def LawC (W : World) (p : Nat) (nx : Int) (A : Option Addr) (n c : Nat) (q g : Nat) (os : List Ob) (w : World) : Prop :=
  LawH W p nx A n c w ∧ RW 29 w q #[.int .i64 nx, .slice (some ⟨g, 0, none⟩) n n] ∧ OI w w.heap.size (some ⟨g, 0, none⟩) n os
theorem LawC.grow (h : LawC W p nx A n c q g os w) (hb : Below w.heap.size w w') : LawC W p nx A n c q g os w' := ⟨h.1.grow hb, h.2.1.below hb h.2.1.lt, h.2.2.go hb⟩
end
abbrev FlatH (W : World) (p : Nat) (nx : Int) (A : Option Addr) (n c : Nat) (q g : Nat) (os : List Ob) (w : World) : Prop :=
  (w.cell? ⟨p, 0, none⟩ = some (.int .i64 nx) ∧ w.cell? ⟨p, 1, none⟩ = some (.slice A n c)) ∧ (w.cell? ⟨q, 0, none⟩ = some (.int .i64 nx) ∧ w.cell? ⟨q, 1, none⟩ = some (.slice (some ⟨g, 0, none⟩) n n)) ∧ LawC W p nx A n c q g os w
theorem LawC.flat {W w : World} {p : Nat} {nx : Int} {A : Option Addr} {n c q g : Nat} {os : List Ob} (h : LawC W p nx A n c q g os w) : FlatH W p nx A n c q g os w :=
  ⟨⟨h.1.1.cell 0, h.1.1.cell 1⟩, ⟨h.2.1.cell 0, h.2.1.cell 1⟩, h⟩
end Go.Proofs.YtbdmanadmckjjaaDoor
