/- A law's tree in its block, and its copy: what the laws' walks carry. No condition. -/
import Derived.Test.YtjeiiljdhnmofaaDoorPtsEq
namespace Go.Proofs.YtjeiiljdhnmofaaDoor
open Go Go.RowKit

/-- The law's tree lies in the first new block. -/
def LawP (W : World) (k m : Int) (t : ByteArray) (A : Option Addr) (n c : Nat) (w : World) : Prop := RW 24 w W.heap.size #[.int .i64 k, .int .i64 m, .string t, .slice A n c] ∧ Below W.heap.size W w
/-- .. and its copy in block q. -/
def LawQ (W : World) (k m : Int) (t : ByteArray) (ks : List Pt) (A : Option Addr) (n c q g d : Nat) (w : World) : Prop :=
  LawP W k m t A n c w ∧ RW 29 w q #[.int .i64 k, .int .i64 m, .string t, .slice (some ⟨g, 0, none⟩) n n] ∧ PtV w 0 w.heap.size d (.node k m t ks) (some ⟨g, 0, none⟩) n
abbrev FlatP (W : World) (k m : Int) (t : ByteArray) (ks : List Pt) (A : Option Addr) (n c q g d : Nat) (w : World) : Prop :=
  (w.cell? ⟨W.heap.size, 0, none⟩ = some (.int .i64 k) ∧ w.cell? ⟨W.heap.size, 1, none⟩ = some (.int .i64 m) ∧ w.cell? ⟨W.heap.size, 2, none⟩ = some (.string t) ∧ w.cell? ⟨W.heap.size, 3, none⟩ = some (.slice A n c)) ∧
  (w.cell? ⟨q, 0, none⟩ = some (.int .i64 k) ∧ w.cell? ⟨q, 1, none⟩ = some (.int .i64 m) ∧ w.cell? ⟨q, 2, none⟩ = some (.string t) ∧ w.cell? ⟨q, 3, none⟩ = some (.slice (some ⟨g, 0, none⟩) n n)) ∧ LawQ W k m t ks A n c q g d w
section
variable {W w w' : World} {k m : Int} {t : ByteArray} {ks : List Pt} {A : Option Addr} {n c q g d : Nat}
theorem LawP.grow (h : LawP W k m t A n c w) (hb : Below w.heap.size w w') : LawP W k m t A n c w' := ⟨h.1.below hb h.1.lt, h.2.trans (hb.mono h.2.size)⟩
theorem LawQ.grow (h : LawQ W k m t ks A n c q g d w) (hb : Below w.heap.size w w') : LawQ W k m t ks A n c q g d w' := ⟨h.1.grow hb, h.2.1.below hb h.2.1.lt, h.2.2.go hb⟩
theorem LawQ.flat (h : LawQ W k m t ks A n c q g d w) : FlatP W k m t ks A n c q g d w :=
  ⟨⟨h.1.1.cell 0, h.1.1.cell 1, h.1.1.cell 2, h.1.1.cell 3⟩, ⟨h.2.1.cell 0, h.2.1.cell 1, h.2.1.cell 2, h.2.1.cell 3⟩, h⟩
end
end Go.Proofs.YtjeiiljdhnmofaaDoor
