/- Rows of strings that calls hand back, and the laws' functions on them. -/
import Derived.Test.YtmlefiickbafbaaDoorSplit
namespace Go.Proofs.YtmlefiickbafbaaDoor
open Go Go.RowKit

/-- What is known of a row that a call handed back. -/
structure Row (w : World) (B : Nat) (xs : List ByteArray) (g : Nat) : Prop where
  ge : B ≤ g
  block : ∃ cs, SB w g cs ∧ xs.length ≤ cs.size ∧ ∀ (j : Nat) (x : ByteArray), xs[j]? = some x → cs[j]? = some (Value.string x)
theorem Row.lt {w : World} {B : Nat} {xs : List ByteArray} {g : Nat} (h : Row w B xs g) : g < w.heap.size := by
  obtain ⟨cs, hs, _⟩ := h.block
  exact hs.lt
theorem Row.below {w w' : World} {B C : Nat} {xs : List ByteArray} {g : Nat} (h : Row w B xs g) (hb : Below C w w') (hg : g < C) : Row w' B xs g := by
  obtain ⟨cs, hs, h1, h2⟩ := h.block
  exact ⟨h.ge, cs, hs.below hb hg, h1, h2⟩
theorem Row.sr {w : World} {B : Nat} {xs : List ByteArray} {g : Nat} (h : Row w B xs g) : SR w w.heap.size (some ⟨g, 0, none⟩) xs.length xs := by
  obtain ⟨cs, hs, h1, h2⟩ := h.block
  exact ⟨rfl, fun _ => ⟨g, rfl, hs.lt, fun j x hx => (hs.cell j).trans (h2 j x hx)⟩⟩
theorem rets_row {W w' : World} {xs : List ByteArray} {e : Ending} (h : Rets W xs e w') : ∃ g c, e = .returned (.slice (some ⟨g, 0, none⟩) xs.length c) ∧ Row w' W.heap.size xs g ∧ Below W.heap.size W w' := by
  obtain ⟨g, c, cs, he, hg, hs, h1, _, h2, hb⟩ := h
  exact ⟨g, c, he, ⟨hg, cs, hs, h1, h2⟩, hb⟩

/-- eqStringS of two such rows of one list. -/
theorem eq_rows {w : World} {B B' : Nat} {xs : List ByteArray} {g g' : Nat} (c c' : Nat) (h : Row w B xs g) (h' : Row w B' xs g') (hn : xs.length ≤ 9223372036854775807) :
    Calls Tryd.prog 14 #[.slice (some ⟨g, 0, none⟩) xs.length c, .slice (some ⟨g', 0, none⟩) xs.length c'] w fun e w' => e = .returned (.bool true) ∧ Below w.heap.size w w' :=
  eqStringS_same _ _ _ c c' xs w h.sr h'.sr hn
/-- markStringS of such a row. -/
theorem mark_row {w : World} {B : Nat} {xs : List ByteArray} {g : Nat} (c : Nat) (h : Row w B xs g) (hn : xs.length ≤ 1048577) :
    Calls Tryd.prog 15 #[.slice (some ⟨g, 0, none⟩) xs.length c, .int .i64 1] w fun e w' => e = .returned (.int .i64 ((1 + xs.length : Nat) : Int)) ∧ Below g w w' ∧ SR w' (g + 1) (some ⟨g, 0, none⟩) xs.length (marks 1 xs.length) := by
  obtain ⟨cs, hs, h1, _⟩ := h.block
  exact markStringS_any g xs.length c 1 cs w hs h1 (by omega) (by omega)
/-- heldStringS of a marked row. -/
theorem held_row {w : World} {n g : Nat} (c : Nat) (h : SR w (g + 1) (some ⟨g, 0, none⟩) n (marks 1 n)) (hg : g < w.heap.size) (hn : n ≤ 1048577) :
    Calls Tryd.prog 16 #[.slice (some ⟨g, 0, none⟩) n c, .int .i64 1] w fun e w' => e = .returned (.int .i64 ((1 + n : Nat) : Int)) ∧ Below w.heap.size w w' :=
  heldStringS_any _ n c 1 w (h.more (by omega)) (by omega) (by omega)

end Go.Proofs.YtmlefiickbafbaaDoor
