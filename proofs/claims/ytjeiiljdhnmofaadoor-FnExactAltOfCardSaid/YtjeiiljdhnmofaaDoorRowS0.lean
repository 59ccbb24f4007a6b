/- Rows of strings that calls hand back, empty ones too. No condition. -/
import Derived.Test.YtjeiiljdhnmofaaDoorStrs0
namespace Go.Proofs.YtjeiiljdhnmofaaDoor
open Go Go.RowKit

theorem grown_below {w w' : World} (h : Below w.heap.size w w') (row : Option Nat) : w.grownBy w' row := ⟨h.os, h.tape, h.output, h.size, fun j hj _ => h.block j hj⟩
/-- A slice of strings that reads as xs; where there is one, its block lies from B on and below C. -/
def RowO (w : World) (B C : Nat) (A : Option Addr) (xs : List ByteArray) : Prop :=
  0 < xs.length → ∃ g cs, A = some ⟨g, 0, none⟩ ∧ B ≤ g ∧ g < C ∧ SB w g cs ∧ xs.length ≤ cs.size ∧ ∀ (j : Nat) (x : ByteArray), xs[j]? = some x → cs[j]? = some (Value.string x)
section
variable {w w' : World} {B C D : Nat} {A : Option Addr} {xs : List ByteArray}
theorem RowO.below (h : RowO w B C A xs) (hb : Below D w w') (hD : C ≤ D) : RowO w' B C A xs := fun hn => by
  obtain ⟨g, cs, e, h1, h2, h3, h4, h5⟩ := h hn
  exact ⟨g, cs, e, h1, h2, h3.below hb (by omega), h4, h5⟩
theorem RowO.sr (h : RowO w B C A xs) : SR w C A xs.length xs := ⟨rfl, fun hn => by
  obtain ⟨g, cs, e, h1, h2, h3, h4, h5⟩ := h hn
  exact ⟨g, e, h2, fun j x hx => (h3.cell j).trans (h5 j x hx)⟩⟩
end
/-- The call hands back such a row of its own, and nothing that was there has turned. -/
def RetsO (W : World) (xs : List ByteArray) (e : Ending) (w' : World) : Prop :=
  ∃ A c, e = Ending.returned (Value.slice A xs.length c) ∧ RowO w' W.heap.size w'.heap.size A xs ∧ Below W.heap.size W w'
theorem retsO_own {W w' : World} {v : Value} {xs : List ByteArray} (h : w'.ownsRow W.heap.size 9 1 v xs.length (xs.map Value.string)) (hb : Below W.heap.size W w') : RetsO W xs (.returned v) w' := by
  rcases h.2 with ⟨rfl, h0⟩ | ⟨g, cap, cur, rfl, hg, hh, hnc, _, hcs, ht⟩
  · exact ⟨none, 0, by rw [h0], fun hn => by omega, hb⟩
  · refine ⟨some ⟨g, 0, none⟩, cap, rfl, fun _ => ⟨g, cur, rfl, hg, SB.lt hh, hh, by omega, fun j x hx => ?_⟩, hb⟩
    have hj : j < xs.length := (List.getElem?_eq_some_iff.1 hx).1
    have := congrArg (·[j]?) ht
    simp only [List.getElem?_take, Nat.mul_one, if_pos hj, List.getElem?_map, hx, Option.map_some] at this
    rw [← this, Array.getElem?_toList]

theorem own_lit0 {B : Nat} (w w1 : World) (hb : Below (w.alloc (.cells #[] 9)).heap.size (w.alloc (.cells #[] 9)) w1) (hB : B ≤ w.heap.size) : w1.ownsRow B 9 1 (.slice (some ⟨w.heap.size, 0, none⟩) 0 0) 0 [] :=
  (World.ownsRow_lit (base := B) (e := 9) (size := 1) w #[] 0 hB (by decide) rfl).kept (grown_below hb none) (.inr (by simp [Value.ownBlock]))
end Go.Proofs.YtjeiiljdhnmofaaDoor
