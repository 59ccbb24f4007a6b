/- Slices and blocks of strings. No condition. -/
import Derived.Test.YtdlhoakcpdaboaaBase
import Derived.Test.YtdlhoakcpdaboaaMark0
import Derived.Deep.QuietTactic
import Derived.BigQuiet
import Derived.Deep.RegionHeld3
namespace Go.Proofs.Ytdlhoakcpdaboaa
open Go Go.RowKit

/-- A slice of strings that begins at the head of a block below B, and reads as xs. -/
def SR (w : World) (B : Nat) (A : Option Addr) (n : Nat) (xs : List ByteArray) : Prop :=
  xs.length = n ∧ (0 < n → ∃ g, A = some ⟨g, 0, none⟩ ∧ g < B ∧ ∀ j x, xs[j]? = some x → w.cell? ⟨g, j, none⟩ = some (.string x))
theorem SR.at_ {w : World} {B n k : Nat} {A : Option Addr} {xs : List ByteArray} (h : SR w B A n xs) (hk : k < n) (hl : k < xs.length) : ∃ g, A = some ⟨g, 0, none⟩ ∧ g < B ∧ w.cell? ⟨g, k, none⟩ = some (.string xs[k]) := by
  obtain ⟨g, rfl, hg, hc⟩ := h.2 (by omega)
  exact ⟨g, rfl, hg, hc k _ (List.getElem?_eq_getElem hl)⟩
theorem SR.below {w w' : World} {B n : Nat} {A : Option Addr} {xs : List ByteArray} (h : SR w B A n xs) (hb : Below B w w') : SR w' B A n xs :=
  ⟨h.1, fun hn => by
    obtain ⟨g, e, hg, hc⟩ := h.2 hn
    exact ⟨g, e, hg, fun j x hx => (hb.cell (p := ⟨g, j, none⟩) hg).trans (hc j x hx)⟩⟩
theorem SR.more {w : World} {B B' n : Nat} {A : Option Addr} {xs : List ByteArray} (h : SR w B A n xs) (hB : B ≤ B') : SR w B' A n xs :=
  ⟨h.1, fun hn => by
    obtain ⟨g, e, hg, hc⟩ := h.2 hn
    exact ⟨g, e, by omega, hc⟩⟩

theorem i64_ret {a b : Nat} (h : a = b) : Ending.returned (.int .i64 (a : Int)) = .returned (.int .i64 (b : Int)) := by rw [h]
/-- Block g of strings is known: its cells, none frozen. -/
def SB (w : World) (g : Nat) (cs : Array Value) : Prop := w.heap[g]? = some (.cells cs 9 (0, 0))
theorem SB.lt {w : World} {g : Nat} {cs : Array Value} (h : SB w g cs) : g < w.heap.size := by
  rcases Nat.lt_or_ge g w.heap.size with hlt | hge
  · exact hlt
  · unfold SB at h; rw [Array.getElem?_eq_none hge] at h; cases h
theorem SB.cell {w : World} {g : Nat} {cs : Array Value} (h : SB w g cs) (i : Nat) : w.cell? ⟨g, i, none⟩ = cs[i]? := cell_of_row w g i cs _ (0, 0) h
theorem SB.frozen {w : World} {g : Nat} {cs : Array Value} (h : SB w g cs) (i : Nat) : w.frozen? ⟨g, i, none⟩ = false := by
  unfold SB at h
  simp [World.frozen?, h]
theorem SB.set_ {w : World} {g : Nat} {cs : Array Value} (h : SB w g cs) (i : Nat) (u : Value) : SB (w.setCell ⟨g, i, none⟩ u) g (cs.setIfInBounds i u) := by
  unfold SB at h ⊢
  simp [World.setCell, Array.getElem?_modify, h]
theorem SB.below {w w' : World} {g B : Nat} {cs : Array Value} (h : SB w g cs) (hb : Below B w w') (hg : g < B) : SB w' g cs := (hb.block g hg).trans h
end Go.Proofs.Ytdlhoakcpdaboaa
