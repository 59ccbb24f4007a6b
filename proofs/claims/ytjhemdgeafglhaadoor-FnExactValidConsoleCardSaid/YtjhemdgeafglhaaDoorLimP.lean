/- When a rising list is valid. Plain. -/
import Derived.Test.YtjhemdgeafglhaaDoorRw
namespace Go.Proofs.YtjhemdgeafglhaaDoor
open Go Go.RowKit

/-- The first k elements are what a valid list has. -/
def UpOk {α : Type} (ok : α → Bool) (nm : α → ByteArray) (xs : List α) (k : Nat) : Prop := ∀ (i : Nat) (x : α), i < k → xs[i]? = some x → ok x = true ∧ ∀ y, 0 < i → xs[i - 1]? = some y → Op.bytesLess (nm y).toList (nm x).toList = true
def ListOk {α : Type} (ok : α → Bool) (nm : α → ByteArray) (lim : Nat) (xs : List α) : Prop := xs.length ≤ lim ∧ UpOk ok nm xs xs.length
theorem UpOk.zero {α : Type} {ok : α → Bool} {nm : α → ByteArray} {xs : List α} : UpOk ok nm xs 0 := fun i x h => absurd h (by omega)
theorem UpOk.first {α : Type} {ok : α → Bool} {nm : α → ByteArray} {xs : List α} {x : α} (hx : xs[0]? = some x) (h : ok x = true) : UpOk ok nm xs (0 + 1) := by
  intro i u hi hu
  obtain rfl : i = 0 := by omega
  rw [hx, Option.some.injEq] at hu
  subst hu
  exact ⟨h, fun y h0 => absurd h0 (by omega)⟩
theorem UpOk.next {α : Type} {ok : α → Bool} {nm : α → ByteArray} {xs : List α} {k : Nat} {x y : α} (h : UpOk ok nm xs k) (hx : xs[k]? = some x) (hok : ok x = true) (hy : xs[k - 1]? = some y) (hl : Op.bytesLess (nm y).toList (nm x).toList = true) : UpOk ok nm xs (k + 1) := by
  intro i u hi hu
  by_cases e : i = k
  · subst e
    rw [hx, Option.some.injEq] at hu
    subst hu
    refine ⟨hok, fun z h0 hz => ?_⟩
    rw [hy, Option.some.injEq] at hz
    subst hz
    exact hl
  · exact h i u (by omega) hu
theorem not_ok {α : Type} {ok : α → Bool} {nm : α → ByteArray} {lim : Nat} {xs : List α} {k : Nat} {x : α} (hx : xs[k]? = some x) (hok : ok x = false) : ¬ ListOk ok nm lim xs := fun h => by
  have := (h.2 k x (List.getElem?_eq_some_iff.1 hx).1 hx).1
  rw [hok] at this
  cases this
theorem not_up {α : Type} {ok : α → Bool} {nm : α → ByteArray} {lim : Nat} {xs : List α} {k : Nat} {x y : α} (hk : 0 < k) (hx : xs[k]? = some x) (hy : xs[k - 1]? = some y) (hl : Op.bytesLess (nm y).toList (nm x).toList = false) : ¬ ListOk ok nm lim xs := fun h => by
  have := (h.2 k x (List.getElem?_eq_some_iff.1 hx).1 hx).2 y hk hy
  rw [hl] at this
  cases this
end Go.Proofs.YtjhemdgeafglhaaDoor
