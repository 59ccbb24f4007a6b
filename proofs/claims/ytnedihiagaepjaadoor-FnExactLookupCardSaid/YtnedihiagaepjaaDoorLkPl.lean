/- A list whose names rise: where a name stands or would stand. Plain. -/
import Derived.Test.YtnedihiagaepjaaDoorLim
import Derived.Sort.Walk0
namespace Go.Proofs.YtnedihiagaepjaaDoor
open Go Go.RowKit

theorem less_trans {a b c : List UInt8} (h : Op.bytesLess a b = true) (h' : Op.bytesLess b c = true) : Op.bytesLess a c = true := by
  rw [Go.Proofs.bytesLess_eq, decide_eq_true_eq] at h h' ⊢
  exact List.lt_trans h h'
theorem less_irrefl (a : List UInt8) : Op.bytesLess a a = false := by
  rw [Go.Proofs.bytesLess_eq, decide_eq_false_iff_not]
  exact List.lt_irrefl a
theorem UpOk.rise {α : Type} {ok : α → Bool} {nm : α → ByteArray} {xs : List α} (h : UpOk ok nm xs xs.length) : ∀ {j i : Nat} {a b : α}, i < j → xs[i]? = some a → xs[j]? = some b → Op.bytesLess (nm a).toList (nm b).toList = true
  | 0, _, _, _, hij, _, _ => by omega
  | j + 1, i, a, b, hij, ha, hb => by
    have hl := (List.getElem?_eq_some_iff.1 hb).1
    have hc : xs[j]? = some (xs[j]'(by omega)) := List.getElem?_eq_getElem (by omega)
    have h1 := (h (j + 1) b hl hb).2 _ (by omega) hc
    by_cases e : i = j
    · subst e
      rw [ha, Option.some.injEq] at hc
      rw [hc]
      exact h1
    · exact less_trans (h.rise (show i < j by omega) ha hc) h1
/-- How many names lie ahead of s. -/
def PlaceP {α : Type} (nm : α → ByteArray) (xs : List α) (s : ByteArray) (m : Nat) : Prop :=
  m ≤ xs.length ∧ (∀ (i : Nat) (b : α), i < m → xs[i]? = some b → Op.bytesLess (nm b).toList s.toList = true) ∧ (∀ (i : Nat) (b : α), m ≤ i → xs[i]? = some b → Op.bytesLess (nm b).toList s.toList = false)
theorem PlaceP.ex {α : Type} {ok : α → Bool} {nm : α → ByteArray} {xs : List α} (h : UpOk ok nm xs xs.length) (s : ByteArray) : ∃ m, PlaceP nm xs s m := by
  have key : ∀ k, k ≤ xs.length → (∃ m, PlaceP nm xs s m) ∨ (∀ (i : Nat) (b : α), i < k → xs[i]? = some b → Op.bytesLess (nm b).toList s.toList = true) := by
    intro k
    induction k with
    | zero => exact fun _ => .inr fun i b hi => absurd hi (by omega)
    | succ k ih =>
      intro hk
      rcases ih (by omega) with h' | h'
      · exact .inl h'
      · have hc : xs[k]? = some (xs[k]'(by omega)) := List.getElem?_eq_getElem (by omega)
        cases hb : Op.bytesLess (nm (xs[k]'(by omega))).toList s.toList
        · refine .inl ⟨k, by omega, h', fun i b hi hx => ?_⟩
          by_cases e : i = k
          · subst e
            rw [hc, Option.some.injEq] at hx
            rw [← hx]
            exact hb
          · cases hbb : Op.bytesLess (nm b).toList s.toList
            · rfl
            · have := less_trans (h.rise (show k < i by omega) hc hx) hbb
              rw [hb] at this
              cases this
        · refine .inr fun i b hi hx => ?_
          by_cases e : i = k
          · subst e
            rw [hc, Option.some.injEq] at hx
            rw [← hx]
            exact hb
          · exact h' i b (by omega) hx
  rcases key xs.length (Nat.le_refl _) with h' | h'
  · exact h'
  · exact ⟨xs.length, Nat.le_refl _, fun i b hi hx => h' i b hi hx, fun i b hi hx => absurd (List.getElem?_eq_some_iff.1 hx).1 (by omega)⟩
/-- Found: it is the only one of that name. -/
theorem PlaceP.hit {α : Type} {nm : α → ByteArray} {xs : List α} {s : ByteArray} {m : Nat} {b : α} (h : PlaceP nm xs s m) (_hb : xs[m]? = some b) (_e : nm b = s) : ∀ j, j < m → ∀ c : α, xs[j]? = some c → nm c ≠ s := by
  intro j hj c hc e2
  have := h.2.1 j c hj hc
  rw [e2, less_irrefl] at this
  cases this
theorem PlaceP.miss {α : Type} {ok : α → Bool} {nm : α → ByteArray} {xs : List α} {s : ByteArray} {m : Nat} (hu : UpOk ok nm xs xs.length) (h : PlaceP nm xs s m) (hm : ∀ b, xs[m]? = some b → nm b ≠ s) : ∀ (j : Nat) (c : α), xs[j]? = some c → nm c ≠ s := by
  intro j c hc e2
  rcases Nat.lt_trichotomy j m with q | q | q
  · have := h.2.1 j c q hc
    rw [e2, less_irrefl] at this
    cases this
  · subst q
    exact hm c hc e2
  · have hl := (List.getElem?_eq_some_iff.1 hc).1
    have hb : xs[m]? = some (xs[m]'(by omega)) := List.getElem?_eq_getElem (by omega)
    have h1 := h.2.2 m _ (Nat.le_refl _) hb
    have h2 := hu.rise q hb hc
    rw [e2, h1] at h2
    cases h2
end Go.Proofs.YtnedihiagaepjaaDoor
