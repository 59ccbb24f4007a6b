/- The tokens of a text as a plain function. No condition. -/
import Derived.Test.YtdfikepfjdoooaaDoorOne
import Derived.Test.YtdfikepfjdoooaaDoorToks
namespace Go.Proofs.YtdfikepfjdoooaaDoor
open Go Go.RowKit

/-- The tokens from byte k on, behind xs: the list, a number and a code. -/
def scanT (s : ByteArray) (k : Nat) (xs : List Tok) : List Tok × Nat × Int :=
  if _h : blankEnd s k < s.size then
    match _h1 : oneT s (blankEnd s k) with
    | none => ([], blankEnd s k, 2)
    | some (a, n, t, k') =>
      if xs.length = 120 then ([], blankEnd s k, 6)
      else scanT s k' (xs ++ [⟨a, n, t, gapB s ((blankEnd s k : Int) - 1), gapB s k'⟩])
  else (xs, 0, 0)
termination_by s.size - k
decreasing_by
  have h2 := oneT_end _h _h1
  have h3 : k ≤ blankEnd s k := runEnd_ge _ s k
  omega
section
variable {s : ByteArray} {k k' : Nat} {a n : Int} {t : ByteArray} {xs : List Tok}
theorem scanT_end (h : ¬ blankEnd s k < s.size) : scanT s k xs = (xs, 0, 0) := by rw [scanT, dif_neg h]
theorem scanT_none (h : blankEnd s k < s.size) (h1 : oneT s (blankEnd s k) = none) : scanT s k xs = ([], blankEnd s k, 2) := by
  rw [scanT, dif_pos h]
  split
  · rfl
  · next h2 => rw [h1] at h2; cases h2
theorem scanT_full (h : blankEnd s k < s.size) (h1 : oneT s (blankEnd s k) = some (a, n, t, k')) (hl : xs.length = 120) : scanT s k xs = ([], blankEnd s k, 6) := by
  rw [scanT, dif_pos h]
  split
  · next h2 => rw [h1] at h2; cases h2
  · rw [if_pos hl]
theorem scanT_step (h : blankEnd s k < s.size) (h1 : oneT s (blankEnd s k) = some (a, n, t, k')) (hl : ¬ xs.length = 120) : scanT s k xs = scanT s k' (xs ++ [⟨a, n, t, gapB s ((blankEnd s k : Int) - 1), gapB s k'⟩]) := by
  rw [scanT, dif_pos h]
  split
  · next h2 => rw [h1] at h2; cases h2
  · next h2 =>
    rw [h1] at h2
    simp only [Option.some.injEq, Prod.mk.injEq] at h2
    obtain ⟨rfl, rfl, rfl, rfl⟩ := h2
    rw [if_neg hl]
end
theorem scanT_congr {s : ByteArray} {k j : Nat} {xs : List Tok} (h : blankEnd s k = blankEnd s j) : scanT s k xs = scanT s j xs := by
  by_cases h0 : blankEnd s k < s.size
  · cases h1 : oneT s (blankEnd s k) with
    | none => rw [scanT_none h0 h1, scanT_none (h ▸ h0) (h ▸ h1), h]
    | some r =>
      obtain ⟨a, n, t, k'⟩ := r
      by_cases hl : xs.length = 120
      · rw [scanT_full h0 h1 hl, scanT_full (h ▸ h0) (h ▸ h1) hl, h]
      · rw [scanT_step h0 h1 hl, scanT_step (h ▸ h0) (h ▸ h1) hl, h]
  · rw [scanT_end h0, scanT_end (h ▸ h0)]
theorem scanT_blank {s : ByteArray} {k : Nat} {xs : List Tok} (h : k < s.size) (h1 : (PlainAid.bt s k == 32) = true) : scanT s k xs = scanT s (k + 1) xs := scanT_congr (runEnd_step h h1)
/-- What ScanTokens answers. -/
def tokensT (s : ByteArray) : List Tok × Nat × Int := if s.size ≤ 4000 ∧ allB (prnB false) s = true then scanT s 0 [] else ([], 0, 1)
theorem scanT_len (s : ByteArray) : ∀ (m k : Nat) (xs : List Tok), s.size - k ≤ m → xs.length ≤ 120 → (scanT s k xs).1.length ≤ 120
  | m, k, xs, hm, hx => by
    by_cases h : blankEnd s k < s.size
    · cases h1 : oneT s (blankEnd s k) with
      | none => rw [scanT_none h h1]; exact Nat.zero_le _
      | some r =>
        obtain ⟨a, n, t, k'⟩ := r
        by_cases hl : xs.length = 120
        · rw [scanT_full h h1 hl]; exact Nat.zero_le _
        · rw [scanT_step h h1 hl]
          have h2 := oneT_end h h1
          have h3 : k ≤ blankEnd s k := runEnd_ge _ s k
          cases m with
          | zero => omega
          | succ m => exact scanT_len s m k' _ (by omega) (by simp; omega)
    · rw [scanT_end h]; exact hx
/-- A token's last byte is no blank. -/
theorem oneT_last {s : ByteArray} {k k' : Nat} {a n : Int} {t : ByteArray} (hk : k < s.size) (h : oneT s k = some (a, n, t, k')) : gapB s ((k' : Int) - 1) = false := by
  have hend := oneT_end hk h
  have c32 : cls 32 = 0 := by decide +kernel
  suffices H : ¬ PlainAid.bt s (k' - 1) = 32 by
    rw [show ((k' : Int) - 1) = ((k' - 1 : Nat) : Int) by omega, gapB_in (by omega)]
    simpa using H
  intro he
  unfold oneT at h
  split at h
  · next hc =>
    split at h
    · simp only [Option.some.injEq, Prod.mk.injEq] at h
      obtain ⟨_, _, _, rfl⟩ := h
      have := runEnd_in (p := contB) (s := s) (k := k) (runEnd contB s k - 1) (by omega) (by omega)
      rw [he] at this
      unfold contB at this
      rw [c32] at this
      cases this
    · cases h
  split at h
  · next hc =>
    split at h
    · split at h
      · simp only [Option.some.injEq, Prod.mk.injEq] at h
        obtain ⟨_, _, _, rfl⟩ := h
        have := runEnd_in (p := digB) (s := s) (k := k) (runEnd digB s k - 1) (by omega) (by omega)
        rw [he] at this
        unfold digB at this
        rw [c32] at this
        cases this
      · cases h
    · cases h
  split at h
  · next hc =>
    split at h
    · next h2 =>
      simp only [Option.some.injEq, Prod.mk.injEq] at h
      obtain ⟨_, _, _, rfl⟩ := h
      have := runEnd_at h2.1
      rw [Nat.add_sub_cancel] at he
      rw [he] at this
      unfold notB at this
      have e : (32 : Int) = PlainAid.bt s k := by simpa using this
      rw [← e, c32] at hc
      cases hc
    · cases h
  split at h
  · next hc =>
    simp only [Option.some.injEq, Prod.mk.injEq] at h
    obtain ⟨_, _, _, rfl⟩ := h
    rw [Nat.add_sub_cancel] at he
    rw [he, c32] at hc
    cases hc
  split at h
  · cases h
  · next hc =>
    split at h
    · cases h
    · simp only [Option.some.injEq, Prod.mk.injEq] at h
      obtain ⟨_, _, _, rfl⟩ := h
      rw [Nat.add_sub_cancel] at he
      rw [he, c32] at hc
      exact hc rfl
end Go.Proofs.YtdfikepfjdoooaaDoor
