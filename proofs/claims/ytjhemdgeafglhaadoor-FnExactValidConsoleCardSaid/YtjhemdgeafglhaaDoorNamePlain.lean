/- Names as plain functions. No condition. -/
import Derived.Test.YtjhemdgeafglhaaDoorClassPlain
namespace Go.Proofs.YtjhemdgeafglhaaDoor
open Go

def letterB (c : Int) : Bool := cls c == 1
def digitB (c : Int) : Bool := cls c == 2
def contB (c : Int) : Bool := cls c == 1 || cls c == 2 || cls c == 11
theorem letterB_range {c : Int} (h0 : 0 ≤ c) (h1 : c ≤ 255) : letterB c = (decide (65 ≤ c ∧ c ≤ 90) || decide (97 ≤ c ∧ c ≤ 122)) := by
  have := all_small (p := fun c => letterB c == (decide (65 ≤ c ∧ c ≤ 90) || decide (97 ≤ c ∧ c ≤ 122))) (by decide +kernel) h0 h1
  simpa using this
theorem digitB_range {c : Int} (h0 : 0 ≤ c) (h1 : c ≤ 255) : digitB c = decide (48 ≤ c ∧ c ≤ 57) := by
  have := all_small (p := fun c => digitB c == decide (48 ≤ c ∧ c ≤ 57)) (by decide +kernel) h0 h1
  simpa using this
theorem contB_parts {c : Int} (h0 : 0 ≤ c) (h1 : c ≤ 255) : contB c = (letterB c || digitB c || c == 95) := by
  have := all_small (p := fun c => contB c == (letterB c || digitB c || c == 95)) (by decide +kernel) h0 h1
  simpa using this
theorem contB_of_letter {c : Int} (h : letterB c = true) : contB c = true := by
  unfold letterB at h
  unfold contB
  rw [h]
  rfl
theorem contB_high {r : Int} (h : 128 ≤ r) : contB r = false := by
  unfold contB
  rw [cls_out (.inr h)]
  rfl

/-- The end of the longest run of bytes that satisfy p, from k on. -/
def runEnd (p : Int → Bool) (s : ByteArray) (k : Nat) : Nat :=
  if _h : k < s.size ∧ p (PlainAid.bt s k) = true then runEnd p s (k + 1) else k
termination_by s.size - k
theorem runEnd_step {p : Int → Bool} {s : ByteArray} {k : Nat} (h : k < s.size) (hp : p (PlainAid.bt s k) = true) : runEnd p s k = runEnd p s (k + 1) := by
  rw [runEnd, dif_pos ⟨h, hp⟩]
theorem runEnd_stop {p : Int → Bool} {s : ByteArray} {k : Nat} (h : k < s.size → p (PlainAid.bt s k) = false) : runEnd p s k = k := by
  rw [runEnd, dif_neg]
  rintro ⟨h1, h2⟩
  rw [h h1] at h2
  cases h2
theorem runEnd_spec (p : Int → Bool) (s : ByteArray) : ∀ (n k : Nat), s.size - k ≤ n → k ≤ runEnd p s k ∧ (k ≤ s.size → runEnd p s k ≤ s.size) ∧ (∀ j, k ≤ j → j < runEnd p s k → p (PlainAid.bt s j) = true) ∧ (runEnd p s k < s.size → p (PlainAid.bt s (runEnd p s k)) = false)
  | n, k, hn => by
    by_cases h : k < s.size ∧ p (PlainAid.bt s k) = true
    · rw [runEnd_step h.1 h.2]
      cases n with
      | zero => omega
      | succ n =>
        obtain ⟨h1, h2, h3, h4⟩ := runEnd_spec p s n (k + 1) (by omega)
        refine ⟨by omega, fun _ => h2 (by omega), fun j hj1 hj2 => ?_, h4⟩
        by_cases e : j = k
        · rw [e]; exact h.2
        · exact h3 j (by omega) hj2
    · have hs : k < s.size → p (PlainAid.bt s k) = false := fun h1 => by
        cases e : p (PlainAid.bt s k) with
        | false => rfl
        | true => exact absurd ⟨h1, e⟩ h
      rw [runEnd_stop hs]
      exact ⟨Nat.le_refl _, id, fun j h1 h2 => absurd h2 (by omega), hs⟩
theorem runEnd_ge (p : Int → Bool) (s : ByteArray) (k : Nat) : k ≤ runEnd p s k := (runEnd_spec p s _ k (Nat.le_refl _)).1
theorem runEnd_le {p : Int → Bool} {s : ByteArray} {k : Nat} (h : k ≤ s.size) : runEnd p s k ≤ s.size := (runEnd_spec p s _ k (Nat.le_refl _)).2.1 h
theorem runEnd_in {p : Int → Bool} {s : ByteArray} {k : Nat} (j : Nat) (h1 : k ≤ j) (h2 : j < runEnd p s k) : p (PlainAid.bt s j) = true := (runEnd_spec p s _ k (Nat.le_refl _)).2.2.1 j h1 h2
theorem runEnd_at {p : Int → Bool} {s : ByteArray} {k : Nat} (h : runEnd p s k < s.size) : p (PlainAid.bt s (runEnd p s k)) = false := (runEnd_spec p s _ k (Nat.le_refl _)).2.2.2 h
theorem runEnd_all {p : Int → Bool} {s : ByteArray} : decide (runEnd p s 0 = s.size) = allB p s := by
  by_cases h : runEnd p s 0 = s.size
  · rw [allB_true fun i hi => runEnd_in i (Nat.zero_le _) (by omega)]
    simpa using h
  · have := runEnd_le (p := p) (Nat.zero_le s.size)
    rw [allB_false (runEnd p s 0) (by omega) (runEnd_at (by omega))]
    simpa using h

/-- The end of the longest name at an offset. -/
def nameEnd (s : ByteArray) (k : Nat) : Nat := if k < s.size ∧ letterB (PlainAid.bt s k) = true then runEnd contB s k else k
theorem nameEnd_no {s : ByteArray} {k : Nat} (h : k < s.size → letterB (PlainAid.bt s k) = false) : nameEnd s k = k := by
  unfold nameEnd
  rw [if_neg]
  rintro ⟨h1, h2⟩
  rw [h h1] at h2
  cases h2
theorem nameEnd_yes {s : ByteArray} {k : Nat} (h : k < s.size) (h2 : letterB (PlainAid.bt s k) = true) : nameEnd s k = runEnd contB s k := by
  unfold nameEnd
  rw [if_pos ⟨h, h2⟩]
theorem nameEnd_le {s : ByteArray} {k : Nat} (h : k ≤ s.size) : nameEnd s k ≤ s.size := by
  unfold nameEnd
  split
  · exact runEnd_le h
  · exact h

/-- What IsName answers. -/
def isNameB (s : ByteArray) : Bool := decide (0 < s.size ∧ s.size ≤ 12) && letterB (PlainAid.bt s 0) && allB contB s
theorem isName_end {s : ByteArray} (h : 0 < s.size) (h2 : s.size ≤ 12) : isNameB s = decide (nameEnd s 0 = s.size) := by
  unfold isNameB
  have e : decide (0 < s.size ∧ s.size ≤ 12) = true := by simp [h, h2]
  rw [e, Bool.true_and]
  cases hl : letterB (PlainAid.bt s 0) with
  | true =>
    rw [nameEnd_yes h hl, runEnd_all]
    rfl
  | false =>
    rw [nameEnd_no fun _ => hl]
    have : ¬ 0 = s.size := by omega
    simp [this]
theorem isName_out {s : ByteArray} (h : s.size = 0 ∨ 12 < s.size) : isNameB s = false := by
  unfold isNameB
  have e : decide (0 < s.size ∧ s.size ≤ 12) = false := by simp; omega
  rw [e]
  rfl
theorem isName_in {s : ByteArray} (h : 0 < s.size) (h2 : s.size ≤ 12) : isNameB s = (letterB (PlainAid.bt s 0) && allB contB s) := by
  unfold isNameB
  have e : decide (0 < s.size ∧ s.size ≤ 12) = true := by simp [h, h2]
  rw [e, Bool.true_and]
end Go.Proofs.YtjhemdgeafglhaaDoor
