/- The statements of a line as a plain function. No condition. -/
import Derived.Test.YtfobjedobojbnabDoorPlain
import Derived.Lib.IndexBytes
import Derived.Lib.IndexLaws
namespace Go.Proofs.YtfobjedobojbnabDoor
open Go

/-- The parts of a line from byte i on: the current part began at a, q is the open quote or 0. -/
def stm (s : ByteArray) (a : Nat) (q : Int) (i : Nat) : List ByteArray :=
  if _h : i < s.size then
    if q = 0 then
      if PlainAid.bt s i = 39 ∨ PlainAid.bt s i = 34 then stm s a (PlainAid.bt s i) (i + 1)
      else if PlainAid.bt s i = 59 then s.extract a i :: stm s (i + 1) 0 (i + 1)
      else stm s a 0 (i + 1)
    else if PlainAid.bt s i = q then stm s a 0 (i + 1)
    else stm s a q (i + 1)
  else [s.extract a s.size]
termination_by s.size - i

section
variable {s : ByteArray} {a i : Nat} {q : Int}
theorem stm_end (h : ¬ i < s.size) : stm s a q i = [s.extract a s.size] := by rw [stm, dif_neg h]
theorem stm_quote (h : i < s.size) (hc : PlainAid.bt s i = 39 ∨ PlainAid.bt s i = 34) : stm s a 0 i = stm s a (PlainAid.bt s i) (i + 1) := by
  rw [stm, dif_pos h, if_pos rfl, if_pos hc]
theorem stm_cut (h : i < s.size) (hc : PlainAid.bt s i = 59) : stm s a 0 i = s.extract a i :: stm s (i + 1) 0 (i + 1) := by
  rw [stm, dif_pos h, if_pos rfl, if_neg (by omega), if_pos hc]
theorem stm_plain (h : i < s.size) (h1 : ¬ PlainAid.bt s i = 39) (h2 : ¬ PlainAid.bt s i = 34) (h3 : ¬ PlainAid.bt s i = 59) : stm s a 0 i = stm s a 0 (i + 1) := by
  rw [stm, dif_pos h, if_pos rfl, if_neg (by omega), if_neg h3]
theorem stm_close (h : i < s.size) (hq : ¬ q = 0) (hc : PlainAid.bt s i = q) : stm s a q i = stm s a 0 (i + 1) := by
  rw [stm, dif_pos h, if_neg hq, if_pos hc]
theorem stm_inside (h : i < s.size) (hq : ¬ q = 0) (hc : ¬ PlainAid.bt s i = q) : stm s a q i = stm s a q (i + 1) := by
  rw [stm, dif_pos h, if_neg hq, if_neg hc]
end
/-- Inside quotes up to place e. -/
theorem stm_skip {s : ByteArray} {a : Nat} {q : Int} (hq : ¬ q = 0) : ∀ (n i : Nat), (∀ j, i ≤ j → j < i + n → j < s.size ∧ ¬ PlainAid.bt s j = q) → stm s a q i = stm s a q (i + n)
  | 0, _, _ => rfl
  | n + 1, i, h => by
    obtain ⟨h1, h2⟩ := h i (Nat.le_refl _) (by omega)
    rw [stm_inside h1 hq h2, stm_skip hq n (i + 1) fun j hj1 hj2 => h j (by omega) (by omega)]
    congr 1
    omega
theorem stm_length (s : ByteArray) : ∀ (n i a : Nat) (q : Int), s.size - i ≤ n → (stm s a q i).length ≤ n + 1
  | n, i, a, q, hn => by
    by_cases h : i < s.size
    · cases n with
      | zero => omega
      | succ n =>
        rw [stm, dif_pos h]
        have r := fun a q => stm_length s n (i + 1) a q (by omega)
        split
        · split
          · exact Nat.le_succ_of_le (r _ _)
          · split
            · simp only [List.length_cons]; have := r (i + 1) 0; omega
            · exact Nat.le_succ_of_le (r _ _)
        · split <;> exact Nat.le_succ_of_le (r _ _)
    · rw [stm_end h]; simp
theorem stm_pos (s : ByteArray) : ∀ (n i a : Nat) (q : Int), s.size - i ≤ n → 1 ≤ (stm s a q i).length
  | n, i, a, q, hn => by
    by_cases h : i < s.size
    · cases n with
      | zero => omega
      | succ n =>
        rw [stm, dif_pos h]
        have r := fun a q => stm_pos s n (i + 1) a q (by omega)
        split
        · split
          · exact r _ _
          · split
            · simp only [List.length_cons]; omega
            · exact r _ _
        · split <;> exact r _ _
    · rw [stm_end h]; simp

theorem bt_drop (s : ByteArray) (k j : Nat) (c : UInt8) : (s.data.toList.drop k)[j]? = some c ↔ k + j < s.size ∧ PlainAid.bt s (k + j) = (c.toNat : Int) := by
  rw [List.getElem?_drop]
  constructor
  · intro h
    obtain ⟨hl, he⟩ := List.getElem?_eq_some_iff.1 h
    exact ⟨by rw [Lib.size_eq]; exact hl, by rw [bt_data s (k + j) hl, he]⟩
  · rintro ⟨h1, h2⟩
    rw [Lib.size_eq] at h1
    rw [bt_data s (k + j) h1] at h2
    rw [List.getElem?_eq_getElem h1, Option.some.injEq]
    exact UInt8.toNat_inj.mp (by omega)
/-- The next quote is not there. -/
theorem stm_find_no {s : ByteArray} {a k : Nat} {c : UInt8} (hc : ¬ (c.toNat : Int) = 0) (hk : k ≤ s.size) (h : Lib.indexByte (s.data.toList.drop k) c = -1) : stm s a (c.toNat : Int) k = [s.extract a s.size] := by
  have hn := Lib.indexByte_none h
  have := stm_skip (s := s) (a := a) hc (s.size - k) k fun j h1 h2 => ⟨by omega, fun e => hn (j - k) ((bt_drop s k (j - k) c).2 ⟨by omega, by rw [show k + (j - k) = j by omega]; exact e⟩)⟩
  rw [this]
  exact stm_end (by omega)
/-- It is there, o bytes on. -/
theorem stm_find_yes {s : ByteArray} {a k o : Nat} {c : UInt8} (hc : ¬ (c.toNat : Int) = 0) (h : Lib.indexByte (s.data.toList.drop k) c = (o : Int)) : k + o < s.size ∧ stm s a (c.toNat : Int) k = stm s a 0 (k + o + 1) := by
  obtain ⟨h1, hn⟩ := Lib.indexByte_some h
  obtain ⟨h2, h3⟩ := (bt_drop s k o c).1 h1
  refine ⟨h2, ?_⟩
  rw [stm_skip (s := s) (a := a) hc o k fun j hj1 hj2 => ⟨by omega, fun e => hn (j - k) (by omega) ((bt_drop s k (j - k) c).2 ⟨by omega, by rw [show k + (j - k) = j by omega]; exact e⟩)⟩]
  exact stm_close h2 hc h3
end Go.Proofs.YtfobjedobojbnabDoor
