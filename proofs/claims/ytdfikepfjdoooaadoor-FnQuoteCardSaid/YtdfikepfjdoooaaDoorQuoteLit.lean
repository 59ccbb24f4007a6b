/- The tokens of a string's literal. No condition. -/
import Derived.Test.YtdfikepfjdoooaaDoorScanPlain
import Derived.Test.YtdfikepfjdoooaaDoorCan
namespace Go.Proofs.YtdfikepfjdoooaaDoor
open Go Go.RowKit

theorem size_one (c : UInt8) : (⟨#[c]⟩ : ByteArray).size = 1 := rfl
theorem lit_size (s : ByteArray) (c : UInt8) : (⟨#[c]⟩ ++ s ++ ⟨#[c]⟩ : ByteArray).size = s.size + 2 := by
  rw [ByteArray.size_append, ByteArray.size_append, size_one]
  omega
theorem lit_list (s : ByteArray) (c : UInt8) : (⟨#[c]⟩ ++ s ++ ⟨#[c]⟩ : ByteArray).data.toList = c :: (s.data.toList ++ [c]) := by
  simp [ByteArray.data_append]
theorem lit_bt (s : ByteArray) (c : UInt8) (i : Nat) (h : i < s.size + 2) : PlainAid.bt (⟨#[c]⟩ ++ s ++ ⟨#[c]⟩) i = if i = 0 ∨ i = s.size + 1 then (c.toNat : Int) else PlainAid.bt s (i - 1) := by
  have hl : i < (⟨#[c]⟩ ++ s ++ ⟨#[c]⟩ : ByteArray).data.toList.length := by rw [← Lib.size_eq, lit_size]; exact h
  rw [bt_data _ i hl]
  have hz : s.data.toList.length = s.size := (Lib.size_eq s).symm
  simp only [lit_list]
  cases i with
  | zero => rw [if_pos (.inl rfl)]; rfl
  | succ j =>
    rw [List.getElem_cons_succ]
    by_cases hj : j = s.size
    · subst hj
      rw [if_pos (.inr rfl), List.getElem_append_right (by omega)]
      simp [hz]
    · rw [if_neg (by omega), List.getElem_append_left (by omega), Nat.add_sub_cancel, bt_data s j (by omega)]
theorem lit_extract (s : ByteArray) (c : UInt8) : (⟨#[c]⟩ ++ s ++ ⟨#[c]⟩ : ByteArray).extract 1 (s.size + 1) = s := by
  apply Go.WideShapes.bytes_inj
  have hz : s.data.toList.length = s.size := (Lib.size_eq s).symm
  simp only [Lib.extract_data, lit_list]
  simp [hz]
/-- The literal of a string whose quote does not occur in it. -/
theorem tokens_lit (s : ByteArray) (c : UInt8) (hc : c = 39 ∨ c = 34) (hn : holdsB (c.toNat : Int) s = false) (hp : allB (prnB false) s = true) (hl : s.size ≤ 200) :
    tokensT (⟨#[c]⟩ ++ s ++ ⟨#[c]⟩) = ([⟨3, 0, s, true, true⟩], 0, 0) := by
  have hsz := lit_size s c
  have hbt := lit_bt s c
  have hex := lit_extract s c
  obtain ⟨t, ht⟩ : ∃ t, (⟨#[c]⟩ ++ s ++ ⟨#[c]⟩ : ByteArray) = t := ⟨_, rfl⟩
  rw [ht] at hsz hbt hex ⊢
  have hcn : (c.toNat : Int) = 39 ∨ (c.toNat : Int) = 34 := by rcases hc with rfl | rfl <;> decide
  have h0 : PlainAid.bt t 0 = (c.toNat : Int) := by rw [hbt 0 (by omega), if_pos (.inl rfl)]
  have hpt : allB (prnB false) t = true := by
    refine allB_true fun i hi => ?_
    rw [hbt i (by omega)]
    split
    · exact prnB_yes (by omega) (by omega)
    · exact of_allB hp _ (by omega)
  have hall : ∀ i, i < s.size → ¬ PlainAid.bt s i = (c.toNat : Int) := fun i hi he => by
    rw [holds_yes i hi he] at hn
    cases hn
  have hb0 : blankEnd t 0 = 0 := runEnd_stop fun _ => by rw [h0]; rcases hcn with h | h <;> rw [h] <;> rfl
  have hrun : runEnd (notB (c.toNat : Int)) t (0 + 1) = s.size + 1 := by
    rw [runEnd_run (p := notB (c.toNat : Int)) (s := t) (k := 0 + 1) s.size (by omega) fun i hi => ?_]
    · rw [show 0 + 1 + s.size = s.size + 1 by omega]
      refine runEnd_stop fun _ => ?_
      unfold notB
      rw [hbt (s.size + 1) (by omega), if_pos (.inr rfl)]
      simp
    · unfold notB
      rw [hbt (0 + 1 + i) (by omega), if_neg (by omega), show 0 + 1 + i - 1 = i by omega]
      have := hall i hi
      simpa using this
  have hcls : cls (PlainAid.bt t 0) = 3 := by rw [h0]; rcases hcn with h | h <;> rw [h] <;> decide +kernel
  have hone : oneT t 0 = some (3, 0, s, s.size + 2) := by
    unfold oneT
    rw [hcls, if_neg (by decide), if_neg (by decide), if_pos rfl, h0, hrun, if_pos ⟨by omega, by omega⟩]
    rw [show 0 + 1 = 1 by rfl, hex]
  unfold tokensT
  rw [if_pos ⟨by omega, hpt⟩, scanT_step (xs := []) (k' := s.size + 2) (a := 3) (n := 0) (t := s) (by rw [hb0]; omega) (by rw [hb0]; exact hone) (by decide), hb0]
  have hbe : blankEnd t (s.size + 2) = s.size + 2 := runEnd_stop fun h => absurd h (by omega)
  rw [scanT_end (by rw [hbe]; omega), gapB_out (s := t) (a := ((0 : Nat) : Int) - 1) (.inl (by omega)), gapB_out (s := t) (a := ((s.size + 2 : Nat) : Int)) (.inr (by omega))]
  rfl
theorem tokens_quote (s : ByteArray) (h : canB s = true) : tokensT (quoteS s) = ([⟨3, 0, s, true, true⟩], 0, 0) ∧ (quoteS s).size ≤ 202 := by
  unfold quoteS
  rw [if_pos h]
  unfold canB at h
  simp only [Bool.and_eq_true, decide_eq_true_eq, Bool.not_eq_true'] at h
  obtain ⟨⟨h1, h2⟩, h3⟩ := h
  by_cases hq : holdsB 39 s = true
  · rw [if_pos hq]
    rw [hq, Bool.true_and] at h3
    exact ⟨tokens_lit s 34 (.inr rfl) h3 h2 h1, by rw [lit_size]; omega⟩
  · rw [if_neg hq]
    exact ⟨tokens_lit s 39 (.inl rfl) (by simpa using hq) h2 h1, by rw [lit_size]; omega⟩
end Go.Proofs.YtdfikepfjdoooaaDoor
