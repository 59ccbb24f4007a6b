/- The physical lines of a text as plain functions. No condition. -/
import Derived.Test.YtfobjedobojbnabDoorSplitPlain
import Derived.Lib.Split
import Derived.Lib.CountLaws
namespace Go.Proofs.YtfobjedobojbnabDoor
open Go

/-- The parts of the bytes up to place e between bytes c; the current part began at a, the next byte is i. -/
def cutE (s : ByteArray) (c : Int) (a i e : Nat) : List ByteArray :=
  if _h : i < e then (if PlainAid.bt s i = c then s.extract a i :: cutE s c (i + 1) (i + 1) e else cutE s c a (i + 1) e) else [s.extract a e]
termination_by e - i
section
variable {s : ByteArray} {c : Int} {a i e : Nat}
theorem cutE_end (h : ¬ i < e) : cutE s c a i e = [s.extract a e] := by rw [cutE, dif_neg h]
theorem cutE_cut (h : i < e) (hc : PlainAid.bt s i = c) : cutE s c a i e = s.extract a i :: cutE s c (i + 1) (i + 1) e := by rw [cutE, dif_pos h, if_pos hc]
theorem cutE_plain (h : i < e) (hc : ¬ PlainAid.bt s i = c) : cutE s c a i e = cutE s c a (i + 1) e := by rw [cutE, dif_pos h, if_neg hc]
end
theorem cutE_skip {s : ByteArray} {c : Int} {a e : Nat} : ∀ (n i : Nat), (∀ j, i ≤ j → j < i + n → j < e ∧ ¬ PlainAid.bt s j = c) → cutE s c a i e = cutE s c a (i + n) e
  | 0, _, _ => rfl
  | n + 1, i, h => by
    obtain ⟨h1, h2⟩ := h i (Nat.le_refl _) (by omega)
    rw [cutE_plain h1 h2, cutE_skip n (i + 1) fun j hj1 hj2 => h j (by omega) (by omega)]
    congr 1
    omega
theorem cutE_length (s : ByteArray) (c : Int) (e : Nat) : ∀ (n i a : Nat), e - i ≤ n → 1 ≤ (cutE s c a i e).length ∧ (cutE s c a i e).length ≤ n + 1
  | n, i, a, hn => by
    by_cases h : i < e
    · cases n with
      | zero => omega
      | succ n =>
        by_cases hc : PlainAid.bt s i = c
        · rw [cutE_cut h hc]
          have := cutE_length s c e n (i + 1) (i + 1) (by omega)
          simp only [List.length_cons]
          omega
        · rw [cutE_plain h hc]
          have := cutE_length s c e n (i + 1) a (by omega)
          omega
    · rw [cutE_end h]; simp
/-- With a byte c at the end there is an empty part more. -/
theorem cutE_last {s : ByteArray} {c : Int} {e : Nat} (he : PlainAid.bt s e = c) : ∀ (n i a : Nat), e - i ≤ n → i ≤ e → cutE s c a i (e + 1) = cutE s c a i e ++ [s.extract (e + 1) (e + 1)]
  | n, i, a, hn, hi => by
    by_cases h : i < e
    · cases n with
      | zero => omega
      | succ n =>
        by_cases hc : PlainAid.bt s i = c
        · rw [cutE_cut (by omega) hc, cutE_cut h hc, cutE_last he n (i + 1) (i + 1) (by omega) (by omega), List.cons_append]
        · rw [cutE_plain (by omega) hc, cutE_plain h hc, cutE_last he n (i + 1) a (by omega) (by omega)]
    · obtain rfl : i = e := by omega
      rw [cutE_cut (by omega) he, cutE_end (by omega), cutE_end h]
      rfl
theorem extract_size (s : ByteArray) (a b : Nat) (h : b ≤ s.size) : (s.extract a b).size = b - a := by
  rw [Lib.size_eq, Lib.extract_data, List.length_take, List.length_drop, ← Lib.size_eq]
  omega
/-- Without one the last part is not empty. -/
theorem cutE_nonempty {s : ByteArray} {c : Int} {e : Nat} (h0 : 0 < e) (hs : e ≤ s.size) (he : ¬ PlainAid.bt s (e - 1) = c) : ∀ (n i a : Nat), e - i ≤ n → a ≤ i → i ≤ e → (i = e → a < e) → ∃ x, (cutE s c a i e).getLast? = some x ∧ 0 < x.size
  | n, i, a, hn, ha, hi, hl => by
    by_cases h : i < e
    · cases n with
      | zero => omega
      | succ n =>
        by_cases hc : PlainAid.bt s i = c
        · have hne : i + 1 < e := by
            rcases Nat.lt_or_ge (i + 1) e with h1 | h1
            · exact h1
            · exact absurd hc (by rw [show i = e - 1 by omega]; exact he)
          obtain ⟨x, h1, h2⟩ := cutE_nonempty h0 hs he n (i + 1) (i + 1) (by omega) (Nat.le_refl _) (by omega) (by omega)
          refine ⟨x, ?_, h2⟩
          rw [cutE_cut h hc, List.getLast?_cons, h1]
          rfl
        · rw [cutE_plain h hc]
          exact cutE_nonempty h0 hs he n (i + 1) a (by omega) (by omega) (by omega) (by omega)
    · rw [cutE_end h]
      exact ⟨s.extract a e, rfl, by rw [extract_size s a e hs]; have := hl (by omega); omega⟩

theorem extract_two (s : ByteArray) (a b c d : Nat) (h : a + d ≤ b) : (s.extract a b).extract c d = s.extract (a + c) (a + d) := by
  apply WideShapes.bytes_inj
  rw [Lib.extract_data, Lib.extract_data, Lib.extract_data, List.drop_take, List.drop_drop, List.take_take]
  congr 1
  omega
theorem extract_all (s : ByteArray) : s.extract 0 s.size = s := by
  apply WideShapes.bytes_inj
  rw [Lib.extract_data, List.drop_zero, Nat.sub_zero, Lib.size_eq, List.take_length]
theorem bt_extract (s : ByteArray) (b j : Nat) (hj : j < b) (hb : b ≤ s.size) : PlainAid.bt (s.extract 0 b) j = PlainAid.bt s j := by
  have h1 : j < (s.extract 0 b).data.toList.length := by rw [← Lib.size_eq, extract_size s 0 b hb]; omega
  have h2 : j < s.data.toList.length := by rw [← Lib.size_eq]; omega
  rw [bt_data _ j h1, bt_data s j h2]
  congr 2
  simp only [Lib.extract_data, List.drop_zero, List.getElem_take]
/-- The parts of the text's beginning are the text's parts up to there. -/
theorem cutE_extract {s : ByteArray} {c : Int} {e : Nat} (he : e ≤ s.size) : ∀ (n i a : Nat), e - i ≤ n → cutE (s.extract 0 e) c a i e = cutE s c a i e
  | n, i, a, hn => by
    by_cases h : i < e
    · cases n with
      | zero => omega
      | succ n =>
        have hb := bt_extract s e i h he
        by_cases hc : PlainAid.bt s i = c
        · rw [cutE_cut h (hb.trans hc), cutE_cut h hc, extract_two s 0 e a i (by omega), cutE_extract he n (i + 1) (i + 1) (by omega)]
          simp
        · rw [cutE_plain h (by rw [hb]; exact hc), cutE_plain h hc, cutE_extract he n (i + 1) a (by omega)]
    · rw [cutE_end h, cutE_end h, extract_two s 0 e a e (by omega)]
      simp

/-- strings.Split at one byte is these parts. -/
theorem split_cut (s : ByteArray) (c : UInt8) : ∀ (n a : Nat), s.size - a ≤ n → a ≤ s.size → Lib.splitB ⟨#[c]⟩ 0 (Lib.countB (s.extract a s.size) ⟨#[c]⟩) (s.extract a s.size) = cutE s (c.toNat : Int) a a s.size
  | n, a, hn, ha => by
    have hix : Lib.indexB (s.extract a s.size) ⟨#[c]⟩ = Lib.indexByte (s.data.toList.drop a) c := by
      show Lib.index _ _ = _
      rw [Lib.extract_to_end]
      exact Lib.index_one _ _
    have hge := Lib.indexByte_ge (s.data.toList.drop a) c
    by_cases hneg : Lib.indexByte (s.data.toList.drop a) c = -1
    · rw [Lib.countB_miss _ _ (hix.trans hneg), Lib.splitB_zero]
      have hno := Lib.indexByte_none hneg
      rw [cutE_skip (s.size - a) a fun j h1 h2 => ⟨by omega, fun e => hno (j - a) ((bt_drop s a (j - a) c).2 ⟨by omega, by rw [show a + (j - a) = j by omega]; exact e⟩)⟩, cutE_end (by omega)]
    · obtain ⟨o, ho⟩ : ∃ o : Nat, Lib.indexByte (s.data.toList.drop a) c = (o : Int) := ⟨(Lib.indexByte (s.data.toList.drop a) c).toNat, by omega⟩
      obtain ⟨h1, hno⟩ := Lib.indexByte_some ho
      obtain ⟨h2, h3⟩ := (bt_drop s a o c).1 h1
      have hs1 : (⟨#[c]⟩ : ByteArray).size = 1 := rfl
      rw [Lib.countB_hit _ _ o (by rw [hs1]; omega) (hix.trans ho), Nat.add_comm 1, Lib.splitB_hit _ _ _ _ o (hix.trans ho), hs1, Nat.add_zero, extract_size s a s.size (Nat.le_refl _),
        extract_two s a s.size 0 o (by omega), extract_two s a s.size (o + 1) (s.size - a) (by omega), show a + (s.size - a) = s.size by omega, show a + (o + 1) = a + o + 1 by omega]
      rw [cutE_skip o a fun j hj1 hj2 => ⟨by omega, fun e => hno (j - a) (by omega) ((bt_drop s a (j - a) c).2 ⟨by omega, by rw [show a + (j - a) = j by omega]; exact e⟩)⟩, cutE_cut h2 h3, Nat.add_zero]
      cases n with
      | zero => omega
      | succ n => rw [split_cut s c n (a + o + 1) (by omega) (by omega)]

/-- What SplitLines answers at a text that is not empty. -/
def linesOf (s : ByteArray) : List ByteArray := if PlainAid.bt s (s.size - 1) = 10 then cutE s 10 0 0 (s.size - 1) else cutE s 10 0 0 s.size
theorem linesOf_nl {s : ByteArray} (h0 : 0 < s.size) (h : PlainAid.bt s (s.size - 1) = 10) : cutE s 10 0 0 s.size = linesOf s ++ [⟨#[]⟩] := by
  unfold linesOf
  rw [if_pos h]
  have := cutE_last h (s.size - 1) 0 0 (by omega) (by omega)
  rw [show s.size - 1 + 1 = s.size by omega] at this
  rw [this]
  congr 2
  apply WideShapes.bytes_inj
  rw [Lib.extract_data, Nat.sub_self, List.take_zero]
theorem linesOf_length (s : ByteArray) : 1 ≤ (linesOf s).length ∧ (linesOf s).length ≤ s.size + 1 := by
  unfold linesOf
  split
  · have := cutE_length s 10 (s.size - 1) (s.size - 1) 0 0 (by omega); omega
  · exact cutE_length s 10 s.size s.size 0 0 (by omega)

theorem take_one (l : List UInt8) (c : UInt8) : (l.take 1 == [c]) = decide (l[0]? = some c) := by
  cases l with
  | nil => rfl
  | cons x xs => simp; exact Bool.eq_iff_iff.2 (by simp)
theorem trim_test (s : ByteArray) (h0 : 0 < s.size) : ((s.extract (s.size - (⟨#[10]⟩ : ByteArray).size) s.size).toList == (⟨#[10]⟩ : ByteArray).toList) = decide (PlainAid.bt s (s.size - 1) = 10) := by
  have h1 : (⟨#[10]⟩ : ByteArray).size = 1 := rfl
  have h2 : (⟨#[10]⟩ : ByteArray).toList = [10] := by rw [Lib.toList_data]
  rw [h1, h2, Lib.toList_data, Lib.extract_data, show s.size - (s.size - 1) = 1 by omega, take_one]
  have := bt_drop s (s.size - 1) 0 10
  rw [Bool.eq_iff_iff, decide_eq_true_iff, decide_eq_true_iff, this]
  rw [Nat.add_zero]
  exact ⟨fun h => h.2, fun h => ⟨by omega, h⟩⟩
theorem trim_nl {s : ByteArray} (h0 : 0 < s.size) (h : PlainAid.bt s (s.size - 1) = 10) : (⟨(Lib.trimSuffix s.data.toList [10]).toArray⟩ : ByteArray) = s.extract 0 (s.size - 1) :=
  Lib.trimSuffix_hit s ⟨#[10]⟩ h0 (by rw [trim_test s h0]; simpa using h)
theorem trim_no {s : ByteArray} (h0 : 0 < s.size) (h : ¬ PlainAid.bt s (s.size - 1) = 10) : (⟨(Lib.trimSuffix s.data.toList [10]).toArray⟩ : ByteArray) = s :=
  Lib.trimSuffix_miss s ⟨#[10]⟩ (by rw [trim_test s h0]; simp [h])
/-- What strings.Split is asked for. -/
def trimmed (s : ByteArray) : ByteArray := ⟨(Lib.trimSuffix s.data.toList [10]).toArray⟩
theorem trimmed_size (s : ByteArray) : (trimmed s).size ≤ s.size := by
  unfold trimmed
  rw [size_mk, Lib.size_eq s]
  exact Lib.trimSuffix_le _ _
theorem split_trimmed {s : ByteArray} (h0 : 0 < s.size) : Lib.splitB ⟨#[10]⟩ 0 (Lib.countB (trimmed s) ⟨#[10]⟩) (trimmed s) = linesOf s := by
  have hs := split_cut (trimmed s) 10 (trimmed s).size 0 (by omega) (by omega)
  rw [extract_all] at hs
  rw [hs]
  unfold linesOf trimmed
  by_cases h : PlainAid.bt s (s.size - 1) = 10
  · rw [if_pos h, trim_nl h0 h, extract_size s 0 (s.size - 1) (by omega), Nat.sub_zero]
    exact cutE_extract (by omega) (s.size - 1) 0 0 (by omega)
  · rw [if_neg h, trim_no h0 h]
    rfl
theorem split_len (c : UInt8) : ∀ (n : Nat) (t : ByteArray), t.size ≤ n → (Lib.splitB ⟨#[c]⟩ 0 (Lib.countB t ⟨#[c]⟩) t).length = Lib.countB t ⟨#[c]⟩ + 1
  | n, t, hn => by
    have hs1 : (⟨#[c]⟩ : ByteArray).size = 1 := rfl
    have hix : Lib.indexB t ⟨#[c]⟩ = Lib.indexByte t.data.toList c := Lib.index_one _ _
    have hge := Lib.indexByte_ge t.data.toList c
    by_cases hneg : Lib.indexByte t.data.toList c = -1
    · rw [Lib.countB_miss _ _ (hix.trans hneg), Lib.splitB_zero]
      rfl
    · obtain ⟨o, ho⟩ : ∃ o : Nat, Lib.indexByte t.data.toList c = (o : Int) := ⟨(Lib.indexByte t.data.toList c).toNat, by omega⟩
      have ho2 : o < t.size := by
        have := (Lib.indexByte_some ho).1
        rw [Lib.size_eq]
        exact (List.getElem?_eq_some_iff.1 this).1
      rw [Lib.countB_hit _ _ o (by rw [hs1]; omega) (hix.trans ho), Nat.add_comm 1, Lib.splitB_hit _ _ _ _ o (hix.trans ho), List.length_cons, hs1]
      cases n with
      | zero => omega
      | succ n => rw [split_len c n _ (by rw [extract_size t (o + 1) t.size (Nat.le_refl _)]; omega)]
end Go.Proofs.YtfobjedobojbnabDoor
