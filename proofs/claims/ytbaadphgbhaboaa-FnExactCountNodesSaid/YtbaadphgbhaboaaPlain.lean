/- Plain facts on strings and lists, of no program. No condition. -/
import Derived.PlainAid
import Derived.Lib.Strings
import Derived.Lib.Bytealg
namespace Go.Proofs.Ytbaadphgbhaboaa
open Go

theorem size_toList (s : ByteArray) : s.toList.length = s.size := by rw [Lib.toList_data, ← Lib.size_eq]
theorem nil_of_size {s : ByteArray} (h : s.size = 0) : s.toList = [] := List.eq_nil_of_length_eq_zero (by rw [size_toList]; exact h)
theorem ne_nil_of_size {s : ByteArray} (h : 0 < s.size) : ¬ s.toList = [] := by
  intro e
  have := size_toList s
  rw [e] at this
  simp at this
  omega
theorem isEmpty_of_size {s : ByteArray} (h : s.size = 0) : s.toList.isEmpty = true := by rw [nil_of_size h]; rfl
theorem not_isEmpty_of_size {s : ByteArray} (h : 0 < s.size) : s.toList.isEmpty = false := by simpa using ne_nil_of_size h
theorem size_mk (l : List UInt8) : (⟨l.toArray⟩ : ByteArray).size = l.length := by rw [Lib.size_eq]
theorem get_mk (l : List UInt8) (i : Nat) (h : i < (⟨l.toArray⟩ : ByteArray).size) : (⟨l.toArray⟩ : ByteArray)[i] = l[i]'(by rwa [size_mk] at h) := rfl
theorem bt_mk (l : List UInt8) (i : Nat) (h : i < l.length) : PlainAid.bt ⟨l.toArray⟩ i = (l[i].toNat : Int) := by
  rw [← PlainAid.get_bt _ i (by rw [size_mk]; exact h), get_mk]
theorem bt_data (s : ByteArray) (i : Nat) (h : i < s.data.toList.length) : PlainAid.bt s i = (s.data.toList[i].toNat : Int) := by
  obtain ⟨⟨l⟩⟩ := s
  exact bt_mk l i h
/-- 's[:1] == c' is 's[0] == c'. -/
theorem ext_one (s : ByteArray) (c : UInt8) (h : 0 < s.size) : ((s.extract 0 1).toList == [c]) = (PlainAid.bt s 0 == (c.toNat : Int)) := by
  rw [Lib.size_eq] at h
  rw [bt_data s 0 h, Lib.extract_toList]
  generalize s.data.toList = l at h ⊢
  cases l with
  | nil => simp at h
  | cons x xs =>
    rw [Bool.eq_iff_iff]
    simp only [List.drop_zero, Nat.sub_zero, List.take_succ_cons, List.take_zero, beq_iff_eq, List.cons.injEq, and_true, List.getElem_cons_zero]
    exact ⟨fun h => by rw [h], fun h => UInt8.toNat_inj.mp (by omega)⟩

/-- All bytes satisfy p. -/
def allB (p : Int → Bool) (s : ByteArray) : Bool := (List.range s.size).all fun i => p (PlainAid.bt s i)
theorem allB_true {p : Int → Bool} {s : ByteArray} (h : ∀ i, i < s.size → p (PlainAid.bt s i) = true) : allB p s = true := by
  unfold allB
  rw [List.all_eq_true]
  intro i hi
  exact h i (by simpa using hi)
theorem allB_false {p : Int → Bool} {s : ByteArray} (i : Nat) (hi : i < s.size) (h : p (PlainAid.bt s i) = false) : allB p s = false := by
  unfold allB
  rw [List.all_eq_false]
  exact ⟨i, by simpa using hi, by simp [h]⟩
theorem of_allB {p : Int → Bool} {s : ByteArray} (h : allB p s = true) (i : Nat) (hi : i < s.size) : p (PlainAid.bt s i) = true := by
  unfold allB at h
  exact List.all_eq_true.1 h i (by simpa using hi)
theorem allB_congr {p q : Int → Bool} {s : ByteArray} (h : ∀ c, 0 ≤ c → c ≤ 255 → p c = q c) : allB p s = allB q s := by
  unfold allB
  congr 1
  funext i
  exact h _ (PlainAid.bt_nonneg s i) (PlainAid.bt_le s i)
theorem upto_succ {p : Nat → Prop} {k : Nat} (h : ∀ j, j < k → p j) (hk : p k) : ∀ j, j < k + 1 → p j := fun j hj => by
  rcases Nat.lt_or_ge j k with h1 | h1
  · exact h j h1
  · obtain rfl : j = k := by omega
    exact hk
/-- A printable byte; a newline besides where 'nl'. -/
def prnB (nl : Bool) (c : Int) : Bool := decide (32 ≤ c ∧ c ≤ 126) || (nl && c == 10)
theorem prnB_yes {nl : Bool} {c : Int} (h0 : 32 ≤ c) (h1 : c ≤ 126) : prnB nl c = true := by simp [prnB, h0, h1]
theorem prnB_nl : prnB true 10 = true := by decide
theorem prnB_no {c : Int} (h : c < 32 ∨ 126 < c) : prnB false c = false := by
  simp [prnB]; omega
theorem prnB_no' {c : Int} {nl : Bool} (h : c < 32 ∨ 126 < c) (h2 : ¬ c = 10) : prnB nl c = false := by
  simp [prnB, h2]; omega
end Go.Proofs.Ytbaadphgbhaboaa
