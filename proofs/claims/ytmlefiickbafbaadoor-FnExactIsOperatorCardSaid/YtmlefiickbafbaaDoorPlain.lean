/- Plain facts on strings and lists, of no program. No condition. -/
import Derived.PlainAid
import Derived.Lib.Strings
import Derived.Lib.Bytealg
namespace Go.Proofs.YtmlefiickbafbaaDoor
open Go

theorem size_toList (s : ByteArray) : s.toList.length = s.size := by rw [Lib.toList_data, ← Lib.size_eq]
theorem nil_of_size {s : ByteArray} (h : s.size = 0) : s.toList = [] := List.eq_nil_of_length_eq_zero (by rw [size_toList]; exact h)
theorem ne_nil_of_size {s : ByteArray} (h : 0 < s.size) : ¬ s.toList = [] := by
  intro e
  have := size_toList s
  rw [e] at this
  simp at this
  omega
theorem isEmpty_of_size {s : ByteArray} (h : s.size = 0) : s.toList.isEmpty = true := by rw [nil_of_size h]; rfl
theorem not_isEmpty_of_size {s : ByteArray} (h : 0 < s.size) : s.toList.isEmpty = false := by simpa using ne_nil_of_size h
theorem size_mk (l : List UInt8) : (⟨l.toArray⟩ : ByteArray).size = l.length := by rw [Lib.size_eq]
theorem get_mk (l : List UInt8) (i : Nat) (h : i < (⟨l.toArray⟩ : ByteArray).size) : (⟨l.toArray⟩ : ByteArray)[i] = l[i]'(by rwa [size_mk] at h) := rfl
theorem bt_mk (l : List UInt8) (i : Nat) (h : i < l.length) : PlainAid.bt ⟨l.toArray⟩ i = (l[i].toNat : Int) := by
  rw [← PlainAid.get_bt _ i (by rw [size_mk]; exact h), get_mk]
theorem bt_data (s : ByteArray) (i : Nat) (h : i < s.data.toList.length) : PlainAid.bt s i = (s.data.toList[i].toNat : Int) := by
  obtain ⟨⟨l⟩⟩ := s
  exact bt_mk l i h
/-- 's[:1] == c' is 's[0] == c'. -/
theorem ext_one (s : ByteArray) (c : UInt8) (h : 0 < s.size) : ((s.extract 0 1).toList == [c]) = (PlainAid.bt s 0 == (c.toNat : Int)) := by
  rw [Lib.size_eq] at h
  rw [bt_data s 0 h, Lib.extract_toList]
  generalize s.data.toList = l at h ⊢
  cases l with
  | nil => simp at h
  | cons x xs =>
    rw [Bool.eq_iff_iff]
    simp only [List.drop_zero, Nat.sub_zero, List.take_succ_cons, List.take_zero, beq_iff_eq, List.cons.injEq, and_true, List.getElem_cons_zero]
    exact ⟨fun h => by rw [h], fun h => UInt8.toNat_inj.mp (by omega)⟩
end Go.Proofs.YtmlefiickbafbaaDoor
