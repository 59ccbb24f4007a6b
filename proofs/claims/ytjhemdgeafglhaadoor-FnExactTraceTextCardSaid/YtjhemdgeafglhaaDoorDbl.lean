/- Plain: a text whose quotation marks are doubled. No condition. -/
import Derived.Test.YtjhemdgeafglhaaDoorPlain
import Derived.Lib.Replace
import Derived.Lib.ReplaceLaws
namespace Go.Proofs.YtjhemdgeafglhaaDoor
open Go

theorem index_one (c b : UInt8) (l : List UInt8) : Lib.index (b :: l) [c] = if b = c then 0 else if Lib.index l [c] = -1 then -1 else Lib.index l [c] + 1 := by
  rw [Lib.index]
  by_cases h : b = c
  · subst h; simp [List.isPrefixOf]
  · have h' : ¬ (c == b) = true := by simpa using fun e => h e.symm
    simp [List.isPrefixOf, h, h']
theorem replaceK_one (c : UInt8) (new : List UInt8) : ∀ l : List UInt8, Lib.replaceK [c] new (Lib.count l [c]) l = l.flatMap fun b => if b = c then new else [b]
  | [] => rfl
  | b :: l => by
    have ih := replaceK_one c new l
    by_cases h : b = c
    · subst h
      rw [Lib.count_cons_eq, Nat.add_comm, Lib.replaceK_hit _ _ _ _ 0 (by rw [index_one, if_pos rfl]; rfl)]
      simp [ih]
    · rw [Lib.count_cons_ne b c l h]
      cases hk : Lib.count l [c] with
      | zero =>
        rw [hk] at ih
        have ih' : l = l.flatMap fun b => if b = c then new else [b] := ih
        rw [List.flatMap_cons, if_neg h, ← ih']
        rfl
      | succ m =>
        rw [hk] at ih
        obtain ⟨i, hi⟩ := Lib.index_of_count (s := l) (old := [c]) (by rw [hk]; omega)
        rw [Lib.replaceK_hit _ _ _ _ i hi] at ih
        rw [Lib.replaceK_hit _ _ _ _ (i + 1) (by rw [index_one, if_neg h, if_neg (by omega), hi]; rfl)]
        rw [List.flatMap_cons, if_neg h, ← ih]
        simp [List.take_succ_cons, Nat.add_right_comm i 1]

/-- A byte as it stands in a literal. -/
def dq (b : UInt8) : List UInt8 := if b = 34 then [34, 34] else [b]
/-- The first k bytes, their quotation marks doubled. -/
def dblK (s : ByteArray) (k : Nat) : ByteArray := ⟨((s.data.toList.take k).flatMap dq).toArray⟩
/-- A text whose quotation marks are doubled. -/
def dblE (s : ByteArray) : ByteArray := ⟨(s.data.toList.flatMap dq).toArray⟩
theorem dblK_zero (s : ByteArray) : dblK s 0 = ⟨#[]⟩ := by unfold dblK; rw [List.take_zero]; rfl
theorem dblK_all {s : ByteArray} {k : Nat} (h : s.size ≤ k) : dblK s k = dblE s := by
  unfold dblK dblE
  rw [List.take_of_length_le (by rw [← Lib.size_eq]; exact h)]
theorem part_toList (s : ByteArray) (k : Nat) (h : k < s.size) : (s.extract k (k + 1)) = ⟨#[s[k]]⟩ := by
  apply WideShapes.bytes_inj
  rw [← Lib.toList_data, Lib.extract_toList, Nat.add_sub_cancel_left]
  rw [Lib.size_eq] at h
  rw [List.drop_eq_getElem_cons h]
  rfl
theorem dblK_succ (s : ByteArray) (k : Nat) (h : k < s.size) : dblK s (k + 1) = (if PlainAid.bt s k = 34 then dblK s k ++ ⟨#[34]⟩ else dblK s k) ++ s.extract k (k + 1) := by
  rw [part_toList s k h]
  have hl : k < s.data.toList.length := by rw [← Lib.size_eq]; exact h
  have e : dblK s (k + 1) = dblK s k ++ ⟨(dq (s.data.toList[k]'hl)).toArray⟩ := by
    unfold dblK
    rw [List.take_succ_eq_append_getElem hl, List.flatMap_append]
    apply WideShapes.bytes_inj
    simp
  rw [e]
  have hb := PlainAid.get_bt s k h
  have hg : s.data.toList[k]'hl = s[k] := rfl
  rw [hg]
  unfold dq
  by_cases h34 : s[k] = 34
  · rw [if_pos h34, if_pos (by rw [← hb, h34]; rfl)]
    rw [h34]
    apply WideShapes.bytes_inj
    simp
  · rw [if_neg h34, if_neg (by rw [← hb]; intro e2; exact h34 (UInt8.toNat_inj.mp (by have : (34 : UInt8).toNat = 34 := rfl; omega)))]
theorem dblK_size (s : ByteArray) : ∀ k, (dblK s k).size ≤ 2 * k
  | 0 => by rw [dblK_zero]; decide
  | k + 1 => by
    have ih := dblK_size s k
    by_cases h : k < s.size
    · rw [dblK_succ s k h, part_toList s k h]
      have e1 : (⟨#[s[k]]⟩ : ByteArray).size = 1 := rfl
      have e2 : (⟨#[34]⟩ : ByteArray).size = 1 := rfl
      split
      · rw [ByteArray.size_append, ByteArray.size_append, e1, e2]; omega
      · rw [ByteArray.size_append, e1]; omega
    · rw [dblK_all (by omega), ← dblK_all (k := k) (by omega)]
      omega
theorem replace_dbl (s : ByteArray) : (⟨(Lib.replaceAll s.data.toList (⟨#[34]⟩ : ByteArray).data.toList (⟨#[34, 34]⟩ : ByteArray).data.toList).toArray⟩ : ByteArray) = dblE s := by
  unfold dblE Lib.replaceAll Lib.replace Lib.replaceNum
  rw [if_neg (by decide), if_pos (.inl (by decide))]
  have := replaceK_one 34 [34, 34] s.data.toList
  show (⟨(Lib.replaceK [34] [34, 34] (Lib.count s.data.toList [34]) s.data.toList).toArray⟩ : ByteArray) = _
  rw [this]
  rfl
/-- The literal of a text. -/
def litE (s : ByteArray) : ByteArray := ⟨#[34]⟩ ++ dblE s ++ ⟨#[34]⟩
end Go.Proofs.YtjhemdgeafglhaaDoor
