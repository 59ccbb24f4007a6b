/- Plain: how long physical lines, combined lines, statements can be. No condition. -/
import Derived.Test.YtfobjedobojbnabDoorLogPlain
import Derived.Test.YtfobjedobojbnabDoorLinesPlain
namespace Go.Proofs.YtfobjedobojbnabDoor
open Go

theorem part_size (s : ByteArray) (a b : Nat) : (s.extract a b).size ≤ s.size := by rw [ByteArray.size_extract]; omega
theorem cutE_sizes (s : ByteArray) (c : Int) (e : Nat) : ∀ (n i a : Nat), e - i ≤ n → ∀ x ∈ cutE s c a i e, x.size ≤ s.size
  | n, i, a, hn => by
    by_cases h : i < e
    · cases n with
      | zero => omega
      | succ n =>
        by_cases hc : PlainAid.bt s i = c
        · rw [cutE_cut h hc]
          intro x hx
          rcases List.mem_cons.1 hx with rfl | hx
          · exact part_size s a i
          · exact cutE_sizes s c e n (i + 1) (i + 1) (by omega) x hx
        · rw [cutE_plain h hc]
          exact cutE_sizes s c e n (i + 1) a (by omega)
    · rw [cutE_end h]
      intro x hx
      rw [List.mem_singleton] at hx
      subst hx
      exact part_size s a e
/-- The physical lines of a text. -/
def linesT (s : ByteArray) : List ByteArray := if s.size = 0 then [] else linesOf s
theorem linesT_size (s : ByteArray) (j : Nat) (t : ByteArray) (h : (linesT s)[j]? = some t) : t.size ≤ s.size := by
  have hm := List.mem_of_getElem? h
  unfold linesT at hm
  split at hm
  · simp at hm
  · unfold linesOf at hm
    split at hm
    · exact cutE_sizes s 10 (s.size - 1) (s.size - 1) 0 0 (by omega) t hm
    · exact cutE_sizes s 10 s.size s.size 0 0 (by omega) t hm
theorem linesT_length (s : ByteArray) : (linesT s).length ≤ s.size + 1 := by
  unfold linesT
  split
  · simp
  · exact (linesOf_length s).2
theorem stm_sizes (s : ByteArray) : ∀ (n i a : Nat) (q : Int), s.size - i ≤ n → ∀ x ∈ stm s a q i, x.size ≤ s.size
  | n, i, a, q, hn => by
    by_cases h : i < s.size
    · cases n with
      | zero => omega
      | succ n =>
        rw [stm, dif_pos h]
        have r := fun a q => stm_sizes s n (i + 1) a q (by omega)
        split
        · split
          · exact r _ _
          · split
            · intro x hx
              rcases List.mem_cons.1 hx with rfl | hx
              · exact part_size s a i
              · exact r _ _ x hx
            · exact r _ _
        · split <;> exact r _ _
    · rw [stm_end h]
      intro x hx
      rw [List.mem_singleton] at hx
      subst hx
      exact part_size s a s.size
theorem combT_size : ∀ (ts : List ByteArray) (k : Nat) (acc : List Lin), (∀ t ∈ ts, t.size ≤ 4000) → bytesL (combT ts k acc).1 ≤ bytesL acc + 4000 * ts.length ∧ (combT ts k acc).1.length ≤ acc.length + ts.length
  | [], k, acc, _ => by simp [combT]
  | t :: ts, k, acc, h => by
    have ht : t.size ≤ 4000 := h t (by simp)
    have r := fun acc => combT_size ts (k + 1) acc (fun x hx => h x (List.mem_cons_of_mem _ hx))
    rw [combT]
    simp only [List.length_cons]
    split
    · have := r acc; omega
    · rename_i h1
      split
      · rename_i h2
        split
        · simp [bytesL]
        · rename_i h3
          have h4 : t.size ≠ 0 := by
            unfold contB at h2
            simp only [Bool.and_eq_true, bne_iff_ne] at h2
            exact h2.1
          have := r (extL acc t)
          rw [extL_bytes h3 h4, extL_length] at this
          omega
      · have := r (acc ++ [⟨((k + 1 : Nat) : Int), t⟩])
        rw [bytesL_append, List.length_append] at this
        simp only [bytesL, List.length_singleton] at this
        omega

/-- The statements of some parts. -/
def partL (n : Int) (ps : List ByteArray) : List Lin := (ps.filter fun p => !blankB p).map fun p => ⟨n, p⟩
theorem partL_nil (n : Int) : partL n [] = [] := rfl
theorem partL_blank {n : Int} {p : ByteArray} {ps : List ByteArray} (h : blankB p = true) : partL n (p :: ps) = partL n ps := by simp [partL, h]
theorem partL_new {n : Int} {p : ByteArray} {ps : List ByteArray} (h : blankB p = false) : partL n (p :: ps) = ⟨n, p⟩ :: partL n ps := by simp [partL, h]
theorem partL_length (n : Int) (ps : List ByteArray) : (partL n ps).length ≤ ps.length := by
  unfold partL
  rw [List.length_map]
  exact List.length_filter_le _ _
theorem stmL_length (x : Lin) (acc : List Lin) : (stmL x acc).length ≤ acc.length + x.t.size + 1 := by
  have h1 := partL_length x.n (stm x.t 0 0 0)
  have h2 := stm_length x.t x.t.size 0 0 0 (by omega)
  show (acc ++ partL x.n (stm x.t 0 0 0)).length ≤ _
  rw [List.length_append]
  omega
theorem logT_length : ∀ (xs acc : List Lin), (logT xs acc).length ≤ acc.length + bytesL xs + xs.length
  | [], acc => by simp [logT]
  | x :: xs, acc => by
    have h1 := logT_length xs (stmL x acc)
    have h2 := stmL_length x acc
    rw [logT, bytesL, List.length_cons]
    omega
theorem logT_next {xs acc : List Lin} {k : Nat} {x : Lin} (h : xs[k]? = some x) : logT (xs.drop k) acc = logT (xs.drop (k + 1)) (stmL x acc) := by
  obtain ⟨hl, he⟩ := List.getElem?_eq_some_iff.1 h
  rw [List.drop_eq_getElem_cons hl, he, logT]
theorem part_next {n : Int} {ps : List ByteArray} {k : Nat} {p : ByteArray} (h : ps[k]? = some p) : partL n (ps.drop k) = if blankB p = true then partL n (ps.drop (k + 1)) else ⟨n, p⟩ :: partL n (ps.drop (k + 1)) := by
  obtain ⟨hl, he⟩ := List.getElem?_eq_some_iff.1 h
  rw [List.drop_eq_getElem_cons hl, he]
  split
  · exact partL_blank (by assumption)
  · rename_i h1; exact partL_new (by simpa using h1)
end Go.Proofs.YtfobjedobojbnabDoor
