/- Plain: the statements of a valid source hold printable bytes only, and are not blank. No condition. (For FnLines.) -/
import Derived.Test.YtfobjedobojbnabDoorRoundPlain
import Derived.Test.YtfobjedobojbnabDoorSourceC
import Derived.Test.YtfobjedobojbnabDoorLogImpl
namespace Go.Proofs.YtfobjedobojbnabDoor
open Go

/-- All bytes are printable. -/
def Good (p : ByteArray) : Prop := ∀ k, k < p.size → prnB false (PlainAid.bt p k) = true
theorem good_part {s : ByteArray} (h : Good s) (a b : Nat) (hb : b ≤ s.size) : Good (s.extract a b) := fun k hk => by
  rw [extract_size s a b hb] at hk
  rw [bt_part s a b k hb (by omega)]
  exact h _ (by omega)
theorem bt_join (s t : ByteArray) (k : Nat) : PlainAid.bt (s ++ t) k = if k < s.size then PlainAid.bt s k else PlainAid.bt t (k - s.size) := by
  by_cases hk : k < (s ++ t).size
  · have hk0 := hk
    rw [ByteArray.size_append] at hk0
    have h1 : k < (s ++ t).data.toList.length := by rw [← Lib.size_eq]; exact hk
    rw [bt_data _ k h1]
    have hd : (s ++ t).data.toList = s.data.toList ++ t.data.toList := by simp
    split
    · rename_i h2
      have h3 : k < s.data.toList.length := by rw [← Lib.size_eq]; exact h2
      rw [bt_data s k h3]
      simp only [hd, List.getElem_append_left h3]
    · rename_i h2
      have h3 : s.data.toList.length ≤ k := by rw [← Lib.size_eq]; omega
      have h4 : k - s.size < t.data.toList.length := by rw [← Lib.size_eq]; omega
      rw [bt_data t _ h4]
      simp only [hd, List.getElem_append_right h3, Lib.size_eq]
  · have hk0 := hk
    rw [ByteArray.size_append] at hk0
    rw [PlainAid.bt_end _ (by omega), if_neg (by omega), PlainAid.bt_end _ (by omega)]
theorem good_join {s t : ByteArray} (hs : Good s) (ht : Good t) : Good (s ++ t) := fun k hk => by
  rw [ByteArray.size_append] at hk
  rw [bt_join]
  split
  · rename_i h
    exact hs k h
  · exact ht _ (by omega)
theorem good_blank : Good ⟨#[32]⟩ := fun k hk => by
  have : k = 0 := by
    have h : (⟨#[32]⟩ : ByteArray).size = 1 := rfl
    omega
  subst this
  rfl
theorem good_rest {t : ByteArray} (h : Good t) : Good (restB t) := good_join good_blank (good_part h 1 t.size (Nat.le_refl _))
/-- The parts between the bytes 10 of a text of printable bytes and bytes 10. -/
theorem cutE_good {s : ByteArray} {e : Nat} (he : e ≤ s.size) (hs : ∀ k, k < e → prnB true (PlainAid.bt s k) = true) : ∀ (n i a : Nat), e - i ≤ n → a ≤ i → i ≤ e → (∀ k, a ≤ k → k < i → prnB false (PlainAid.bt s k) = true) → ∀ x ∈ cutE s 10 a i e, Good x
  | n, i, a, hn, ha, hi, hp => by
    have hpart : Good (s.extract a i) := fun k hk => by
      rw [extract_size s a i (by omega)] at hk
      rw [bt_part s a i k (by omega) (by omega)]
      exact hp _ (by omega) (by omega)
    by_cases h : i < e
    · cases n with
      | zero => omega
      | succ n =>
        by_cases hc : PlainAid.bt s i = 10
        · rw [cutE_cut h hc]
          intro x hx
          rcases List.mem_cons.1 hx with rfl | hx
          · exact hpart
          · exact cutE_good he hs n (i + 1) (i + 1) (by omega) (Nat.le_refl _) (by omega) (fun k h1 h2 => by omega) x hx
        · rw [cutE_plain h hc]
          refine cutE_good he hs n (i + 1) a (by omega) (by omega) (by omega) fun k h1 h2 => ?_
          by_cases hk : k < i
          · exact hp k h1 hk
          · obtain rfl : k = i := by omega
            have := hs k h
            simp only [prnB] at this ⊢
            simp [hc] at this ⊢
            exact this
    · obtain rfl : i = e := by omega
      rw [cutE_end h]
      intro x hx
      rw [List.mem_singleton] at hx
      subst hx
      exact hpart
theorem lines_good {s : ByteArray} (h : sourceB s = true) : ∀ t ∈ linesT s, Good t := by
  unfold sourceB at h
  simp only [Bool.and_eq_true] at h
  have hb := of_allB h.1.2
  unfold linesT
  split
  · intro t ht; simp at ht
  · unfold linesOf
    split
    · exact cutE_good (by omega) (fun k hk => hb k (by omega)) s.size 0 0 (by omega) (Nat.le_refl _) (Nat.zero_le _) (fun k h1 h2 => by omega)
    · exact cutE_good (Nat.le_refl _) (fun k hk => hb k hk) s.size 0 0 (by omega) (Nat.le_refl _) (Nat.zero_le _) (fun k h1 h2 => by omega)
theorem extL_good {acc : List Lin} {t : ByteArray} (h : ∀ x ∈ acc, Good x.t) (ht : Good t) : ∀ x ∈ extL acc t, Good x.t := by
  intro x hx
  unfold extL at hx
  obtain ⟨j, hj⟩ := List.getElem?_of_mem hx
  rw [List.getElem?_modify] at hj
  cases h1 : acc[j]? with
  | none => rw [h1] at hj; simp at hj
  | some y =>
    rw [h1] at hj
    have hy := h y (List.mem_of_getElem? h1)
    simp only [Option.map_eq_map, Option.map_some, Option.some.injEq] at hj
    split at hj
    · subst hj; exact good_join hy (good_rest ht)
    · subst hj; exact hy
theorem combT_good : ∀ (ts : List ByteArray) (k : Nat) (acc : List Lin), (∀ t ∈ ts, Good t) → (∀ x ∈ acc, Good x.t) → ∀ x ∈ (combT ts k acc).1, Good x.t
  | [], k, acc, _, ha => ha
  | t :: ts, k, acc, h, ha => by
    have ht := h t (by simp)
    have r := fun acc => combT_good ts (k + 1) acc (fun x hx => h x (List.mem_cons_of_mem _ hx))
    rw [combT]
    split
    · exact r acc ha
    · split
      · split
        · intro x hx; simp at hx
        · exact r _ (extL_good ha ht)
      · refine r _ fun x hx => ?_
        rcases List.mem_append.1 hx with hx | hx
        · exact ha x hx
        · rw [List.mem_singleton] at hx; subst hx; exact ht
/-- What holds of every statement. -/
def StmOk (p : ByteArray) : Prop := Good p ∧ blankB p = false ∧ stm p 0 0 0 = [p]
theorem stmL_ok {x : Lin} {acc : List Lin} (hx : Good x.t) (ha : ∀ y ∈ acc, StmOk y.t) : ∀ y ∈ stmL x acc, StmOk y.t := by
  intro y hy
  rcases List.mem_append.1 hy with hy | hy
  · exact ha y hy
  · obtain ⟨p, hp, rfl⟩ := List.mem_map.1 hy
    rw [List.mem_filter] at hp
    refine ⟨?_, by simpa using hp.2, stm_again hp.1⟩
    obtain ⟨b, j, r, rfl, _, hj⟩ := stm_nc x.t x.t.size 0 0 0 (by omega) (Nat.zero_le _) NC.start p hp.1
    exact good_part hx b j hj
theorem logT_ok : ∀ (xs acc : List Lin), (∀ x ∈ xs, Good x.t) → (∀ y ∈ acc, StmOk y.t) → ∀ y ∈ logT xs acc, StmOk y.t
  | [], acc, _, ha => ha
  | x :: xs, acc, h, ha => logT_ok xs (stmL x acc) (fun y hy => h y (List.mem_cons_of_mem _ hy)) (stmL_ok (h x (by simp)) ha)
/-- Every statement that LogicalLines hands back. -/
theorem logG_ok (s : ByteArray) : ∀ y ∈ (logG s).1, StmOk y.t := by
  unfold logG
  by_cases h : sourceB s = true
  · rw [if_neg (by simp [h])]
    split
    · exact logT_ok _ _ (combT_good _ 0 [] (lines_good h) (fun x hx => by simp at hx)) (fun x hx => by simp at hx)
    · intro y hy; simp at hy
  · rw [if_pos (by simpa using h)]
    intro y hy
    simp at hy
end Go.Proofs.YtfobjedobojbnabDoor
