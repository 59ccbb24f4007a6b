/- Plain: a statement of a line, split again, is that statement. No condition. (For FnLines.) -/
import Derived.Test.YtfobjedobojbnabDoorLogSize
namespace Go.Proofs.YtfobjedobojbnabDoor
open Go

/-- Read from place a on, with no semicolon outside of quotes, one comes to place i with the open quote q (0: none). -/
inductive NC (s : ByteArray) (a : Nat) : Nat → Int → Prop
  | start : NC s a a 0
  | quote {i : Nat} : NC s a i 0 → i < s.size → (PlainAid.bt s i = 39 ∨ PlainAid.bt s i = 34) → NC s a (i + 1) (PlainAid.bt s i)
  | plain {i : Nat} : NC s a i 0 → i < s.size → ¬ PlainAid.bt s i = 39 → ¬ PlainAid.bt s i = 34 → ¬ PlainAid.bt s i = 59 → NC s a (i + 1) 0
  | close {i : Nat} {q : Int} : NC s a i q → i < s.size → ¬ q = 0 → PlainAid.bt s i = q → NC s a (i + 1) 0
  | inside {i : Nat} {q : Int} : NC s a i q → i < s.size → ¬ q = 0 → ¬ PlainAid.bt s i = q → NC s a (i + 1) q
theorem NC.le {s : ByteArray} {a i : Nat} {q : Int} (h : NC s a i q) : a ≤ i := by
  induction h <;> omega
/-- Each statement is such a stretch. -/
theorem stm_nc (s : ByteArray) : ∀ (n i a : Nat) (q : Int), s.size - i ≤ n → i ≤ s.size → NC s a i q → ∀ x ∈ stm s a q i, ∃ b j r, x = s.extract b j ∧ NC s b j r ∧ j ≤ s.size
  | n, i, a, q, hn, hi, h => by
    by_cases hlt : i < s.size
    · cases n with
      | zero => omega
      | succ n =>
        rw [stm, dif_pos hlt]
        have r := fun a q => stm_nc s n (i + 1) a q (by omega) (by omega)
        split
        · rename_i hq
          subst hq
          split
          · rename_i h1
            exact r _ _ (h.quote hlt h1)
          · split
            · intro x hx
              rcases List.mem_cons.1 hx with rfl | hx
              · exact ⟨a, i, 0, rfl, h, hi⟩
              · exact r _ _ NC.start x hx
            · rename_i h1 h2
              exact r _ _ (h.plain hlt (by omega) (by omega) h2)
        · rename_i hq
          split
          · rename_i h1
            exact r _ _ (h.close hlt hq h1)
          · rename_i h1
            exact r _ _ (h.inside hlt hq h1)
    · rw [stm_end hlt]
      intro x hx
      rw [List.mem_singleton] at hx
      subst hx
      obtain rfl : i = s.size := by omega
      exact ⟨a, _, q, rfl, h, Nat.le_refl _⟩
theorem bt_part (s : ByteArray) (a j k : Nat) (hj : j ≤ s.size) (hk : a + k < j) : PlainAid.bt (s.extract a j) k = PlainAid.bt s (a + k) := by
  have h1 : k < (s.extract a j).data.toList.length := by rw [← Lib.size_eq, extract_size s a j hj]; omega
  have h2 : a + k < s.data.toList.length := by rw [← Lib.size_eq]; omega
  rw [bt_data _ k h1, bt_data s (a + k) h2]
  congr 2
  simp only [Lib.extract_data, List.getElem_take, List.getElem_drop]
theorem nc_run {s : ByteArray} {a i : Nat} {q : Int} (h : NC s a i q) : ∀ j, i ≤ j → j ≤ s.size → stm (s.extract a j) 0 0 0 = stm (s.extract a j) 0 q (i - a) := by
  induction h with
  | start => intro j _ _; rw [Nat.sub_self]
  | @quote i h hi hc ih =>
    intro j h1 h2
    have hle := h.le
    have hb := bt_part s a j (i - a) h2 (by omega)
    have hs := extract_size s a j h2
    rw [show a + (i - a) = i by omega] at hb
    rw [ih j (by omega) h2, stm_quote (by omega) (by rw [hb]; exact hc), hb, show i + 1 - a = i - a + 1 by omega]
  | @plain i h hi c1 c2 c3 ih =>
    intro j h1 h2
    have hle := h.le
    have hb := bt_part s a j (i - a) h2 (by omega)
    have hs := extract_size s a j h2
    rw [show a + (i - a) = i by omega] at hb
    rw [ih j (by omega) h2, stm_plain (by omega) (by rw [hb]; exact c1) (by rw [hb]; exact c2) (by rw [hb]; exact c3), show i + 1 - a = i - a + 1 by omega]
  | @close i q h hi hq hc ih =>
    intro j h1 h2
    have hle := h.le
    have hb := bt_part s a j (i - a) h2 (by omega)
    have hs := extract_size s a j h2
    rw [show a + (i - a) = i by omega] at hb
    rw [ih j (by omega) h2, stm_close (by omega) hq (by rw [hb]; exact hc), show i + 1 - a = i - a + 1 by omega]
  | @inside i q h hi hq hc ih =>
    intro j h1 h2
    have hle := h.le
    have hb := bt_part s a j (i - a) h2 (by omega)
    have hs := extract_size s a j h2
    rw [show a + (i - a) = i by omega] at hb
    rw [ih j (by omega) h2, stm_inside (by omega) hq (by rw [hb]; exact hc), show i + 1 - a = i - a + 1 by omega]
/-- A statement of a line, split again, is that statement. -/
theorem stm_again {s p : ByteArray} (h : p ∈ stm s 0 0 0) : stm p 0 0 0 = [p] := by
  obtain ⟨b, j, r, rfl, hn, hj⟩ := stm_nc s s.size 0 0 0 (by omega) (Nat.zero_le _) NC.start p h
  rw [nc_run hn j (Nat.le_refl _) hj]
  have hs := extract_size s b j hj
  rw [stm_end (by omega), extract_all]
end Go.Proofs.YtfobjedobojbnabDoor
