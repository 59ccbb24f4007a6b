/- Plain: all bytes of a valid source's statements. No condition. (For FnLines: the bound that JoinLines' contract asks.) -/
import Derived.Test.YtfobjedobojbnabDoorRoundTrip
namespace Go.Proofs.YtfobjedobojbnabDoor
open Go

def sizesB : List ByteArray → Nat
  | [] => 0
  | p :: ps => p.size + sizesB ps
theorem stm_sum (s : ByteArray) : ∀ (n i a : Nat) (q : Int), s.size - i ≤ n → a ≤ i → i ≤ s.size → sizesB (stm s a q i) + a ≤ s.size
  | n, i, a, q, hn, ha, hi => by
    by_cases h : i < s.size
    · cases n with
      | zero => omega
      | succ n =>
        rw [stm, dif_pos h]
        have r := fun a q ha => stm_sum s n (i + 1) a q (by omega) ha (by omega)
        split
        · split
          · exact r _ _ (by omega)
          · split
            · have h1 := r (i + 1) 0 (Nat.le_refl _)
              have h2 := extract_size s a i hi
              simp only [sizesB]
              omega
            · exact r _ _ (by omega)
        · split <;> exact r _ _ (by omega)
    · obtain rfl : i = s.size := by omega
      rw [stm_end h]
      have h2 := extract_size s a s.size (Nat.le_refl _)
      simp only [sizesB]
      omega
theorem bytesL_parts (n : Int) : ∀ ps : List ByteArray, bytesL ((ps.filter fun p => !blankB p).map fun p => (⟨n, p⟩ : Lin)) ≤ sizesB ps
  | [] => Nat.le_refl _
  | p :: ps => by
    have ih := bytesL_parts n ps
    rw [List.filter_cons]
    split
    · rw [List.map_cons, bytesL, sizesB]
      dsimp only
      omega
    · rw [sizesB]
      omega
theorem bytesL_stmL (x : Lin) (acc : List Lin) : bytesL (stmL x acc) ≤ bytesL acc + x.t.size := by
  unfold stmL
  rw [bytesL_append]
  have h1 := bytesL_parts x.n (stm x.t 0 0 0)
  have h2 := stm_sum x.t x.t.size 0 0 0 (by omega) (Nat.le_refl _) (Nat.zero_le _)
  omega
theorem bytesL_logT : ∀ xs acc : List Lin, bytesL (logT xs acc) ≤ bytesL acc + bytesL xs
  | [], acc => by rw [logT]; omega
  | x :: xs, acc => by
    have h1 := bytesL_logT xs (stmL x acc)
    have h2 := bytesL_stmL x acc
    rw [logT, bytesL]
    omega
theorem bytesL_logG (s : ByteArray) : bytesL (logG s).1 ≤ 480000 := by
  unfold logG
  by_cases h : sourceB s = true
  · rw [if_neg (by simp [h])]
    have h1 := comb_facts h
    have h2 := bytesL_logT (combT (linesT s) 0 []).1 []
    simp only [bytesL] at h2
    split
    · dsimp only
      omega
    · exact Nat.zero_le _
  · rw [if_pos (by simpa using h)]
    exact Nat.zero_le _
theorem sumL_take : ∀ (xs : List Lin) (k : Nat), k ≤ xs.length → sumL xs k = bytesL (xs.take k)
  | xs, 0, _ => by rw [List.take_zero]; rfl
  | xs, k + 1, hk => by
    have hx : xs[k]? = some xs[k] := List.getElem?_eq_getElem (by omega)
    rw [sumL_next hx, sumL_take xs k (by omega), List.take_add_one, hx, bytesL_append]
    show _ = _ + (_ + 0)
    rw [Nat.add_zero]
theorem sumL_all (xs : List Lin) : sumL xs xs.length = bytesL xs := by rw [sumL_take xs _ (Nat.le_refl _), List.take_length]
end Go.Proofs.YtfobjedobojbnabDoor
