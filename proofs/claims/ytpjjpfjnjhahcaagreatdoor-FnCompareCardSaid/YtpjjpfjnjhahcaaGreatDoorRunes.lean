/- Plain facts on the code points of a string. No condition. -/
import Derived.Test.YtpjjpfjnjhahcaaGreatDoorBase
import Derived.Laws.IdiomStrings
import Derived.Laws.RangeString
import Derived.Laws.RangeAny
namespace Go.Proofs.YtpjjpfjnjhahcaaGreatDoor
open Go Go.RowKit

def runesE (s : ByteArray) : Array Value := Conv.runesFrom s s.size 0 #[]
theorem runes_keep (s : ByteArray) : ∀ (b i : Nat) (acc : Array Value) (j : Nat) (v : Value), acc[j]? = some v → (Conv.runesFrom s b i acc)[j]? = some v
  | 0, _, _, _, _, h => h
  | b + 1, i, acc, j, v, h => by
    unfold Conv.runesFrom
    split
    · refine runes_keep s b _ _ j v ?_
      have hj : j < acc.size := (Array.getElem?_eq_some_iff.1 h).1
      rw [Array.getElem?_push, if_neg (by omega)]
      exact h
    · exact h
theorem runes_int (s : ByteArray) : ∀ (b i : Nat) (acc : Array Value), (∀ (j : Nat) (v : Value), acc[j]? = some v → ∃ r : Nat, v = .int .i32 r) → ∀ (j : Nat) (v : Value), (Conv.runesFrom s b i acc)[j]? = some v → ∃ r : Nat, v = .int .i32 r
  | 0, _, _, h => h
  | b + 1, i, acc, h => by
    unfold Conv.runesFrom
    split
    · refine runes_int s b _ _ fun j v hv => ?_
      rw [Array.getElem?_push] at hv
      split at hv
      · exact ⟨_, (Option.some.inj hv).symm⟩
      · exact h j v hv
    · exact h
def tabR (s : ByteArray) (k : Nat) : Array Value := ((List.range k).map fun j => Value.int .i32 (PlainAid.bt s j)).toArray
theorem tabR_get (s : ByteArray) (k j : Nat) (h : j < k) : (tabR s k)[j]? = some (.int .i32 (PlainAid.bt s j)) := by
  unfold tabR
  simp [h]
theorem tabR_size (s : ByteArray) (k : Nat) : (tabR s k).size = k := by simp [tabR]
theorem tabR_succ (s : ByteArray) (k : Nat) : tabR s (k + 1) = (tabR s k).push (.int .i32 (PlainAid.bt s k)) := by
  unfold tabR
  rw [List.range_succ, List.map_append]
  simp
theorem byte_bt (s : ByteArray) (k : Nat) (h : k < s.size) : (s[k].toNat : Int) = PlainAid.bt s k := PlainAid.get_bt s k h
theorem runes_asc (s : ByteArray) (m : Nat) (hm : m ≤ s.size) (h : ∀ j, j < m → PlainAid.bt s j < 128) : ∀ k, k ≤ m → runesE s = Conv.runesFrom s (s.size - k) k (tabR s k)
  | 0, _ => rfl
  | k + 1, hk => by
    rw [runes_asc s m hm h k (by omega), show s.size - k = (s.size - (k + 1)) + 1 by omega]
    have hlt : k < s.size := by omega
    have hb := byte_bt s k hlt
    have h1 := h k (by omega)
    conv => lhs; unfold Conv.runesFrom
    rw [if_pos hlt, decode_ascii s k hlt (by omega), tabR_succ]
    show Conv.runesFrom s (s.size - (k + 1)) (k + 1) ((tabR s k).push (.int .i32 (s[k].toNat : Int))) = _
    rw [hb]
theorem runes_all (s : ByteArray) (h : ∀ j, j < s.size → PlainAid.bt s j < 128) : runesE s = tabR s s.size := by
  rw [runes_asc s s.size (Nat.le_refl _) h s.size (Nat.le_refl _), Nat.sub_self]
  rfl
theorem runes_high (s : ByteArray) (m : Nat) (hm : m < s.size) (h : ∀ j, j < m → PlainAid.bt s j < 128) (hh : 128 ≤ PlainAid.bt s m) : (∀ j, j < m → (runesE s)[j]? = some (.int .i32 (PlainAid.bt s j))) ∧ ∃ r : Int, 128 ≤ r ∧ (runesE s)[m]? = some (.int .i32 r) := by
  have e := runes_asc s m (by omega) h m (Nat.le_refl _)
  have hb := byte_bt s m hm
  have hd := (decode_high s m hm (by omega)).1
  obtain ⟨⟨r, wd⟩, hdec⟩ : ∃ d, Utf8.decode s m = d := ⟨_, rfl⟩
  rw [hdec] at hd
  refine ⟨fun j hj => ?_, (r : Int), by have : 128 ≤ r := hd; omega, ?_⟩
  · rw [e]
    exact runes_keep s _ _ _ j _ (tabR_get s m j hj)
  · rw [e, show s.size - m = (s.size - (m + 1)) + 1 by omega]
    unfold Conv.runesFrom
    rw [if_pos hm, hdec]
    refine runes_keep s _ _ _ m _ ?_
    rw [Array.getElem?_push, if_pos (tabR_size s m).symm]
    rfl
/-- The first byte that is not ASCII, if there is one. -/
theorem asc_or (s : ByteArray) : (∀ j, j < s.size → PlainAid.bt s j < 128) ∨ ∃ m, m < s.size ∧ (∀ j, j < m → PlainAid.bt s j < 128) ∧ 128 ≤ PlainAid.bt s m := by
  have key : ∀ n, n ≤ s.size → (∀ j, j < n → PlainAid.bt s j < 128) ∨ ∃ m, m < n ∧ (∀ j, j < m → PlainAid.bt s j < 128) ∧ 128 ≤ PlainAid.bt s m := by
    intro n
    induction n with
    | zero => exact fun _ => .inl fun j hj => absurd hj (Nat.not_lt_zero j)
    | succ n ih =>
      intro hn
      rcases ih (by omega) with h | ⟨m, h1, h2, h3⟩
      · by_cases hb : PlainAid.bt s n < 128
        · exact .inl (upto_succ h hb)
        · exact .inr ⟨n, by omega, h, by omega⟩
      · exact .inr ⟨m, by omega, h2, h3⟩
  rcases key s.size (Nat.le_refl _) with h | ⟨m, h1, h2, h3⟩
  · exact .inl h
  · exact .inr ⟨m, h1, h2, h3⟩
end Go.Proofs.YtpjjpfjnjhahcaaGreatDoor
