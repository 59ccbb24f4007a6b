/- Plain: the text of a number by its digits. No condition. -/
import Derived.Test.YtdlhoakcpdaboaaDoorPlain
import Derived.WalkKit
import Derived.ProofKit
import Derived.Lib.ItoaNum
namespace Go.Proofs.YtdlhoakcpdaboaaDoor
open Go Go.RowKit

/-- The text of a number. -/
def itoaE (n : Int) : ByteArray := ⟨(Lib.itoa n).toArray⟩
theorem dec_one {u : Nat} (h : u < 10) : Lib.decDigits u = [48 + UInt8.ofNat u] := by
  rw [Lib.decDigits, dif_pos h]
  congr 1
  exact UInt8.toNat_inj.mp (by simp)
theorem dec_step {u : Nat} (h : 10 ≤ u) : Lib.decDigits u = Lib.decDigits (u / 10) ++ [48 + UInt8.ofNat (u % 10)] := by
  rw [Lib.decDigits, dif_neg (by omega)]
  congr 2
  exact UInt8.toNat_inj.mp (by simp)
theorem mk_append (a b : List UInt8) : (⟨(a ++ b).toArray⟩ : ByteArray) = ⟨a.toArray⟩ ++ ⟨b.toArray⟩ := by
  apply WideShapes.bytes_inj
  simp
/-- What the loop over the digits keeps. -/
def Digs (u j : Nat) (acc : ByteArray) : Prop := (0 < j → (⟨(Lib.decDigits u).toArray⟩ : ByteArray) = ⟨(Lib.decDigits j).toArray⟩ ++ acc) ∧ (j = 0 → (⟨(Lib.decDigits u).toArray⟩ : ByteArray) = acc)
theorem Digs.begin_ {u : Nat} (h : 0 < u) : Digs u u ⟨#[]⟩ := ⟨fun _ => by apply WideShapes.bytes_inj; simp, fun e => absurd e (by omega)⟩
theorem Digs.next {u j : Nat} {acc : ByteArray} (h : Digs u j acc) (hj : 0 < j) : Digs u (j / 10) (⟨#[48 + UInt8.ofNat (j % 10)]⟩ ++ acc) := by
  have e := h.1 hj
  by_cases h10 : 10 ≤ j
  · refine ⟨fun _ => ?_, fun h0 => by omega⟩
    rw [e, dec_step h10, mk_append, ByteArray.append_assoc]
  · refine ⟨fun h0 => by omega, fun _ => ?_⟩
    rw [e, dec_one (by omega), Nat.mod_eq_of_lt (by omega)]

theorem itoa_pos (u : Nat) : itoaE (u : Int) = ⟨(Lib.decDigits u).toArray⟩ := by
  unfold itoaE Lib.itoa
  rw [if_neg (by omega), Int.toNat_natCast]
theorem itoa_neg (u : Nat) (h : 0 < u) : itoaE (-(u : Int)) = ⟨#[45]⟩ ++ ⟨(Lib.decDigits u).toArray⟩ := by
  unfold itoaE Lib.itoa
  rw [if_pos (by omega), show (-(u : Int)).natAbs = u by omega]
  apply WideShapes.bytes_inj
  simp
theorem dec_short (k : Nat) : ∀ n, n < 10 ^ (k + 1) → (Lib.decDigits n).length ≤ k + 1 := by
  induction k with
  | zero => intro n h; rw [Lib.decDigits, dif_pos (by simpa using h)]; simp
  | succ k ih =>
    intro n h
    rw [Lib.decDigits]
    by_cases h0 : n < 10
    · rw [dif_pos h0]; simp
    · rw [dif_neg h0, List.length_append]
      have h1 : n / 10 < 10 ^ (k + 1) := by
        rw [Nat.div_lt_iff_lt_mul (by decide)]
        rw [Nat.pow_succ] at h
        exact h
      have := ih (n / 10) h1
      simp
      omega
theorem itoa_size {n : Int} (h0 : -1000000000000 ≤ n) (h1 : n ≤ 1000000000000) : (itoaE n).size ≤ 20 := by
  obtain ⟨u, hu⟩ : ∃ u : Nat, n = u ∨ (n = -(u : Int) ∧ 0 < u) := by
    by_cases h : 0 ≤ n
    · exact ⟨n.toNat, .inl (by omega)⟩
    · exact ⟨n.natAbs, .inr (by omega)⟩
  have hd := dec_short 12 u (by omega)
  rcases hu with rfl | ⟨rfl, hu0⟩
  · rw [itoa_pos, size_mk]; omega
  · rw [itoa_neg u hu0, ByteArray.size_append]
    have e : (⟨#[45]⟩ : ByteArray).size = 1 := rfl
    have e2 := size_mk (Lib.decDigits u)
    omega
end Go.Proofs.YtdlhoakcpdaboaaDoor
