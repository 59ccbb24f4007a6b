/- Contracts: l06Digits of the model, strconv.FormatInt at every number within the limits. Conditions: a bound on the number; the table of powers. -/
import Derived.Test.YtjhemdgeafglhaaDoorMark0
import Derived.Test.YtjhemdgeafglhaaDoorBase
import Derived.Test.YtjhemdgeafglhaaDoorShelf
import Derived.Test.YtjhemdgeafglhaaDoorPow
import Derived.Lib.ItoaNum
import Derived.Lib.AppendIntMem
namespace Go.Proofs.YtjhemdgeafglhaaDoor
open Go Go.RowKit

/-- The text of a number. -/
def itoaE (n : Int) : ByteArray := ⟨(Lib.itoa n).toArray⟩
theorem dec_one {u : Nat} (h : u < 10) : Lib.decDigits u = [48 + UInt8.ofNat u] := by
  rw [Lib.decDigits, dif_pos h]
  congr 1
  exact UInt8.toNat_inj.mp (by simp)
theorem dec_step {u : Nat} (h : 10 ≤ u) : Lib.decDigits u = Lib.decDigits (u / 10) ++ [48 + UInt8.ofNat (u % 10)] := by
  rw [Lib.decDigits, dif_neg (by omega)]
  congr 2
  exact UInt8.toNat_inj.mp (by simp)
theorem mk_append (a b : List UInt8) : (⟨(a ++ b).toArray⟩ : ByteArray) = ⟨a.toArray⟩ ++ ⟨b.toArray⟩ := by
  apply WideShapes.bytes_inj
  simp
/-- What the loop over the digits keeps. -/
def Digs (u j : Nat) (acc : ByteArray) : Prop := (0 < j → (⟨(Lib.decDigits u).toArray⟩ : ByteArray) = ⟨(Lib.decDigits j).toArray⟩ ++ acc) ∧ (j = 0 → (⟨(Lib.decDigits u).toArray⟩ : ByteArray) = acc)
theorem Digs.begin_ {u : Nat} (h : 0 < u) : Digs u u ⟨#[]⟩ := ⟨fun _ => by apply WideShapes.bytes_inj; simp, fun e => absurd e (by omega)⟩
theorem Digs.next {u j : Nat} {acc : ByteArray} (h : Digs u j acc) (hj : 0 < j) : Digs u (j / 10) (⟨#[48 + UInt8.ofNat (j % 10)]⟩ ++ acc) := by
  have e := h.1 hj
  by_cases h10 : 10 ≤ j
  · refine ⟨fun _ => ?_, fun h0 => by omega⟩
    rw [e, dec_step h10, mk_append, ByteArray.append_assoc]
  · refine ⟨fun h0 => by omega, fun _ => ?_⟩
    rw [e, dec_one (by omega), Nat.mod_eq_of_lt (by omega)]

set_option maxHeartbeats 1000000 in
set_option maxRecDepth 100000 in
theorem digits_pos (u : Nat) (W : World) (h0 : 0 < u) (h : u ≤ 1000000000000) :
    Calls Tryd.prog 30 #[.int .i64 u] W fun e w' => e = .returned (.string ⟨(Lib.decDigits u).toArray⟩) ∧ Below W.heap.size W w' := by
  have z0 : ((u : Int) == 0) = false := by simp; omega
  have z1 : ((u : Int) != 0) = true := by simp; omega
  have z2 : decide ((u : Int) < 0) = false := by first | (simp; done) | (simp; omega)
  have z3 : ¬ (u : Int) = 0 := by omega
  go_enter Tryd.func30, Tryd.ntmps30
  go_wp2_with fail
  go_loopw [3, 4] (fun s i wr => ∃ (j : Nat) (acc : ByteArray), i = .int .i64 j ∧ s = .string acc ∧ Hid (Below W.heap.size W wr) ∧ acc.size + j ≤ 1000000000000 ∧ Hid (Digs u j acc)) (fun _ i _ => (intOf i).toNat)
  case atStart => exact ⟨u, _, rfl, rfl, Below.refl _ _, by simp [ByteArray.size]; omega, Digs.begin_ h0⟩
  case round =>
    obtain ⟨j, acc, rfl, rfl, HB, hsz, HE⟩ := hrel
    clear z0 z1 z3
    by_cases hj : 0 < j
    · have y0 : ((j : Int) == 0) = false := by simp; omega
      have y1 : ((j : Int) != 0) = true := by simp; omega
      have b2 : (0 : Int) ≤ (j : Int) := by omega
      have b0 : 0 ≤ (j : Int) % 10 := by omega
      have b1 : (j : Int) % 10 ≤ 9 := by omega
      have b3 : decide ((j : Int) % 10 < 0) = false := by simp; omega
      have hcv := conv_one wr (48 + (j : Int) % 10)
      have HN : Hid (Digs u (j / 10) (⟨#[48 + UInt8.ofNat (j % 10)]⟩ ++ acc)) := HE.out.next hj
      have hs' : acc.size ≤ 1000000000000 := by omega
      go_wp2_with fail
      go_roundw
      case rel =>
        refine ⟨j / 10, _, by go_num, rfl, HB.out.alloc HB.out.size _, ?_, HN⟩
        rw [ByteArray.size_append]
        show 1 + acc.size + j / 10 ≤ _
        omega
      case measure => simp [intOf]; omega
    · have hj0 : j = 0 := by omega
      subst hj0
      have HF : Hid ((⟨(Lib.decDigits u).toArray⟩ : ByteArray) = acc) := HE.out.2 rfl
      have hs' : acc.size ≤ 1000000000000 := by omega
      clear hsz hj
      go_wp2_with fail
      go_ret
      exact ⟨str_ret HF.out.symm, HB.out⟩

set_option maxHeartbeats 1000000 in
set_option maxRecDepth 100000 in
theorem digits_neg (u : Nat) (W : World) (h0 : 0 < u) (h : u ≤ 1000000000000) :
    Calls Tryd.prog 30 #[.int .i64 (-(u : Int))] W fun e w' => e = .returned (.string (⟨#[45]⟩ ++ ⟨(Lib.decDigits u).toArray⟩)) ∧ Below W.heap.size W w' := by
  have z0 : (-(u : Int) == 0) = false := by simp; omega
  have z1 : (-(u : Int) != 0) = true := by simp; omega
  have z2 : decide (-(u : Int) < 0) = true := by simp; omega
  have z3 : ¬ (u : Int) = 0 := by omega
  go_enter Tryd.func30, Tryd.ntmps30
  go_wp2_with fail
  go_loopw [3, 4] (fun s i wr => ∃ (j : Nat) (acc : ByteArray), i = .int .i64 (-(j : Int)) ∧ s = .string acc ∧ Hid (Below W.heap.size W wr) ∧ acc.size + j ≤ 1000000000000 ∧ Hid (Digs u j acc)) (fun _ i _ => (intOf i).natAbs)
  case atStart => exact ⟨u, _, rfl, rfl, Below.refl _ _, by simp [ByteArray.size]; omega, Digs.begin_ h0⟩
  case round =>
    obtain ⟨j, acc, rfl, rfl, HB, hsz, HE⟩ := hrel
    clear z0 z1 z3
    by_cases hj : 0 < j
    · have y0 : (-(j : Int) == 0) = false := by simp; omega
      have y1 : (-(j : Int) != 0) = true := by simp; omega
      have y2 : ¬ (j : Int) = 0 := by omega
      have b0 : 0 ≤ (j : Int) % 10 := by omega
      have b1 : (j : Int) % 10 ≤ 9 := by omega
      have t1 : (-(j : Int)).tmod 10 = -((j : Int) % 10) := by rw [Int.neg_tmod, Int.tmod_eq_emod_of_nonneg (by omega)]
      have t2 : (-(j : Int)).tdiv 10 = -((j : Int) / 10) := by rw [Int.neg_tdiv, Int.tdiv_eq_ediv_of_nonneg (by omega)]
      have t3 : 0 ≤ (j : Int) / 10 := by omega
      have t4 : (j : Int) / 10 ≤ 1000000000000 := by omega
      have t5 : (j : Int) ≤ 1000000000000 := by omega
      have hcv := conv_one wr (48 + (j : Int) % 10)
      have HN : Hid (Digs u (j / 10) (⟨#[48 + UInt8.ofNat (j % 10)]⟩ ++ acc)) := HE.out.next hj
      have hs' : acc.size ≤ 1000000000000 := by omega
      by_cases hd : (j : Int) % 10 = 0
      · have d0 : decide (-((j : Int) % 10) < 0) = false := by simp; omega
        have hcv0 := conv_one wr 48
        have HN0 : Hid (Digs u (j / 10) (⟨#[48]⟩ ++ acc)) := by
          have h1 := HN.out
          rw [show j % 10 = 0 by omega] at h1
          exact h1
        clear hcv
        go_wp2_with fail
        go_roundw
        case rel =>
          refine ⟨j / 10, _, by go_num, rfl, HB.out.alloc HB.out.size _, ?_, HN0⟩
          rw [ByteArray.size_append]
          show 1 + acc.size + j / 10 ≤ _
          omega
        case measure => simp [intOf]; omega
      · have d0 : decide (-((j : Int) % 10) < 0) = true := by simp; omega
        go_wp2_with fail
        go_roundw
        case rel =>
          refine ⟨j / 10, _, by go_num, rfl, HB.out.alloc HB.out.size _, ?_, HN⟩
          rw [ByteArray.size_append]
          show 1 + acc.size + j / 10 ≤ _
          omega
        case measure => simp [intOf]; omega
    · have hj0 : j = 0 := by omega
      subst hj0
      have HF : Hid (⟨#[45]⟩ ++ acc = (⟨#[45]⟩ ++ ⟨(Lib.decDigits u).toArray⟩ : ByteArray)) := by show _ = _; rw [HE.out.2 rfl]
      have hs' : acc.size ≤ 1000000000000 := by omega
      clear hsz hj
      go_wp2_with fail
      go_ret
      exact ⟨str_ret HF.out, HB.out⟩

theorem itoa_pos (u : Nat) : itoaE (u : Int) = ⟨(Lib.decDigits u).toArray⟩ := by
  unfold itoaE Lib.itoa
  rw [if_neg (by omega), Int.toNat_natCast]
theorem itoa_neg (u : Nat) (h : 0 < u) : itoaE (-(u : Int)) = ⟨#[45]⟩ ++ ⟨(Lib.decDigits u).toArray⟩ := by
  unfold itoaE Lib.itoa
  rw [if_pos (by omega), show (-(u : Int)).natAbs = u by omega]
  apply WideShapes.bytes_inj
  simp
theorem dec_short (k : Nat) : ∀ n, n < 10 ^ (k + 1) → (Lib.decDigits n).length ≤ k + 1 := by
  induction k with
  | zero => intro n h; rw [Lib.decDigits, dif_pos (by simpa using h)]; simp
  | succ k ih =>
    intro n h
    rw [Lib.decDigits]
    by_cases h0 : n < 10
    · rw [dif_pos h0]; simp
    · rw [dif_neg h0, List.length_append]
      have h1 : n / 10 < 10 ^ (k + 1) := by
        rw [Nat.div_lt_iff_lt_mul (by decide)]
        rw [Nat.pow_succ] at h
        exact h
      have := ih (n / 10) h1
      simp
      omega
theorem itoa_size {n : Int} (h0 : -1000000000000 ≤ n) (h1 : n ≤ 1000000000000) : (itoaE n).size ≤ 20 := by
  obtain ⟨u, hu⟩ : ∃ u : Nat, n = u ∨ (n = -(u : Int) ∧ 0 < u) := by
    by_cases h : 0 ≤ n
    · exact ⟨n.toNat, .inl (by omega)⟩
    · exact ⟨n.natAbs, .inr (by omega)⟩
  have hd := dec_short 12 u (by omega)
  rcases hu with rfl | ⟨rfl, hu0⟩
  · rw [itoa_pos, size_mk]; omega
  · rw [itoa_neg u hu0, ByteArray.size_append]
    have e : (⟨#[45]⟩ : ByteArray).size = 1 := rfl
    have e2 := size_mk (Lib.decDigits u)
    omega
theorem l06Digits_any (n : Int) (W : World) (h0 : -1000000000000 ≤ n) (h1 : n ≤ 1000000000000) :
    Calls Tryd.prog 30 #[.int .i64 n] W fun e w' => e = .returned (.string (itoaE n)) ∧ Below W.heap.size W w' := by
  rcases Int.lt_trichotomy n 0 with h | h | h
  · obtain ⟨u, rfl⟩ : ∃ u : Nat, n = -(u : Int) := ⟨n.natAbs, by omega⟩
    rw [itoa_neg u (by omega)]
    exact digits_neg u W (by omega) (by omega)
  · subst h
    go_enter Tryd.func30, Tryd.ntmps30
    go_wp2_with fail
    go_ret
    exact ⟨str_ret (by show _ = itoaE ((0 : Nat) : Int); rw [itoa_pos, dec_one (by decide)]; rfl), Below.refl _ _⟩
  · obtain ⟨u, rfl⟩ : ∃ u : Nat, n = (u : Int) := ⟨n.toNat, by omega⟩
    rw [itoa_pos]
    exact digits_pos u W (by omega) (by omega)

theorem FormatInt_all (n : Int) (W : World) (h0 : -1000000000000 ≤ n) (h1 : n ≤ 1000000000000) (hT : PowTab W) :
    Calls Tryd.prog 33 #[.int .i64 n, .int .i64 10] W fun e w' => e = .returned (.string (itoaE n)) ∧ Below W.heap.size W w' :=
  (Tryd.strconv_FormatInt_10 n (by omega) (by omega) W hT).mono fun e w' ⟨he, k, os, hw⟩ => ⟨he, by rw [hw]; exact Lib.below_grow _ W (Nat.le_refl _) k os⟩
end Go.Proofs.YtjhemdgeafglhaaDoor
