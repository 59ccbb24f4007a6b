/- Contracts: l02Int of the model, strconv.FormatInt. Conditions: a bound on the number; the table of powers. -/
import Derived.Test.YtfobjedobojbnabDoorMark0
import Derived.Test.YtfobjedobojbnabDoorShelf
import Derived.Lib.ItoaNum
import Derived.Lib.AppendIntMem
namespace Go.Proofs.YtfobjedobojbnabDoor
open Go Go.RowKit

theorem dec_one {u : Nat} (h : u < 10) : Lib.decDigits u = [48 + UInt8.ofNat u] := by
  rw [Lib.decDigits, dif_pos h]
  congr 1
  exact UInt8.toNat_inj.mp (by simp)
theorem dec_step {u : Nat} (h : 10 ≤ u) : Lib.decDigits u = Lib.decDigits (u / 10) ++ [48 + UInt8.ofNat (u % 10)] := by
  rw [Lib.decDigits, dif_neg (by omega)]
  congr 2
  exact UInt8.toNat_inj.mp (by simp)
theorem mk_append (a b : List UInt8) : (⟨(a ++ b).toArray⟩ : ByteArray) = ⟨a.toArray⟩ ++ ⟨b.toArray⟩ := by
  apply WideShapes.bytes_inj
  simp
theorem append_step {u : Nat} (h : 10 ≤ u) (acc : ByteArray) : (⟨(Lib.decDigits u).toArray⟩ : ByteArray) ++ acc = ⟨(Lib.decDigits (u / 10)).toArray⟩ ++ (⟨#[48 + UInt8.ofNat (u % 10)]⟩ ++ acc) := by
  rw [dec_step h, mk_append, ByteArray.append_assoc]

set_option maxHeartbeats 1000000 in
set_option maxRecDepth 100000 in
theorem l02Int_any (u : Nat) (W : World) (h : u ≤ 1000000000000) :
    Calls Tryd.prog 68 #[.int .i64 u] W fun e w' => e = .returned (.string ⟨(Lib.decDigits u).toArray⟩) ∧ Below W.heap.size W w' := by
  have hneg : decide ((u : Int) < 0) = false := by first | (simp; done) | (simp; omega)
  go_enter Tryd.func68, Tryd.ntmps68
  go_wp2_with fail
  go_loopw [0, 3] (fun i s wr => ∃ (j : Nat) (acc : ByteArray), i = .int .i64 j ∧ s = .string acc ∧ Hid (Below W.heap.size W wr) ∧ acc.size + j ≤ 1000000000000 ∧ Hid ((⟨(Lib.decDigits u).toArray⟩ : ByteArray) = ⟨(Lib.decDigits j).toArray⟩ ++ acc)) (fun i _ _ => (intOf i).toNat)
  case atStart => exact ⟨u, _, rfl, rfl, Below.refl _ _, by simp [ByteArray.size]; omega, by show _ = _; apply WideShapes.bytes_inj; simp⟩
  case round =>
    obtain ⟨j, acc, rfl, rfl, HB, hsz, HE⟩ := hrel
    by_cases hj : 10 ≤ j
    · have hd : decide (10 ≤ (j : Int)) = true := by simp; omega
      have b0 : 0 ≤ (j : Int) % 10 := by omega
      have b1 : (j : Int) % 10 ≤ 9 := by omega
      have hcv := conv_one wr (48 + (j : Int) % 10)
      have HS : Hid ((⟨(Lib.decDigits j).toArray⟩ : ByteArray) ++ acc = ⟨(Lib.decDigits (j / 10)).toArray⟩ ++ (⟨#[48 + UInt8.ofNat (j % 10)]⟩ ++ acc)) := append_step hj acc
      have hs' : acc.size ≤ 1000000000000 := by omega
      go_wp2_with fail
      go_roundw
      case rel =>
        refine ⟨j / 10, _, by go_num, rfl, HB.out.alloc HB.out.size _, ?_, HE.out.trans HS.out⟩
        rw [ByteArray.size_append]
        show 1 + acc.size + j / 10 ≤ _
        omega
      case measure => simp [intOf]; omega
    · have hd : decide (10 ≤ (j : Int)) = false := by simp; omega
      have hs' : acc.size ≤ 1000000000000 := by omega
      have b0 : 0 ≤ (j : Int) := by omega
      have b1 : (j : Int) ≤ 9 := by omega
      have hcv := conv_one wr (48 + (j : Int))
      have HS : Hid ((⟨(Lib.decDigits u).toArray⟩ : ByteArray) = ⟨#[48 + UInt8.ofNat j]⟩ ++ acc) := by
        show _ = _
        rw [HE.out, dec_one (by omega)]
      clear hsz hj
      go_wp2_with fail
      go_ret
      exact ⟨str_ret HS.out.symm, HB.out.alloc HB.out.size _⟩

theorem gPow : Tryd.prog.globalNamed "internal/strconv.uint64pow10" = some 2 := by kernel_rfl
abbrev PowTab (W : World) : Prop := Lib.TabIs Tryd.prog W "internal/strconv.uint64pow10" .u64 Lib.pow10Tab
theorem FormatInt_any (u : Nat) (W : World) (h : u ≤ 1000000000000) (hT : PowTab W) :
    Calls Tryd.prog 88 #[.int .i64 u, .int .i64 10] W fun e w' => e = .returned (.string ⟨(Lib.decDigits u).toArray⟩) ∧ Below W.heap.size W w' := by
  have HC : Hid (Calls Tryd.prog 109 #[.int .i64 u, .int .i64 10] W fun e w' => e = .returned (.string ⟨(Lib.decDigits u).toArray⟩) ∧ Below W.heap.size W w') := by
    refine (Tryd.internal_strconv_FormatInt_10 (u : Int) (by omega) (by omega) W hT).mono fun e w' ⟨he, k, os, hw⟩ => ⟨?_, ?_⟩
    · rw [he]
      unfold Lib.itoa
      rw [if_neg (by omega), Int.toNat_natCast]
    · rw [hw]
      exact Lib.below_grow _ W (Nat.le_refl _) k os
  clear hT
  go_enter Tryd.func88, Tryd.ntmps88
  go_wp2_with (go_at_call 109; refine HC.out.mono ?_; rintro e w1 ⟨rfl, hb⟩; have HB := Lib.hid hb; clear hb)
  go_ret
  exact ⟨rfl, HB.out⟩
end Go.Proofs.YtfobjedobojbnabDoor
