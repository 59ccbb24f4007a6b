/- Contract: laws.markText: some text that hangs on the number alone. No condition but a bound on the number. -/
import Derived.Test.YtdlhoakcpdaboaaMark0
import Derived.WalkKit
import Derived.WalkLawsBesides
import Derived.Lib.Hide
import Derived.LoopTactic
import Derived.Below
import Derived.Laws.BytesString
import Derived.Lib.Strings
namespace Go.Proofs.Ytdlhoakcpdaboaa
open Go Go.RowKit

/-- The digits of k ahead of acc. -/
def digitsOf (k : Nat) (acc : ByteArray) : ByteArray := if _h : k = 0 then acc else digitsOf (k / 10) (⟨#[48 + UInt8.ofNat (k % 10)]⟩ ++ acc)
termination_by k
decreasing_by omega
theorem digitsOf_zero (acc : ByteArray) : digitsOf 0 acc = acc := by rw [digitsOf, dif_pos rfl]
theorem digitsOf_step {k : Nat} (h : 0 < k) (acc : ByteArray) : digitsOf k acc = digitsOf (k / 10) (⟨#[48 + UInt8.ofNat (k % 10)]⟩ ++ acc) := by rw [digitsOf, dif_neg (by omega)]
/-- What markText answers at a number from 1 on. -/
def markT (k : Nat) : ByteArray := ⟨#[109]⟩ ++ digitsOf k ⟨#[]⟩

set_option maxRecDepth 100000 in
theorem markText_any (k : Nat) (W : World) (h0 : 0 < k) (h1 : k ≤ 16777216) :
    Calls Try.prog 40 #[.int .i64 k] W fun e w' => e = .returned (.string (markT k)) ∧ Below W.heap.size W w' := by
  have hk0 : decide ((k : Int) ≤ 0) = false := by simp; omega
  go_enter Try.func40, Try.ntmps40
  go_wp2
  go_loopw [0, 3] (fun i s wr => ∃ (j : Nat) (acc : ByteArray), i = .int .i64 j ∧ s = .string acc ∧ Below W.heap.size W wr ∧ acc.size + j ≤ 16777216 ∧ Hid (digitsOf k ⟨#[]⟩ = digitsOf j acc)) (fun i _ _ => (intOf i).toNat)
  case atStart => exact ⟨k, _, rfl, rfl, Below.refl _ _, by simp [ByteArray.size]; omega, rfl⟩
  case round =>
    obtain ⟨j, acc, rfl, rfl, hb, hsz, hE⟩ := hrel
    by_cases hj : 0 < j
    · have hd : decide (0 < (j : Int)) = true := by simp; omega
      have b0 : 0 ≤ (j : Int) % 10 := by omega
      have b1 : (j : Int) % 10 ≤ 9 := by omega
      have hcv := conv_one wr (48 + (j : Int) % 10)
      have HB := Lib.hid hb
      have HS : Hid (digitsOf j acc = digitsOf (j / 10) (⟨#[48 + UInt8.ofNat (j % 10)]⟩ ++ acc)) := digitsOf_step hj acc
      have hs' : acc.size ≤ 16777215 := by omega
      clear hb
      go_wp2_with fail
      go_roundw
      case rel =>
        refine ⟨j / 10, _, by go_num, rfl, HB.out.alloc HB.out.size _, ?_, hE.out.trans HS.out⟩
        rw [ByteArray.size_append]
        show 1 + acc.size + j / 10 ≤ _
        omega
      case measure => simp [intOf]; omega
    · have HZ : Hid (digitsOf j acc = acc) := by rw [show j = 0 by omega]; exact digitsOf_zero acc
      have hd : decide (0 < (j : Int)) = false := by simp; omega
      have HB := Lib.hid hb
      have hs' : acc.size ≤ 16777216 := by omega
      clear hb hsz
      go_wp2
      go_ret
      exact ⟨str_ret (by unfold markT; rw [hE.out, HZ.out]), HB.out⟩
end Go.Proofs.Ytdlhoakcpdaboaa
