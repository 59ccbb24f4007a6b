/- Contract: sort.Search over a test that is false ahead of m and true from m on. No condition but that it is short. -/
import Derived.Test.YtnedihiagaepjaaDoorRw
namespace Go.Proofs.YtnedihiagaepjaaDoor
open Go Go.RowKit

set_option maxHeartbeats 4000000 in
set_option maxRecDepth 100000 in
theorem searchBd_any (cap : Array Value) (n m : Nat) (W : World) (hn : n ≤ 1000000) (hm : m ≤ n)
    (hf : ∀ (h : Nat) (w : World), h < n → Below W.heap.size W w → Calls Tryd.prog 76 (#[.int .i64 h] ++ cap) w fun e w' => e = .returned (.bool (decide (m ≤ h))) ∧ Below w.heap.size w w') :
    Calls Tryd.prog 75 #[.int .i64 n, .func (.func 76) #[] cap] W fun e w' => e = .returned (.int .i64 m) ∧ Below W.heap.size W w' := by
  have HF := Lib.hid hf
  clear hf
  go_enter Tryd.func75, Tryd.ntmps75
  go_wp2_with fail
  go_loopw [5, 6] (fun p q wr => ∃ i j : Nat, p = .int .i64 i ∧ q = .int .i64 j ∧ i ≤ m ∧ m ≤ j ∧ j ≤ n ∧ Hid (Below W.heap.size W wr)) (fun p q _ => (intOf q).toNat - (intOf p).toNat)
  case atStart => exact ⟨0, n, rfl, rfl, Nat.zero_le _, hm, Nat.le_refl _, Below.refl _ _⟩
  case round =>
    obtain ⟨i, j, rfl, rfl, hi, hj, hjn, HW⟩ := hrel
    by_cases hlt : i < j
    · have b1 : (i : Int) < (j : Int) := by omega
      obtain ⟨h, hh⟩ : ∃ h, (i + j) / 2 = h := ⟨_, rfl⟩
      have HH : Hid (i ≤ h ∧ h < j) := ⟨by omega, by omega⟩
      have HQ : Hid ((h : Int) = ((i : Int) + (j : Int)) / 2) := by show _ = _; omega
      clear hh
      have HCL := Lib.hid (fun w (hb : Below W.heap.size W w) => (by have hq := HF.out h w (by have := HH.out; omega) hb; rw [HQ.out] at hq; exact hq : Calls Tryd.prog 76 (#[.int .i64 (((i : Int) + (j : Int)) / 2)] ++ cap) w fun e w' => e = .returned (.bool (decide (m ≤ h))) ∧ Below w.heap.size w w'))
      by_cases hmh : m ≤ h
      · have HM := Lib.hid (show decide (m ≤ h) = true by simp [hmh])
        go_wp2_with (go_at_call 76; refine Calls.mono (HCL.out _ HW.out) ?_; rintro e w1 ⟨rfl, hb⟩; rw [HM.out]; have HW1 := Lib.hid (HW.out.trans (hb.mono HW.out.size)); clear hb)
        go_roundw
        case rel => exact ⟨i, h, rfl, by rw [HQ.out], hi, hmh, by have := HH.out; omega, HW1⟩
        case measure => have h1 := HH.out; have h2 := HQ.out; simp [intOf]; omega
      · have HM := Lib.hid (show decide (m ≤ h) = false by simp [hmh])
        go_wp2_with (go_at_call 76; refine Calls.mono (HCL.out _ HW.out) ?_; rintro e w1 ⟨rfl, hb⟩; rw [HM.out]; have HW1 := Lib.hid (HW.out.trans (hb.mono HW.out.size)); clear hb)
        go_roundw
        case rel => exact ⟨h + 1, j, by rw [← HQ.out]; go_num, rfl, by omega, hj, hjn, HW1⟩
        case measure => have h1 := HH.out; have h2 := HQ.out; simp [intOf]; omega
    · have hij : i = m := by omega
      subst hij
      go_wp2_with fail
      go_ret
      exact ⟨rfl, HW.out⟩
end Go.Proofs.YtnedihiagaepjaaDoor
