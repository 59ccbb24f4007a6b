/- Contracts: ValidToken of the program, IsInfix of the model and of the program. Condition: the table holds what the program's text lays. -/
import Derived.Test.YtfobjedobojbnabDoorToken
namespace Go.Proofs.YtfobjedobojbnabDoor
open Go Go.RowKit

set_option maxHeartbeats 2000000 in
theorem impl_ValidToken_any (k n : Int) (t : ByteArray) (b a : Bool) (W : World) (hs : t.size ≤ maxLen) (hT : Classes W) :
    Calls Tryd.prog 23 #[.agg #[.int .i64 k, .int .i64 n, .string t, .bool b, .bool a]] W fun e w' => e = .returned (.bool (validTok k n t)) ∧ Below W.heap.size W w' := by
  have HS : Hid (t.size ≤ maxLen) := hs
  have HT : Hid (Classes W) := hT
  have HG : Hid (0 < W.heap.size) := heap_pos (hT.at_ 0 (by decide))
  clear hs hT
  unfold validTok
  obtain ⟨z, hz⟩ : ∃ z, (n == 0) = z := ⟨_, rfl⟩
  rw [hz]
  by_cases k1 : k = 1
  · subst k1
    rw [if_pos rfl]
    obtain ⟨x, hx⟩ : ∃ x, isNameB t = x := ⟨_, rfl⟩
    have HX := Lib.hid hx
    rw [hx]
    clear hx
    cases z
    · rw [Bool.and_false]
      go_enter Tryd.func23, Tryd.ntmps23
      go_wp2_with fail
      go_ret
      exact ⟨rfl, (Below.refl _ _).alloc (Nat.le_refl _) _⟩
    · cases x
      all_goals
        go_enter Tryd.func23, Tryd.ntmps23
        go_wp2_with (go_at_call 53; refine (impl_IsName_any _ _ HS.out (HT.out.below ((Below.refl W.heap.size W).alloc (Nat.le_refl _) _) HG.out)).mono ?_; rintro e w1 ⟨rfl, hb⟩; rw [HX.out]; have HB := Lib.hid hb; clear hb)
        go_ret
        exact ⟨rfl, ((Below.refl _ _).alloc (Nat.le_refl _) _).trans (HB.out.mono (by simp))⟩
  rw [if_neg k1]
  by_cases k2 : k = 2
  · subst k2
    rw [if_pos rfl]
    have hx : decide (0 ≤ n ∧ n ≤ 1000000000000) = (decide (0 ≤ n) && decide (n ≤ 1000000000000)) := by simp
    rw [hx]
    clear hx hz k1
    obtain ⟨x, hx⟩ : ∃ x, decide (0 ≤ n) = x := ⟨_, rfl⟩
    obtain ⟨y, hy⟩ : ∃ y, decide (n ≤ 1000000000000) = y := ⟨_, rfl⟩
    rw [hx, hy]
    by_cases h0 : t.size = 0
    · have e1 := nil_of_size h0
      have e2 := isEmpty_of_size h0
      have e3 : (t.size == 0) = true := by simp [h0]
      rw [e3]
      clear e3 h0
      cases x <;> cases y
      all_goals
        go_enter Tryd.func23, Tryd.ntmps23
        go_wp2_with fail
        go_ret
        exact ⟨rfl, (Below.refl _ _).alloc (Nat.le_refl _) _⟩
    · have hp : 0 < t.size := by omega
      have e1 := ne_nil_of_size hp
      have e2 := not_isEmpty_of_size hp
      have e3 : (t.size == 0) = false := by simp [h0]
      rw [e3]
      clear e3 h0
      cases x <;> cases y
      all_goals
        go_enter Tryd.func23, Tryd.ntmps23
        go_wp2_with fail
        go_ret
        exact ⟨rfl, (Below.refl _ _).alloc (Nat.le_refl _) _⟩
  rw [if_neg k2]
  by_cases k3 : k = 3
  · subst k3
    rw [if_pos rfl]
    obtain ⟨x, hx⟩ : ∃ x, canB t = x := ⟨_, rfl⟩
    have HX := Lib.hid hx
    rw [hx]
    clear hx k1 k2
    cases z
    · rw [Bool.and_false]
      go_enter Tryd.func23, Tryd.ntmps23
      go_wp2_with fail
      go_ret
      exact ⟨rfl, (Below.refl _ _).alloc (Nat.le_refl _) _⟩
    · cases x
      all_goals
        go_enter Tryd.func23, Tryd.ntmps23
        go_wp2_with (go_at_call 54; refine (impl_CanQuote_any _ _ HS.out).mono ?_; rintro e w1 ⟨rfl, hb⟩; rw [HX.out]; have HB := Lib.hid hb; clear hb)
        go_ret
        exact ⟨rfl, ((Below.refl _ _).alloc (Nat.le_refl _) _).trans (HB.out.mono (by simp))⟩
  rw [if_neg k3]
  by_cases k4 : k = 4
  · subst k4
    rw [if_pos rfl]
    obtain ⟨x, hx⟩ : ∃ x, isOp t = x := ⟨_, rfl⟩
    have HX := Lib.hid hx
    rw [hx]
    clear hx k1 k2 k3
    cases x <;> cases z
    all_goals
      go_enter Tryd.func23, Tryd.ntmps23
      go_wp2_with (go_at_call 55; refine (impl_IsOperator_any _ _ HS.out (HT.out.below ((Below.refl W.heap.size W).alloc (Nat.le_refl _) _) HG.out)).mono ?_; rintro e w' ⟨rfl, rfl⟩; rw [HX.out])
      go_ret
      exact ⟨rfl, (Below.refl _ _).alloc (Nat.le_refl _) _⟩
  rw [if_neg k4]
  by_cases k5 : 5 ≤ k ∧ k ≤ 10
  · have ex : decide (5 ≤ k ∧ k ≤ 10) = true := by simp [k5]
    rw [ex]
    clear ex k1 k2 k3 k4
    obtain rfl | rfl | rfl | rfl | rfl | rfl : k = 5 ∨ k = 6 ∨ k = 7 ∨ k = 8 ∨ k = 9 ∨ k = 10 := by omega
    all_goals
      clear k5
      by_cases h0 : t.size = 0
      · have e1 := nil_of_size h0
        have e2 := isEmpty_of_size h0
        have e3 : (t.size == 0) = true := by simp [h0]
        rw [e3]
        clear e3 h0
        cases z
        all_goals
          go_enter Tryd.func23, Tryd.ntmps23
          go_wp2_with fail
          go_ret
          exact ⟨rfl, (Below.refl _ _).alloc (Nat.le_refl _) _⟩
      · have hp : 0 < t.size := by omega
        have e1 := ne_nil_of_size hp
        have e2 := not_isEmpty_of_size hp
        have e3 : (t.size == 0) = false := by simp [h0]
        rw [e3]
        clear e3 h0
        cases z
        all_goals
          go_enter Tryd.func23, Tryd.ntmps23
          go_wp2_with fail
          go_ret
          exact ⟨rfl, (Below.refl _ _).alloc (Nat.le_refl _) _⟩
  have ex : decide (5 ≤ k ∧ k ≤ 10) = false := by simpa using k5
  rw [ex]
  have f1 : (k == 1) = false := by simpa using k1
  have f2 : (k == 2) = false := by simpa using k2
  have f3 : (k == 3) = false := by simpa using k3
  have f4 : (k == 4) = false := by simpa using k4
  have f5 : (k == 5) = false := by simp; omega
  have f6 : (k == 6) = false := by simp; omega
  have f7 : (k == 7) = false := by simp; omega
  have f8 : (k == 8) = false := by simp; omega
  have f9 : (k == 9) = false := by simp; omega
  have f10 : (k == 10) = false := by simp; omega
  clear k1 k2 k3 k4 k5 ex hz
  go_enter Tryd.func23, Tryd.ntmps23
  go_wp2_with fail
  go_ret
  exact ⟨rfl, (Below.refl _ _).alloc (Nat.le_refl _) _⟩
end Go.Proofs.YtfobjedobojbnabDoor
