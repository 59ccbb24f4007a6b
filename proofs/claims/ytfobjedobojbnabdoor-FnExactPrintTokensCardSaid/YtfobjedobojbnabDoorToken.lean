/- Contracts: szToken, toToken, l00In, ValidToken and IsInfix of the model and of the program. Condition: the table holds what the program's text lays. -/
import Derived.Test.YtfobjedobojbnabDoorName
import Derived.Test.YtfobjedobojbnabDoorCan
import Derived.Test.YtfobjedobojbnabDoorOper
import Derived.Test.YtfobjedobojbnabDoorIn
namespace Go.Proofs.YtfobjedobojbnabDoor
open Go Go.RowKit

/-- What ValidToken answers. -/
def validTok (k n : Int) (t : ByteArray) : Bool :=
  if k = 1 then isNameB t && n == 0 else if k = 2 then t.size == 0 && decide (0 ≤ n ∧ n ≤ 1000000000000) else if k = 3 then canB t && n == 0 else if k = 4 then isOp t && n == 0
  else decide (5 ≤ k ∧ k ≤ 10) && (t.size == 0) && (n == 0)

theorem szToken_fits (k n : Int) (t : ByteArray) (b a : Bool) (W : World) (ht : (t.size : Int) ≤ 1048576) :
    Calls Tryd.prog 36 #[.agg #[.int .i64 k, .int .i64 n, .string t, .bool b, .bool a], .int .i64 1048576] W fun e w' => e = .returned (.int .i64 (1048576 - t.size)) ∧ Below W.heap.size W w' := by
  go_enter Tryd.func36, Tryd.ntmps36
  go_wp2
  all_goals go_ret
  all_goals exact ⟨rfl, (Below.refl _ _).alloc (Nat.le_refl _) _⟩
theorem szToken_long (k n : Int) (t : ByteArray) (b a : Bool) (W : World) (ht : 1048576 < (t.size : Int)) (hm : (t.size : Int) ≤ 9223372036854775807) :
    Calls Tryd.prog 36 #[.agg #[.int .i64 k, .int .i64 n, .string t, .bool b, .bool a], .int .i64 1048576] W fun e w' => e = .returned (.int .i64 (-1)) ∧ Below W.heap.size W w' := by
  go_enter Tryd.func36, Tryd.ntmps36
  go_wp2
  all_goals go_ret
  all_goals exact ⟨rfl, (Below.refl _ _).alloc (Nat.le_refl _) _⟩

theorem toToken_any (k n : Int) (t : ByteArray) (b a : Bool) (W : World) :
    Calls Tryd.prog 39 #[.agg #[.int .i64 k, .int .i64 n, .string t, .bool b, .bool a]] W fun e w' => e = .returned (.agg #[.int .i64 k, .int .i64 n, .string t, .bool b, .bool a]) ∧ Below W.heap.size W w' := by
  go_enter Tryd.func39, Tryd.ntmps39
  go_wp2
  exact bodyPost_ret (v := .agg #[.int .i64 k, .int .i64 n, .string t, .bool b, .bool a]) (by simp [results, Tryd.results39, go_sem]) rfl
    ⟨rfl, by repeat (first | exact Below.refl _ _ | refine Below.setCell ?_ (by first | (simp; done) | (simp; omega)) _ | refine Below.alloc ?_ (by first | (simp; done) | (simp; omega)) _)⟩

set_option maxHeartbeats 2000000 in
theorem spec_ValidToken_any (k n : Int) (t : ByteArray) (b a : Bool) (W : World) (hs : t.size ≤ maxLen) :
    Calls Tryd.prog 37 #[.agg #[.int .i64 k, .int .i64 n, .string t, .bool b, .bool a]] W fun e w' => e = .returned (.bool (validTok k n t)) ∧ Below W.heap.size W w' := by
  have HS : Hid (t.size ≤ maxLen) := hs
  clear hs
  unfold validTok
  obtain ⟨z, hz⟩ : ∃ z, (n == 0) = z := ⟨_, rfl⟩
  rw [hz]
  by_cases k1 : k = 1
  · subst k1
    rw [if_pos rfl]
    obtain ⟨x, hx⟩ : ∃ x, isNameB t = x := ⟨_, rfl⟩
    have HX := Lib.hid hx
    rw [hx]
    clear hx
    cases x <;> cases z
    all_goals
      go_enter Tryd.func37, Tryd.ntmps37
      go_wp2_with (go_at_call 64; refine (spec_IsName_any _ _ HS.out).mono ?_; rintro e w' ⟨rfl, rfl⟩; rw [HX.out])
      go_ret
      exact ⟨rfl, (Below.refl _ _).alloc (Nat.le_refl _) _⟩
  rw [if_neg k1]
  by_cases k2 : k = 2
  · subst k2
    rw [if_pos rfl]
    obtain ⟨x, hx⟩ : ∃ x, decide (0 ≤ n ∧ n ≤ 1000000000000) = x := ⟨_, rfl⟩
    have HX := Lib.hid hx
    rw [hx]
    clear hx hz k1
    by_cases h0 : t.size = 0
    · have e1 := nil_of_size h0
      have e2 := isEmpty_of_size h0
      have e3 : (t.size == 0) = true := by simp [h0]
      rw [e3]
      clear e3 h0
      cases x
      all_goals
        go_enter Tryd.func37, Tryd.ntmps37
        go_wp2_with (go_at_call 65; refine (l00In_any _ _ _ _).mono ?_; rintro e w' ⟨rfl, rfl⟩; rw [HX.out])
        go_ret
        exact ⟨rfl, (Below.refl _ _).alloc (Nat.le_refl _) _⟩
    · have hp : 0 < t.size := by omega
      have e1 := ne_nil_of_size hp
      have e2 := not_isEmpty_of_size hp
      have e3 : (t.size == 0) = false := by simp [h0]
      rw [e3]
      clear e3 h0
      go_enter Tryd.func37, Tryd.ntmps37
      go_wp2_with fail
      go_ret
      exact ⟨rfl, (Below.refl _ _).alloc (Nat.le_refl _) _⟩
  rw [if_neg k2]
  by_cases k3 : k = 3
  · subst k3
    rw [if_pos rfl]
    obtain ⟨x, hx⟩ : ∃ x, canB t = x := ⟨_, rfl⟩
    have HX := Lib.hid hx
    rw [hx]
    clear hx k1 k2
    cases x <;> cases z
    all_goals
      go_enter Tryd.func37, Tryd.ntmps37
      go_wp2_with (go_at_call 66; refine (spec_CanQuote_any _ _ HS.out).mono ?_; rintro e w' ⟨rfl, rfl⟩; rw [HX.out])
      go_ret
      exact ⟨rfl, (Below.refl _ _).alloc (Nat.le_refl _) _⟩
  rw [if_neg k3]
  by_cases k4 : k = 4
  · subst k4
    rw [if_pos rfl]
    obtain ⟨x, hx⟩ : ∃ x, isOp t = x := ⟨_, rfl⟩
    have HX := Lib.hid hx
    rw [hx]
    clear hx k1 k2 k3
    cases x <;> cases z
    all_goals
      go_enter Tryd.func37, Tryd.ntmps37
      go_wp2_with (go_at_call 67; refine (spec_IsOperator_any _ _ HS.out).mono ?_; rintro e w' ⟨rfl, rfl⟩; rw [HX.out])
      go_ret
      exact ⟨rfl, (Below.refl _ _).alloc (Nat.le_refl _) _⟩
  rw [if_neg k4]
  obtain ⟨x, hx⟩ : ∃ x, decide (5 ≤ k ∧ k ≤ 10) = x := ⟨_, rfl⟩
  have HX := Lib.hid hx
  rw [hx]
  have f1 : (k == 1) = false := by simpa using k1
  have f2 : (k == 2) = false := by simpa using k2
  have f3 : (k == 3) = false := by simpa using k3
  have f4 : (k == 4) = false := by simpa using k4
  clear hx k1 k2 k3 k4
  by_cases h0 : t.size = 0
  · have e1 := nil_of_size h0
    have e2 := isEmpty_of_size h0
    have e3 : (t.size == 0) = true := by simp [h0]
    rw [e3]
    clear e3 h0
    cases x <;> cases z
    all_goals
      go_enter Tryd.func37, Tryd.ntmps37
      go_wp2_with (go_at_call 65; refine (l00In_any _ _ _ _).mono ?_; rintro e w' ⟨rfl, rfl⟩; rw [HX.out])
      go_ret
      exact ⟨rfl, (Below.refl _ _).alloc (Nat.le_refl _) _⟩
  · have hp : 0 < t.size := by omega
    have e1 := ne_nil_of_size hp
    have e2 := not_isEmpty_of_size hp
    have e3 : (t.size == 0) = false := by simp [h0]
    rw [e3]
    clear e3 h0
    cases x
    all_goals
      go_enter Tryd.func37, Tryd.ntmps37
      go_wp2_with (go_at_call 65; refine (l00In_any _ _ _ _).mono ?_; rintro e w' ⟨rfl, rfl⟩; rw [HX.out])
      go_ret
      exact ⟨rfl, (Below.refl _ _).alloc (Nat.le_refl _) _⟩
end Go.Proofs.YtfobjedobojbnabDoor
