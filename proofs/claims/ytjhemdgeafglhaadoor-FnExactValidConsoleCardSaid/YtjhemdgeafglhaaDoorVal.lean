/- Contracts: l06Plain, ValidValue of the model. No condition but that a string fits in memory. -/
import Derived.Test.YtjhemdgeafglhaaDoorName
import Derived.Test.YtjhemdgeafglhaaDoorIn
import Derived.Test.YtjhemdgeafglhaaDoorWf
namespace Go.Proofs.YtjhemdgeafglhaaDoor
open Go Go.RowKit

/-- What ValidValue answers. -/
def validV (k n : Int) (t : ByteArray) (r : Int) : Bool :=
  if k = 1 then (n == 0 && r == 0) && decide (t.size ≤ 200) else if k = 2 then (t.size == 0 && r == 0) && decide (-1000000000000 ≤ n ∧ n ≤ 1000000000000)
  else if k = 3 then (n == 0 && r == 0) && decide (1 ≤ (t.size : Int) ∧ (t.size : Int) ≤ 1200) else if k = 4 ∨ k = 5 ∨ k = 6 then (n == 0 && t.size == 0) && decide (1 ≤ r ∧ r ≤ 1000000)
  else if k = 7 ∨ k = 8 then (n == 0 && r == 0) && isNameB t else false

theorem l06Plain_text (k n : Int) (t : ByteArray) (r : Int) (W : World) :
    Calls Tryd.prog 50 #[.agg #[.int .i64 k, .int .i64 n, .string t, .int .i64 r], .bool false, .bool true, .bool false] W fun e w' => e = .returned (.bool (n == 0 && r == 0)) ∧ Below W.heap.size W w' := by
  obtain ⟨z, hz⟩ : ∃ z, (n == 0) = z := ⟨_, rfl⟩
  obtain ⟨y, hy⟩ : ∃ y, (r == 0) = y := ⟨_, rfl⟩
  rw [hz, hy]
  cases z <;> cases y
  all_goals
    go_enter Tryd.func50, Tryd.ntmps50
    go_wp2_with fail
    go_ret
    exact ⟨rfl, (Below.refl _ _).alloc (Nat.le_refl _) _⟩
theorem l06Plain_num (k n : Int) (t : ByteArray) (r : Int) (W : World) :
    Calls Tryd.prog 50 #[.agg #[.int .i64 k, .int .i64 n, .string t, .int .i64 r], .bool true, .bool false, .bool false] W fun e w' => e = .returned (.bool (t.size == 0 && r == 0)) ∧ Below W.heap.size W w' := by
  obtain ⟨y, hy⟩ : ∃ y, (r == 0) = y := ⟨_, rfl⟩
  rw [hy]
  by_cases h0 : t.size = 0
  · have e1 := nil_of_size h0
    have e2 := isEmpty_of_size h0
    have e3 : (t.size == 0) = true := by simp [h0]
    rw [e3]
    clear e3 h0
    cases y
    all_goals
      go_enter Tryd.func50, Tryd.ntmps50
      go_wp2_with fail
      go_ret
      exact ⟨rfl, (Below.refl _ _).alloc (Nat.le_refl _) _⟩
  · have hp : 0 < t.size := by omega
    have e1 := ne_nil_of_size hp
    have e2 := not_isEmpty_of_size hp
    have e3 : (t.size == 0) = false := by simp [h0]
    rw [e3]
    clear e3 h0
    go_enter Tryd.func50, Tryd.ntmps50
    go_wp2_with fail
    go_ret
    exact ⟨rfl, (Below.refl _ _).alloc (Nat.le_refl _) _⟩
theorem l06Plain_ref (k n : Int) (t : ByteArray) (r : Int) (W : World) :
    Calls Tryd.prog 50 #[.agg #[.int .i64 k, .int .i64 n, .string t, .int .i64 r], .bool false, .bool false, .bool true] W fun e w' => e = .returned (.bool (n == 0 && t.size == 0)) ∧ Below W.heap.size W w' := by
  obtain ⟨z, hz⟩ : ∃ z, (n == 0) = z := ⟨_, rfl⟩
  rw [hz]
  by_cases h0 : t.size = 0
  · have e1 := nil_of_size h0
    have e2 := isEmpty_of_size h0
    have e3 : (t.size == 0) = true := by simp [h0]
    rw [e3]
    clear e3 h0
    cases z
    all_goals
      go_enter Tryd.func50, Tryd.ntmps50
      go_wp2_with fail
      go_ret
      exact ⟨rfl, (Below.refl _ _).alloc (Nat.le_refl _) _⟩
  · have hp : 0 < t.size := by omega
    have e1 := ne_nil_of_size hp
    have e2 := not_isEmpty_of_size hp
    have e3 : (t.size == 0) = false := by simp [h0]
    rw [e3]
    clear e3 h0
    cases z
    all_goals
      go_enter Tryd.func50, Tryd.ntmps50
      go_wp2_with fail
      go_ret
      exact ⟨rfl, (Below.refl _ _).alloc (Nat.le_refl _) _⟩

set_option maxHeartbeats 4000000 in
theorem spec_ValidValue_any (k n : Int) (t : ByteArray) (r : Int) (W : World) (hs : t.size ≤ maxLen) :
    Calls Tryd.prog 25 #[.agg #[.int .i64 k, .int .i64 n, .string t, .int .i64 r]] W fun e w' => e = .returned (.bool (validV k n t r)) ∧ Below W.heap.size W w' := by
  have HS : Hid (t.size ≤ maxLen) := hs
  clear hs
  unfold validV
  by_cases k1 : k = 1
  · subst k1
    rw [if_pos rfl]
    obtain ⟨x, hx⟩ : ∃ x, (n == 0 && r == 0) = x := ⟨_, rfl⟩
    have HX := Lib.hid hx
    rw [hx]
    clear hx
    by_cases hl : t.size ≤ 200
    · have e1 : decide ((t.size : Int) ≤ 200) = true := by simp; omega
      have e2 : decide (t.size ≤ 200) = true := by simp [hl]
      have e3 : (t.size : Int) ≤ 200 := by omega
      rw [e2]
      clear hl e2
      cases x
      all_goals
        go_enter Tryd.func25, Tryd.ntmps25
        go_wp2_with (go_at_call 50; refine (l06Plain_text _ _ _ _ _).mono ?_; rintro e w1 ⟨rfl, hb⟩; rw [HX.out]; have HB := Lib.hid (((Below.refl _ _).alloc (Nat.le_refl _) _).trans (hb.mono (B' := W.heap.size) (by simp))); obtain ⟨hc, hf⟩ := bcell hb; clear hb)
        go_ret
        exact ⟨rfl, HB.out⟩
    · have e1 : decide ((t.size : Int) ≤ 200) = false := by simp; omega
      have e2 : decide (t.size ≤ 200) = false := by simp; omega
      have e3 : ¬ (t.size : Int) ≤ 200 := by omega
      rw [e2]
      clear hl e2
      cases x
      all_goals
        go_enter Tryd.func25, Tryd.ntmps25
        go_wp2_with (go_at_call 50; refine (l06Plain_text _ _ _ _ _).mono ?_; rintro e w1 ⟨rfl, hb⟩; rw [HX.out]; have HB := Lib.hid (((Below.refl _ _).alloc (Nat.le_refl _) _).trans (hb.mono (B' := W.heap.size) (by simp))); obtain ⟨hc, hf⟩ := bcell hb; clear hb)
        go_ret
        exact ⟨rfl, HB.out⟩
  rw [if_neg k1]
  by_cases k2 : k = 2
  · subst k2
    rw [if_pos rfl]
    obtain ⟨x, hx⟩ : ∃ x, (t.size == 0 && r == 0) = x := ⟨_, rfl⟩
    have HX := Lib.hid hx
    obtain ⟨y, hy⟩ : ∃ y, decide (-1000000000000 ≤ n ∧ n ≤ 1000000000000) = y := ⟨_, rfl⟩
    have HY := Lib.hid hy
    rw [hx, hy]
    clear hx hy k1
    cases x <;> cases y
    all_goals
      go_enter Tryd.func25, Tryd.ntmps25
      go_wp2_with (first
        | (go_at_call 50; refine (l06Plain_num _ _ _ _ _).mono ?_; rintro e w1 ⟨rfl, hb⟩; rw [HX.out]; have HB := Lib.hid (((Below.refl _ _).alloc (Nat.le_refl _) _).trans (hb.mono (B' := W.heap.size) (by simp))); obtain ⟨hc, hf⟩ := bcell hb; clear hb)
        | (go_at_call 29; refine (l00In_any _ _ _ _).mono ?_; rintro e w' ⟨rfl, rfl⟩; rw [HY.out]))
      go_ret
      exact ⟨rfl, HB.out⟩
  rw [if_neg k2]
  by_cases k3 : k = 3
  · subst k3
    rw [if_pos rfl]
    obtain ⟨x, hx⟩ : ∃ x, (n == 0 && r == 0) = x := ⟨_, rfl⟩
    have HX := Lib.hid hx
    obtain ⟨y, hy⟩ : ∃ y, decide (1 ≤ (t.size : Int) ∧ (t.size : Int) ≤ 1200) = y := ⟨_, rfl⟩
    have HY := Lib.hid hy
    rw [hx, hy]
    clear hx hy k1 k2
    cases x <;> cases y
    all_goals
      go_enter Tryd.func25, Tryd.ntmps25
      go_wp2_with (first
        | (go_at_call 50; refine (l06Plain_text _ _ _ _ _).mono ?_; rintro e w1 ⟨rfl, hb⟩; rw [HX.out]; have HB := Lib.hid (((Below.refl _ _).alloc (Nat.le_refl _) _).trans (hb.mono (B' := W.heap.size) (by simp))); obtain ⟨hc, hf⟩ := bcell hb; clear hb)
        | (go_at_call 29; refine (l00In_any _ _ _ _).mono ?_; rintro e w' ⟨rfl, rfl⟩; rw [HY.out]))
      go_ret
      exact ⟨rfl, HB.out⟩
  rw [if_neg k3]
  by_cases k4 : k = 4 ∨ k = 5 ∨ k = 6
  · rw [if_pos k4]
    obtain ⟨x, hx⟩ : ∃ x, (n == 0 && t.size == 0) = x := ⟨_, rfl⟩
    have HX := Lib.hid hx
    obtain ⟨y, hy⟩ : ∃ y, decide (1 ≤ r ∧ r ≤ 1000000) = y := ⟨_, rfl⟩
    have HY := Lib.hid hy
    rw [hx, hy]
    clear hx hy k1 k2 k3
    rcases k4 with rfl | rfl | rfl <;> cases x <;> cases y
    all_goals
      go_enter Tryd.func25, Tryd.ntmps25
      go_wp2_with (first
        | (go_at_call 50; refine (l06Plain_ref _ _ _ _ _).mono ?_; rintro e w1 ⟨rfl, hb⟩; rw [HX.out]; have HB := Lib.hid (((Below.refl _ _).alloc (Nat.le_refl _) _).trans (hb.mono (B' := W.heap.size) (by simp))); obtain ⟨hc, hf⟩ := bcell hb; clear hb)
        | (go_at_call 29; refine (l00In_any _ _ _ _).mono ?_; rintro e w' ⟨rfl, rfl⟩; rw [HY.out]))
      go_ret
      exact ⟨rfl, HB.out⟩
  rw [if_neg k4]
  by_cases k7 : k = 7 ∨ k = 8
  · rw [if_pos k7]
    obtain ⟨x, hx⟩ : ∃ x, (n == 0 && r == 0) = x := ⟨_, rfl⟩
    have HX := Lib.hid hx
    obtain ⟨y, hy⟩ : ∃ y, isNameB t = y := ⟨_, rfl⟩
    have HY := Lib.hid hy
    rw [hx, hy]
    clear hx hy k1 k2 k3 k4
    rcases k7 with rfl | rfl <;> cases x <;> cases y
    all_goals
      go_enter Tryd.func25, Tryd.ntmps25
      go_wp2_with (first
        | (go_at_call 50; refine (l06Plain_text _ _ _ _ _).mono ?_; rintro e w1 ⟨rfl, hb⟩; rw [HX.out]; have HB := Lib.hid (((Below.refl _ _).alloc (Nat.le_refl _) _).trans (hb.mono (B' := W.heap.size) (by simp))); obtain ⟨hc, hf⟩ := bcell hb; clear hb)
        | (go_at_call 26; refine (spec_IsName_any _ _ HS.out).mono ?_; rintro e w' ⟨rfl, rfl⟩; rw [HY.out]))
      go_ret
      exact ⟨rfl, HB.out⟩
  rw [if_neg k7]
  have f1 : (k == 1) = false := by simpa using k1
  have f2 : (k == 2) = false := by simpa using k2
  have f3 : (k == 3) = false := by simpa using k3
  have f4 : (k == 4) = false := by simp; omega
  have f5 : (k == 5) = false := by simp; omega
  have f6 : (k == 6) = false := by simp; omega
  have f7 : (k == 7) = false := by simp; omega
  have f8 : (k == 8) = false := by simp; omega
  clear k1 k2 k3 k4 k7
  go_enter Tryd.func25, Tryd.ntmps25
  go_wp2_with fail
  go_ret
  exact ⟨rfl, (Below.refl _ _).alloc (Nat.le_refl _) _⟩
end Go.Proofs.YtjhemdgeafglhaaDoor
