/- Contracts: IsNull of the model and of the program. No condition. -/
import Derived.Test.YtpjjpfjnjhahcaaGreatDoorValText
namespace Go.Proofs.YtpjjpfjnjhahcaaGreatDoor
open Go Go.RowKit Go.Sort

/-- What IsNull answers. -/
def isNullV (k n : Int) (t : ByteArray) (r : Int) : Bool := (k == 1) && ((n == 0) && ((t.size == 0) && (r == 0)))

theorem spec_IsNull_any (k n : Int) (t : ByteArray) (r : Int) (W : World) :
    Calls Tryz.prog 44 #[.agg #[.int .i64 k, .int .i64 n, .string t, .int .i64 r]] W fun e w' => e = .returned (.bool (isNullV k n t r)) ∧ Below W.heap.size W w' := by
  unfold isNullV
  obtain ⟨z1, h1⟩ : ∃ z, (k == 1) = z := ⟨_, rfl⟩
  obtain ⟨z2, h2⟩ : ∃ z, (n == 0) = z := ⟨_, rfl⟩
  obtain ⟨z4, h4⟩ : ∃ z, (r == 0) = z := ⟨_, rfl⟩
  rw [h1, h2, h4]
  by_cases h0 : t.size = 0
  · have e1 := nil_of_size h0
    have e2 := isEmpty_of_size h0
    have e3 : (t.size == 0) = true := by simp [h0]
    rw [e3]
    clear e3 h0
    cases z1 <;> cases z2 <;> cases z4
    all_goals
      go_enter Tryz.func44, Tryz.ntmps44
      go_wp2_with fail
      go_ret
      exact ⟨rfl, (Below.refl _ _).alloc (Nat.le_refl _) _⟩
  · have hp : 0 < t.size := by omega
    have e1 := ne_nil_of_size hp
    have e2 := not_isEmpty_of_size hp
    have e3 : (t.size == 0) = false := by simp [h0]
    rw [e3]
    clear e3 h0
    cases z1 <;> cases z2 <;> cases z4
    all_goals
      go_enter Tryz.func44, Tryz.ntmps44
      go_wp2_with fail
      go_ret
      exact ⟨rfl, (Below.refl _ _).alloc (Nat.le_refl _) _⟩

set_option maxHeartbeats 2000000 in
theorem impl_IsNull_any (k n : Int) (t : ByteArray) (r : Int) (W : World) :
    Calls Tryz.prog 55 #[.agg #[.int .i64 k, .int .i64 n, .string t, .int .i64 r]] W fun e w' => e = .returned (.bool (isNullV k n t r)) ∧ Below W.heap.size W w' := by
  unfold isNullV
  obtain ⟨z1, h1⟩ : ∃ z, (k == 1) = z := ⟨_, rfl⟩
  obtain ⟨z2, h2⟩ : ∃ z, (n == 0) = z := ⟨_, rfl⟩
  obtain ⟨z4, h4⟩ : ∃ z, (r == 0) = z := ⟨_, rfl⟩
  rw [h1, h2, h4]
  by_cases h0 : t.size = 0
  · have e1 := nil_of_size h0
    have e2 := isEmpty_of_size h0
    have e3 : (t.size == 0) = true := by simp [h0]
    rw [e3]
    clear e3 h0
    cases z1 <;> cases z2 <;> cases z4
    all_goals
      go_enter Tryz.func55, Tryz.ntmps55
      go_wp2_with fail
      obtain ⟨w0, hw0⟩ : ∃ w0, W.alloc (.cells #[.int .i64 k, .int .i64 n, .string t, .int .i64 r] 25) = w0 := ⟨_, rfl⟩
      have Q : V4 w0 W.heap.size k n t r := by rw [← hw0]; exact v4_new _ _ _ _ _ _
      have HB0 : Hid (Below W.heap.size W w0) := by show Below _ _ _; rw [← hw0]; exact (Below.refl _ _).alloc (Nat.le_refl _) _
      try rw [hw0]
      obtain ⟨q0, q1, q2, q3⟩ := Q
      clear hw0
      have c0 := cell_regrown q0
      have c1 := cell_regrown q1
      have c2 := cell_regrown q2
      have c3 := cell_regrown q3
      have cT : ∀ d os, Calls Tryz.prog 48 #[.int .i64 1, .string ⟨#[]⟩] (grow (redrawn w0 d) os) (fun e w'' => e = .returned (.agg #[.int .i64 1, .int .i64 0, .string ⟨#[]⟩, .int .i64 0]) ∧ ∃ p : Regrown, w'' = grow (redrawn w0 p.d) p.os) := fun d os => Calls.regrown_of (textValue_any _ _ _)
      refine wp_region_quiet_below (by kernel_rfl) (by kernel_rfl) ?_
      repeat (first | go_big_quiet_step (exact cT _ _) | quiet_step (exact cT _ _))
      refine wpQuiet_nil ?_
      intro _ hw'
      obtain ⟨⟨dq, osq⟩, hw''⟩ := hw'
      subst hw''
      go_wp2_with fail
      go_ret
      exact ⟨rfl, HB0.out.trans ((below_regrown w0 dq osq).mono HB0.out.size)⟩
  · have hp : 0 < t.size := by omega
    have e1 := ne_nil_of_size hp
    have e2 := not_isEmpty_of_size hp
    have e3 : (t.size == 0) = false := by simp [h0]
    rw [e3]
    clear e3 h0
    cases z1 <;> cases z2 <;> cases z4
    all_goals
      go_enter Tryz.func55, Tryz.ntmps55
      go_wp2_with fail
      obtain ⟨w0, hw0⟩ : ∃ w0, W.alloc (.cells #[.int .i64 k, .int .i64 n, .string t, .int .i64 r] 25) = w0 := ⟨_, rfl⟩
      have Q : V4 w0 W.heap.size k n t r := by rw [← hw0]; exact v4_new _ _ _ _ _ _
      have HB0 : Hid (Below W.heap.size W w0) := by show Below _ _ _; rw [← hw0]; exact (Below.refl _ _).alloc (Nat.le_refl _) _
      try rw [hw0]
      obtain ⟨q0, q1, q2, q3⟩ := Q
      clear hw0
      have c0 := cell_regrown q0
      have c1 := cell_regrown q1
      have c2 := cell_regrown q2
      have c3 := cell_regrown q3
      have cT : ∀ d os, Calls Tryz.prog 48 #[.int .i64 1, .string ⟨#[]⟩] (grow (redrawn w0 d) os) (fun e w'' => e = .returned (.agg #[.int .i64 1, .int .i64 0, .string ⟨#[]⟩, .int .i64 0]) ∧ ∃ p : Regrown, w'' = grow (redrawn w0 p.d) p.os) := fun d os => Calls.regrown_of (textValue_any _ _ _)
      refine wp_region_quiet_below (by kernel_rfl) (by kernel_rfl) ?_
      repeat (first | go_big_quiet_step (exact cT _ _) | quiet_step (exact cT _ _))
      refine wpQuiet_nil ?_
      intro _ hw'
      obtain ⟨⟨dq, osq⟩, hw''⟩ := hw'
      subst hw''
      go_wp2_with fail
      go_ret
      exact ⟨rfl, HB0.out.trans ((below_regrown w0 dq osq).mono HB0.out.size)⟩
end Go.Proofs.YtpjjpfjnjhahcaaGreatDoor
