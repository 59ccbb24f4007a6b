/- Contracts: textValue, numberValue, objectValue, isWithin, ValidValue of the program. Condition of the last: the table holds what the program's text lays. Contracts: IsNull of the model and of the program. No condition. Contracts: szValue, toValue of the laws. No condition but that a string fits in memory. Slices of Binding: what came in or lies below B; szBindingS, toBindingS of the laws. No condition. Function: as plain data and in memory; szFunction, szFunctionS of the laws. No condition. RecordType: as plain data and in memory; szRecordType, szRecordTypeS of the laws. No condition. Contracts: isElement, key of the three kinds of elements of a scope. Condition: the table holds what the program's text lays. -/
import Derived.Test.YtflhjcdabbomiaaDoorSaveNamesM1
import Derived.Laws.StructEq
import Derived.Deep.QuietTactic
import Derived.BigQuiet
import Derived.Deep.RegionHeld3
import Derived.Lib.QuietBelow
namespace Go.Proofs.YtflhjcdabbomiaaDoor
open Go Go.RowKit Go.Sort

theorem numberValue_any (n : Int) (W : World) :
    Calls Tryd.prog 99 #[.int .i64 n] W fun e w' => e = .returned (.agg #[.int .i64 2, .int .i64 n, .string ⟨#[]⟩, .int .i64 0]) ∧ Below W.heap.size W w' := by
  go_enter Tryd.func99, Tryd.ntmps99
  go_wp2
  exact bodyPost_ret (v := .agg #[.int .i64 2, .int .i64 n, .string ⟨#[]⟩, .int .i64 0]) (by simp [results, Tryd.results99, go_sem]) rfl
    ⟨rfl, by repeat (first | exact Below.refl _ _ | refine Below.setCell ?_ (by first | (simp; done) | (simp; omega)) _ | refine Below.alloc ?_ (by first | (simp; done) | (simp; omega)) _)⟩
theorem objectValue_any (k r : Int) (W : World) :
    Calls Tryd.prog 101 #[.int .i64 k, .int .i64 r] W fun e w' => e = .returned (.agg #[.int .i64 k, .int .i64 0, .string ⟨#[]⟩, .int .i64 r]) ∧ Below W.heap.size W w' := by
  go_enter Tryd.func101, Tryd.ntmps101
  go_wp2
  exact bodyPost_ret (v := .agg #[.int .i64 k, .int .i64 0, .string ⟨#[]⟩, .int .i64 r]) (by simp [results, Tryd.results101, go_sem]) rfl
    ⟨rfl, by repeat (first | exact Below.refl _ _ | refine Below.setCell ?_ (by first | (simp; done) | (simp; omega)) _ | refine Below.alloc ?_ (by first | (simp; done) | (simp; omega)) _)⟩

theorem within_int (x lo hi : Int) (W : World) :
    Calls Tryd.prog 98 #[.int .i64 x, .int .i64 lo, .int .i64 hi] W fun e w' => e = .returned (.bool (decide (lo ≤ x ∧ x ≤ hi))) ∧ W = w' := by
  by_cases h0 : lo ≤ x
  · have d0 : decide (lo ≤ x) = true := by simp [h0]
    by_cases h1 : x ≤ hi
    · have d1 : decide (x ≤ hi) = true := by simp [h1]
      have e : decide (lo ≤ x ∧ x ≤ hi) = true := by simp [h0, h1]
      rw [e]
      go_enter Tryd.func98, Tryd.ntmps98
      go_wp2
      all_goals go_ret
      all_goals exact ⟨rfl, rfl⟩
    · have d1 : decide (x ≤ hi) = false := by simp; omega
      have e : decide (lo ≤ x ∧ x ≤ hi) = false := by simp; omega
      rw [e]
      go_enter Tryd.func98, Tryd.ntmps98
      go_wp2
      all_goals go_ret
      all_goals exact ⟨rfl, rfl⟩
  · have d0 : decide (lo ≤ x) = false := by simp; omega
    have e : decide (lo ≤ x ∧ x ≤ hi) = false := by simp; omega
    rw [e]
    go_enter Tryd.func98, Tryd.ntmps98
    go_wp2
    all_goals go_ret
    all_goals exact ⟨rfl, rfl⟩
theorem within_i64 (x lo hi : Int) (W : World) :
    Calls Tryd.prog 100 #[.int .i64 x, .int .i64 lo, .int .i64 hi] W fun e w' => e = .returned (.bool (decide (lo ≤ x ∧ x ≤ hi))) ∧ W = w' := by
  by_cases h0 : lo ≤ x
  · have d0 : decide (lo ≤ x) = true := by simp [h0]
    by_cases h1 : x ≤ hi
    · have d1 : decide (x ≤ hi) = true := by simp [h1]
      have e : decide (lo ≤ x ∧ x ≤ hi) = true := by simp [h0, h1]
      rw [e]
      go_enter Tryd.func100, Tryd.ntmps100
      go_wp2
      all_goals go_ret
      all_goals exact ⟨rfl, rfl⟩
    · have d1 : decide (x ≤ hi) = false := by simp; omega
      have e : decide (lo ≤ x ∧ x ≤ hi) = false := by simp; omega
      rw [e]
      go_enter Tryd.func100, Tryd.ntmps100
      go_wp2
      all_goals go_ret
      all_goals exact ⟨rfl, rfl⟩
  · have d0 : decide (lo ≤ x) = false := by simp; omega
    have e : decide (lo ≤ x ∧ x ≤ hi) = false := by simp; omega
    rw [e]
    go_enter Tryd.func100, Tryd.ntmps100
    go_wp2
    all_goals go_ret
    all_goals exact ⟨rfl, rfl⟩

theorem same_regrown {f : FuncId} {args : Array Value} {w : World} {d : Nat} {os : Array Obj} {b b' : Bool} (h : Calls Tryd.prog f args (grow (redrawn w d) os) fun e w' => e = .returned (.bool b) ∧ grow (redrawn w d) os = w') (hb : b = b') :
    Calls Tryd.prog f args (grow (redrawn w d) os) fun e w'' => e = .returned (.bool b') ∧ ∃ p : Regrown, w'' = grow (redrawn w p.d) p.os := by
  subst hb
  exact h.mono fun e w' ⟨he, hw⟩ => ⟨he, ⟨d, os⟩, hw.symm⟩
theorem below_same {f : FuncId} {args : Array Value} {w : World} {d : Nat} {os : Array Obj} {b b' : Bool} (h : Calls Tryd.prog f args (grow (redrawn w d) os) fun e w' => e = .returned (.bool b) ∧ Below (grow (redrawn w d) os).heap.size (grow (redrawn w d) os) w') (hb : b = b') :
    Calls Tryd.prog f args (grow (redrawn w d) os) fun e w'' => e = .returned (.bool b') ∧ ∃ p : Regrown, w'' = grow (redrawn w p.d) p.os := by
  subst hb
  exact Calls.regrown_of h

set_option maxHeartbeats 8000000 in
theorem impl_ValidValue_any (k n : Int) (t : ByteArray) (r : Int) (W : World) (hs : t.size ≤ maxLen) (hT : Classes W) :
    Calls Tryd.prog 96 #[.agg #[.int .i64 k, .int .i64 n, .string t, .int .i64 r]] W fun e w' => e = .returned (.bool (validV k n t r)) ∧ Below W.heap.size W w' := by
  have HS : Hid (t.size ≤ maxLen) := hs
  have HT : Hid (Classes W) := hT
  have HG : Hid (0 < W.heap.size) := heap_pos (hT.at_ 0 (by decide))
  clear hs hT
  unfold validV
  obtain ⟨z, hz⟩ : ∃ z, (n == 0) = z := ⟨_, rfl⟩
  obtain ⟨y, hy⟩ : ∃ y, (r == 0) = y := ⟨_, rfl⟩
  rw [hz, hy]
  by_cases k1 : k = 1
  · subst k1
    rw [if_pos rfl]
    by_cases hl : t.size ≤ 200
    · have e1 : decide ((t.size : Int) ≤ 200) = true := by simp; omega
      have e2 : decide (t.size ≤ 200) = true := by simp [hl]
      rw [e2]
      clear hl e2
      cases z <;> cases y
      all_goals
        go_enter Tryd.func96, Tryd.ntmps96
        go_wp2_with fail
        obtain ⟨w0, hw0⟩ : ∃ w0, W.alloc (.cells #[.int .i64 1, .int .i64 n, .string t, .int .i64 r] 29) = w0 := ⟨_, rfl⟩
        have Q : V4 w0 W.heap.size 1 n t r := by rw [← hw0]; exact v4_new _ _ _ _ _ _
        have HB0 : Hid (Below W.heap.size W w0) := by show Below _ _ _; rw [← hw0]; exact (Below.refl _ _).alloc (Nat.le_refl _) _
        rw [hw0]
        obtain ⟨q0, q1, q2, q3⟩ := Q
        clear hw0
        have c0 := cell_regrown q0
        have c1 := cell_regrown q1
        have c2 := cell_regrown q2
        have c3 := cell_regrown q3
        have cT : ∀ d os, Calls Tryd.prog 73 #[.int .i64 1, .string t] (grow (redrawn w0 d) os) (fun e w'' => e = .returned (.agg #[.int .i64 1, .int .i64 0, .string t, .int .i64 0]) ∧ ∃ p : Regrown, w'' = grow (redrawn w0 p.d) p.os) := fun d os => Calls.regrown_of (textValue_any _ _ _)
        refine wp_region_quiet_below (by kernel_rfl) (by kernel_rfl) ?_
        repeat (first | go_big_quiet_step (exact cT _ _) | quiet_step (exact cT _ _))
        refine wpQuiet_nil ?_
        intro _ hw'
        obtain ⟨⟨dq, osq⟩, hw''⟩ := hw'
        subst hw''
        go_wp2_with fail
        go_ret
        exact ⟨rfl, HB0.out.trans ((below_regrown w0 dq osq).mono HB0.out.size)⟩
    · have e1 : decide ((t.size : Int) ≤ 200) = false := by simp; omega
      have e2 : decide (t.size ≤ 200) = false := by simp; omega
      rw [e2]
      clear hl e2
      cases z <;> cases y
      all_goals
        go_enter Tryd.func96, Tryd.ntmps96
        go_wp2_with fail
        obtain ⟨w0, hw0⟩ : ∃ w0, W.alloc (.cells #[.int .i64 1, .int .i64 n, .string t, .int .i64 r] 29) = w0 := ⟨_, rfl⟩
        have Q : V4 w0 W.heap.size 1 n t r := by rw [← hw0]; exact v4_new _ _ _ _ _ _
        have HB0 : Hid (Below W.heap.size W w0) := by show Below _ _ _; rw [← hw0]; exact (Below.refl _ _).alloc (Nat.le_refl _) _
        rw [hw0]
        obtain ⟨q0, q1, q2, q3⟩ := Q
        clear hw0
        have c0 := cell_regrown q0
        have c1 := cell_regrown q1
        have c2 := cell_regrown q2
        have c3 := cell_regrown q3
        have cT : ∀ d os, Calls Tryd.prog 73 #[.int .i64 1, .string t] (grow (redrawn w0 d) os) (fun e w'' => e = .returned (.agg #[.int .i64 1, .int .i64 0, .string t, .int .i64 0]) ∧ ∃ p : Regrown, w'' = grow (redrawn w0 p.d) p.os) := fun d os => Calls.regrown_of (textValue_any _ _ _)
        refine wp_region_quiet_below (by kernel_rfl) (by kernel_rfl) ?_
        repeat (first | go_big_quiet_step (exact cT _ _) | quiet_step (exact cT _ _))
        refine wpQuiet_nil ?_
        intro _ hw'
        obtain ⟨⟨dq, osq⟩, hw''⟩ := hw'
        subst hw''
        go_wp2_with fail
        go_ret
        exact ⟨rfl, HB0.out.trans ((below_regrown w0 dq osq).mono HB0.out.size)⟩
  rw [if_neg k1]
  by_cases k2 : k = 2
  · subst k2
    rw [if_pos rfl]
    obtain ⟨x, hx⟩ : ∃ x, decide (-1000000000000 ≤ n ∧ n ≤ 1000000000000) = x := ⟨_, rfl⟩
    have HX := Lib.hid hx
    rw [hx]
    clear hx k1
    by_cases h0 : t.size = 0
    · have e1 := nil_of_size h0
      have e2 := isEmpty_of_size h0
      have e3 : (t.size == 0) = true := by simp [h0]
      rw [e3]
      clear e3 h0
      cases y <;> cases x
      all_goals
        go_enter Tryd.func96, Tryd.ntmps96
        go_wp2_with fail
        obtain ⟨w0, hw0⟩ : ∃ w0, W.alloc (.cells #[.int .i64 2, .int .i64 n, .string t, .int .i64 r] 29) = w0 := ⟨_, rfl⟩
        have Q : V4 w0 W.heap.size 2 n t r := by rw [← hw0]; exact v4_new _ _ _ _ _ _
        have HB0 : Hid (Below W.heap.size W w0) := by show Below _ _ _; rw [← hw0]; exact (Below.refl _ _).alloc (Nat.le_refl _) _
        rw [hw0]
        obtain ⟨q0, q1, q2, q3⟩ := Q
        clear hw0
        have c0 := cell_regrown q0
        have c1 := cell_regrown q1
        have c2 := cell_regrown q2
        have c3 := cell_regrown q3
        have cT : ∀ d os, Calls Tryd.prog 99 #[.int .i64 n] (grow (redrawn w0 d) os) (fun e w'' => e = .returned (.agg #[.int .i64 2, .int .i64 n, .string ⟨#[]⟩, .int .i64 0]) ∧ ∃ p : Regrown, w'' = grow (redrawn w0 p.d) p.os) := fun d os => Calls.regrown_of (numberValue_any _ _)
        have cW := fun (d : Nat) (os : Array Obj) => same_regrown (w := w0) (d := d) (os := os) (within_i64 n (-1000000000000) 1000000000000 _) HX.out
        refine wp_region_quiet_below (by kernel_rfl) (by kernel_rfl) ?_
        repeat (first | go_big_quiet_step (first | exact cT _ _ | exact cW _ _) | quiet_step (first | exact cT _ _ | exact cW _ _))
        refine wpQuiet_nil ?_
        intro _ hw'
        obtain ⟨⟨dq, osq⟩, hw''⟩ := hw'
        subst hw''
        go_wp2_with fail
        go_ret
        exact ⟨rfl, HB0.out.trans ((below_regrown w0 dq osq).mono HB0.out.size)⟩
    · have hp : 0 < t.size := by omega
      have e1 := ne_nil_of_size hp
      have e2 := not_isEmpty_of_size hp
      have e3 : (t.size == 0) = false := by simp [h0]
      rw [e3]
      clear e3 h0
      cases y <;> cases x
      all_goals
        go_enter Tryd.func96, Tryd.ntmps96
        go_wp2_with fail
        obtain ⟨w0, hw0⟩ : ∃ w0, W.alloc (.cells #[.int .i64 2, .int .i64 n, .string t, .int .i64 r] 29) = w0 := ⟨_, rfl⟩
        have Q : V4 w0 W.heap.size 2 n t r := by rw [← hw0]; exact v4_new _ _ _ _ _ _
        have HB0 : Hid (Below W.heap.size W w0) := by show Below _ _ _; rw [← hw0]; exact (Below.refl _ _).alloc (Nat.le_refl _) _
        rw [hw0]
        obtain ⟨q0, q1, q2, q3⟩ := Q
        clear hw0
        have c0 := cell_regrown q0
        have c1 := cell_regrown q1
        have c2 := cell_regrown q2
        have c3 := cell_regrown q3
        have cT : ∀ d os, Calls Tryd.prog 99 #[.int .i64 n] (grow (redrawn w0 d) os) (fun e w'' => e = .returned (.agg #[.int .i64 2, .int .i64 n, .string ⟨#[]⟩, .int .i64 0]) ∧ ∃ p : Regrown, w'' = grow (redrawn w0 p.d) p.os) := fun d os => Calls.regrown_of (numberValue_any _ _)
        refine wp_region_quiet_below (by kernel_rfl) (by kernel_rfl) ?_
        repeat (first | go_big_quiet_step (exact cT _ _) | quiet_step (exact cT _ _))
        refine wpQuiet_nil ?_
        intro _ hw'
        obtain ⟨⟨dq, osq⟩, hw''⟩ := hw'
        subst hw''
        go_wp2_with fail
        go_ret
        exact ⟨rfl, HB0.out.trans ((below_regrown w0 dq osq).mono HB0.out.size)⟩
  rw [if_neg k2]
  by_cases k3 : k = 3
  · subst k3
    rw [if_pos rfl]
    obtain ⟨x, hx⟩ : ∃ x, decide (1 ≤ (t.size : Int) ∧ (t.size : Int) ≤ 1200) = x := ⟨_, rfl⟩
    have HX := Lib.hid hx
    rw [hx]
    clear hx k1 k2
    cases z <;> cases y <;> cases x
    all_goals
      go_enter Tryd.func96, Tryd.ntmps96
      go_wp2_with fail
      obtain ⟨w0, hw0⟩ : ∃ w0, W.alloc (.cells #[.int .i64 3, .int .i64 n, .string t, .int .i64 r] 29) = w0 := ⟨_, rfl⟩
      have Q : V4 w0 W.heap.size 3 n t r := by rw [← hw0]; exact v4_new _ _ _ _ _ _
      have HB0 : Hid (Below W.heap.size W w0) := by show Below _ _ _; rw [← hw0]; exact (Below.refl _ _).alloc (Nat.le_refl _) _
      rw [hw0]
      obtain ⟨q0, q1, q2, q3⟩ := Q
      clear hw0
      have c0 := cell_regrown q0
      have c1 := cell_regrown q1
      have c2 := cell_regrown q2
      have c3 := cell_regrown q3
      have cT : ∀ d os, Calls Tryd.prog 73 #[.int .i64 3, .string t] (grow (redrawn w0 d) os) (fun e w'' => e = .returned (.agg #[.int .i64 3, .int .i64 0, .string t, .int .i64 0]) ∧ ∃ p : Regrown, w'' = grow (redrawn w0 p.d) p.os) := fun d os => Calls.regrown_of (textValue_any _ _ _)
      have cW := fun (d : Nat) (os : Array Obj) => same_regrown (w := w0) (d := d) (os := os) (within_int t.size 1 1200 _) HX.out
      refine wp_region_quiet_below (by kernel_rfl) (by kernel_rfl) ?_
      repeat (first | go_big_quiet_step (first | exact cT _ _ | exact cW _ _) | quiet_step (first | exact cT _ _ | exact cW _ _))
      refine wpQuiet_nil ?_
      intro _ hw'
      obtain ⟨⟨dq, osq⟩, hw''⟩ := hw'
      subst hw''
      go_wp2_with fail
      go_ret
      exact ⟨rfl, HB0.out.trans ((below_regrown w0 dq osq).mono HB0.out.size)⟩
  rw [if_neg k3]
  by_cases k4 : k = 4 ∨ k = 5 ∨ k = 6
  · rw [if_pos k4]
    obtain ⟨x, hx⟩ : ∃ x, decide (1 ≤ r ∧ r ≤ 1000000) = x := ⟨_, rfl⟩
    have HX := Lib.hid hx
    rw [hx]
    clear hx k1 k2 k3
    by_cases h0 : t.size = 0
    · have e1 := nil_of_size h0
      have e2 := isEmpty_of_size h0
      have e3 : (t.size == 0) = true := by simp [h0]
      rw [e3]
      clear e3 h0
      rcases k4 with rfl | rfl | rfl
      · cases z <;> cases x
        all_goals
          go_enter Tryd.func96, Tryd.ntmps96
          go_wp2_with fail
          obtain ⟨w0, hw0⟩ : ∃ w0, W.alloc (.cells #[.int .i64 4, .int .i64 n, .string t, .int .i64 r] 29) = w0 := ⟨_, rfl⟩
          have Q : V4 w0 W.heap.size 4 n t r := by rw [← hw0]; exact v4_new _ _ _ _ _ _
          have HB0 : Hid (Below W.heap.size W w0) := by show Below _ _ _; rw [← hw0]; exact (Below.refl _ _).alloc (Nat.le_refl _) _
          rw [hw0]
          obtain ⟨q0, q1, q2, q3⟩ := Q
          clear hw0
          have c0 := cell_regrown q0
          have c1 := cell_regrown q1
          have c2 := cell_regrown q2
          have c3 := cell_regrown q3
          have cT : ∀ d os, Calls Tryd.prog 101 #[.int .i64 4, .int .i64 r] (grow (redrawn w0 d) os) (fun e w'' => e = .returned (.agg #[.int .i64 4, .int .i64 0, .string ⟨#[]⟩, .int .i64 r]) ∧ ∃ p : Regrown, w'' = grow (redrawn w0 p.d) p.os) := fun d os => Calls.regrown_of (objectValue_any _ _ _)
          have cW := fun (d : Nat) (os : Array Obj) => same_regrown (w := w0) (d := d) (os := os) (within_i64 r 1 1000000 _) HX.out
          refine wp_region_quiet_below (by kernel_rfl) (by kernel_rfl) ?_
          repeat (first | go_big_quiet_step (first | exact cT _ _ | exact cW _ _) | quiet_step (first | exact cT _ _ | exact cW _ _))
          refine wpQuiet_nil ?_
          intro _ hw'
          obtain ⟨⟨dq, osq⟩, hw''⟩ := hw'
          subst hw''
          go_wp2_with fail
          go_ret
          exact ⟨rfl, HB0.out.trans ((below_regrown w0 dq osq).mono HB0.out.size)⟩
      · cases z <;> cases x
        all_goals
          go_enter Tryd.func96, Tryd.ntmps96
          go_wp2_with fail
          obtain ⟨w0, hw0⟩ : ∃ w0, W.alloc (.cells #[.int .i64 5, .int .i64 n, .string t, .int .i64 r] 29) = w0 := ⟨_, rfl⟩
          have Q : V4 w0 W.heap.size 5 n t r := by rw [← hw0]; exact v4_new _ _ _ _ _ _
          have HB0 : Hid (Below W.heap.size W w0) := by show Below _ _ _; rw [← hw0]; exact (Below.refl _ _).alloc (Nat.le_refl _) _
          rw [hw0]
          obtain ⟨q0, q1, q2, q3⟩ := Q
          clear hw0
          have c0 := cell_regrown q0
          have c1 := cell_regrown q1
          have c2 := cell_regrown q2
          have c3 := cell_regrown q3
          have cT : ∀ d os, Calls Tryd.prog 101 #[.int .i64 5, .int .i64 r] (grow (redrawn w0 d) os) (fun e w'' => e = .returned (.agg #[.int .i64 5, .int .i64 0, .string ⟨#[]⟩, .int .i64 r]) ∧ ∃ p : Regrown, w'' = grow (redrawn w0 p.d) p.os) := fun d os => Calls.regrown_of (objectValue_any _ _ _)
          have cW := fun (d : Nat) (os : Array Obj) => same_regrown (w := w0) (d := d) (os := os) (within_i64 r 1 1000000 _) HX.out
          refine wp_region_quiet_below (by kernel_rfl) (by kernel_rfl) ?_
          repeat (first | go_big_quiet_step (first | exact cT _ _ | exact cW _ _) | quiet_step (first | exact cT _ _ | exact cW _ _))
          refine wpQuiet_nil ?_
          intro _ hw'
          obtain ⟨⟨dq, osq⟩, hw''⟩ := hw'
          subst hw''
          go_wp2_with fail
          go_ret
          exact ⟨rfl, HB0.out.trans ((below_regrown w0 dq osq).mono HB0.out.size)⟩
      · cases z <;> cases x
        all_goals
          go_enter Tryd.func96, Tryd.ntmps96
          go_wp2_with fail
          obtain ⟨w0, hw0⟩ : ∃ w0, W.alloc (.cells #[.int .i64 6, .int .i64 n, .string t, .int .i64 r] 29) = w0 := ⟨_, rfl⟩
          have Q : V4 w0 W.heap.size 6 n t r := by rw [← hw0]; exact v4_new _ _ _ _ _ _
          have HB0 : Hid (Below W.heap.size W w0) := by show Below _ _ _; rw [← hw0]; exact (Below.refl _ _).alloc (Nat.le_refl _) _
          rw [hw0]
          obtain ⟨q0, q1, q2, q3⟩ := Q
          clear hw0
          have c0 := cell_regrown q0
          have c1 := cell_regrown q1
          have c2 := cell_regrown q2
          have c3 := cell_regrown q3
          have cT : ∀ d os, Calls Tryd.prog 101 #[.int .i64 6, .int .i64 r] (grow (redrawn w0 d) os) (fun e w'' => e = .returned (.agg #[.int .i64 6, .int .i64 0, .string ⟨#[]⟩, .int .i64 r]) ∧ ∃ p : Regrown, w'' = grow (redrawn w0 p.d) p.os) := fun d os => Calls.regrown_of (objectValue_any _ _ _)
          have cW := fun (d : Nat) (os : Array Obj) => same_regrown (w := w0) (d := d) (os := os) (within_i64 r 1 1000000 _) HX.out
          refine wp_region_quiet_below (by kernel_rfl) (by kernel_rfl) ?_
          repeat (first | go_big_quiet_step (first | exact cT _ _ | exact cW _ _) | quiet_step (first | exact cT _ _ | exact cW _ _))
          refine wpQuiet_nil ?_
          intro _ hw'
          obtain ⟨⟨dq, osq⟩, hw''⟩ := hw'
          subst hw''
          go_wp2_with fail
          go_ret
          exact ⟨rfl, HB0.out.trans ((below_regrown w0 dq osq).mono HB0.out.size)⟩
    · have hp : 0 < t.size := by omega
      have e1 := ne_nil_of_size hp
      have e2 := not_isEmpty_of_size hp
      have e3 : (t.size == 0) = false := by simp [h0]
      rw [e3]
      clear e3 h0
      rcases k4 with rfl | rfl | rfl
      · cases z <;> cases x
        all_goals
          go_enter Tryd.func96, Tryd.ntmps96
          go_wp2_with fail
          obtain ⟨w0, hw0⟩ : ∃ w0, W.alloc (.cells #[.int .i64 4, .int .i64 n, .string t, .int .i64 r] 29) = w0 := ⟨_, rfl⟩
          have Q : V4 w0 W.heap.size 4 n t r := by rw [← hw0]; exact v4_new _ _ _ _ _ _
          have HB0 : Hid (Below W.heap.size W w0) := by show Below _ _ _; rw [← hw0]; exact (Below.refl _ _).alloc (Nat.le_refl _) _
          rw [hw0]
          obtain ⟨q0, q1, q2, q3⟩ := Q
          clear hw0
          have c0 := cell_regrown q0
          have c1 := cell_regrown q1
          have c2 := cell_regrown q2
          have c3 := cell_regrown q3
          have cT : ∀ d os, Calls Tryd.prog 101 #[.int .i64 4, .int .i64 r] (grow (redrawn w0 d) os) (fun e w'' => e = .returned (.agg #[.int .i64 4, .int .i64 0, .string ⟨#[]⟩, .int .i64 r]) ∧ ∃ p : Regrown, w'' = grow (redrawn w0 p.d) p.os) := fun d os => Calls.regrown_of (objectValue_any _ _ _)
          refine wp_region_quiet_below (by kernel_rfl) (by kernel_rfl) ?_
          repeat (first | go_big_quiet_step (exact cT _ _) | quiet_step (exact cT _ _))
          refine wpQuiet_nil ?_
          intro _ hw'
          obtain ⟨⟨dq, osq⟩, hw''⟩ := hw'
          subst hw''
          go_wp2_with fail
          go_ret
          exact ⟨rfl, HB0.out.trans ((below_regrown w0 dq osq).mono HB0.out.size)⟩
      · cases z <;> cases x
        all_goals
          go_enter Tryd.func96, Tryd.ntmps96
          go_wp2_with fail
          obtain ⟨w0, hw0⟩ : ∃ w0, W.alloc (.cells #[.int .i64 5, .int .i64 n, .string t, .int .i64 r] 29) = w0 := ⟨_, rfl⟩
          have Q : V4 w0 W.heap.size 5 n t r := by rw [← hw0]; exact v4_new _ _ _ _ _ _
          have HB0 : Hid (Below W.heap.size W w0) := by show Below _ _ _; rw [← hw0]; exact (Below.refl _ _).alloc (Nat.le_refl _) _
          rw [hw0]
          obtain ⟨q0, q1, q2, q3⟩ := Q
          clear hw0
          have c0 := cell_regrown q0
          have c1 := cell_regrown q1
          have c2 := cell_regrown q2
          have c3 := cell_regrown q3
          have cT : ∀ d os, Calls Tryd.prog 101 #[.int .i64 5, .int .i64 r] (grow (redrawn w0 d) os) (fun e w'' => e = .returned (.agg #[.int .i64 5, .int .i64 0, .string ⟨#[]⟩, .int .i64 r]) ∧ ∃ p : Regrown, w'' = grow (redrawn w0 p.d) p.os) := fun d os => Calls.regrown_of (objectValue_any _ _ _)
          refine wp_region_quiet_below (by kernel_rfl) (by kernel_rfl) ?_
          repeat (first | go_big_quiet_step (exact cT _ _) | quiet_step (exact cT _ _))
          refine wpQuiet_nil ?_
          intro _ hw'
          obtain ⟨⟨dq, osq⟩, hw''⟩ := hw'
          subst hw''
          go_wp2_with fail
          go_ret
          exact ⟨rfl, HB0.out.trans ((below_regrown w0 dq osq).mono HB0.out.size)⟩
      · cases z <;> cases x
        all_goals
          go_enter Tryd.func96, Tryd.ntmps96
          go_wp2_with fail
          obtain ⟨w0, hw0⟩ : ∃ w0, W.alloc (.cells #[.int .i64 6, .int .i64 n, .string t, .int .i64 r] 29) = w0 := ⟨_, rfl⟩
          have Q : V4 w0 W.heap.size 6 n t r := by rw [← hw0]; exact v4_new _ _ _ _ _ _
          have HB0 : Hid (Below W.heap.size W w0) := by show Below _ _ _; rw [← hw0]; exact (Below.refl _ _).alloc (Nat.le_refl _) _
          rw [hw0]
          obtain ⟨q0, q1, q2, q3⟩ := Q
          clear hw0
          have c0 := cell_regrown q0
          have c1 := cell_regrown q1
          have c2 := cell_regrown q2
          have c3 := cell_regrown q3
          have cT : ∀ d os, Calls Tryd.prog 101 #[.int .i64 6, .int .i64 r] (grow (redrawn w0 d) os) (fun e w'' => e = .returned (.agg #[.int .i64 6, .int .i64 0, .string ⟨#[]⟩, .int .i64 r]) ∧ ∃ p : Regrown, w'' = grow (redrawn w0 p.d) p.os) := fun d os => Calls.regrown_of (objectValue_any _ _ _)
          refine wp_region_quiet_below (by kernel_rfl) (by kernel_rfl) ?_
          repeat (first | go_big_quiet_step (exact cT _ _) | quiet_step (exact cT _ _))
          refine wpQuiet_nil ?_
          intro _ hw'
          obtain ⟨⟨dq, osq⟩, hw''⟩ := hw'
          subst hw''
          go_wp2_with fail
          go_ret
          exact ⟨rfl, HB0.out.trans ((below_regrown w0 dq osq).mono HB0.out.size)⟩
  rw [if_neg k4]
  by_cases k7 : k = 7 ∨ k = 8
  · rw [if_pos k7]
    obtain ⟨x, hx⟩ : ∃ x, isNameB t = x := ⟨_, rfl⟩
    have HX := Lib.hid hx
    rw [hx]
    clear hx k1 k2 k3 k4
    rcases k7 with rfl | rfl
    · cases z <;> cases y <;> cases x
      all_goals
        go_enter Tryd.func96, Tryd.ntmps96
        go_wp2_with fail
        obtain ⟨w0, hw0⟩ : ∃ w0, W.alloc (.cells #[.int .i64 7, .int .i64 n, .string t, .int .i64 r] 29) = w0 := ⟨_, rfl⟩
        have Q : V4 w0 W.heap.size 7 n t r := by rw [← hw0]; exact v4_new _ _ _ _ _ _
        have HB0 : Hid (Below W.heap.size W w0) := by show Below _ _ _; rw [← hw0]; exact (Below.refl _ _).alloc (Nat.le_refl _) _
        rw [hw0]
        obtain ⟨q0, q1, q2, q3⟩ := Q
        clear hw0
        have c0 := cell_regrown q0
        have c1 := cell_regrown q1
        have c2 := cell_regrown q2
        have c3 := cell_regrown q3
        have cT : ∀ d os, Calls Tryd.prog 73 #[.int .i64 7, .string t] (grow (redrawn w0 d) os) (fun e w'' => e = .returned (.agg #[.int .i64 7, .int .i64 0, .string t, .int .i64 0]) ∧ ∃ p : Regrown, w'' = grow (redrawn w0 p.d) p.os) := fun d os => Calls.regrown_of (textValue_any _ _ _)
        have cW := fun (d : Nat) (os : Array Obj) => below_same (w := w0) (d := d) (os := os) (impl_IsName_any t _ HS.out ((HT.out.below HB0.out HG.out).below (below_regrown w0 d os) (Nat.lt_of_lt_of_le HG.out HB0.out.size))) HX.out
        refine wp_region_quiet_below (by kernel_rfl) (by kernel_rfl) ?_
        repeat (first | go_big_quiet_step (first | exact cT _ _ | exact cW _ _) | quiet_step (first | exact cT _ _ | exact cW _ _))
        refine wpQuiet_nil ?_
        intro _ hw'
        obtain ⟨⟨dq, osq⟩, hw''⟩ := hw'
        subst hw''
        go_wp2_with fail
        go_ret
        exact ⟨rfl, HB0.out.trans ((below_regrown w0 dq osq).mono HB0.out.size)⟩
    · cases z <;> cases y <;> cases x
      all_goals
        go_enter Tryd.func96, Tryd.ntmps96
        go_wp2_with fail
        obtain ⟨w0, hw0⟩ : ∃ w0, W.alloc (.cells #[.int .i64 8, .int .i64 n, .string t, .int .i64 r] 29) = w0 := ⟨_, rfl⟩
        have Q : V4 w0 W.heap.size 8 n t r := by rw [← hw0]; exact v4_new _ _ _ _ _ _
        have HB0 : Hid (Below W.heap.size W w0) := by show Below _ _ _; rw [← hw0]; exact (Below.refl _ _).alloc (Nat.le_refl _) _
        rw [hw0]
        obtain ⟨q0, q1, q2, q3⟩ := Q
        clear hw0
        have c0 := cell_regrown q0
        have c1 := cell_regrown q1
        have c2 := cell_regrown q2
        have c3 := cell_regrown q3
        have cT : ∀ d os, Calls Tryd.prog 73 #[.int .i64 8, .string t] (grow (redrawn w0 d) os) (fun e w'' => e = .returned (.agg #[.int .i64 8, .int .i64 0, .string t, .int .i64 0]) ∧ ∃ p : Regrown, w'' = grow (redrawn w0 p.d) p.os) := fun d os => Calls.regrown_of (textValue_any _ _ _)
        have cW := fun (d : Nat) (os : Array Obj) => below_same (w := w0) (d := d) (os := os) (impl_IsName_any t _ HS.out ((HT.out.below HB0.out HG.out).below (below_regrown w0 d os) (Nat.lt_of_lt_of_le HG.out HB0.out.size))) HX.out
        refine wp_region_quiet_below (by kernel_rfl) (by kernel_rfl) ?_
        repeat (first | go_big_quiet_step (first | exact cT _ _ | exact cW _ _) | quiet_step (first | exact cT _ _ | exact cW _ _))
        refine wpQuiet_nil ?_
        intro _ hw'
        obtain ⟨⟨dq, osq⟩, hw''⟩ := hw'
        subst hw''
        go_wp2_with fail
        go_ret
        exact ⟨rfl, HB0.out.trans ((below_regrown w0 dq osq).mono HB0.out.size)⟩
  rw [if_neg k7]
  have f1 : (k == 1) = false := by simpa using k1
  have f2 : (k == 2) = false := by simpa using k2
  have f3 : (k == 3) = false := by simpa using k3
  have f4 : (k == 4) = false := by simp; omega
  have f5 : (k == 5) = false := by simp; omega
  have f6 : (k == 6) = false := by simp; omega
  have f7 : (k == 7) = false := by simp; omega
  have f8 : (k == 8) = false := by simp; omega
  clear k1 k2 k3 k4 k7 hz hy
  go_enter Tryd.func96, Tryd.ntmps96
  go_wp2_with fail
  go_ret
  exact ⟨rfl, (Below.refl _ _).alloc (Nat.le_refl _) _⟩
end Go.Proofs.YtflhjcdabbomiaaDoor

namespace Go.Proofs.YtflhjcdabbomiaaDoor
open Go Go.RowKit Go.Sort

/-- What IsNull answers. -/
def isNullV (k n : Int) (t : ByteArray) (r : Int) : Bool := (k == 1) && ((n == 0) && ((t.size == 0) && (r == 0)))

theorem spec_IsNull_any (k n : Int) (t : ByteArray) (r : Int) (W : World) :
    Calls Tryd.prog 45 #[.agg #[.int .i64 k, .int .i64 n, .string t, .int .i64 r]] W fun e w' => e = .returned (.bool (isNullV k n t r)) ∧ Below W.heap.size W w' := by
  unfold isNullV
  obtain ⟨z1, h1⟩ : ∃ z, (k == 1) = z := ⟨_, rfl⟩
  obtain ⟨z2, h2⟩ : ∃ z, (n == 0) = z := ⟨_, rfl⟩
  obtain ⟨z4, h4⟩ : ∃ z, (r == 0) = z := ⟨_, rfl⟩
  rw [h1, h2, h4]
  by_cases h0 : t.size = 0
  · have e1 := nil_of_size h0
    have e2 := isEmpty_of_size h0
    have e3 : (t.size == 0) = true := by simp [h0]
    rw [e3]
    clear e3 h0
    cases z1 <;> cases z2 <;> cases z4
    all_goals
      go_enter Tryd.func45, Tryd.ntmps45
      go_wp2_with fail
      go_ret
      exact ⟨rfl, (Below.refl _ _).alloc (Nat.le_refl _) _⟩
  · have hp : 0 < t.size := by omega
    have e1 := ne_nil_of_size hp
    have e2 := not_isEmpty_of_size hp
    have e3 : (t.size == 0) = false := by simp [h0]
    rw [e3]
    clear e3 h0
    cases z1 <;> cases z2 <;> cases z4
    all_goals
      go_enter Tryd.func45, Tryd.ntmps45
      go_wp2_with fail
      go_ret
      exact ⟨rfl, (Below.refl _ _).alloc (Nat.le_refl _) _⟩

set_option maxHeartbeats 2000000 in
theorem impl_IsNull_any (k n : Int) (t : ByteArray) (r : Int) (W : World) :
    Calls Tryd.prog 97 #[.agg #[.int .i64 k, .int .i64 n, .string t, .int .i64 r]] W fun e w' => e = .returned (.bool (isNullV k n t r)) ∧ Below W.heap.size W w' := by
  unfold isNullV
  obtain ⟨z1, h1⟩ : ∃ z, (k == 1) = z := ⟨_, rfl⟩
  obtain ⟨z2, h2⟩ : ∃ z, (n == 0) = z := ⟨_, rfl⟩
  obtain ⟨z4, h4⟩ : ∃ z, (r == 0) = z := ⟨_, rfl⟩
  rw [h1, h2, h4]
  by_cases h0 : t.size = 0
  · have e1 := nil_of_size h0
    have e2 := isEmpty_of_size h0
    have e3 : (t.size == 0) = true := by simp [h0]
    rw [e3]
    clear e3 h0
    cases z1 <;> cases z2 <;> cases z4
    all_goals
      go_enter Tryd.func97, Tryd.ntmps97
      go_wp2_with fail
      obtain ⟨w0, hw0⟩ : ∃ w0, W.alloc (.cells #[.int .i64 k, .int .i64 n, .string t, .int .i64 r] 29) = w0 := ⟨_, rfl⟩
      have Q : V4 w0 W.heap.size k n t r := by rw [← hw0]; exact v4_new _ _ _ _ _ _
      have HB0 : Hid (Below W.heap.size W w0) := by show Below _ _ _; rw [← hw0]; exact (Below.refl _ _).alloc (Nat.le_refl _) _
      try rw [hw0]
      obtain ⟨q0, q1, q2, q3⟩ := Q
      clear hw0
      have c0 := cell_regrown q0
      have c1 := cell_regrown q1
      have c2 := cell_regrown q2
      have c3 := cell_regrown q3
      have cT : ∀ d os, Calls Tryd.prog 73 #[.int .i64 1, .string ⟨#[]⟩] (grow (redrawn w0 d) os) (fun e w'' => e = .returned (.agg #[.int .i64 1, .int .i64 0, .string ⟨#[]⟩, .int .i64 0]) ∧ ∃ p : Regrown, w'' = grow (redrawn w0 p.d) p.os) := fun d os => Calls.regrown_of (textValue_any _ _ _)
      refine wp_region_quiet_below (by kernel_rfl) (by kernel_rfl) ?_
      repeat (first | go_big_quiet_step (exact cT _ _) | quiet_step (exact cT _ _))
      refine wpQuiet_nil ?_
      intro _ hw'
      obtain ⟨⟨dq, osq⟩, hw''⟩ := hw'
      subst hw''
      go_wp2_with fail
      go_ret
      exact ⟨rfl, HB0.out.trans ((below_regrown w0 dq osq).mono HB0.out.size)⟩
  · have hp : 0 < t.size := by omega
    have e1 := ne_nil_of_size hp
    have e2 := not_isEmpty_of_size hp
    have e3 : (t.size == 0) = false := by simp [h0]
    rw [e3]
    clear e3 h0
    cases z1 <;> cases z2 <;> cases z4
    all_goals
      go_enter Tryd.func97, Tryd.ntmps97
      go_wp2_with fail
      obtain ⟨w0, hw0⟩ : ∃ w0, W.alloc (.cells #[.int .i64 k, .int .i64 n, .string t, .int .i64 r] 29) = w0 := ⟨_, rfl⟩
      have Q : V4 w0 W.heap.size k n t r := by rw [← hw0]; exact v4_new _ _ _ _ _ _
      have HB0 : Hid (Below W.heap.size W w0) := by show Below _ _ _; rw [← hw0]; exact (Below.refl _ _).alloc (Nat.le_refl _) _
      try rw [hw0]
      obtain ⟨q0, q1, q2, q3⟩ := Q
      clear hw0
      have c0 := cell_regrown q0
      have c1 := cell_regrown q1
      have c2 := cell_regrown q2
      have c3 := cell_regrown q3
      have cT : ∀ d os, Calls Tryd.prog 73 #[.int .i64 1, .string ⟨#[]⟩] (grow (redrawn w0 d) os) (fun e w'' => e = .returned (.agg #[.int .i64 1, .int .i64 0, .string ⟨#[]⟩, .int .i64 0]) ∧ ∃ p : Regrown, w'' = grow (redrawn w0 p.d) p.os) := fun d os => Calls.regrown_of (textValue_any _ _ _)
      refine wp_region_quiet_below (by kernel_rfl) (by kernel_rfl) ?_
      repeat (first | go_big_quiet_step (exact cT _ _) | quiet_step (exact cT _ _))
      refine wpQuiet_nil ?_
      intro _ hw'
      obtain ⟨⟨dq, osq⟩, hw''⟩ := hw'
      subst hw''
      go_wp2_with fail
      go_ret
      exact ⟨rfl, HB0.out.trans ((below_regrown w0 dq osq).mono HB0.out.size)⟩
end Go.Proofs.YtflhjcdabbomiaaDoor

namespace Go.Proofs.YtflhjcdabbomiaaDoor
open Go Go.RowKit

theorem szValue_fits (k n : Int) (t : ByteArray) (r L : Int) (W : World) (ht : (t.size : Int) ≤ L) (hL : L ≤ 1048576) :
    Calls Tryd.prog 65 #[.agg #[.int .i64 k, .int .i64 n, .string t, .int .i64 r], .int .i64 L] W fun e w' => e = .returned (.int .i64 (L - t.size)) ∧ Below W.heap.size W w' := by
  go_enter Tryd.func65, Tryd.ntmps65
  go_wp2
  all_goals go_ret
  all_goals exact ⟨rfl, (Below.refl _ _).alloc (Nat.le_refl _) _⟩
theorem szValue_long (k n : Int) (t : ByteArray) (r L : Int) (W : World) (ht : L < (t.size : Int)) (h0 : 0 ≤ L) (hL : L ≤ 1048576) (hm : t.size ≤ maxLen) :
    Calls Tryd.prog 65 #[.agg #[.int .i64 k, .int .i64 n, .string t, .int .i64 r], .int .i64 L] W fun e w' => e = .returned (.int .i64 (-1)) ∧ Below W.heap.size W w' := by
  unfold maxLen at hm
  go_enter Tryd.func65, Tryd.ntmps65
  go_wp2
  all_goals go_ret
  all_goals exact ⟨rfl, (Below.refl _ _).alloc (Nat.le_refl _) _⟩

theorem toValue_any (k n : Int) (t : ByteArray) (r : Int) (W : World) :
    Calls Tryd.prog 71 #[.agg #[.int .i64 k, .int .i64 n, .string t, .int .i64 r]] W fun e w' => e = .returned (.agg #[.int .i64 k, .int .i64 n, .string t, .int .i64 r]) ∧ Below W.heap.size W w' := by
  go_enter Tryd.func71, Tryd.ntmps71
  go_wp2
  exact bodyPost_ret (v := .agg #[.int .i64 k, .int .i64 n, .string t, .int .i64 r]) (by simp [results, Tryd.results71, go_sem]) rfl
    ⟨rfl, by repeat (first | exact Below.refl _ _ | refine Below.setCell ?_ (by first | (simp; done) | (simp; omega)) _ | refine Below.alloc ?_ (by first | (simp; done) | (simp; omega)) _)⟩
end Go.Proofs.YtflhjcdabbomiaaDoor

namespace Go.Proofs.YtflhjcdabbomiaaDoor
open Go Go.RowKit

/-- A Binding. -/
structure Bd where
  name_ : ByteArray
  kind_ : Int
  num_ : Int
  text_ : ByteArray
  ref_ : Int
/-- Its cells. -/
def Bd.vs (x : Bd) : List Value := [.string x.name_, .int .i64 x.kind_, .int .i64 x.num_, .string x.text_, .int .i64 x.ref_]
/-- As one value. -/
abbrev Bd.ag (x : Bd) : Value := .agg #[.string x.name_, .int .i64 x.kind_, .int .i64 x.num_, .string x.text_, .int .i64 x.ref_]
/-- The cells from o on of block b. -/
def BdAt (w : World) (b o : Nat) (x : Bd) : Prop :=
  w.cell? ⟨b, o, none⟩ = some (.string x.name_) ∧ w.cell? ⟨b, o + 1, none⟩ = some (.int .i64 x.kind_) ∧ w.cell? ⟨b, o + 2, none⟩ = some (.int .i64 x.num_) ∧ w.cell? ⟨b, o + 3, none⟩ = some (.string x.text_) ∧ w.cell? ⟨b, o + 4, none⟩ = some (.int .i64 x.ref_)
theorem BdAt.below {w w' : World} {b o B : Nat} {x : Bd} (h : BdAt w b o x) (hb : Below B w w') (hg : b < B) : BdAt w' b o x := by
  obtain ⟨h0, h1, h2, h3, h4⟩ := h
  exact ⟨(hb.cell (p := ⟨b, o, none⟩) hg).trans h0, (hb.cell (p := ⟨b, o + 1, none⟩) hg).trans h1, (hb.cell (p := ⟨b, o + 2, none⟩) hg).trans h2, (hb.cell (p := ⟨b, o + 3, none⟩) hg).trans h3, (hb.cell (p := ⟨b, o + 4, none⟩) hg).trans h4⟩
theorem BdAt.other {w : World} {b o : Nat} {x : Bd} (h : BdAt w b o x) {p : Addr} (hp : b ≠ p.block) (u : Value) : BdAt (w.setCell p u) b o x := by
  have k : ∀ i, (w.setCell p u).cell? ⟨b, i, none⟩ = w.cell? ⟨b, i, none⟩ := fun i => World.cell?_setCell_other w p ⟨b, i, none⟩ u (fun e => hp (by rw [e]))
  obtain ⟨h0, h1, h2, h3, h4⟩ := h
  exact ⟨(k _).trans h0, (k _).trans h1, (k _).trans h2, (k _).trans h3, (k _).trans h4⟩
theorem BdAt.range {w : World} {b o : Nat} {x : Bd} (h : BdAt w b o x) : w.rangeAt b o x.vs := by
  obtain ⟨h0, h1, h2, h3, h4⟩ := h
  intro j v hj
  match j, hj with
  | 0, hj => cases hj; exact h0
  | 1, hj => cases hj; exact h1
  | 2, hj => cases hj; exact h2
  | 3, hj => cases hj; exact h3
  | 4, hj => cases hj; exact h4
  | j + 5, hj => simp [Bd.vs] at hj
/-- A slice of Binding whose cells lie below B. -/
def BdI (w : World) (B : Nat) (A : Option Addr) (n : Nat) (xs : List Bd) : Prop :=
  xs.length = n ∧ n ≤ maxLen ∧ (0 < n → ∃ b off, A = some ⟨b, off, none⟩ ∧ b < B ∧ ∀ (j : Nat) (x : Bd), xs[j]? = some x → BdAt w b (off + j * 5) x ∧ x.name_.size ≤ maxLen ∧ x.text_.size ≤ maxLen)
theorem BdI.below {w w' : World} {B n : Nat} {A : Option Addr} {xs : List Bd} (h : BdI w B A n xs) (hb : Below B w w') : BdI w' B A n xs :=
  ⟨h.1, h.2.1, fun hn => by
    obtain ⟨b, off, e, hg, hc⟩ := h.2.2 hn
    exact ⟨b, off, e, hg, fun j x hx => ⟨(hc j x hx).1.below hb hg, (hc j x hx).2⟩⟩⟩
theorem BdI.more {w : World} {B B' n : Nat} {A : Option Addr} {xs : List Bd} (h : BdI w B A n xs) (hB : B ≤ B') : BdI w B' A n xs :=
  ⟨h.1, h.2.1, fun hn => by
    obtain ⟨b, off, e, hg, hc⟩ := h.2.2 hn
    exact ⟨b, off, e, by omega, hc⟩⟩
theorem BdI.nil (w : World) (B : Nat) (A : Option Addr) : BdI w B A 0 [] := ⟨rfl, Nat.zero_le _, fun h => absurd h (by omega)⟩
theorem BdI.at_ {w : World} {B n k : Nat} {A : Option Addr} {xs : List Bd} (h : BdI w B A n xs) (hk : k < n) : ∃ b off x, A = some ⟨b, off, none⟩ ∧ b < B ∧ xs[k]? = some x ∧ BdAt w b (off + k * 5) x ∧ x.name_.size ≤ maxLen ∧ x.text_.size ≤ maxLen := by
  obtain ⟨b, off, e, hg, hc⟩ := h.2.2 (by omega)
  have hl : k < xs.length := by rw [h.1]; exact hk
  exact ⟨b, off, xs[k], e, hg, List.getElem?_eq_getElem hl, hc k _ (List.getElem?_eq_getElem hl)⟩
theorem BdI.alloc {W : World} {A : Option Addr} {n : Nat} {xs : List Bd} (h : BdI W W.heap.size A n xs) (o : Obj) : BdI (W.alloc o) (W.alloc o).heap.size A n xs := (h.below (below_alloc W o)).more (by simp)
theorem BdI.go {W w : World} {A : Option Addr} {n : Nat} {xs : List Bd} (h : BdI W W.heap.size A n xs) (hb : Below W.heap.size W w) : BdI w w.heap.size A n xs := (h.below hb).more hb.size
theorem BdI.other {w : World} {B n b off : Nat} {xs : List Bd} (h : BdI w B (some ⟨b, off, none⟩) n xs) {p : Addr} (hp : b ≠ p.block) (u : Value) : BdI (w.setCell p u) B (some ⟨b, off, none⟩) n xs :=
  ⟨h.1, h.2.1, fun hn => by
    obtain ⟨b', off', e, hg, hc⟩ := h.2.2 hn
    simp only [Option.some.injEq, Addr.mk.injEq, and_true] at e
    obtain ⟨rfl, rfl⟩ := e
    exact ⟨b, off, rfl, hg, fun j x hx => ⟨(hc j x hx).1.other hp u, (hc j x hx).2⟩⟩⟩
theorem BdI.others {B n b off : Nat} {xs : List Bd} {g : Nat} (hp : b ≠ g) : ∀ {vs : List Value} {w : World} {o : Nat}, BdI w B (some ⟨b, off, none⟩) n xs → BdI (w.setCells g o vs) B (some ⟨b, off, none⟩) n xs
  | [], _, _, h => h
  | v :: r, w, o, h => BdI.others hp (vs := r) (h.other (p := ⟨g, o, none⟩) hp v)
theorem BdI.row {w : World} {B n b off : Nat} {xs : List Bd} {g : Nat} (h : BdI w B (some ⟨b, off, none⟩) n xs) (hp : b ≠ g) (cs : Array Value) : BdI (w.setRow g cs) B (some ⟨b, off, none⟩) n xs :=
  ⟨h.1, h.2.1, fun hn => by
    obtain ⟨b', off', e, hg, hc⟩ := h.2.2 hn
    simp only [Option.some.injEq, Addr.mk.injEq, and_true] at e
    obtain ⟨rfl, rfl⟩ := e
    refine ⟨b, off, rfl, hg, fun j x hx => ⟨?_, (hc j x hx).2⟩⟩
    obtain ⟨h0, h1, h2, h3, h4⟩ := (hc j x hx).1
    exact ⟨(cell_setRow_other w g cs _ hp).trans h0, (cell_setRow_other w g cs _ hp).trans h1, (cell_setRow_other w g cs _ hp).trans h2, (cell_setRow_other w g cs _ hp).trans h3, (cell_setRow_other w g cs _ hp).trans h4⟩⟩

theorem BdI.det {w : World} {B n b off : Nat} {xs : List Bd} (h : BdI w B (some ⟨b, off, none⟩) n xs) : Det b B w fun w => BdI w B (some ⟨b, off, none⟩) n xs := fun w' k =>
  ⟨h.1, h.2.1, fun hn => by
    obtain ⟨b', off', e, hg, hc⟩ := h.2.2 hn
    simp only [Option.some.injEq, Addr.mk.injEq, and_true] at e
    obtain ⟨rfl, rfl⟩ := e
    refine ⟨b, off, rfl, hg, fun j x hx => ⟨?_, (hc j x hx).2⟩⟩
    have k' := k b (Nat.le_refl _) hg
    obtain ⟨h0, h1, h2, h3, h4⟩ := (hc j x hx).1
    exact ⟨(cell_same k').trans h0, (cell_same k').trans h1, (cell_same k').trans h2, (cell_same k').trans h3, (cell_same k').trans h4⟩⟩
section
variable {H : Type} {enc : TypeId × Value → H} {W : World} {base : Nat} {held : Bool}
set_option maxRecDepth 100000 in
theorem open_BdN {fuel : Nat} {cs : List Value} {x : DataW H × List MemPlace} (h : DataW.trod enc Tryd.prog W base (fun _ => true) held fuel 72 cs = some x) :
    ∃ x : Bd, cs = x.vs ∧ x.name_.size ≤ maxLen ∧ x.text_.size ≤ maxLen := by
  obtain ⟨ys, m, hm, _, hlen, _, hf⟩ := DataW.trod_struct Tryd.underlying72 h
  have hlen' : cs.length = 5 := hlen.trans (by kernel_rfl)
  match cs, hlen' with
  | [c0, c1, c2, c3, c4], _ =>
    have C1 : Tryd.prog.cellsOf 9 = 1 := by kernel_rfl
    have C4 : Tryd.prog.cellsOf 70 = 4 := by kernel_rfl
    have f0 : DataW.trod enc Tryd.prog W base (fun _ => true) held m 9 [c0] = ys[0]? := field_at (i := 0) (o := 0) (k := 1) (T := 9) hf (by kernel_rfl) C1
    have f1 : DataW.trod enc Tryd.prog W base (fun _ => true) held m 70 [c1, c2, c3, c4] = ys[1]? := field_at (i := 1) (o := 1) (k := 4) (T := 70) hf (by kernel_rfl) C4
    have hys : ∀ i, i < 2 → ∃ y, ys[i]? = some y := by
      intro i hi
      have : ys.length = 2 := by assumption
      exact ⟨_, List.getElem?_eq_getElem (by omega)⟩
    obtain ⟨y0, g0⟩ := hys 0 (by decide)
    obtain ⟨y1, g1⟩ := hys 1 (by decide)
    rw [g0] at f0
    rw [g1] at f1
    obtain ⟨z0, e0, _, hz0⟩ := DataW.trod_string Tryd.underlying9 f0
    obtain ⟨ys', m', _, _, _, hl', hf'⟩ := DataW.trod_struct Tryd.underlying70 f1
    have hys' : ∀ i, i < 4 → ∃ y, ys'[i]? = some y := by
      intro i hi
      have : ys'.length = 4 := by assumption
      exact ⟨_, List.getElem?_eq_getElem (by omega)⟩
    have k0 : DataW.trod enc Tryd.prog W base (fun _ => true) held m' 2 [c1] = ys'[0]? := field_at (i := 0) (o := 0) (k := 1) (T := 2) hf' (by kernel_rfl) (by kernel_rfl)
    have k1 : DataW.trod enc Tryd.prog W base (fun _ => true) held m' 2 [c2] = ys'[1]? := field_at (i := 1) (o := 1) (k := 1) (T := 2) hf' (by kernel_rfl) (by kernel_rfl)
    have k2 : DataW.trod enc Tryd.prog W base (fun _ => true) held m' 9 [c3] = ys'[2]? := field_at (i := 2) (o := 2) (k := 1) (T := 9) hf' (by kernel_rfl) (by kernel_rfl)
    have k3 : DataW.trod enc Tryd.prog W base (fun _ => true) held m' 2 [c4] = ys'[3]? := field_at (i := 3) (o := 3) (k := 1) (T := 2) hf' (by kernel_rfl) (by kernel_rfl)
    obtain ⟨q0, p0⟩ := hys' 0 (by decide)
    obtain ⟨q1, p1⟩ := hys' 1 (by decide)
    obtain ⟨q2, p2⟩ := hys' 2 (by decide)
    obtain ⟨q3, p3⟩ := hys' 3 (by decide)
    rw [p0] at k0
    rw [p1] at k1
    rw [p2] at k2
    rw [p3] at k3
    obtain ⟨z1, e1, _, _⟩ := DataW.trod_int Tryd.underlying2 k0
    obtain ⟨z2, e2, _, _⟩ := DataW.trod_int Tryd.underlying2 k1
    obtain ⟨z3, e3, _, hz3⟩ := DataW.trod_string Tryd.underlying9 k2
    obtain ⟨z4, e4, _, _⟩ := DataW.trod_int Tryd.underlying2 k3
    simp only [List.cons.injEq, and_true] at e0 e1 e2 e3 e4
    subst e0 e1 e2 e3 e4
    exact ⟨⟨z0, z1, z2, z3, z4⟩, rfl, hz0, hz3⟩
theorem open_BdF {A : Option Addr} {n c fuel : Nat} {x : DataW H × List MemPlace} (hf : DataW.trod enc Tryd.prog W base (fun _ => true) held fuel 22 [.slice A n c] = some x) :
    ∃ xs, BdI W W.heap.size A n xs := by
  rcases Go.Deep.open_slice Tryd.underlying22 hf with ⟨h0, _⟩ | ⟨a, len, cap, m, k, D, Pl, hcs, hb, hl, hm, hmm, hx, hi⟩
  · simp at h0
    obtain ⟨rfl, rfl, rfl⟩ := h0
    exact ⟨[], rfl, Nat.zero_le _, fun h => absurd h (by omega)⟩
  · simp only [List.cons.injEq, Value.slice.injEq, and_true] at hcs
    obtain ⟨rfl, rfl, rfl⟩ := hcs
    simp only [if_true] at hmm
    have hC : Tryd.prog.cellsOf 72 = 5 := by kernel_rfl
    have key : ∀ i, i < n → ∃ o : Bd, (∀ j v, (Bd.vs o)[j]? = some v → W.cell? (a.add (i * 5 + j)) = some v) ∧ o.name_.size ≤ maxLen ∧ o.text_.size ≤ maxLen := by
      intro i hin
      obtain ⟨cs', hc, ht'⟩ := hi i (by omega)
      rw [hC] at hc
      obtain ⟨o, e, ho⟩ := open_BdN ht'
      obtain ⟨_, hcl, hat⟩ := World.cells?_some hc
      refine ⟨o, fun j v hj => ?_, ho⟩
      rw [← e] at hj
      have hjl : j < 5 := by have := (List.getElem?_eq_some_iff.1 hj).1; omega
      rw [← Go.Deep.add_add, hat j hjl, hj]
    have hnm : n ≤ maxLen := Nat.le_trans hl hm
    by_cases hn : 0 < n
    · obtain ⟨ab, ao, spot⟩ := a
      obtain ⟨o0, h0, _⟩ := key 0 hn
      have h00 := h0 0 _ rfl
      have hspot : spot = none := by simpa [Addr.add] using World.cell?_spot h00
      subst hspot
      rw [Addr.add_lit] at h00
      obtain ⟨os, hl', hx'⟩ := list_of (α := Bd) (P := fun j o => BdAt W ab (ao + j * 5) o ∧ o.name_.size ≤ maxLen ∧ o.text_.size ≤ maxLen) (n := n) fun i hin => by
        obtain ⟨o, hc, ho⟩ := key i hin
        have hc' : ∀ j v, (Bd.vs o)[j]? = some v → W.cell? ⟨ab, ao + i * 5 + j, none⟩ = some v := by
          intro j v hj
          have := hc j v hj
          rw [Addr.add_lit, ← Nat.add_assoc] at this
          exact this
        exact ⟨o, ⟨hc' 0 _ rfl, hc' 1 _ rfl, hc' 2 _ rfl, hc' 3 _ rfl, hc' 4 _ rfl⟩, ho⟩
      exact ⟨os, hl', hnm, fun _ => ⟨ab, ao, rfl, World.block_lt_of_cell? W ⟨ab, _, none⟩ h00, hx'⟩⟩
    · exact ⟨[], by simp; omega, hnm, fun h => absurd h hn⟩
end
theorem open_Bd {H : Type} {enc : TypeId × Value → H} {W : World} {A : Option Addr} {n c : Nat} {d : DataW H} {p : List MemPlace} (h : DataW.Trod enc Tryd.prog W 0 (fun _ => true) true 22 (.slice A n c) d p) :
    ∃ xs, BdI W W.heap.size A n xs := by
  obtain ⟨fuel, hf⟩ := h
  exact open_BdF (by simpa [Value.cells] using hf)

/-- A Binding's texts' bytes. -/
def szBd1 (x : Bd) : Nat := x.name_.size + x.text_.size
/-- Those of the first k. -/
def sumBd (xs : List Bd) : Nat → Nat
  | 0 => 0
  | k + 1 => sumBd xs k + ((xs[k]?.map szBd1).getD 0)
theorem sumBd_next {xs : List Bd} {k : Nat} {x : Bd} (h : xs[k]? = some x) : sumBd xs (k + 1) = sumBd xs k + szBd1 x := by
  rw [sumBd, h]
  rfl
theorem sumBd_mono {xs : List Bd} {j : Nat} : ∀ {k : Nat}, j ≤ k → sumBd xs j ≤ sumBd xs k
  | 0, h => by obtain rfl : j = 0 := by omega
               exact Nat.le_refl _
  | k + 1, h => by
    by_cases e : j = k + 1
    · rw [e]; exact Nat.le_refl _
    · have := sumBd_mono (xs := xs) (show j ≤ k by omega)
      rw [sumBd]
      omega
/-- What szBindingS takes of the bound. -/
def szBd (xs : List Bd) : Nat := xs.length + sumBd xs xs.length

set_option maxRecDepth 100000 in
theorem szBinding_any (x : Bd) (L : Int) (W : World) (h0 : 0 ≤ L) (hL : L ≤ 1048576) (hm0 : x.name_.size ≤ maxLen) (hm3 : x.text_.size ≤ maxLen) :
    Calls Tryd.prog 41 #[x.ag, .int .i64 L] W (SzL (szBd1 x) L W) := by
  obtain ⟨s, hs⟩ : ∃ s, szBd1 x = s := ⟨_, rfl⟩
  rw [hs]
  unfold szBd1 at hs
  obtain ⟨x0, x1, x2, x3, x4⟩ := x
  dsimp only at hs hm0 hm3
  have HS := Lib.hid hs
  have HM3 := Lib.hid hm3
  have HL0 := Lib.hid h0
  have HL1 := Lib.hid hL
  unfold maxLen at hm0
  clear hs hm3
  show Calls Tryd.prog 41 #[.agg #[.string x0, .int .i64 x1, .int .i64 x2, .string x3, .int .i64 x4], .int .i64 L] W _
  by_cases c0 : (x0.size : Int) ≤ L
  · have d0 : decide (L - (x0.size : Int) < 0) = false := by simp; omega
    have HC0 := Lib.hid c0
    by_cases c1 : (x0.size : Int) + (x3.size : Int) ≤ L
    · have HC1 := Lib.hid c1
      have HX : Hid ((s : Int) ≤ L) := by have := HS.out; show _ ≤ _; omega
      have HE : Hid (L - (x0.size : Int) - (x3.size : Int) = L - (s : Int)) := by have := HS.out; show _ = _; omega
      have d1 : decide (L - (x0.size : Int) - (x3.size : Int) < 0) = false := by simp; omega
      clear c0 c1
      go_enter Tryd.func41, Tryd.ntmps41
      go_wp2_with (go_at_call 65; refine (szValue_fits _ _ _ _ _ _ (by have := HC1.out; omega) (by have := HL1.out; omega)).mono ?_; rintro e w1 ⟨rfl, hb⟩; have HB1 : Hid (Below W.heap.size W w1) := ((below_alloc _ _).trans (hb.mono (by simp))); clear hb)
      go_ret
      exact ⟨.inl ⟨HX.out, by rw [HE.out]; rfl⟩, HB1.out⟩
    · have HC1 := Lib.hid c1
      have HX : Hid (L < (s : Int)) := by have := HS.out; show _ < _; omega
      clear c0 c1
      go_enter Tryd.func41, Tryd.ntmps41
      go_wp2_with (go_at_call 65; refine (szValue_long _ _ _ _ _ _ (by have := HC1.out; omega) (by have := HC0.out; omega) (by have := HL1.out; omega) HM3.out).mono ?_; rintro e w1 ⟨rfl, hb⟩; have HB1 : Hid (Below W.heap.size W w1) := ((below_alloc _ _).trans (hb.mono (by simp))); clear hb)
      go_ret
      exact ⟨.inr ⟨HX.out, rfl⟩, HB1.out⟩
  · have d0 : decide (L - (x0.size : Int) < 0) = true := by simp; omega
    have HX : Hid (L < (s : Int)) := by have := HS.out; show _ < _; omega
    go_enter Tryd.func41, Tryd.ntmps41
    go_wp2_with fail
    go_ret
    exact ⟨.inr ⟨HX.out, rfl⟩, below_alloc _ _⟩

set_option maxHeartbeats 1000000 in
set_option maxRecDepth 100000 in
theorem szBindingS_any (A : Option Addr) (n c : Nat) (xs : List Bd) (L : Int) (W : World) (hr : BdI W W.heap.size A n xs) (h0 : 0 ≤ L) (hL : L ≤ 1048576) :
    Calls Tryd.prog 21 #[.slice A n c, .int .i64 L] W (SzL (szBd xs) L W) := by
  have HR := Lib.hid hr
  have hn := hr.2.1
  have hxn := hr.1
  clear hr
  obtain ⟨s, hs⟩ : ∃ s, szBd xs = s := ⟨_, rfl⟩
  have HS : Hid (s = n + sumBd xs n) := by show _ = _; rw [← hs, szBd, hxn]
  rw [hs]
  clear hs hxn
  unfold maxLen at hn
  by_cases hbig : L < (n : Int)
  · have HB : Hid (L < (s : Int)) := by show _ < _; have := HS.out; omega
    have h2 : (n : Int) ≤ 9223372036854775807 := by omega
    have d0 : decide (L - n < 0) = true := by simp; omega
    go_enter Tryd.func21, Tryd.ntmps21
    go_wp2_with fail
    go_ret
    exact ⟨.inr ⟨HB.out, rfl⟩, Below.refl _ _⟩
  · have h1 : (n : Int) ≤ L := by omega
    have hn' : n ≤ 1048576 := by omega
    have d0 : decide (L - n < 0) = false := by simp; omega
    clear hbig
    go_enter Tryd.func21, Tryd.ntmps21
    go_wp2_with fail
    go_loopw [1, 5] (fun q i wr => ∃ k : Nat, ∃ z : Int, k ≤ n ∧ i = .int .i64 k ∧ q = .int .i64 z ∧ 0 ≤ z ∧ z ≤ 1048576 ∧ Hid (z = L - (n : Int) - (sumBd xs k : Int)) ∧ Hid (Below W.heap.size W wr)) (fun _ i _ => n - (intOf i).toNat)
    case atStart => exact ⟨0, _, Nat.zero_le _, rfl, rfl, by omega, by omega, by show _ = _; simp [sumBd], Below.refl _ _⟩
    case round =>
      obtain ⟨k, z, hk, rfl, rfl, hz0, hz1, HZ, HW⟩ := hrel
      by_cases hlt : k < n
      · obtain ⟨b, off, x, rfl, hg, hx, ⟨q0, q1, q2, q3, q4⟩, hm0, hm3⟩ := (HR.out.below HW.out).at_ hlt
        have HX := Lib.hid hx
        have b0 : (0 : Int) ≤ (k : Int) := by omega
        have b1 : (k : Int) < (n : Int) := by omega
        have HZ0 : Hid (0 ≤ z) := hz0
        have HZ1 : Hid (z ≤ 1048576) := hz1
        have HC := Lib.hid (fun w => szBinding_any x z w hz0 hz1 hm0 hm3)
        clear hx hg hm0 hm3
        by_cases hf : (szBd1 x : Int) ≤ z
        · have HF := Lib.hid hf
          have HN : Hid (sumBd xs (k + 1) = sumBd xs k + szBd1 x) := sumBd_next HX.out
          clear hf
          go_wp2_with (go_at_call 41; refine (HC.out _).mono ?_; intro e w1 h; obtain ⟨z1, rfl, hz2, l1, u1, hb⟩ := h.fits HF.out HZ1.out; have Z1 := Lib.hid hz2; have dz : decide (z1 < 0) = false := (by simp; omega); have HW1 : Hid (Below W.heap.size W w1) := HW.out.trans (hb.mono HW.out.size); clear hb hz2)
          go_roundw
          case rel => exact ⟨k + 1, _, by omega, by go_num, rfl, by omega, by omega, by show _ = _; rw [HN.out, Z1.out, HZ.out]; omega, HW1⟩
          case measure => simp [intOf]; omega
        · have HF := Lib.hid hf
          have HBIG : Hid (L < (s : Int)) := by
            show _ < _
            have h1 := sumBd_mono (xs := xs) (j := k + 1) (k := n) (by omega)
            rw [sumBd_next HX.out] at h1
            have h2 := HZ.out
            have h3 := HS.out
            omega
          clear hf
          go_wp2_with (go_at_call 41; refine (HC.out _).mono ?_; intro e w1 h; obtain ⟨rfl, hb⟩ := h.long HF.out; have HW1 : Hid (Below W.heap.size W w1) := HW.out.trans (hb.mono HW.out.size); clear hb)
          go_ret
          exact ⟨.inr ⟨HBIG.out, rfl⟩, HW1.out⟩
      · have hkn : k = n := by omega
        have HE : Hid ((s : Int) ≤ L ∧ z = L - (s : Int)) := by
          have h := HZ.out
          have h3 := HS.out
          rw [hkn] at h
          exact ⟨by omega, by omega⟩
        go_wp2_with fail
        go_ret
        exact ⟨.inl ⟨HE.out.1, by rw [HE.out.2]; rfl⟩, HW.out⟩


set_option maxHeartbeats 1000000 in
theorem toBinding_any (x : Bd) (W : World) :
    Calls Tryd.prog 50 #[x.ag] W fun e w' => e = .returned x.ag ∧ Below W.heap.size W w' := by
  obtain ⟨x0, x1, x2, x3, x4⟩ := x
  show Calls Tryd.prog 50 #[.agg #[.string x0, .int .i64 x1, .int .i64 x2, .string x3, .int .i64 x4]] W _
  have HC := Lib.hid (fun (X Y : World) (T T' : TypeId) (c c' : Array Value) (eY : Y = W.alloc (.cells #[.string x0, .int .i64 x1, .int .i64 x2, .string x3, .int .i64 x4] T)) (eX : X = (Y.alloc (.cells c T')).alloc (.cells c' T')) =>
    (show RW T' X (W.heap.size + 1 + 1) c' ∧ RW T' X (W.heap.size + 1) c ∧ Below W.heap.size W X ∧ X.heap.size = W.heap.size + 3 from by
      subst eX; subst eY
      refine ⟨?_, ?_, ((below_alloc _ _).alloc (by simp) _).alloc (by simp; omega) _, by simp⟩
      · have := RW.new ((W.alloc (.cells #[.string x0, .int .i64 x1, .int .i64 x2, .string x3, .int .i64 x4] T)).alloc (.cells c T')) c' T'
        simpa using this
      · have := (RW.new (W.alloc (.cells #[.string x0, .int .i64 x1, .int .i64 x2, .string x3, .int .i64 x4] T)) c T').alloc (.cells c' T')
        simpa using this))
  go_enter Tryd.func50, Tryd.ntmps50
  go_wp2_with (go_at_call 71; obtain ⟨g1, g4, g2, g3⟩ := HC.out _ _ _ _ _ _ rfl rfl; refine (toValue_any _ _ _ _ _).mono ?_; rintro e w1 ⟨rfl, hb⟩; have HR1 := Lib.hid (g1.below hb (by omega)); have HO1 := Lib.hid (g4.below hb (by omega)); have HB1 := Lib.hid (g2.trans (hb.mono g2.size)); have hsz1 := hb.size; have HG1 : Hid (W.heap.size + 3 ≤ w1.heap.size) := (by show _ ≤ _; omega); have p0 : w1.cell? ⟨W.heap.size + 1 + 1, 0, none⟩ = some (.string x0) := HR1.out.cell 0; have f0 := HR1.out.frozen 0; have r0 : w1.cell? ⟨W.heap.size + 1, 0, none⟩ = some (.string ⟨#[]⟩) := HO1.out.cell 0; have z0 := HO1.out.frozen 0; have p1 : w1.cell? ⟨W.heap.size + 1 + 1, 1, none⟩ = some (.int .i64 0) := HR1.out.cell 1; have f1 := HR1.out.frozen 1; have r1 : w1.cell? ⟨W.heap.size + 1, 1, none⟩ = some (.int .i64 0) := HO1.out.cell 1; have z1 := HO1.out.frozen 1; have p2 : w1.cell? ⟨W.heap.size + 1 + 1, 2, none⟩ = some (.int .i64 0) := HR1.out.cell 2; have f2 := HR1.out.frozen 2; have r2 : w1.cell? ⟨W.heap.size + 1, 2, none⟩ = some (.int .i64 0) := HO1.out.cell 2; have z2 := HO1.out.frozen 2; have p3 : w1.cell? ⟨W.heap.size + 1 + 1, 3, none⟩ = some (.string ⟨#[]⟩) := HR1.out.cell 3; have f3 := HR1.out.frozen 3; have r3 : w1.cell? ⟨W.heap.size + 1, 3, none⟩ = some (.string ⟨#[]⟩) := HO1.out.cell 3; have z3 := HO1.out.frozen 3; have p4 : w1.cell? ⟨W.heap.size + 1 + 1, 4, none⟩ = some (.int .i64 0) := HR1.out.cell 4; have f4 := HR1.out.frozen 4; have r4 : w1.cell? ⟨W.heap.size + 1, 4, none⟩ = some (.int .i64 0) := HO1.out.cell 4; have z4 := HO1.out.frozen 4; clear g1 g2 g3 g4 hb hsz1)
  have hs1 := HG1.out
  refine bodyPost_ret (v := .agg #[.string x0, .int .i64 x1, .int .i64 x2, .string x3, .int .i64 x4]) (results_cell_row Tryd.results50 _ _ (W.heap.size + 1) 63 _ (0, 0) _ rfl ((((((((((((((((((HO1.out).other (p := ⟨W.heap.size + 1 + 1, 1, none⟩) (by simp) (.int .i64 x1))).other (p := ⟨W.heap.size + 1 + 1, 2, none⟩) (by simp) (.int .i64 x2))).other (p := ⟨W.heap.size + 1 + 1, 3, none⟩) (by simp) (.string x3))).other (p := ⟨W.heap.size + 1 + 1, 4, none⟩) (by simp) (.int .i64 x4))).set_ 0 (.string x0))).set_ 1 (.int .i64 x1))).set_ 2 (.int .i64 x2))).set_ 3 (.string x3))).set_ 4 (.int .i64 x4)) Tryd.underlying63 rfl (by kernel_rfl)) rfl ⟨rfl, HB1.out.trans (((((((((((((((((((below_set w1 (B := W.heap.size + 1) (p := ⟨W.heap.size + 1 + 1, 1, none⟩) (by simp) (.int .i64 x1))).setCell (p := ⟨W.heap.size + 1 + 1, 2, none⟩) (by simp) (.int .i64 x2))).setCell (p := ⟨W.heap.size + 1 + 1, 3, none⟩) (by simp) (.string x3))).setCell (p := ⟨W.heap.size + 1 + 1, 4, none⟩) (by simp) (.int .i64 x4))).setCell (p := ⟨W.heap.size + 1, 0, none⟩) (by simp) (.string x0))).setCell (p := ⟨W.heap.size + 1, 1, none⟩) (by simp) (.int .i64 x1))).setCell (p := ⟨W.heap.size + 1, 2, none⟩) (by simp) (.int .i64 x2))).setCell (p := ⟨W.heap.size + 1, 3, none⟩) (by simp) (.string x3))).setCell (p := ⟨W.heap.size + 1, 4, none⟩) (by simp) (.int .i64 x4))).mono (by omega))⟩

/-- The elements of block g ahead of j are filled. -/
def FilledBd (w : World) (g j n : Nat) (xs : List Bd) : Prop := ∃ cs, RW 63 w g cs ∧ n * 5 ≤ cs.size ∧ ∀ (i q : Nat) (x : Bd) (v : Value), i < j → xs[i]? = some x → x.vs[q]? = some v → cs[i * 5 + q]? = some v
theorem infoBd : (Tryd.prog.info? 63).map (fun i => (i.zero, i.size, i.bytes)) = some (some (Value.agg #[.string ⟨#[]⟩, .int .i64 0, .int .i64 0, .string ⟨#[]⟩, .int .i64 0]), 5, 56) := by kernel_rfl
theorem ownBd {w : World} {B g n : Nat} {xs : List Value} (h : w.ownsRow B 63 5 (.slice (some ⟨g, 0, none⟩) n n) n xs) : ∃ cs, RW 63 w g cs ∧ n * 5 ≤ cs.size := by
  rcases h.2 with ⟨h', _⟩ | ⟨g', cap', cur, h', _, hg, _, _, hsz, _⟩
  · simp at h'
  · simp only [Value.slice.injEq, Option.some.injEq, Addr.mk.injEq, and_true, true_and] at h'
    obtain ⟨rfl, rfl⟩ := h'
    exact ⟨cur, hg, by omega⟩
theorem size_setsBd (vs : List Value) (w : World) (g k : Nat) : (w.setCells g k vs).heap.size = w.heap.size := by
  induction vs generalizing w k with
  | nil => rfl
  | cons v r ih => exact (ih _ _).trans (size_set _ _ _)
theorem FilledBd.store {w : World} {g j n : Nat} {xs : List Bd} {x : Bd} (h : FilledBd w g j n xs) (hx : xs[j]? = some x) (hj : j < n) : FilledBd (w.setCells g (j * 5) x.vs) g (j + 1) n xs := by
  obtain ⟨cs, hr, hn, hm⟩ := h
  have hlK : x.vs.length = 5 := rfl
  refine ⟨_, hr.cells, by rw [putL_size]; exact hn, fun i q y v hi hy hv => ?_⟩
  by_cases e : i = j
  · subst e
    rw [hx, Option.some.injEq] at hy
    subst hy
    exact putL_new _ _ _ _ _ (by rw [hlK]; omega) hv
  · have hqK : q < 5 := (List.getElem?_eq_some_iff.1 hv).1
    rw [putL_old _ _ _ _ (by omega)]
    exact hm i q y v (by omega) hy hv
theorem FilledBd.below {w w' : World} {g j n : Nat} {xs : List Bd} (h : FilledBd w g j n xs) (hb : Below w.heap.size w w') : FilledBd w' g j n xs := by
  obtain ⟨cs, hr, hn, hm⟩ := h
  exact ⟨cs, hr.below hb hr.lt, hn, hm⟩
/-- What toBindingS answers: a slice at the head of the first new block. -/
def ToBd (xs : List Bd) (n : Nat) (W : World) (e : Ending) (w' : World) : Prop :=
  e = .returned (.slice (some ⟨W.heap.size, 0, none⟩) n n) ∧ Hid (BdI w' w'.heap.size (some ⟨W.heap.size, 0, none⟩) n xs ∧ Below W.heap.size W w')

set_option maxHeartbeats 2000000 in
set_option maxRecDepth 100000 in
theorem toBindingS_any (A : Option Addr) (n c : Nat) (xs : List Bd) (W : World) (hr : BdI W W.heap.size A n xs) (hn : n ≤ 1048576) :
    Calls Tryd.prog 27 #[.slice A n c] W (ToBd xs n W) := by
  obtain ⟨i0, hi, hz0, hz1, hz2⟩ := info_parts infoBd
  have HR := Lib.hid hr
  have h1 : (n : Int) ≤ 1048576 := by omega
  clear hr
  go_enter Tryd.func27, Tryd.ntmps27
  go_wp2_with (at_make; refine wpList_make_full _ rfl _ _ 32 rfl W.heap.size 63 i0 (.agg #[.string ⟨#[]⟩, .int .i64 0, .int .i64 0, .string ⟨#[]⟩, .int .i64 0]) 5 Tryd.underlying32 hi hz0 hz1 .i64 .i64 n n n rfl rfl rfl rfl (by rw [hz2]; omega) (by unfold maxLen; omega) (Nat.le_refl _) ?_)
  intro w1 hown hgrow
  have HB1 : Hid (Below W.heap.size W w1) := below_grown_none hgrow
  obtain ⟨cs, hcs, hcn⟩ := ownBd hown
  have HG : Hid (W.heap.size < w1.heap.size) := hcs.lt
  have HM : Hid (FilledBd w1 W.heap.size 0 n xs) := ⟨cs, hcs, hcn, fun i q x v hi => absurd hi (by omega)⟩
  clear hown hgrow hcs hcn hi hz0 hz1 hz2
  go_wp2_with fail
  go_loopw [4] (fun i wr => ∃ j : Nat, j ≤ n ∧ i = .int .i64 j ∧ Hid (Below W.heap.size W wr) ∧ Hid (W.heap.size < wr.heap.size) ∧ Hid (FilledBd wr W.heap.size j n xs)) (fun i _ => n - (intOf i).toNat)
  case atStart => exact ⟨0, Nat.zero_le _, rfl, HB1, HG, HM⟩
  case round =>
    obtain ⟨j, hj, rfl, HW, HZ, HJ⟩ := hrel
    by_cases hlt : j < n
    · obtain ⟨b, off, x, rfl, hg, hx, ⟨q0, q1, q2, q3, q4⟩, hxs⟩ := (HR.out.below HW.out).at_ hlt
      obtain ⟨x0, x1, x2, x3, x4⟩ := x
      dsimp only at q0 q1 q2 q3 q4 hxs
      have HX := Lib.hid hx
      have HLT := Lib.hid hlt
      clear hx hxs hg
      have b0 : (0 : Int) ≤ (j : Int) := by omega
      have b1 : (j : Int) < (n : Int) := by omega
      go_wp2_with (first | (go_at_call 50; refine (toBinding_any ⟨x0, x1, x2, x3, x4⟩ _).mono ?_; rintro e w2 ⟨rfl, hb⟩; have HF := Lib.hid (HJ.out.below hb); have hlt2 := HLT.out; have HF2 : Hid (FilledBd (w2.setCells W.heap.size (j * 5) [.string x0, .int .i64 x1, .int .i64 x2, .string x3, .int .i64 x4]) W.heap.size (j + 1) n xs) := (by have k := HF.out.store HX.out hlt2; unfold Bd.vs at k; exact k); have HT : Hid (w2.there W.heap.size (j * 5) 5) := (by obtain ⟨cs, hr, hc, _⟩ := HF.out; exact hr.there (by omega)); have HW2 : Hid (Below W.heap.size W (w2.setCells W.heap.size (j * 5) [.string x0, .int .i64 x1, .int .i64 x2, .string x3, .int .i64 x4])) := ((HW.out.trans (hb.mono HW.out.size)).trans (below_cells (Nat.le_refl _) _ _ _)); have HZ2 : Hid (W.heap.size < (w2.setCells W.heap.size (j * 5) [.string x0, .int .i64 x1, .int .i64 x2, .string x3, .int .i64 x4]).heap.size) := (by obtain ⟨_, hr, _⟩ := HF2.out; exact hr.lt); have tk1 : True := trivial; clear hb hlt2 q0 q1 q2 q3 q4) | (clear tk1; refine wpList_store_mid rfl 63 (.tmp 21) (.tmp 20) rfl W.heap.size (j * 5) _ rfl rfl HT.out (by kernel_rfl) (by kernel_rfl) ?_; go_frame; clear HT; generalize w2.setCells W.heap.size (j * 5) [.string x0, .int .i64 x1, .int .i64 x2, .string x3, .int .i64 x4] = w3 at HF2 HW2 HZ2 ⊢))
      go_roundw
      case rel => exact ⟨j + 1, by omega, by go_num, HW2, HZ2, HF2⟩
      case measure => simp [intOf]; omega
    · have HN : Hid (j = n) := by show _ = _; omega
      go_wp2_with fail
      go_ret
      refine ⟨rfl, Lib.hid ⟨⟨HR.out.1, HR.out.2.1, fun _ => ⟨W.heap.size, 0, rfl, HZ.out, fun i x hx => ?_⟩⟩, HW.out⟩⟩
      obtain ⟨cs, hs, hcs, hm⟩ := HJ.out
      have hil : i < xs.length := (List.getElem?_eq_some_iff.1 hx).1
      have hij : i < j := by have := HN.out; have := HR.out.1; omega
      obtain ⟨_, _, _, _, hc⟩ := HR.out.2.2 (by have := HR.out.1; omega)
      rw [Nat.zero_add]
      exact ⟨⟨(hs.cell _).trans (hm i 0 x _ hij hx rfl), (hs.cell _).trans (hm i 1 x _ hij hx rfl), (hs.cell _).trans (hm i 2 x _ hij hx rfl), (hs.cell _).trans (hm i 3 x _ hij hx rfl), (hs.cell _).trans (hm i 4 x _ hij hx rfl)⟩, (hc i x hx).2⟩
end Go.Proofs.YtflhjcdabbomiaaDoor

namespace Go.Proofs.YtflhjcdabbomiaaDoor
open Go Go.RowKit

structure Fn where
  name_ : ByteArray
  params_ : List St
  locals_ : List St
  label_ : ByteArray
/-- Where its lists lie. -/
structure FnLay where
  A1 : Option Addr
  n1 : Nat
  c1 : Nat
  h1 : n1 ≤ c1
  A2 : Option Addr
  n2 : Nat
  c2 : Nat
  h2 : n2 ≤ c2
/-- As one value. -/
abbrev Fn.ag (x : Fn) (l : FnLay) : Value := .agg #[.string x.name_, .slice l.A1 l.n1 l.c1, .slice l.A2 l.n2 l.c2, .string x.label_]
def Fn.vs (x : Fn) (l : FnLay) : List Value := [.string x.name_, .slice l.A1 l.n1 l.c1, .slice l.A2 l.n2 l.c2, .string x.label_]
/-- Its lists lie below B. -/
def FnV (w : World) (B : Nat) (x : Fn) (l : FnLay) : Prop := StI w B l.A1 l.n1 x.params_ ∧ StI w B l.A2 l.n2 x.locals_ ∧ x.name_.size ≤ maxLen ∧ x.label_.size ≤ maxLen
theorem FnV.below {w w' : World} {B : Nat} {x : Fn} {l : FnLay} (h : FnV w B x l) (hb : Below B w w') : FnV w' B x l := by
  obtain ⟨h0, h1, h2, h3⟩ := h
  exact ⟨h0.below hb, h1.below hb, h2, h3⟩
theorem FnV.more {w : World} {B B' : Nat} {x : Fn} {l : FnLay} (h : FnV w B x l) (hB : B ≤ B') : FnV w B' x l := by
  obtain ⟨h0, h1, h2, h3⟩ := h
  exact ⟨h0.more hB, h1.more hB, h2, h3⟩
theorem FnV.go {W w : World} {x : Fn} {l : FnLay} (h : FnV W W.heap.size x l) (hb : Below W.heap.size W w) : FnV w w.heap.size x l := (h.below hb).more hb.size
theorem FnV.alloc {W : World} {x : Fn} {l : FnLay} (h : FnV W W.heap.size x l) (o : Obj) : FnV (W.alloc o) (W.alloc o).heap.size x l := h.go (below_alloc W o)
/-- Its cells from p on of block b. -/
def FnAt (w : World) (b p : Nat) (x : Fn) (l : FnLay) : Prop := w.cell? ⟨b, p, none⟩ = some (.string x.name_) ∧ w.cell? ⟨b, p + 1, none⟩ = some (.slice l.A1 l.n1 l.c1) ∧ w.cell? ⟨b, p + 2, none⟩ = some (.slice l.A2 l.n2 l.c2) ∧ w.cell? ⟨b, p + 3, none⟩ = some (.string x.label_)
theorem FnAt.below {w w' : World} {b p B : Nat} {x : Fn} {l : FnLay} (h : FnAt w b p x l) (hb : Below B w w') (hg : b < B) : FnAt w' b p x l := by
  obtain ⟨h0, h1, h2, h3⟩ := h
  exact ⟨(hb.cell (p := ⟨b, p, none⟩) hg).trans h0, (hb.cell (p := ⟨b, p + 1, none⟩) hg).trans h1, (hb.cell (p := ⟨b, p + 2, none⟩) hg).trans h2, (hb.cell (p := ⟨b, p + 3, none⟩) hg).trans h3⟩
theorem FnAt.range {w : World} {b p : Nat} {x : Fn} {l : FnLay} (h : FnAt w b p x l) : w.rangeAt b p (x.vs l) := by
  obtain ⟨h0, h1, h2, h3⟩ := h
  intro j v hj
  match j, hj with
  | 0, hj => cases hj; exact h0
  | 1, hj => cases hj; exact h1
  | 2, hj => cases hj; exact h2
  | 3, hj => cases hj; exact h3
  | j + 4, hj => simp [Fn.vs] at hj
/-- A slice of them that lies below B, with their lists. -/
def FnI (w : World) (B : Nat) (A : Option Addr) (n : Nat) (xs : List Fn) : Prop :=
  xs.length = n ∧ n ≤ maxLen ∧ (0 < n → ∃ b off, A = some ⟨b, off, none⟩ ∧ b < B ∧ ∀ (j : Nat) (x : Fn), xs[j]? = some x → ∃ l, FnAt w b (off + j * 4) x l ∧ FnV w B x l)
theorem FnI.below {w w' : World} {B n : Nat} {A : Option Addr} {xs : List Fn} (h : FnI w B A n xs) (hb : Below B w w') : FnI w' B A n xs :=
  ⟨h.1, h.2.1, fun hn => by
    obtain ⟨b, off, e, hg, hc⟩ := h.2.2 hn
    refine ⟨b, off, e, hg, fun j x hx => ?_⟩
    obtain ⟨l, h1, h2⟩ := hc j x hx
    exact ⟨l, h1.below hb hg, h2.below hb⟩⟩
theorem FnI.more {w : World} {B B' n : Nat} {A : Option Addr} {xs : List Fn} (h : FnI w B A n xs) (hB : B ≤ B') : FnI w B' A n xs :=
  ⟨h.1, h.2.1, fun hn => by
    obtain ⟨b, off, e, hg, hc⟩ := h.2.2 hn
    refine ⟨b, off, e, by omega, fun j x hx => ?_⟩
    obtain ⟨l, h1, h2⟩ := hc j x hx
    exact ⟨l, h1, h2.more hB⟩⟩
theorem FnI.at_ {w : World} {B n k : Nat} {A : Option Addr} {xs : List Fn} (h : FnI w B A n xs) (hk : k < n) : ∃ b off x l, A = some ⟨b, off, none⟩ ∧ b < B ∧ xs[k]? = some x ∧ FnAt w b (off + k * 4) x l ∧ FnV w B x l := by
  obtain ⟨b, off, e, hg, hc⟩ := h.2.2 (by omega)
  have hl : k < xs.length := by rw [h.1]; exact hk
  obtain ⟨l, h1, h2⟩ := hc k _ (List.getElem?_eq_getElem hl)
  exact ⟨b, off, xs[k], l, e, hg, List.getElem?_eq_getElem hl, h1, h2⟩
theorem FnI.go {W w : World} {A : Option Addr} {n : Nat} {xs : List Fn} (h : FnI W W.heap.size A n xs) (hb : Below W.heap.size W w) : FnI w w.heap.size A n xs := (h.below hb).more hb.size
theorem FnI.alloc {W : World} {A : Option Addr} {n : Nat} {xs : List Fn} (h : FnI W W.heap.size A n xs) (o : Obj) : FnI (W.alloc o) (W.alloc o).heap.size A n xs := h.go (below_alloc W o)

section
variable {H : Type} {enc : TypeId × Value → H} {W : World} {base : Nat} {held : Bool}
set_option maxRecDepth 100000 in
/-- Its cells, each with its own reading. -/
theorem open_FnN {fuel : Nat} {cs : List Value} {x : DataW H × List MemPlace} (h : DataW.trod enc Tryd.prog W base (fun _ => true) held fuel 75 cs = some x) :
    ∃ x l, cs = Fn.vs x l ∧ FnV W W.heap.size x l := by
  obtain ⟨ys, m, hm, _, hlen, _, hf⟩ := DataW.trod_struct Tryd.underlying75 h
  have hlen' : cs.length = 4 := hlen.trans (by kernel_rfl)
  match cs, hlen' with
  | [c0, c1, c2, c3], _ =>
    have hys : ∀ i, i < 4 → ∃ y, ys[i]? = some y := by
      intro i hi
      have : ys.length = 4 := by assumption
      exact ⟨_, List.getElem?_eq_getElem (by omega)⟩
    have f0 : DataW.trod enc Tryd.prog W base (fun _ => true) held m 9 [c0] = ys[0]? := field_at (i := 0) (o := 0) (k := 1) (T := 9) hf (by kernel_rfl) (by kernel_rfl)
    obtain ⟨y0, g0⟩ := hys 0 (by decide)
    rw [g0] at f0
    have f1 : DataW.trod enc Tryd.prog W base (fun _ => true) held m 41 [c1] = ys[1]? := field_at (i := 1) (o := 1) (k := 1) (T := 41) hf (by kernel_rfl) (by kernel_rfl)
    obtain ⟨y1, g1⟩ := hys 1 (by decide)
    rw [g1] at f1
    have f2 : DataW.trod enc Tryd.prog W base (fun _ => true) held m 41 [c2] = ys[2]? := field_at (i := 2) (o := 2) (k := 1) (T := 41) hf (by kernel_rfl) (by kernel_rfl)
    obtain ⟨y2, g2⟩ := hys 2 (by decide)
    rw [g2] at f2
    have f3 : DataW.trod enc Tryd.prog W base (fun _ => true) held m 9 [c3] = ys[3]? := field_at (i := 3) (o := 3) (k := 1) (T := 9) hf (by kernel_rfl) (by kernel_rfl)
    obtain ⟨y3, g3⟩ := hys 3 (by decide)
    rw [g3] at f3
    obtain ⟨z0, e0, _, hz0⟩ := DataW.trod_string Tryd.underlying9 f0
    obtain ⟨A1, n1, q1, hc1, e1⟩ := open_slice1 Tryd.underlying41 f1
    rw [e1] at f1
    obtain ⟨z1, hz1⟩ := open_StF f1
    obtain ⟨A2, n2, q2, hc2, e2⟩ := open_slice1 Tryd.underlying41 f2
    rw [e2] at f2
    obtain ⟨z2, hz2⟩ := open_StF f2
    obtain ⟨z3, e3, _, hz3⟩ := DataW.trod_string Tryd.underlying9 f3
    simp only [List.cons.injEq, and_true] at e0 e1 e2 e3
    subst e0 e1 e2 e3
    exact ⟨⟨z0, z1, z2, z3⟩, ⟨A1, n1, q1, hc1, A2, n2, q2, hc2⟩, rfl, hz1, hz2, hz0, hz3⟩
set_option maxRecDepth 100000 in
/-- An argument that is a slice. -/
theorem open_FnF {A : Option Addr} {n c fuel : Nat} {x : DataW H × List MemPlace} (hf : DataW.trod enc Tryd.prog W base (fun _ => true) held fuel 23 [.slice A n c] = some x) :
    ∃ xs, FnI W W.heap.size A n xs := by
  rcases Go.Deep.open_slice Tryd.underlying23 hf with ⟨h0, _⟩ | ⟨a, len, cap, m, k, D, Pl, hcs, hb, hl, hm, hmm, hx, hi⟩
  · simp at h0
    obtain ⟨rfl, rfl, rfl⟩ := h0
    exact ⟨[], rfl, Nat.zero_le _, fun h => absurd h (by omega)⟩
  · simp only [List.cons.injEq, Value.slice.injEq, and_true] at hcs
    obtain ⟨rfl, rfl, rfl⟩ := hcs
    simp only [if_true] at hmm
    have hC : Tryd.prog.cellsOf 75 = 4 := by kernel_rfl
    have key : ∀ i, i < n → ∃ o : Fn, ∃ l, (∀ j v, (Fn.vs o l)[j]? = some v → W.cell? (a.add (i * 4 + j)) = some v) ∧ FnV W W.heap.size o l := by
      intro i hin
      obtain ⟨cs', hc, ht'⟩ := hi i (by omega)
      rw [hC] at hc
      obtain ⟨o, l, e, ho⟩ := open_FnN ht'
      obtain ⟨_, hcl, hat⟩ := World.cells?_some hc
      refine ⟨o, l, fun j v hj => ?_, ho⟩
      rw [← e] at hj
      have hjl : j < 4 := by have := (List.getElem?_eq_some_iff.1 hj).1; omega
      rw [← Go.Deep.add_add, hat j hjl, hj]
    have hnm : n ≤ maxLen := Nat.le_trans hl hm
    by_cases hn : 0 < n
    · obtain ⟨ab, ao, spot⟩ := a
      obtain ⟨o0, l0, h0, _⟩ := key 0 hn
      have h00 := h0 0 _ rfl
      have hspot : spot = none := by simpa [Addr.add] using World.cell?_spot h00
      subst hspot
      rw [Addr.add_lit] at h00
      obtain ⟨os, hl', hx'⟩ := list_of (α := Fn) (P := fun j o => ∃ l, FnAt W ab (ao + j * 4) o l ∧ FnV W W.heap.size o l) (n := n) fun i hin => by
        obtain ⟨o, l, hc, ho⟩ := key i hin
        have hc' : ∀ j v, (Fn.vs o l)[j]? = some v → W.cell? ⟨ab, ao + i * 4 + j, none⟩ = some v := by
          intro j v hj
          have := hc j v hj
          rw [Addr.add_lit, ← Nat.add_assoc] at this
          exact this
        exact ⟨o, l, ⟨hc' 0 _ rfl, hc' 1 _ rfl, hc' 2 _ rfl, hc' 3 _ rfl⟩, ho⟩
      exact ⟨os, hl', hnm, fun _ => ⟨ab, ao, rfl, World.block_lt_of_cell? W ⟨ab, _, none⟩ h00, hx'⟩⟩
    · exact ⟨[], by simp; omega, hnm, fun h => absurd h hn⟩
end
set_option maxRecDepth 100000 in
/-- An argument. -/
theorem open_Fn {H : Type} {enc : TypeId × Value → H} {W : World} {v : Value} {d : DataW H} {p : List MemPlace} {r : Reach} {b0 : Nat} (hv : Value.okWide Tryd.prog W r b0 75 v) (h : DataW.Trod enc Tryd.prog W 0 (fun _ => true) true 75 v d p) :
    ∃ x l, v = Fn.ag x l ∧ FnV W W.heap.size x l := by
  obtain ⟨cs, rfl, hsz⟩ := Go.WideShapes.okWide_struct Tryd.underlying75 hv
  obtain ⟨fuel, hf⟩ := h
  obtain ⟨x, l, e, ho⟩ := open_FnN hf
  refine ⟨x, l, ?_, ho⟩
  have : cs.toList = Fn.vs x l := e
  rw [show cs = (Fn.vs x l).toArray from by rw [← this]]
  rfl
theorem open_FnS {H : Type} {enc : TypeId × Value → H} {W : World} {A : Option Addr} {n c : Nat} {d : DataW H} {p : List MemPlace} (h : DataW.Trod enc Tryd.prog W 0 (fun _ => true) true 23 (.slice A n c) d p) :
    ∃ xs, FnI W W.heap.size A n xs := by
  obtain ⟨fuel, hf⟩ := h
  exact open_FnF (by simpa [Value.cells] using hf)

/-- What szFunction takes of the bound. -/
def szFn1 (x : Fn) : Nat := x.name_.size + szSt x.params_ + szSt x.locals_ + x.label_.size

set_option maxHeartbeats 2000000 in
set_option maxRecDepth 100000 in
theorem szFunction_any (x : Fn) (l : FnLay) (L : Int) (W : World) (ho : FnV W W.heap.size x l) (hLL : 0 ≤ L) (hL : L ≤ 1048576) :
    Calls Tryd.prog 42 #[x.ag l, .int .i64 L] W (SzL (szFn1 x) L W) := by
  obtain ⟨s, hs⟩ : ∃ s, szFn1 x = s := ⟨_, rfl⟩
  rw [hs]
  unfold szFn1 at hs
  obtain ⟨x0, x1, x2, x3⟩ := x
  obtain ⟨A1, n1, c1, h1, A2, n2, c2, h2⟩ := l
  obtain ⟨k1, k2, k0, k3⟩ := ho
  try unfold FnV at k1 k2 k0 k3
  dsimp only at hs k1 k2 k0 k3
  have HS := Lib.hid hs
  have HL0 := Lib.hid hLL
  have HL1 := Lib.hid hL
  have HK1 := Lib.hid k1
  have HK2 := Lib.hid k2
  unfold maxLen at k0 k3
  have HC := Lib.hid (fun X (e : X = W.alloc (.cells #[.string x0, .slice A1 n1 c1, .slice A2 n2 c2, .string x3] 75)) => (show RW 75 X W.heap.size #[.string x0, .slice A1 n1 c1, .slice A2 n2 c2, .string x3] ∧ Below W.heap.size W X ∧ W.heap.size < X.heap.size from by rw [e]; exact ⟨RW.new _ _ _, below_alloc _ _, lt_alloc _ _⟩))
  clear hs k1 k2
  show Calls Tryd.prog 42 #[.agg #[.string x0, .slice A1 n1 c1, .slice A2 n2 c2, .string x3], .int .i64 L] W _
  by_cases cc0 : (x0.size : Int) ≤ L
  · have C0 := Lib.hid cc0
    clear cc0
    by_cases cc1 : (x0.size : Int) + (szSt x1 : Int) ≤ L
    · have C1 := Lib.hid cc1
      clear cc1
      by_cases cc2 : (x0.size : Int) + (szSt x1 : Int) + (szSt x2 : Int) ≤ L
      · have C2 := Lib.hid cc2
        clear cc2
        by_cases cc3 : (x0.size : Int) + (szSt x1 : Int) + (szSt x2 : Int) + (x3.size : Int) ≤ L
        · have C3 := Lib.hid cc3
          clear cc3
          have d0 : decide (L - (x0.size : Int) < 0) = false := (by have := C0.out; simp; omega)
          go_enter Tryd.func42, Tryd.ntmps42
          go_wp2_with (go_at_call 11; obtain ⟨g0, g1, g2⟩ := HC.out _ rfl; have HQ := szStringS_any A1 n1 c1 x1 (L - (x0.size : Int)) _ (HK1.out.go g1) (by have := C0.out; have := HL0.out; omega) (by have := C0.out; have := HL1.out; omega); refine Calls.mono HQ ?_; clear HQ; intro e w1 h; obtain ⟨z1, rfl, hz1, l1, u1, hb⟩ := h.fits (by have := C0.out; have := C1.out; omega) (by have := C0.out; have := HL1.out; omega); have Z1 := Lib.hid hz1; have d1 : decide (z1 < 0) = false := (by simp; omega); have HR1 := Lib.hid (g0.below hb g2); have HB1 := Lib.hid (g1.trans (hb.mono g1.size)); have HG1 := Lib.hid (Nat.lt_of_lt_of_le g2 hb.size); have q12 : w1.cell? ⟨W.heap.size, 2, none⟩ = some (.slice A2 n2 c2) := HR1.out.cell 2; clear hb hz1 g0 g1 g2 HK1)
          go_wp2_with (go_at_call 11; have HQ := szStringS_any A2 n2 c2 x2 (z1) _ (HK2.out.go HB1.out) (by have := C0.out; have := C1.out; have := Z1.out; have := HL0.out; omega) (by have := C0.out; have := C1.out; have := Z1.out; have := HL1.out; omega); refine Calls.mono HQ ?_; clear HQ; intro e w2 h; obtain ⟨z2, rfl, hz2, l2, u2, hb⟩ := h.fits (by have := C0.out; have := C1.out; have := C2.out; have := Z1.out; omega) (by have := C0.out; have := C1.out; have := Z1.out; have := HL1.out; omega); have Z2 := Lib.hid hz2; have d2 : decide (z2 < 0) = false := (by simp; omega); have HR2 := Lib.hid (HR1.out.below hb HG1.out); have HB2 := Lib.hid (HB1.out.trans (hb.mono HB1.out.size)); have HG2 := Lib.hid (Nat.lt_of_lt_of_le HG1.out hb.size); have q23 : w2.cell? ⟨W.heap.size, 3, none⟩ = some (.string x3) := HR2.out.cell 3; clear hb hz2  HK2; have d3 : decide (z2 - (x3.size : Int) < 0) = false := (by have := C0.out; have := C1.out; have := C2.out; have := C3.out; have := Z1.out; have := Z2.out; simp; omega))
          go_ret
          refine ⟨.inl ⟨by have := C0.out; have := C1.out; have := C2.out; have := C3.out; have := Z1.out; have := Z2.out; have := HS.out; omega, ?_⟩, HB2.out⟩
          have hx : z2 - (x3.size : Int) = L - (s : Int) := by have := C0.out; have := C1.out; have := C2.out; have := C3.out; have := Z1.out; have := Z2.out; have := HS.out; omega
          rw [← hx]
          rfl
        · have C3 := Lib.hid cc3
          clear cc3
          have d0 : decide (L - (x0.size : Int) < 0) = false := (by have := C0.out; simp; omega)
          go_enter Tryd.func42, Tryd.ntmps42
          go_wp2_with (go_at_call 11; obtain ⟨g0, g1, g2⟩ := HC.out _ rfl; have HQ := szStringS_any A1 n1 c1 x1 (L - (x0.size : Int)) _ (HK1.out.go g1) (by have := C0.out; have := HL0.out; omega) (by have := C0.out; have := HL1.out; omega); refine Calls.mono HQ ?_; clear HQ; intro e w1 h; obtain ⟨z1, rfl, hz1, l1, u1, hb⟩ := h.fits (by have := C0.out; have := C1.out; omega) (by have := C0.out; have := HL1.out; omega); have Z1 := Lib.hid hz1; have d1 : decide (z1 < 0) = false := (by simp; omega); have HR1 := Lib.hid (g0.below hb g2); have HB1 := Lib.hid (g1.trans (hb.mono g1.size)); have HG1 := Lib.hid (Nat.lt_of_lt_of_le g2 hb.size); have q12 : w1.cell? ⟨W.heap.size, 2, none⟩ = some (.slice A2 n2 c2) := HR1.out.cell 2; clear hb hz1 g0 g1 g2 HK1)
          go_wp2_with (go_at_call 11; have HQ := szStringS_any A2 n2 c2 x2 (z1) _ (HK2.out.go HB1.out) (by have := C0.out; have := C1.out; have := Z1.out; have := HL0.out; omega) (by have := C0.out; have := C1.out; have := Z1.out; have := HL1.out; omega); refine Calls.mono HQ ?_; clear HQ; intro e w2 h; obtain ⟨z2, rfl, hz2, l2, u2, hb⟩ := h.fits (by have := C0.out; have := C1.out; have := C2.out; have := Z1.out; omega) (by have := C0.out; have := C1.out; have := Z1.out; have := HL1.out; omega); have Z2 := Lib.hid hz2; have d2 : decide (z2 < 0) = false := (by simp; omega); have HR2 := Lib.hid (HR1.out.below hb HG1.out); have HB2 := Lib.hid (HB1.out.trans (hb.mono HB1.out.size)); have HG2 := Lib.hid (Nat.lt_of_lt_of_le HG1.out hb.size); have q23 : w2.cell? ⟨W.heap.size, 3, none⟩ = some (.string x3) := HR2.out.cell 3; clear hb hz2  HK2; have d3 : decide (z2 - (x3.size : Int) < 0) = true := (by have := C0.out; have := C1.out; have := C2.out; have := C3.out; have := Z1.out; have := Z2.out; simp; omega))
          go_ret
          exact ⟨.inr ⟨by have := C0.out; have := C1.out; have := C2.out; have := C3.out; have := Z1.out; have := Z2.out; have := HS.out; omega, rfl⟩, HB2.out⟩
      · have C2 := Lib.hid cc2
        clear cc2
        have d0 : decide (L - (x0.size : Int) < 0) = false := (by have := C0.out; simp; omega)
        go_enter Tryd.func42, Tryd.ntmps42
        go_wp2_with (go_at_call 11; obtain ⟨g0, g1, g2⟩ := HC.out _ rfl; have HQ := szStringS_any A1 n1 c1 x1 (L - (x0.size : Int)) _ (HK1.out.go g1) (by have := C0.out; have := HL0.out; omega) (by have := C0.out; have := HL1.out; omega); refine Calls.mono HQ ?_; clear HQ; intro e w1 h; obtain ⟨z1, rfl, hz1, l1, u1, hb⟩ := h.fits (by have := C0.out; have := C1.out; omega) (by have := C0.out; have := HL1.out; omega); have Z1 := Lib.hid hz1; have d1 : decide (z1 < 0) = false := (by simp; omega); have HR1 := Lib.hid (g0.below hb g2); have HB1 := Lib.hid (g1.trans (hb.mono g1.size)); have HG1 := Lib.hid (Nat.lt_of_lt_of_le g2 hb.size); have q12 : w1.cell? ⟨W.heap.size, 2, none⟩ = some (.slice A2 n2 c2) := HR1.out.cell 2; clear hb hz1 g0 g1 g2 HK1)
        go_wp2_with (go_at_call 11; have HQ := szStringS_any A2 n2 c2 x2 (z1) _ (HK2.out.go HB1.out) (by have := C0.out; have := C1.out; have := Z1.out; have := HL0.out; omega) (by have := C0.out; have := C1.out; have := Z1.out; have := HL1.out; omega); refine Calls.mono HQ ?_; clear HQ; intro e w2 h; obtain ⟨rfl, hb⟩ := h.long (by have := C0.out; have := C1.out; have := C2.out; have := Z1.out; omega); have HR2 := Lib.hid (HR1.out.below hb HG1.out); have HB2 := Lib.hid (HB1.out.trans (hb.mono HB1.out.size)); have HG2 := Lib.hid (Nat.lt_of_lt_of_le HG1.out hb.size); clear hb  HK2)
        go_ret
        exact ⟨.inr ⟨by have := C0.out; have := C1.out; have := C2.out; have := Z1.out; have := HS.out; omega, rfl⟩, HB2.out⟩
    · have C1 := Lib.hid cc1
      clear cc1
      have d0 : decide (L - (x0.size : Int) < 0) = false := (by have := C0.out; simp; omega)
      go_enter Tryd.func42, Tryd.ntmps42
      go_wp2_with (go_at_call 11; obtain ⟨g0, g1, g2⟩ := HC.out _ rfl; have HQ := szStringS_any A1 n1 c1 x1 (L - (x0.size : Int)) _ (HK1.out.go g1) (by have := C0.out; have := HL0.out; omega) (by have := C0.out; have := HL1.out; omega); refine Calls.mono HQ ?_; clear HQ; intro e w1 h; obtain ⟨rfl, hb⟩ := h.long (by have := C0.out; have := C1.out; omega); have HR1 := Lib.hid (g0.below hb g2); have HB1 := Lib.hid (g1.trans (hb.mono g1.size)); have HG1 := Lib.hid (Nat.lt_of_lt_of_le g2 hb.size); clear hb g0 g1 g2 HK1)
      go_ret
      exact ⟨.inr ⟨by have := C0.out; have := C1.out; have := HS.out; omega, rfl⟩, HB1.out⟩
  · have C0 := Lib.hid cc0
    clear cc0
    have d0 : decide (L - (x0.size : Int) < 0) = true := (by have := C0.out; simp; omega)
    go_enter Tryd.func42, Tryd.ntmps42
    go_wp2_with fail
    go_ret
    exact ⟨.inr ⟨by have := C0.out; have := HS.out; omega, rfl⟩, (below_alloc _ _)⟩

/-- Those of the first k. -/
def sumFn (xs : List Fn) : Nat → Nat
  | 0 => 0
  | k + 1 => sumFn xs k + ((xs[k]?.map szFn1).getD 0)
theorem sumFn_next {xs : List Fn} {k : Nat} {x : Fn} (h : xs[k]? = some x) : sumFn xs (k + 1) = sumFn xs k + szFn1 x := by
  rw [sumFn, h]
  rfl
theorem sumFn_mono {xs : List Fn} {j : Nat} : ∀ {k : Nat}, j ≤ k → sumFn xs j ≤ sumFn xs k
  | 0, h => by obtain rfl : j = 0 := by omega
               exact Nat.le_refl _
  | k + 1, h => by
    by_cases e : j = k + 1
    · rw [e]; exact Nat.le_refl _
    · have := sumFn_mono (xs := xs) (show j ≤ k by omega)
      rw [sumFn]
      omega
def szFn (xs : List Fn) : Nat := xs.length + sumFn xs xs.length

set_option maxHeartbeats 1000000 in
set_option maxRecDepth 100000 in
theorem szFunctionS_any (A : Option Addr) (n c : Nat) (xs : List Fn) (L : Int) (W : World) (hr : FnI W W.heap.size A n xs) (h0 : 0 ≤ L) (hL : L ≤ 1048576) :
    Calls Tryd.prog 22 #[.slice A n c, .int .i64 L] W (SzL (szFn xs) L W) := by
  have HR := Lib.hid hr
  have hn := hr.2.1
  have hxn := hr.1
  clear hr
  obtain ⟨s, hs⟩ : ∃ s, szFn xs = s := ⟨_, rfl⟩
  have HS : Hid (s = n + sumFn xs n) := by show _ = _; rw [← hs, szFn, hxn]
  rw [hs]
  clear hs hxn
  unfold maxLen at hn
  by_cases hbig : L < (n : Int)
  · have HB : Hid (L < (s : Int)) := by show _ < _; have := HS.out; omega
    have h2 : (n : Int) ≤ 9223372036854775807 := by omega
    have d0 : decide (L - n < 0) = true := by simp; omega
    go_enter Tryd.func22, Tryd.ntmps22
    go_wp2_with fail
    go_ret
    exact ⟨.inr ⟨HB.out, rfl⟩, Below.refl _ _⟩
  · have h1 : (n : Int) ≤ L := by omega
    have hn' : n ≤ 1048576 := by omega
    have d0 : decide (L - n < 0) = false := by simp; omega
    clear hbig
    go_enter Tryd.func22, Tryd.ntmps22
    go_wp2_with fail
    go_loopw [1, 5] (fun q i wr => ∃ k : Nat, ∃ z : Int, k ≤ n ∧ i = .int .i64 k ∧ q = .int .i64 z ∧ 0 ≤ z ∧ z ≤ 1048576 ∧ Hid (z = L - (n : Int) - (sumFn xs k : Int)) ∧ Hid (Below W.heap.size W wr)) (fun _ i _ => n - (intOf i).toNat)
    case atStart => exact ⟨0, _, Nat.zero_le _, rfl, rfl, by omega, by omega, by show _ = _; simp [sumFn], Below.refl _ _⟩
    case round =>
      obtain ⟨k, z, hk, rfl, rfl, hz0, hz1, HZ, HW⟩ := hrel
      by_cases hlt : k < n
      · obtain ⟨b, off, x, l, rfl, hg, hx, ⟨q0, q1, q2, q3⟩, hov⟩ := (HR.out.below HW.out).at_ hlt
        have HO := Lib.hid (hov.more HW.out.size)
        have HX := Lib.hid hx
        have b0 : (0 : Int) ≤ (k : Int) := by omega
        have b1 : (k : Int) < (n : Int) := by omega
        have HZ0 : Hid (0 ≤ z) := hz0
        have HZ1 : Hid (z ≤ 1048576) := hz1
        clear hx hov hg
        by_cases hf : (szFn1 x : Int) ≤ z
        · have HF := Lib.hid hf
          have HN : Hid (sumFn xs (k + 1) = sumFn xs k + szFn1 x) := sumFn_next HX.out
          clear hf
          go_wp2_with (go_at_call 42; refine (szFunction_any x l _ _ HO.out HZ0.out HZ1.out).mono ?_; intro e w1 h; obtain ⟨z1, rfl, hz2, l1, u1, hb⟩ := h.fits HF.out HZ1.out; have Z1 := Lib.hid hz2; have dz : decide (z1 < 0) = false := (by simp; omega); have HW1 : Hid (Below W.heap.size W w1) := HW.out.trans (hb.mono HW.out.size); clear hb hz2)
          go_roundw
          case rel => exact ⟨k + 1, _, by omega, by go_num, rfl, by omega, by omega, by show _ = _; rw [HN.out, Z1.out, HZ.out]; omega, HW1⟩
          case measure => simp [intOf]; omega
        · have HF := Lib.hid hf
          have HBIG : Hid (L < (s : Int)) := by
            show _ < _
            have h1 := sumFn_mono (xs := xs) (j := k + 1) (k := n) (by omega)
            rw [sumFn_next HX.out] at h1
            have h2 := HZ.out
            have h3 := HS.out
            omega
          clear hf
          go_wp2_with (go_at_call 42; refine (szFunction_any x l _ _ HO.out HZ0.out HZ1.out).mono ?_; intro e w1 h; obtain ⟨rfl, hb⟩ := h.long HF.out; have HW1 : Hid (Below W.heap.size W w1) := HW.out.trans (hb.mono HW.out.size); clear hb)
          go_ret
          exact ⟨.inr ⟨HBIG.out, rfl⟩, HW1.out⟩
      · have hkn : k = n := by omega
        have HE : Hid ((s : Int) ≤ L ∧ z = L - (s : Int)) := by
          have h := HZ.out
          have h3 := HS.out
          rw [hkn] at h
          exact ⟨by omega, by omega⟩
        go_wp2_with fail
        go_ret
        exact ⟨.inl ⟨HE.out.1, by rw [HE.out.2]; rfl⟩, HW.out⟩
/-- No list is too long. -/
def FnSmall (x : Fn) : Prop := x.params_.length ≤ 1048576 ∧ x.locals_.length ≤ 1048576
theorem small_Fn1 {x : Fn} (h : (szFn1 x : Int) ≤ 1048576) : FnSmall x := by
  unfold szFn1 at h
  unfold FnSmall
  exact ⟨(by unfold szSt at h; omega), (by unfold szSt at h; omega)⟩
theorem small_Fn {xs : List Fn} (h : (szFn xs : Int) ≤ 1048576) : (∀ (j : Nat) (x : Fn), xs[j]? = some x → FnSmall x) ∧ xs.length ≤ 1048576 := by
  unfold szFn at h
  refine ⟨fun j x hx => small_Fn1 ?_, by omega⟩
  have hl := (List.getElem?_eq_some_iff.1 hx).1
  have h1 := sumFn_mono (xs := xs) (j := j + 1) (k := xs.length) (by omega)
  rw [sumFn_next hx] at h1
  omega
end Go.Proofs.YtflhjcdabbomiaaDoor

namespace Go.Proofs.YtflhjcdabbomiaaDoor
open Go Go.RowKit

structure Rt where
  name_ : ByteArray
  fields_ : List St
/-- Where its lists lie. -/
structure RtLay where
  A1 : Option Addr
  n1 : Nat
  c1 : Nat
  h1 : n1 ≤ c1
/-- As one value. -/
abbrev Rt.ag (x : Rt) (l : RtLay) : Value := .agg #[.string x.name_, .slice l.A1 l.n1 l.c1]
def Rt.vs (x : Rt) (l : RtLay) : List Value := [.string x.name_, .slice l.A1 l.n1 l.c1]
/-- Its lists lie below B. -/
def RtV (w : World) (B : Nat) (x : Rt) (l : RtLay) : Prop := StI w B l.A1 l.n1 x.fields_ ∧ x.name_.size ≤ maxLen
theorem RtV.below {w w' : World} {B : Nat} {x : Rt} {l : RtLay} (h : RtV w B x l) (hb : Below B w w') : RtV w' B x l := by
  obtain ⟨h0, h1⟩ := h
  exact ⟨h0.below hb, h1⟩
theorem RtV.more {w : World} {B B' : Nat} {x : Rt} {l : RtLay} (h : RtV w B x l) (hB : B ≤ B') : RtV w B' x l := by
  obtain ⟨h0, h1⟩ := h
  exact ⟨h0.more hB, h1⟩
theorem RtV.go {W w : World} {x : Rt} {l : RtLay} (h : RtV W W.heap.size x l) (hb : Below W.heap.size W w) : RtV w w.heap.size x l := (h.below hb).more hb.size
theorem RtV.alloc {W : World} {x : Rt} {l : RtLay} (h : RtV W W.heap.size x l) (o : Obj) : RtV (W.alloc o) (W.alloc o).heap.size x l := h.go (below_alloc W o)
/-- Its cells from p on of block b. -/
def RtAt (w : World) (b p : Nat) (x : Rt) (l : RtLay) : Prop := w.cell? ⟨b, p, none⟩ = some (.string x.name_) ∧ w.cell? ⟨b, p + 1, none⟩ = some (.slice l.A1 l.n1 l.c1)
theorem RtAt.below {w w' : World} {b p B : Nat} {x : Rt} {l : RtLay} (h : RtAt w b p x l) (hb : Below B w w') (hg : b < B) : RtAt w' b p x l := by
  obtain ⟨h0, h1⟩ := h
  exact ⟨(hb.cell (p := ⟨b, p, none⟩) hg).trans h0, (hb.cell (p := ⟨b, p + 1, none⟩) hg).trans h1⟩
theorem RtAt.range {w : World} {b p : Nat} {x : Rt} {l : RtLay} (h : RtAt w b p x l) : w.rangeAt b p (x.vs l) := by
  obtain ⟨h0, h1⟩ := h
  intro j v hj
  match j, hj with
  | 0, hj => cases hj; exact h0
  | 1, hj => cases hj; exact h1
  | j + 2, hj => simp [Rt.vs] at hj
/-- A slice of them that lies below B, with their lists. -/
def RtI (w : World) (B : Nat) (A : Option Addr) (n : Nat) (xs : List Rt) : Prop :=
  xs.length = n ∧ n ≤ maxLen ∧ (0 < n → ∃ b off, A = some ⟨b, off, none⟩ ∧ b < B ∧ ∀ (j : Nat) (x : Rt), xs[j]? = some x → ∃ l, RtAt w b (off + j * 2) x l ∧ RtV w B x l)
theorem RtI.below {w w' : World} {B n : Nat} {A : Option Addr} {xs : List Rt} (h : RtI w B A n xs) (hb : Below B w w') : RtI w' B A n xs :=
  ⟨h.1, h.2.1, fun hn => by
    obtain ⟨b, off, e, hg, hc⟩ := h.2.2 hn
    refine ⟨b, off, e, hg, fun j x hx => ?_⟩
    obtain ⟨l, h1, h2⟩ := hc j x hx
    exact ⟨l, h1.below hb hg, h2.below hb⟩⟩
theorem RtI.more {w : World} {B B' n : Nat} {A : Option Addr} {xs : List Rt} (h : RtI w B A n xs) (hB : B ≤ B') : RtI w B' A n xs :=
  ⟨h.1, h.2.1, fun hn => by
    obtain ⟨b, off, e, hg, hc⟩ := h.2.2 hn
    refine ⟨b, off, e, by omega, fun j x hx => ?_⟩
    obtain ⟨l, h1, h2⟩ := hc j x hx
    exact ⟨l, h1, h2.more hB⟩⟩
theorem RtI.at_ {w : World} {B n k : Nat} {A : Option Addr} {xs : List Rt} (h : RtI w B A n xs) (hk : k < n) : ∃ b off x l, A = some ⟨b, off, none⟩ ∧ b < B ∧ xs[k]? = some x ∧ RtAt w b (off + k * 2) x l ∧ RtV w B x l := by
  obtain ⟨b, off, e, hg, hc⟩ := h.2.2 (by omega)
  have hl : k < xs.length := by rw [h.1]; exact hk
  obtain ⟨l, h1, h2⟩ := hc k _ (List.getElem?_eq_getElem hl)
  exact ⟨b, off, xs[k], l, e, hg, List.getElem?_eq_getElem hl, h1, h2⟩
theorem RtI.go {W w : World} {A : Option Addr} {n : Nat} {xs : List Rt} (h : RtI W W.heap.size A n xs) (hb : Below W.heap.size W w) : RtI w w.heap.size A n xs := (h.below hb).more hb.size
theorem RtI.alloc {W : World} {A : Option Addr} {n : Nat} {xs : List Rt} (h : RtI W W.heap.size A n xs) (o : Obj) : RtI (W.alloc o) (W.alloc o).heap.size A n xs := h.go (below_alloc W o)

section
variable {H : Type} {enc : TypeId × Value → H} {W : World} {base : Nat} {held : Bool}
set_option maxRecDepth 100000 in
/-- Its cells, each with its own reading. -/
theorem open_RtN {fuel : Nat} {cs : List Value} {x : DataW H × List MemPlace} (h : DataW.trod enc Tryd.prog W base (fun _ => true) held fuel 78 cs = some x) :
    ∃ x l, cs = Rt.vs x l ∧ RtV W W.heap.size x l := by
  obtain ⟨ys, m, hm, _, hlen, _, hf⟩ := DataW.trod_struct Tryd.underlying78 h
  have hlen' : cs.length = 2 := hlen.trans (by kernel_rfl)
  match cs, hlen' with
  | [c0, c1], _ =>
    have hys : ∀ i, i < 2 → ∃ y, ys[i]? = some y := by
      intro i hi
      have : ys.length = 2 := by assumption
      exact ⟨_, List.getElem?_eq_getElem (by omega)⟩
    have f0 : DataW.trod enc Tryd.prog W base (fun _ => true) held m 9 [c0] = ys[0]? := field_at (i := 0) (o := 0) (k := 1) (T := 9) hf (by kernel_rfl) (by kernel_rfl)
    obtain ⟨y0, g0⟩ := hys 0 (by decide)
    rw [g0] at f0
    have f1 : DataW.trod enc Tryd.prog W base (fun _ => true) held m 41 [c1] = ys[1]? := field_at (i := 1) (o := 1) (k := 1) (T := 41) hf (by kernel_rfl) (by kernel_rfl)
    obtain ⟨y1, g1⟩ := hys 1 (by decide)
    rw [g1] at f1
    obtain ⟨z0, e0, _, hz0⟩ := DataW.trod_string Tryd.underlying9 f0
    obtain ⟨A1, n1, q1, hc1, e1⟩ := open_slice1 Tryd.underlying41 f1
    rw [e1] at f1
    obtain ⟨z1, hz1⟩ := open_StF f1
    simp only [List.cons.injEq, and_true] at e0 e1
    subst e0 e1
    exact ⟨⟨z0, z1⟩, ⟨A1, n1, q1, hc1⟩, rfl, hz1, hz0⟩
set_option maxRecDepth 100000 in
/-- An argument that is a slice. -/
theorem open_RtF {A : Option Addr} {n c fuel : Nat} {x : DataW H × List MemPlace} (hf : DataW.trod enc Tryd.prog W base (fun _ => true) held fuel 24 [.slice A n c] = some x) :
    ∃ xs, RtI W W.heap.size A n xs := by
  rcases Go.Deep.open_slice Tryd.underlying24 hf with ⟨h0, _⟩ | ⟨a, len, cap, m, k, D, Pl, hcs, hb, hl, hm, hmm, hx, hi⟩
  · simp at h0
    obtain ⟨rfl, rfl, rfl⟩ := h0
    exact ⟨[], rfl, Nat.zero_le _, fun h => absurd h (by omega)⟩
  · simp only [List.cons.injEq, Value.slice.injEq, and_true] at hcs
    obtain ⟨rfl, rfl, rfl⟩ := hcs
    simp only [if_true] at hmm
    have hC : Tryd.prog.cellsOf 78 = 2 := by kernel_rfl
    have key : ∀ i, i < n → ∃ o : Rt, ∃ l, (∀ j v, (Rt.vs o l)[j]? = some v → W.cell? (a.add (i * 2 + j)) = some v) ∧ RtV W W.heap.size o l := by
      intro i hin
      obtain ⟨cs', hc, ht'⟩ := hi i (by omega)
      rw [hC] at hc
      obtain ⟨o, l, e, ho⟩ := open_RtN ht'
      obtain ⟨_, hcl, hat⟩ := World.cells?_some hc
      refine ⟨o, l, fun j v hj => ?_, ho⟩
      rw [← e] at hj
      have hjl : j < 2 := by have := (List.getElem?_eq_some_iff.1 hj).1; omega
      rw [← Go.Deep.add_add, hat j hjl, hj]
    have hnm : n ≤ maxLen := Nat.le_trans hl hm
    by_cases hn : 0 < n
    · obtain ⟨ab, ao, spot⟩ := a
      obtain ⟨o0, l0, h0, _⟩ := key 0 hn
      have h00 := h0 0 _ rfl
      have hspot : spot = none := by simpa [Addr.add] using World.cell?_spot h00
      subst hspot
      rw [Addr.add_lit] at h00
      obtain ⟨os, hl', hx'⟩ := list_of (α := Rt) (P := fun j o => ∃ l, RtAt W ab (ao + j * 2) o l ∧ RtV W W.heap.size o l) (n := n) fun i hin => by
        obtain ⟨o, l, hc, ho⟩ := key i hin
        have hc' : ∀ j v, (Rt.vs o l)[j]? = some v → W.cell? ⟨ab, ao + i * 2 + j, none⟩ = some v := by
          intro j v hj
          have := hc j v hj
          rw [Addr.add_lit, ← Nat.add_assoc] at this
          exact this
        exact ⟨o, l, ⟨hc' 0 _ rfl, hc' 1 _ rfl⟩, ho⟩
      exact ⟨os, hl', hnm, fun _ => ⟨ab, ao, rfl, World.block_lt_of_cell? W ⟨ab, _, none⟩ h00, hx'⟩⟩
    · exact ⟨[], by simp; omega, hnm, fun h => absurd h hn⟩
end
set_option maxRecDepth 100000 in
/-- An argument. -/
theorem open_Rt {H : Type} {enc : TypeId × Value → H} {W : World} {v : Value} {d : DataW H} {p : List MemPlace} {r : Reach} {b0 : Nat} (hv : Value.okWide Tryd.prog W r b0 78 v) (h : DataW.Trod enc Tryd.prog W 0 (fun _ => true) true 78 v d p) :
    ∃ x l, v = Rt.ag x l ∧ RtV W W.heap.size x l := by
  obtain ⟨cs, rfl, hsz⟩ := Go.WideShapes.okWide_struct Tryd.underlying78 hv
  obtain ⟨fuel, hf⟩ := h
  obtain ⟨x, l, e, ho⟩ := open_RtN hf
  refine ⟨x, l, ?_, ho⟩
  have : cs.toList = Rt.vs x l := e
  rw [show cs = (Rt.vs x l).toArray from by rw [← this]]
  rfl
theorem open_RtS {H : Type} {enc : TypeId × Value → H} {W : World} {A : Option Addr} {n c : Nat} {d : DataW H} {p : List MemPlace} (h : DataW.Trod enc Tryd.prog W 0 (fun _ => true) true 24 (.slice A n c) d p) :
    ∃ xs, RtI W W.heap.size A n xs := by
  obtain ⟨fuel, hf⟩ := h
  exact open_RtF (by simpa [Value.cells] using hf)

/-- What szRecordType takes of the bound. -/
def szRt1 (x : Rt) : Nat := x.name_.size + szSt x.fields_

set_option maxHeartbeats 2000000 in
set_option maxRecDepth 100000 in
theorem szRecordType_any (x : Rt) (l : RtLay) (L : Int) (W : World) (ho : RtV W W.heap.size x l) (hLL : 0 ≤ L) (hL : L ≤ 1048576) :
    Calls Tryd.prog 43 #[x.ag l, .int .i64 L] W (SzL (szRt1 x) L W) := by
  obtain ⟨s, hs⟩ : ∃ s, szRt1 x = s := ⟨_, rfl⟩
  rw [hs]
  unfold szRt1 at hs
  obtain ⟨x0, x1⟩ := x
  obtain ⟨A1, n1, c1, h1⟩ := l
  obtain ⟨k1, k0⟩ := ho
  try unfold RtV at k1 k0
  dsimp only at hs k1 k0
  have HS := Lib.hid hs
  have HL0 := Lib.hid hLL
  have HL1 := Lib.hid hL
  have HK1 := Lib.hid k1
  unfold maxLen at k0
  have HC := Lib.hid (fun X (e : X = W.alloc (.cells #[.string x0, .slice A1 n1 c1] 78)) => (show RW 78 X W.heap.size #[.string x0, .slice A1 n1 c1] ∧ Below W.heap.size W X ∧ W.heap.size < X.heap.size from by rw [e]; exact ⟨RW.new _ _ _, below_alloc _ _, lt_alloc _ _⟩))
  clear hs k1
  show Calls Tryd.prog 43 #[.agg #[.string x0, .slice A1 n1 c1], .int .i64 L] W _
  by_cases cc0 : (x0.size : Int) ≤ L
  · have C0 := Lib.hid cc0
    clear cc0
    by_cases cc1 : (x0.size : Int) + (szSt x1 : Int) ≤ L
    · have C1 := Lib.hid cc1
      clear cc1
      have d0 : decide (L - (x0.size : Int) < 0) = false := (by have := C0.out; simp; omega)
      go_enter Tryd.func43, Tryd.ntmps43
      go_wp2_with (go_at_call 11; obtain ⟨g0, g1, g2⟩ := HC.out _ rfl; have HQ := szStringS_any A1 n1 c1 x1 (L - (x0.size : Int)) _ (HK1.out.go g1) (by have := C0.out; have := HL0.out; omega) (by have := C0.out; have := HL1.out; omega); refine Calls.mono HQ ?_; clear HQ; intro e w1 h; obtain ⟨z1, rfl, hz1, l1, u1, hb⟩ := h.fits (by have := C0.out; have := C1.out; omega) (by have := C0.out; have := HL1.out; omega); have Z1 := Lib.hid hz1; have d1 : decide (z1 < 0) = false := (by simp; omega); have HR1 := Lib.hid (g0.below hb g2); have HB1 := Lib.hid (g1.trans (hb.mono g1.size)); have HG1 := Lib.hid (Nat.lt_of_lt_of_le g2 hb.size); clear hb hz1 g0 g1 g2 HK1)
      go_ret
      refine ⟨.inl ⟨by have := C0.out; have := C1.out; have := Z1.out; have := HS.out; omega, ?_⟩, HB1.out⟩
      have hx : z1 = L - (s : Int) := by have := C0.out; have := C1.out; have := Z1.out; have := HS.out; omega
      rw [← hx]
      rfl
    · have C1 := Lib.hid cc1
      clear cc1
      have d0 : decide (L - (x0.size : Int) < 0) = false := (by have := C0.out; simp; omega)
      go_enter Tryd.func43, Tryd.ntmps43
      go_wp2_with (go_at_call 11; obtain ⟨g0, g1, g2⟩ := HC.out _ rfl; have HQ := szStringS_any A1 n1 c1 x1 (L - (x0.size : Int)) _ (HK1.out.go g1) (by have := C0.out; have := HL0.out; omega) (by have := C0.out; have := HL1.out; omega); refine Calls.mono HQ ?_; clear HQ; intro e w1 h; obtain ⟨rfl, hb⟩ := h.long (by have := C0.out; have := C1.out; omega); have HR1 := Lib.hid (g0.below hb g2); have HB1 := Lib.hid (g1.trans (hb.mono g1.size)); have HG1 := Lib.hid (Nat.lt_of_lt_of_le g2 hb.size); clear hb g0 g1 g2 HK1)
      go_ret
      exact ⟨.inr ⟨by have := C0.out; have := C1.out; have := HS.out; omega, rfl⟩, HB1.out⟩
  · have C0 := Lib.hid cc0
    clear cc0
    have d0 : decide (L - (x0.size : Int) < 0) = true := (by have := C0.out; simp; omega)
    go_enter Tryd.func43, Tryd.ntmps43
    go_wp2_with fail
    go_ret
    exact ⟨.inr ⟨by have := C0.out; have := HS.out; omega, rfl⟩, (below_alloc _ _)⟩

/-- Those of the first k. -/
def sumRt (xs : List Rt) : Nat → Nat
  | 0 => 0
  | k + 1 => sumRt xs k + ((xs[k]?.map szRt1).getD 0)
theorem sumRt_next {xs : List Rt} {k : Nat} {x : Rt} (h : xs[k]? = some x) : sumRt xs (k + 1) = sumRt xs k + szRt1 x := by
  rw [sumRt, h]
  rfl
theorem sumRt_mono {xs : List Rt} {j : Nat} : ∀ {k : Nat}, j ≤ k → sumRt xs j ≤ sumRt xs k
  | 0, h => by obtain rfl : j = 0 := by omega
               exact Nat.le_refl _
  | k + 1, h => by
    by_cases e : j = k + 1
    · rw [e]; exact Nat.le_refl _
    · have := sumRt_mono (xs := xs) (show j ≤ k by omega)
      rw [sumRt]
      omega
def szRt (xs : List Rt) : Nat := xs.length + sumRt xs xs.length

set_option maxHeartbeats 1000000 in
set_option maxRecDepth 100000 in
theorem szRecordTypeS_any (A : Option Addr) (n c : Nat) (xs : List Rt) (L : Int) (W : World) (hr : RtI W W.heap.size A n xs) (h0 : 0 ≤ L) (hL : L ≤ 1048576) :
    Calls Tryd.prog 23 #[.slice A n c, .int .i64 L] W (SzL (szRt xs) L W) := by
  have HR := Lib.hid hr
  have hn := hr.2.1
  have hxn := hr.1
  clear hr
  obtain ⟨s, hs⟩ : ∃ s, szRt xs = s := ⟨_, rfl⟩
  have HS : Hid (s = n + sumRt xs n) := by show _ = _; rw [← hs, szRt, hxn]
  rw [hs]
  clear hs hxn
  unfold maxLen at hn
  by_cases hbig : L < (n : Int)
  · have HB : Hid (L < (s : Int)) := by show _ < _; have := HS.out; omega
    have h2 : (n : Int) ≤ 9223372036854775807 := by omega
    have d0 : decide (L - n < 0) = true := by simp; omega
    go_enter Tryd.func23, Tryd.ntmps23
    go_wp2_with fail
    go_ret
    exact ⟨.inr ⟨HB.out, rfl⟩, Below.refl _ _⟩
  · have h1 : (n : Int) ≤ L := by omega
    have hn' : n ≤ 1048576 := by omega
    have d0 : decide (L - n < 0) = false := by simp; omega
    clear hbig
    go_enter Tryd.func23, Tryd.ntmps23
    go_wp2_with fail
    go_loopw [1, 5] (fun q i wr => ∃ k : Nat, ∃ z : Int, k ≤ n ∧ i = .int .i64 k ∧ q = .int .i64 z ∧ 0 ≤ z ∧ z ≤ 1048576 ∧ Hid (z = L - (n : Int) - (sumRt xs k : Int)) ∧ Hid (Below W.heap.size W wr)) (fun _ i _ => n - (intOf i).toNat)
    case atStart => exact ⟨0, _, Nat.zero_le _, rfl, rfl, by omega, by omega, by show _ = _; simp [sumRt], Below.refl _ _⟩
    case round =>
      obtain ⟨k, z, hk, rfl, rfl, hz0, hz1, HZ, HW⟩ := hrel
      by_cases hlt : k < n
      · obtain ⟨b, off, x, l, rfl, hg, hx, ⟨q0, q1⟩, hov⟩ := (HR.out.below HW.out).at_ hlt
        have HO := Lib.hid (hov.more HW.out.size)
        have HX := Lib.hid hx
        have b0 : (0 : Int) ≤ (k : Int) := by omega
        have b1 : (k : Int) < (n : Int) := by omega
        have HZ0 : Hid (0 ≤ z) := hz0
        have HZ1 : Hid (z ≤ 1048576) := hz1
        clear hx hov hg
        by_cases hf : (szRt1 x : Int) ≤ z
        · have HF := Lib.hid hf
          have HN : Hid (sumRt xs (k + 1) = sumRt xs k + szRt1 x) := sumRt_next HX.out
          clear hf
          go_wp2_with (go_at_call 43; refine (szRecordType_any x l _ _ HO.out HZ0.out HZ1.out).mono ?_; intro e w1 h; obtain ⟨z1, rfl, hz2, l1, u1, hb⟩ := h.fits HF.out HZ1.out; have Z1 := Lib.hid hz2; have dz : decide (z1 < 0) = false := (by simp; omega); have HW1 : Hid (Below W.heap.size W w1) := HW.out.trans (hb.mono HW.out.size); clear hb hz2)
          go_roundw
          case rel => exact ⟨k + 1, _, by omega, by go_num, rfl, by omega, by omega, by show _ = _; rw [HN.out, Z1.out, HZ.out]; omega, HW1⟩
          case measure => simp [intOf]; omega
        · have HF := Lib.hid hf
          have HBIG : Hid (L < (s : Int)) := by
            show _ < _
            have h1 := sumRt_mono (xs := xs) (j := k + 1) (k := n) (by omega)
            rw [sumRt_next HX.out] at h1
            have h2 := HZ.out
            have h3 := HS.out
            omega
          clear hf
          go_wp2_with (go_at_call 43; refine (szRecordType_any x l _ _ HO.out HZ0.out HZ1.out).mono ?_; intro e w1 h; obtain ⟨rfl, hb⟩ := h.long HF.out; have HW1 : Hid (Below W.heap.size W w1) := HW.out.trans (hb.mono HW.out.size); clear hb)
          go_ret
          exact ⟨.inr ⟨HBIG.out, rfl⟩, HW1.out⟩
      · have hkn : k = n := by omega
        have HE : Hid ((s : Int) ≤ L ∧ z = L - (s : Int)) := by
          have h := HZ.out
          have h3 := HS.out
          rw [hkn] at h
          exact ⟨by omega, by omega⟩
        go_wp2_with fail
        go_ret
        exact ⟨.inl ⟨HE.out.1, by rw [HE.out.2]; rfl⟩, HW.out⟩
/-- No list is too long. -/
def RtSmall (x : Rt) : Prop := x.fields_.length ≤ 1048576
theorem small_Rt1 {x : Rt} (h : (szRt1 x : Int) ≤ 1048576) : RtSmall x := by
  unfold szRt1 at h
  unfold RtSmall
  exact (by unfold szSt at h; omega)
theorem small_Rt {xs : List Rt} (h : (szRt xs : Int) ≤ 1048576) : (∀ (j : Nat) (x : Rt), xs[j]? = some x → RtSmall x) ∧ xs.length ≤ 1048576 := by
  unfold szRt at h
  refine ⟨fun j x hx => small_Rt1 ?_, by omega⟩
  have hl := (List.getElem?_eq_some_iff.1 hx).1
  have h1 := sumRt_mono (xs := xs) (j := j + 1) (k := xs.length) (by omega)
  rw [sumRt_next hx] at h1
  omega
end Go.Proofs.YtflhjcdabbomiaaDoor

namespace Go.Proofs.YtflhjcdabbomiaaDoor
open Go Go.RowKit

theorem one_newS (W : World) (T : TypeId) (c : Array Value) (X : World) (e : X = W.alloc (.cells c T)) : RW T X W.heap.size c ∧ Below W.heap.size W X ∧ W.heap.size < X.heap.size := by
  subst e
  exact ⟨RW.new _ _ _, below_alloc _ _, lt_alloc _ _⟩
theorem classes_up {W w : World} (h : Classes W) (hb : Below W.heap.size W w) : Classes w := h.below hb (heap_pos (h.at_ 0 (by decide)))
def bdOk (x : Bd) : Bool := isNameB x.name_ && (validV x.kind_ x.num_ x.text_ x.ref_ && !(isNullV x.kind_ x.num_ x.text_ x.ref_))
noncomputable def rtOk (x : Rt) : Bool := isNameB x.name_ && (decide (1 ≤ x.fields_.length ∧ x.fields_.length ≤ 6) && tt (OkNames x.fields_))
noncomputable def fnOk (x : Fn) : Bool := isNameB x.name_ && (isNameB x.label_ && (decide (x.params_.length ≤ 6) && (decide (x.locals_.length ≤ 6) && tt (OkNames (x.params_ ++ x.locals_)))))

theorem keyBd_any (x : Bd) (W : World) : Calls Tryd.prog 95 #[x.ag] W fun e w' => e = .returned (.string x.name_) ∧ Below W.heap.size W w' := by
  obtain ⟨x0, x1, x2, x3, x4⟩ := x
  show Calls Tryd.prog 95 #[.agg #[.string x0, .int .i64 x1, .int .i64 x2, .string x3, .int .i64 x4]] W _
  go_enter Tryd.func95, Tryd.ntmps95
  go_wp2_with fail
  go_ret
  exact ⟨rfl, below_alloc _ _⟩
theorem keyFn_any (x : Fn) (l : FnLay) (W : World) : Calls Tryd.prog 104 #[x.ag l] W fun e w' => e = .returned (.string x.name_) ∧ Below W.heap.size W w' := by
  obtain ⟨x0, x1, x2, x3⟩ := x
  obtain ⟨A1, n1, c1, h1, A2, n2, c2, h2⟩ := l
  show Calls Tryd.prog 104 #[.agg #[.string x0, .slice A1 n1 c1, .slice A2 n2 c2, .string x3]] W _
  go_enter Tryd.func104, Tryd.ntmps104
  go_wp2_with fail
  go_ret
  exact ⟨rfl, below_alloc _ _⟩
theorem keyRt_any (x : Rt) (l : RtLay) (W : World) : Calls Tryd.prog 113 #[x.ag l] W fun e w' => e = .returned (.string x.name_) ∧ Below W.heap.size W w' := by
  obtain ⟨x0, x1⟩ := x
  obtain ⟨A1, n1, c1, h1⟩ := l
  show Calls Tryd.prog 113 #[.agg #[.string x0, .slice A1 n1 c1]] W _
  go_enter Tryd.func113, Tryd.ntmps113
  go_wp2_with fail
  go_ret
  exact ⟨rfl, below_alloc _ _⟩

set_option maxHeartbeats 2000000 in
set_option maxRecDepth 100000 in
theorem elemBd_any (x : Bd) (W : World) (hm0 : x.name_.size ≤ maxLen) (hm3 : x.text_.size ≤ maxLen) (hT : Classes W) :
    Calls Tryd.prog 94 #[x.ag] W fun e w' => e = .returned (.bool (bdOk x)) ∧ Below W.heap.size W w' := by
  obtain ⟨x0, x1, x2, x3, x4⟩ := x
  show Calls Tryd.prog 94 #[.agg #[.string x0, .int .i64 x1, .int .i64 x2, .string x3, .int .i64 x4]] W _
  dsimp only at hm0 hm3
  have HC := Lib.hid (one_newS W 63 #[.string x0, .int .i64 x1, .int .i64 x2, .string x3, .int .i64 x4])
  have HT := Lib.hid (fun (w : World) (hb : Below W.heap.size W w) => classes_up hT hb)
  have HM0 := Lib.hid hm0
  have HM3 := Lib.hid hm3
  clear hm0 hm3 hT
  unfold bdOk
  dsimp only
  obtain ⟨z0, hz0⟩ : ∃ z, isNameB x0 = z := ⟨_, rfl⟩
  obtain ⟨z1, hz1⟩ : ∃ z, validV x1 x2 x3 x4 = z := ⟨_, rfl⟩
  obtain ⟨z2, hz2⟩ : ∃ z, isNullV x1 x2 x3 x4 = z := ⟨_, rfl⟩
  rw [hz0, hz1, hz2]
  have HZ0 := Lib.hid hz0
  have HZ1 := Lib.hid hz1
  have HZ2 := Lib.hid hz2
  clear hz0 hz1 hz2
  cases z0
  · go_enter Tryd.func94, Tryd.ntmps94
    go_wp2_with (go_at_call 31; obtain ⟨g0, g1, g2⟩ := HC.out _ rfl; refine (impl_IsName_any x0 _ HM0.out (HT.out _ g1)).mono ?_; rintro e w1 ⟨rfl, hb⟩; rw [HZ0.out]; have HB1 := Lib.hid (g1.trans (hb.mono g1.size)); clear g0 g1 g2 hb)
    go_ret
    exact ⟨rfl, HB1.out⟩
  cases z1
  · go_enter Tryd.func94, Tryd.ntmps94
    go_wp2_with (first | (go_at_call 31; obtain ⟨g0, g1, g2⟩ := HC.out _ rfl; refine (impl_IsName_any x0 _ HM0.out (HT.out _ g1)).mono ?_; rintro e w1 ⟨rfl, hb⟩; rw [HZ0.out]; have HB1 := Lib.hid (g1.trans (hb.mono g1.size)); have HA1 := Lib.hid (g0.below hb g2); have q1 : w1.cell? ⟨W.heap.size, 1, none⟩ = some (.int .i64 x1) := HA1.out.cell 1; have q2 : w1.cell? ⟨W.heap.size, 2, none⟩ = some (.int .i64 x2) := HA1.out.cell 2; have q3 : w1.cell? ⟨W.heap.size, 3, none⟩ = some (.string x3) := HA1.out.cell 3; have q4 : w1.cell? ⟨W.heap.size, 4, none⟩ = some (.int .i64 x4) := HA1.out.cell 4; clear g0 g1 g2 hb) | (go_at_call 96; refine (impl_ValidValue_any x1 x2 x3 x4 w1 HM3.out (HT.out _ HB1.out)).mono ?_; rintro e w2 ⟨rfl, hb⟩; rw [HZ1.out]; have HB2 := Lib.hid (HB1.out.trans (hb.mono HB1.out.size)); have HA2 := Lib.hid (HA1.out.below hb HA1.out.lt); have p1 : w2.cell? ⟨W.heap.size, 1, none⟩ = some (.int .i64 x1) := HA2.out.cell 1; have p2 : w2.cell? ⟨W.heap.size, 2, none⟩ = some (.int .i64 x2) := HA2.out.cell 2; have p3 : w2.cell? ⟨W.heap.size, 3, none⟩ = some (.string x3) := HA2.out.cell 3; have p4 : w2.cell? ⟨W.heap.size, 4, none⟩ = some (.int .i64 x4) := HA2.out.cell 4; clear hb q1 q2 q3 q4))
    go_ret
    exact ⟨rfl, HB2.out⟩
  cases z2
  all_goals
    go_enter Tryd.func94, Tryd.ntmps94
    go_wp2_with (first | (go_at_call 31; obtain ⟨g0, g1, g2⟩ := HC.out _ rfl; refine (impl_IsName_any x0 _ HM0.out (HT.out _ g1)).mono ?_; rintro e w1 ⟨rfl, hb⟩; rw [HZ0.out]; have HB1 := Lib.hid (g1.trans (hb.mono g1.size)); have HA1 := Lib.hid (g0.below hb g2); have q1 : w1.cell? ⟨W.heap.size, 1, none⟩ = some (.int .i64 x1) := HA1.out.cell 1; have q2 : w1.cell? ⟨W.heap.size, 2, none⟩ = some (.int .i64 x2) := HA1.out.cell 2; have q3 : w1.cell? ⟨W.heap.size, 3, none⟩ = some (.string x3) := HA1.out.cell 3; have q4 : w1.cell? ⟨W.heap.size, 4, none⟩ = some (.int .i64 x4) := HA1.out.cell 4; clear g0 g1 g2 hb) | (go_at_call 96; refine (impl_ValidValue_any x1 x2 x3 x4 w1 HM3.out (HT.out _ HB1.out)).mono ?_; rintro e w2 ⟨rfl, hb⟩; rw [HZ1.out]; have HB2 := Lib.hid (HB1.out.trans (hb.mono HB1.out.size)); have HA2 := Lib.hid (HA1.out.below hb HA1.out.lt); have p1 : w2.cell? ⟨W.heap.size, 1, none⟩ = some (.int .i64 x1) := HA2.out.cell 1; have p2 : w2.cell? ⟨W.heap.size, 2, none⟩ = some (.int .i64 x2) := HA2.out.cell 2; have p3 : w2.cell? ⟨W.heap.size, 3, none⟩ = some (.string x3) := HA2.out.cell 3; have p4 : w2.cell? ⟨W.heap.size, 4, none⟩ = some (.int .i64 x4) := HA2.out.cell 4; clear hb q1 q2 q3 q4) | (go_at_call 97; refine (impl_IsNull_any x1 x2 x3 x4 w2).mono ?_; rintro e w3 ⟨rfl, hb⟩; rw [HZ2.out]; have HB3 := Lib.hid (HB2.out.trans (hb.mono HB2.out.size)); clear hb p1 p2 p3 p4))
    go_ret
    exact ⟨rfl, HB3.out⟩
end Go.Proofs.YtflhjcdabbomiaaDoor
