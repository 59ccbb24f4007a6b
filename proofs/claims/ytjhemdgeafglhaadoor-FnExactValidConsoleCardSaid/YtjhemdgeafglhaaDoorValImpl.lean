/- Contracts: textValue, numberValue, objectValue, isWithin, ValidValue of the program. Condition of the last: the table holds what the program's text lays. -/
import Derived.Test.YtjhemdgeafglhaaDoorVal
import Derived.Test.YtjhemdgeafglhaaDoorValText
import Derived.Laws.StructEq
import Derived.Deep.QuietTactic
import Derived.BigQuiet
import Derived.Deep.RegionHeld3
import Derived.Lib.QuietBelow
namespace Go.Proofs.YtjhemdgeafglhaaDoor
open Go Go.RowKit Go.Sort

theorem numberValue_any (n : Int) (W : World) :
    Calls Tryd.prog 54 #[.int .i64 n] W fun e w' => e = .returned (.agg #[.int .i64 2, .int .i64 n, .string ⟨#[]⟩, .int .i64 0]) ∧ Below W.heap.size W w' := by
  go_enter Tryd.func54, Tryd.ntmps54
  go_wp2
  exact bodyPost_ret (v := .agg #[.int .i64 2, .int .i64 n, .string ⟨#[]⟩, .int .i64 0]) (by simp [results, Tryd.results54, go_sem]) rfl
    ⟨rfl, by repeat (first | exact Below.refl _ _ | refine Below.setCell ?_ (by first | (simp; done) | (simp; omega)) _ | refine Below.alloc ?_ (by first | (simp; done) | (simp; omega)) _)⟩
theorem objectValue_any (k r : Int) (W : World) :
    Calls Tryd.prog 55 #[.int .i64 k, .int .i64 r] W fun e w' => e = .returned (.agg #[.int .i64 k, .int .i64 0, .string ⟨#[]⟩, .int .i64 r]) ∧ Below W.heap.size W w' := by
  go_enter Tryd.func55, Tryd.ntmps55
  go_wp2
  exact bodyPost_ret (v := .agg #[.int .i64 k, .int .i64 0, .string ⟨#[]⟩, .int .i64 r]) (by simp [results, Tryd.results55, go_sem]) rfl
    ⟨rfl, by repeat (first | exact Below.refl _ _ | refine Below.setCell ?_ (by first | (simp; done) | (simp; omega)) _ | refine Below.alloc ?_ (by first | (simp; done) | (simp; omega)) _)⟩

theorem within_int (x lo hi : Int) (W : World) :
    Calls Tryd.prog 53 #[.int .i64 x, .int .i64 lo, .int .i64 hi] W fun e w' => e = .returned (.bool (decide (lo ≤ x ∧ x ≤ hi))) ∧ W = w' := by
  by_cases h0 : lo ≤ x
  · have d0 : decide (lo ≤ x) = true := by simp [h0]
    by_cases h1 : x ≤ hi
    · have d1 : decide (x ≤ hi) = true := by simp [h1]
      have e : decide (lo ≤ x ∧ x ≤ hi) = true := by simp [h0, h1]
      rw [e]
      go_enter Tryd.func53, Tryd.ntmps53
      go_wp2
      all_goals go_ret
      all_goals exact ⟨rfl, rfl⟩
    · have d1 : decide (x ≤ hi) = false := by simp; omega
      have e : decide (lo ≤ x ∧ x ≤ hi) = false := by simp; omega
      rw [e]
      go_enter Tryd.func53, Tryd.ntmps53
      go_wp2
      all_goals go_ret
      all_goals exact ⟨rfl, rfl⟩
  · have d0 : decide (lo ≤ x) = false := by simp; omega
    have e : decide (lo ≤ x ∧ x ≤ hi) = false := by simp; omega
    rw [e]
    go_enter Tryd.func53, Tryd.ntmps53
    go_wp2
    all_goals go_ret
    all_goals exact ⟨rfl, rfl⟩
theorem within_i64 (x lo hi : Int) (W : World) :
    Calls Tryd.prog 32 #[.int .i64 x, .int .i64 lo, .int .i64 hi] W fun e w' => e = .returned (.bool (decide (lo ≤ x ∧ x ≤ hi))) ∧ W = w' := by
  by_cases h0 : lo ≤ x
  · have d0 : decide (lo ≤ x) = true := by simp [h0]
    by_cases h1 : x ≤ hi
    · have d1 : decide (x ≤ hi) = true := by simp [h1]
      have e : decide (lo ≤ x ∧ x ≤ hi) = true := by simp [h0, h1]
      rw [e]
      go_enter Tryd.func32, Tryd.ntmps32
      go_wp2
      all_goals go_ret
      all_goals exact ⟨rfl, rfl⟩
    · have d1 : decide (x ≤ hi) = false := by simp; omega
      have e : decide (lo ≤ x ∧ x ≤ hi) = false := by simp; omega
      rw [e]
      go_enter Tryd.func32, Tryd.ntmps32
      go_wp2
      all_goals go_ret
      all_goals exact ⟨rfl, rfl⟩
  · have d0 : decide (lo ≤ x) = false := by simp; omega
    have e : decide (lo ≤ x ∧ x ≤ hi) = false := by simp; omega
    rw [e]
    go_enter Tryd.func32, Tryd.ntmps32
    go_wp2
    all_goals go_ret
    all_goals exact ⟨rfl, rfl⟩

theorem same_regrown {f : FuncId} {args : Array Value} {w : World} {d : Nat} {os : Array Obj} {b b' : Bool} (h : Calls Tryd.prog f args (grow (redrawn w d) os) fun e w' => e = .returned (.bool b) ∧ grow (redrawn w d) os = w') (hb : b = b') :
    Calls Tryd.prog f args (grow (redrawn w d) os) fun e w'' => e = .returned (.bool b') ∧ ∃ p : Regrown, w'' = grow (redrawn w p.d) p.os := by
  subst hb
  exact h.mono fun e w' ⟨he, hw⟩ => ⟨he, ⟨d, os⟩, hw.symm⟩
theorem below_same {f : FuncId} {args : Array Value} {w : World} {d : Nat} {os : Array Obj} {b b' : Bool} (h : Calls Tryd.prog f args (grow (redrawn w d) os) fun e w' => e = .returned (.bool b) ∧ Below (grow (redrawn w d) os).heap.size (grow (redrawn w d) os) w') (hb : b = b') :
    Calls Tryd.prog f args (grow (redrawn w d) os) fun e w'' => e = .returned (.bool b') ∧ ∃ p : Regrown, w'' = grow (redrawn w p.d) p.os := by
  subst hb
  exact Calls.regrown_of h

set_option maxHeartbeats 8000000 in
theorem impl_ValidValue_any (k n : Int) (t : ByteArray) (r : Int) (W : World) (hs : t.size ≤ maxLen) (hT : Classes W) :
    Calls Tryd.prog 27 #[.agg #[.int .i64 k, .int .i64 n, .string t, .int .i64 r]] W fun e w' => e = .returned (.bool (validV k n t r)) ∧ Below W.heap.size W w' := by
  have HS : Hid (t.size ≤ maxLen) := hs
  have HT : Hid (Classes W) := hT
  have HG : Hid (1 < W.heap.size) := heap_pos (hT.at_ 0 (by decide))
  clear hs hT
  unfold validV
  obtain ⟨z, hz⟩ : ∃ z, (n == 0) = z := ⟨_, rfl⟩
  obtain ⟨y, hy⟩ : ∃ y, (r == 0) = y := ⟨_, rfl⟩
  rw [hz, hy]
  by_cases k1 : k = 1
  · subst k1
    rw [if_pos rfl]
    by_cases hl : t.size ≤ 200
    · have e1 : decide ((t.size : Int) ≤ 200) = true := by simp; omega
      have e2 : decide (t.size ≤ 200) = true := by simp [hl]
      rw [e2]
      clear hl e2
      cases z <;> cases y
      all_goals
        go_enter Tryd.func27, Tryd.ntmps27
        go_wp2_with fail
        obtain ⟨w0, hw0⟩ : ∃ w0, W.alloc (.cells #[.int .i64 1, .int .i64 n, .string t, .int .i64 r] 27) = w0 := ⟨_, rfl⟩
        have Q : V4 w0 W.heap.size 1 n t r := by rw [← hw0]; exact v4_new _ _ _ _ _ _
        have HB0 : Hid (Below W.heap.size W w0) := by show Below _ _ _; rw [← hw0]; exact (Below.refl _ _).alloc (Nat.le_refl _) _
        rw [hw0]
        obtain ⟨q0, q1, q2, q3⟩ := Q
        clear hw0
        have c0 := cell_regrown q0
        have c1 := cell_regrown q1
        have c2 := cell_regrown q2
        have c3 := cell_regrown q3
        have cT : ∀ d os, Calls Tryd.prog 52 #[.int .i64 1, .string t] (grow (redrawn w0 d) os) (fun e w'' => e = .returned (.agg #[.int .i64 1, .int .i64 0, .string t, .int .i64 0]) ∧ ∃ p : Regrown, w'' = grow (redrawn w0 p.d) p.os) := fun d os => Calls.regrown_of (textValue_any _ _ _)
        refine wp_region_quiet_below (by kernel_rfl) (by kernel_rfl) ?_
        repeat (first | go_big_quiet_step (exact cT _ _) | quiet_step (exact cT _ _))
        refine wpQuiet_nil ?_
        intro _ hw'
        obtain ⟨⟨dq, osq⟩, hw''⟩ := hw'
        subst hw''
        go_wp2_with fail
        go_ret
        exact ⟨rfl, HB0.out.trans ((below_regrown w0 dq osq).mono HB0.out.size)⟩
    · have e1 : decide ((t.size : Int) ≤ 200) = false := by simp; omega
      have e2 : decide (t.size ≤ 200) = false := by simp; omega
      rw [e2]
      clear hl e2
      cases z <;> cases y
      all_goals
        go_enter Tryd.func27, Tryd.ntmps27
        go_wp2_with fail
        obtain ⟨w0, hw0⟩ : ∃ w0, W.alloc (.cells #[.int .i64 1, .int .i64 n, .string t, .int .i64 r] 27) = w0 := ⟨_, rfl⟩
        have Q : V4 w0 W.heap.size 1 n t r := by rw [← hw0]; exact v4_new _ _ _ _ _ _
        have HB0 : Hid (Below W.heap.size W w0) := by show Below _ _ _; rw [← hw0]; exact (Below.refl _ _).alloc (Nat.le_refl _) _
        rw [hw0]
        obtain ⟨q0, q1, q2, q3⟩ := Q
        clear hw0
        have c0 := cell_regrown q0
        have c1 := cell_regrown q1
        have c2 := cell_regrown q2
        have c3 := cell_regrown q3
        have cT : ∀ d os, Calls Tryd.prog 52 #[.int .i64 1, .string t] (grow (redrawn w0 d) os) (fun e w'' => e = .returned (.agg #[.int .i64 1, .int .i64 0, .string t, .int .i64 0]) ∧ ∃ p : Regrown, w'' = grow (redrawn w0 p.d) p.os) := fun d os => Calls.regrown_of (textValue_any _ _ _)
        refine wp_region_quiet_below (by kernel_rfl) (by kernel_rfl) ?_
        repeat (first | go_big_quiet_step (exact cT _ _) | quiet_step (exact cT _ _))
        refine wpQuiet_nil ?_
        intro _ hw'
        obtain ⟨⟨dq, osq⟩, hw''⟩ := hw'
        subst hw''
        go_wp2_with fail
        go_ret
        exact ⟨rfl, HB0.out.trans ((below_regrown w0 dq osq).mono HB0.out.size)⟩
  rw [if_neg k1]
  by_cases k2 : k = 2
  · subst k2
    rw [if_pos rfl]
    obtain ⟨x, hx⟩ : ∃ x, decide (-1000000000000 ≤ n ∧ n ≤ 1000000000000) = x := ⟨_, rfl⟩
    have HX := Lib.hid hx
    rw [hx]
    clear hx k1
    by_cases h0 : t.size = 0
    · have e1 := nil_of_size h0
      have e2 := isEmpty_of_size h0
      have e3 : (t.size == 0) = true := by simp [h0]
      rw [e3]
      clear e3 h0
      cases y <;> cases x
      all_goals
        go_enter Tryd.func27, Tryd.ntmps27
        go_wp2_with fail
        obtain ⟨w0, hw0⟩ : ∃ w0, W.alloc (.cells #[.int .i64 2, .int .i64 n, .string t, .int .i64 r] 27) = w0 := ⟨_, rfl⟩
        have Q : V4 w0 W.heap.size 2 n t r := by rw [← hw0]; exact v4_new _ _ _ _ _ _
        have HB0 : Hid (Below W.heap.size W w0) := by show Below _ _ _; rw [← hw0]; exact (Below.refl _ _).alloc (Nat.le_refl _) _
        rw [hw0]
        obtain ⟨q0, q1, q2, q3⟩ := Q
        clear hw0
        have c0 := cell_regrown q0
        have c1 := cell_regrown q1
        have c2 := cell_regrown q2
        have c3 := cell_regrown q3
        have cT : ∀ d os, Calls Tryd.prog 54 #[.int .i64 n] (grow (redrawn w0 d) os) (fun e w'' => e = .returned (.agg #[.int .i64 2, .int .i64 n, .string ⟨#[]⟩, .int .i64 0]) ∧ ∃ p : Regrown, w'' = grow (redrawn w0 p.d) p.os) := fun d os => Calls.regrown_of (numberValue_any _ _)
        have cW := fun (d : Nat) (os : Array Obj) => same_regrown (w := w0) (d := d) (os := os) (within_i64 n (-1000000000000) 1000000000000 _) HX.out
        refine wp_region_quiet_below (by kernel_rfl) (by kernel_rfl) ?_
        repeat (first | go_big_quiet_step (first | exact cT _ _ | exact cW _ _) | quiet_step (first | exact cT _ _ | exact cW _ _))
        refine wpQuiet_nil ?_
        intro _ hw'
        obtain ⟨⟨dq, osq⟩, hw''⟩ := hw'
        subst hw''
        go_wp2_with fail
        go_ret
        exact ⟨rfl, HB0.out.trans ((below_regrown w0 dq osq).mono HB0.out.size)⟩
    · have hp : 0 < t.size := by omega
      have e1 := ne_nil_of_size hp
      have e2 := not_isEmpty_of_size hp
      have e3 : (t.size == 0) = false := by simp [h0]
      rw [e3]
      clear e3 h0
      cases y <;> cases x
      all_goals
        go_enter Tryd.func27, Tryd.ntmps27
        go_wp2_with fail
        obtain ⟨w0, hw0⟩ : ∃ w0, W.alloc (.cells #[.int .i64 2, .int .i64 n, .string t, .int .i64 r] 27) = w0 := ⟨_, rfl⟩
        have Q : V4 w0 W.heap.size 2 n t r := by rw [← hw0]; exact v4_new _ _ _ _ _ _
        have HB0 : Hid (Below W.heap.size W w0) := by show Below _ _ _; rw [← hw0]; exact (Below.refl _ _).alloc (Nat.le_refl _) _
        rw [hw0]
        obtain ⟨q0, q1, q2, q3⟩ := Q
        clear hw0
        have c0 := cell_regrown q0
        have c1 := cell_regrown q1
        have c2 := cell_regrown q2
        have c3 := cell_regrown q3
        have cT : ∀ d os, Calls Tryd.prog 54 #[.int .i64 n] (grow (redrawn w0 d) os) (fun e w'' => e = .returned (.agg #[.int .i64 2, .int .i64 n, .string ⟨#[]⟩, .int .i64 0]) ∧ ∃ p : Regrown, w'' = grow (redrawn w0 p.d) p.os) := fun d os => Calls.regrown_of (numberValue_any _ _)
        refine wp_region_quiet_below (by kernel_rfl) (by kernel_rfl) ?_
        repeat (first | go_big_quiet_step (exact cT _ _) | quiet_step (exact cT _ _))
        refine wpQuiet_nil ?_
        intro _ hw'
        obtain ⟨⟨dq, osq⟩, hw''⟩ := hw'
        subst hw''
        go_wp2_with fail
        go_ret
        exact ⟨rfl, HB0.out.trans ((below_regrown w0 dq osq).mono HB0.out.size)⟩
  rw [if_neg k2]
  by_cases k3 : k = 3
  · subst k3
    rw [if_pos rfl]
    obtain ⟨x, hx⟩ : ∃ x, decide (1 ≤ (t.size : Int) ∧ (t.size : Int) ≤ 1200) = x := ⟨_, rfl⟩
    have HX := Lib.hid hx
    rw [hx]
    clear hx k1 k2
    cases z <;> cases y <;> cases x
    all_goals
      go_enter Tryd.func27, Tryd.ntmps27
      go_wp2_with fail
      obtain ⟨w0, hw0⟩ : ∃ w0, W.alloc (.cells #[.int .i64 3, .int .i64 n, .string t, .int .i64 r] 27) = w0 := ⟨_, rfl⟩
      have Q : V4 w0 W.heap.size 3 n t r := by rw [← hw0]; exact v4_new _ _ _ _ _ _
      have HB0 : Hid (Below W.heap.size W w0) := by show Below _ _ _; rw [← hw0]; exact (Below.refl _ _).alloc (Nat.le_refl _) _
      rw [hw0]
      obtain ⟨q0, q1, q2, q3⟩ := Q
      clear hw0
      have c0 := cell_regrown q0
      have c1 := cell_regrown q1
      have c2 := cell_regrown q2
      have c3 := cell_regrown q3
      have cT : ∀ d os, Calls Tryd.prog 52 #[.int .i64 3, .string t] (grow (redrawn w0 d) os) (fun e w'' => e = .returned (.agg #[.int .i64 3, .int .i64 0, .string t, .int .i64 0]) ∧ ∃ p : Regrown, w'' = grow (redrawn w0 p.d) p.os) := fun d os => Calls.regrown_of (textValue_any _ _ _)
      have cW := fun (d : Nat) (os : Array Obj) => same_regrown (w := w0) (d := d) (os := os) (within_int t.size 1 1200 _) HX.out
      refine wp_region_quiet_below (by kernel_rfl) (by kernel_rfl) ?_
      repeat (first | go_big_quiet_step (first | exact cT _ _ | exact cW _ _) | quiet_step (first | exact cT _ _ | exact cW _ _))
      refine wpQuiet_nil ?_
      intro _ hw'
      obtain ⟨⟨dq, osq⟩, hw''⟩ := hw'
      subst hw''
      go_wp2_with fail
      go_ret
      exact ⟨rfl, HB0.out.trans ((below_regrown w0 dq osq).mono HB0.out.size)⟩
  rw [if_neg k3]
  by_cases k4 : k = 4 ∨ k = 5 ∨ k = 6
  · rw [if_pos k4]
    obtain ⟨x, hx⟩ : ∃ x, decide (1 ≤ r ∧ r ≤ 1000000) = x := ⟨_, rfl⟩
    have HX := Lib.hid hx
    rw [hx]
    clear hx k1 k2 k3
    by_cases h0 : t.size = 0
    · have e1 := nil_of_size h0
      have e2 := isEmpty_of_size h0
      have e3 : (t.size == 0) = true := by simp [h0]
      rw [e3]
      clear e3 h0
      rcases k4 with rfl | rfl | rfl
      · cases z <;> cases x
        all_goals
          go_enter Tryd.func27, Tryd.ntmps27
          go_wp2_with fail
          obtain ⟨w0, hw0⟩ : ∃ w0, W.alloc (.cells #[.int .i64 4, .int .i64 n, .string t, .int .i64 r] 27) = w0 := ⟨_, rfl⟩
          have Q : V4 w0 W.heap.size 4 n t r := by rw [← hw0]; exact v4_new _ _ _ _ _ _
          have HB0 : Hid (Below W.heap.size W w0) := by show Below _ _ _; rw [← hw0]; exact (Below.refl _ _).alloc (Nat.le_refl _) _
          rw [hw0]
          obtain ⟨q0, q1, q2, q3⟩ := Q
          clear hw0
          have c0 := cell_regrown q0
          have c1 := cell_regrown q1
          have c2 := cell_regrown q2
          have c3 := cell_regrown q3
          have cT : ∀ d os, Calls Tryd.prog 55 #[.int .i64 4, .int .i64 r] (grow (redrawn w0 d) os) (fun e w'' => e = .returned (.agg #[.int .i64 4, .int .i64 0, .string ⟨#[]⟩, .int .i64 r]) ∧ ∃ p : Regrown, w'' = grow (redrawn w0 p.d) p.os) := fun d os => Calls.regrown_of (objectValue_any _ _ _)
          have cW := fun (d : Nat) (os : Array Obj) => same_regrown (w := w0) (d := d) (os := os) (within_i64 r 1 1000000 _) HX.out
          refine wp_region_quiet_below (by kernel_rfl) (by kernel_rfl) ?_
          repeat (first | go_big_quiet_step (first | exact cT _ _ | exact cW _ _) | quiet_step (first | exact cT _ _ | exact cW _ _))
          refine wpQuiet_nil ?_
          intro _ hw'
          obtain ⟨⟨dq, osq⟩, hw''⟩ := hw'
          subst hw''
          go_wp2_with fail
          go_ret
          exact ⟨rfl, HB0.out.trans ((below_regrown w0 dq osq).mono HB0.out.size)⟩
      · cases z <;> cases x
        all_goals
          go_enter Tryd.func27, Tryd.ntmps27
          go_wp2_with fail
          obtain ⟨w0, hw0⟩ : ∃ w0, W.alloc (.cells #[.int .i64 5, .int .i64 n, .string t, .int .i64 r] 27) = w0 := ⟨_, rfl⟩
          have Q : V4 w0 W.heap.size 5 n t r := by rw [← hw0]; exact v4_new _ _ _ _ _ _
          have HB0 : Hid (Below W.heap.size W w0) := by show Below _ _ _; rw [← hw0]; exact (Below.refl _ _).alloc (Nat.le_refl _) _
          rw [hw0]
          obtain ⟨q0, q1, q2, q3⟩ := Q
          clear hw0
          have c0 := cell_regrown q0
          have c1 := cell_regrown q1
          have c2 := cell_regrown q2
          have c3 := cell_regrown q3
          have cT : ∀ d os, Calls Tryd.prog 55 #[.int .i64 5, .int .i64 r] (grow (redrawn w0 d) os) (fun e w'' => e = .returned (.agg #[.int .i64 5, .int .i64 0, .string ⟨#[]⟩, .int .i64 r]) ∧ ∃ p : Regrown, w'' = grow (redrawn w0 p.d) p.os) := fun d os => Calls.regrown_of (objectValue_any _ _ _)
          have cW := fun (d : Nat) (os : Array Obj) => same_regrown (w := w0) (d := d) (os := os) (within_i64 r 1 1000000 _) HX.out
          refine wp_region_quiet_below (by kernel_rfl) (by kernel_rfl) ?_
          repeat (first | go_big_quiet_step (first | exact cT _ _ | exact cW _ _) | quiet_step (first | exact cT _ _ | exact cW _ _))
          refine wpQuiet_nil ?_
          intro _ hw'
          obtain ⟨⟨dq, osq⟩, hw''⟩ := hw'
          subst hw''
          go_wp2_with fail
          go_ret
          exact ⟨rfl, HB0.out.trans ((below_regrown w0 dq osq).mono HB0.out.size)⟩
      · cases z <;> cases x
        all_goals
          go_enter Tryd.func27, Tryd.ntmps27
          go_wp2_with fail
          obtain ⟨w0, hw0⟩ : ∃ w0, W.alloc (.cells #[.int .i64 6, .int .i64 n, .string t, .int .i64 r] 27) = w0 := ⟨_, rfl⟩
          have Q : V4 w0 W.heap.size 6 n t r := by rw [← hw0]; exact v4_new _ _ _ _ _ _
          have HB0 : Hid (Below W.heap.size W w0) := by show Below _ _ _; rw [← hw0]; exact (Below.refl _ _).alloc (Nat.le_refl _) _
          rw [hw0]
          obtain ⟨q0, q1, q2, q3⟩ := Q
          clear hw0
          have c0 := cell_regrown q0
          have c1 := cell_regrown q1
          have c2 := cell_regrown q2
          have c3 := cell_regrown q3
          have cT : ∀ d os, Calls Tryd.prog 55 #[.int .i64 6, .int .i64 r] (grow (redrawn w0 d) os) (fun e w'' => e = .returned (.agg #[.int .i64 6, .int .i64 0, .string ⟨#[]⟩, .int .i64 r]) ∧ ∃ p : Regrown, w'' = grow (redrawn w0 p.d) p.os) := fun d os => Calls.regrown_of (objectValue_any _ _ _)
          have cW := fun (d : Nat) (os : Array Obj) => same_regrown (w := w0) (d := d) (os := os) (within_i64 r 1 1000000 _) HX.out
          refine wp_region_quiet_below (by kernel_rfl) (by kernel_rfl) ?_
          repeat (first | go_big_quiet_step (first | exact cT _ _ | exact cW _ _) | quiet_step (first | exact cT _ _ | exact cW _ _))
          refine wpQuiet_nil ?_
          intro _ hw'
          obtain ⟨⟨dq, osq⟩, hw''⟩ := hw'
          subst hw''
          go_wp2_with fail
          go_ret
          exact ⟨rfl, HB0.out.trans ((below_regrown w0 dq osq).mono HB0.out.size)⟩
    · have hp : 0 < t.size := by omega
      have e1 := ne_nil_of_size hp
      have e2 := not_isEmpty_of_size hp
      have e3 : (t.size == 0) = false := by simp [h0]
      rw [e3]
      clear e3 h0
      rcases k4 with rfl | rfl | rfl
      · cases z <;> cases x
        all_goals
          go_enter Tryd.func27, Tryd.ntmps27
          go_wp2_with fail
          obtain ⟨w0, hw0⟩ : ∃ w0, W.alloc (.cells #[.int .i64 4, .int .i64 n, .string t, .int .i64 r] 27) = w0 := ⟨_, rfl⟩
          have Q : V4 w0 W.heap.size 4 n t r := by rw [← hw0]; exact v4_new _ _ _ _ _ _
          have HB0 : Hid (Below W.heap.size W w0) := by show Below _ _ _; rw [← hw0]; exact (Below.refl _ _).alloc (Nat.le_refl _) _
          rw [hw0]
          obtain ⟨q0, q1, q2, q3⟩ := Q
          clear hw0
          have c0 := cell_regrown q0
          have c1 := cell_regrown q1
          have c2 := cell_regrown q2
          have c3 := cell_regrown q3
          have cT : ∀ d os, Calls Tryd.prog 55 #[.int .i64 4, .int .i64 r] (grow (redrawn w0 d) os) (fun e w'' => e = .returned (.agg #[.int .i64 4, .int .i64 0, .string ⟨#[]⟩, .int .i64 r]) ∧ ∃ p : Regrown, w'' = grow (redrawn w0 p.d) p.os) := fun d os => Calls.regrown_of (objectValue_any _ _ _)
          refine wp_region_quiet_below (by kernel_rfl) (by kernel_rfl) ?_
          repeat (first | go_big_quiet_step (exact cT _ _) | quiet_step (exact cT _ _))
          refine wpQuiet_nil ?_
          intro _ hw'
          obtain ⟨⟨dq, osq⟩, hw''⟩ := hw'
          subst hw''
          go_wp2_with fail
          go_ret
          exact ⟨rfl, HB0.out.trans ((below_regrown w0 dq osq).mono HB0.out.size)⟩
      · cases z <;> cases x
        all_goals
          go_enter Tryd.func27, Tryd.ntmps27
          go_wp2_with fail
          obtain ⟨w0, hw0⟩ : ∃ w0, W.alloc (.cells #[.int .i64 5, .int .i64 n, .string t, .int .i64 r] 27) = w0 := ⟨_, rfl⟩
          have Q : V4 w0 W.heap.size 5 n t r := by rw [← hw0]; exact v4_new _ _ _ _ _ _
          have HB0 : Hid (Below W.heap.size W w0) := by show Below _ _ _; rw [← hw0]; exact (Below.refl _ _).alloc (Nat.le_refl _) _
          rw [hw0]
          obtain ⟨q0, q1, q2, q3⟩ := Q
          clear hw0
          have c0 := cell_regrown q0
          have c1 := cell_regrown q1
          have c2 := cell_regrown q2
          have c3 := cell_regrown q3
          have cT : ∀ d os, Calls Tryd.prog 55 #[.int .i64 5, .int .i64 r] (grow (redrawn w0 d) os) (fun e w'' => e = .returned (.agg #[.int .i64 5, .int .i64 0, .string ⟨#[]⟩, .int .i64 r]) ∧ ∃ p : Regrown, w'' = grow (redrawn w0 p.d) p.os) := fun d os => Calls.regrown_of (objectValue_any _ _ _)
          refine wp_region_quiet_below (by kernel_rfl) (by kernel_rfl) ?_
          repeat (first | go_big_quiet_step (exact cT _ _) | quiet_step (exact cT _ _))
          refine wpQuiet_nil ?_
          intro _ hw'
          obtain ⟨⟨dq, osq⟩, hw''⟩ := hw'
          subst hw''
          go_wp2_with fail
          go_ret
          exact ⟨rfl, HB0.out.trans ((below_regrown w0 dq osq).mono HB0.out.size)⟩
      · cases z <;> cases x
        all_goals
          go_enter Tryd.func27, Tryd.ntmps27
          go_wp2_with fail
          obtain ⟨w0, hw0⟩ : ∃ w0, W.alloc (.cells #[.int .i64 6, .int .i64 n, .string t, .int .i64 r] 27) = w0 := ⟨_, rfl⟩
          have Q : V4 w0 W.heap.size 6 n t r := by rw [← hw0]; exact v4_new _ _ _ _ _ _
          have HB0 : Hid (Below W.heap.size W w0) := by show Below _ _ _; rw [← hw0]; exact (Below.refl _ _).alloc (Nat.le_refl _) _
          rw [hw0]
          obtain ⟨q0, q1, q2, q3⟩ := Q
          clear hw0
          have c0 := cell_regrown q0
          have c1 := cell_regrown q1
          have c2 := cell_regrown q2
          have c3 := cell_regrown q3
          have cT : ∀ d os, Calls Tryd.prog 55 #[.int .i64 6, .int .i64 r] (grow (redrawn w0 d) os) (fun e w'' => e = .returned (.agg #[.int .i64 6, .int .i64 0, .string ⟨#[]⟩, .int .i64 r]) ∧ ∃ p : Regrown, w'' = grow (redrawn w0 p.d) p.os) := fun d os => Calls.regrown_of (objectValue_any _ _ _)
          refine wp_region_quiet_below (by kernel_rfl) (by kernel_rfl) ?_
          repeat (first | go_big_quiet_step (exact cT _ _) | quiet_step (exact cT _ _))
          refine wpQuiet_nil ?_
          intro _ hw'
          obtain ⟨⟨dq, osq⟩, hw''⟩ := hw'
          subst hw''
          go_wp2_with fail
          go_ret
          exact ⟨rfl, HB0.out.trans ((below_regrown w0 dq osq).mono HB0.out.size)⟩
  rw [if_neg k4]
  by_cases k7 : k = 7 ∨ k = 8
  · rw [if_pos k7]
    obtain ⟨x, hx⟩ : ∃ x, isNameB t = x := ⟨_, rfl⟩
    have HX := Lib.hid hx
    rw [hx]
    clear hx k1 k2 k3 k4
    rcases k7 with rfl | rfl
    · cases z <;> cases y <;> cases x
      all_goals
        go_enter Tryd.func27, Tryd.ntmps27
        go_wp2_with fail
        obtain ⟨w0, hw0⟩ : ∃ w0, W.alloc (.cells #[.int .i64 7, .int .i64 n, .string t, .int .i64 r] 27) = w0 := ⟨_, rfl⟩
        have Q : V4 w0 W.heap.size 7 n t r := by rw [← hw0]; exact v4_new _ _ _ _ _ _
        have HB0 : Hid (Below W.heap.size W w0) := by show Below _ _ _; rw [← hw0]; exact (Below.refl _ _).alloc (Nat.le_refl _) _
        rw [hw0]
        obtain ⟨q0, q1, q2, q3⟩ := Q
        clear hw0
        have c0 := cell_regrown q0
        have c1 := cell_regrown q1
        have c2 := cell_regrown q2
        have c3 := cell_regrown q3
        have cT : ∀ d os, Calls Tryd.prog 52 #[.int .i64 7, .string t] (grow (redrawn w0 d) os) (fun e w'' => e = .returned (.agg #[.int .i64 7, .int .i64 0, .string t, .int .i64 0]) ∧ ∃ p : Regrown, w'' = grow (redrawn w0 p.d) p.os) := fun d os => Calls.regrown_of (textValue_any _ _ _)
        have cW := fun (d : Nat) (os : Array Obj) => below_same (w := w0) (d := d) (os := os) (impl_IsName_any t _ HS.out ((HT.out.below HB0.out HG.out).below (below_regrown w0 d os) (Nat.lt_of_lt_of_le HG.out HB0.out.size))) HX.out
        refine wp_region_quiet_below (by kernel_rfl) (by kernel_rfl) ?_
        repeat (first | go_big_quiet_step (first | exact cT _ _ | exact cW _ _) | quiet_step (first | exact cT _ _ | exact cW _ _))
        refine wpQuiet_nil ?_
        intro _ hw'
        obtain ⟨⟨dq, osq⟩, hw''⟩ := hw'
        subst hw''
        go_wp2_with fail
        go_ret
        exact ⟨rfl, HB0.out.trans ((below_regrown w0 dq osq).mono HB0.out.size)⟩
    · cases z <;> cases y <;> cases x
      all_goals
        go_enter Tryd.func27, Tryd.ntmps27
        go_wp2_with fail
        obtain ⟨w0, hw0⟩ : ∃ w0, W.alloc (.cells #[.int .i64 8, .int .i64 n, .string t, .int .i64 r] 27) = w0 := ⟨_, rfl⟩
        have Q : V4 w0 W.heap.size 8 n t r := by rw [← hw0]; exact v4_new _ _ _ _ _ _
        have HB0 : Hid (Below W.heap.size W w0) := by show Below _ _ _; rw [← hw0]; exact (Below.refl _ _).alloc (Nat.le_refl _) _
        rw [hw0]
        obtain ⟨q0, q1, q2, q3⟩ := Q
        clear hw0
        have c0 := cell_regrown q0
        have c1 := cell_regrown q1
        have c2 := cell_regrown q2
        have c3 := cell_regrown q3
        have cT : ∀ d os, Calls Tryd.prog 52 #[.int .i64 8, .string t] (grow (redrawn w0 d) os) (fun e w'' => e = .returned (.agg #[.int .i64 8, .int .i64 0, .string t, .int .i64 0]) ∧ ∃ p : Regrown, w'' = grow (redrawn w0 p.d) p.os) := fun d os => Calls.regrown_of (textValue_any _ _ _)
        have cW := fun (d : Nat) (os : Array Obj) => below_same (w := w0) (d := d) (os := os) (impl_IsName_any t _ HS.out ((HT.out.below HB0.out HG.out).below (below_regrown w0 d os) (Nat.lt_of_lt_of_le HG.out HB0.out.size))) HX.out
        refine wp_region_quiet_below (by kernel_rfl) (by kernel_rfl) ?_
        repeat (first | go_big_quiet_step (first | exact cT _ _ | exact cW _ _) | quiet_step (first | exact cT _ _ | exact cW _ _))
        refine wpQuiet_nil ?_
        intro _ hw'
        obtain ⟨⟨dq, osq⟩, hw''⟩ := hw'
        subst hw''
        go_wp2_with fail
        go_ret
        exact ⟨rfl, HB0.out.trans ((below_regrown w0 dq osq).mono HB0.out.size)⟩
  rw [if_neg k7]
  have f1 : (k == 1) = false := by simpa using k1
  have f2 : (k == 2) = false := by simpa using k2
  have f3 : (k == 3) = false := by simpa using k3
  have f4 : (k == 4) = false := by simp; omega
  have f5 : (k == 5) = false := by simp; omega
  have f6 : (k == 6) = false := by simp; omega
  have f7 : (k == 7) = false := by simp; omega
  have f8 : (k == 8) = false := by simp; omega
  clear k1 k2 k3 k4 k7 hz hy
  go_enter Tryd.func27, Tryd.ntmps27
  go_wp2_with fail
  go_ret
  exact ⟨rfl, (Below.refl _ _).alloc (Nat.le_refl _) _⟩
end Go.Proofs.YtjhemdgeafglhaaDoor
