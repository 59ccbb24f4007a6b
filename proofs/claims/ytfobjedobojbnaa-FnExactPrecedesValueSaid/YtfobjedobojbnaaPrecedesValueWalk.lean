/- The law's walk: FnExactPrecedesValue. No condition. -/
import Derived.Test.YtfobjedobojbnaaValPrec
namespace Go.Proofs.Ytfobjedobojbnaa
open Go Go.RowKit Go.Sort

theorem v4_below {w w1 : World} {g : Nat} {k n : Int} {t : ByteArray} {r : Int} (h : V4 w g k n t r) (hg : g < w.heap.size) (hb : Below w.heap.size w w1) : V4 w1 g k n t r :=
  ⟨(hb.cell (p := ⟨g, 0, none⟩) hg).trans h.1, (hb.cell (p := ⟨g, 1, none⟩) hg).trans h.2.1, (hb.cell (p := ⟨g, 2, none⟩) hg).trans h.2.2.1, (hb.cell (p := ⟨g, 3, none⟩) hg).trans h.2.2.2⟩
set_option maxHeartbeats 2000000 in
set_option maxRecDepth 100000 in
theorem walk_FnExactPrecedesValue (k n : Int) (t : ByteArray) (r : Int) (_ : (Lit.int .i64 k).wf = true) (_ : (Lit.int .i64 n).wf = true) (w0 : t.size ≤ maxLen) (_ : (Lit.int .i64 r).wf = true)
    (k' n' : Int) (t' : ByteArray) (r' : Int) (_ : (Lit.int .i64 k').wf = true) (_ : (Lit.int .i64 n').wf = true) (w0' : t'.size ≤ maxLen) (_ : (Lit.int .i64 r').wf = true) (W : World) :
    Calls Try.prog 5 #[.agg #[.int .i64 k, .int .i64 n, .string t, .int .i64 r], .agg #[.int .i64 k', .int .i64 n', .string t', .int .i64 r']] W fun e w' => e = .returned (.bool true) ∧ Below W.heap.size W w' := by
  have HS : Hid (t.size ≤ maxLen) := w0
  have HS' : Hid (t'.size ≤ maxLen) := w0'
  unfold maxLen at w0 w0'
  obtain ⟨p, hp⟩ : ∃ p, precV k n t r k' n' t' r' = p := ⟨_, rfl⟩
  have HP := Lib.hid hp
  clear hp
  have HV1 : Hid (∀ (X : World), X = (W.alloc (.cells #[.int .i64 k, .int .i64 n, .string t, .int .i64 r] 23)).alloc (.cells #[.int .i64 k', .int .i64 n', .string t', .int .i64 r'] 23) → V4 X W.heap.size k n t r ∧ V4 X (W.heap.size + 1) k' n' t' r' ∧ X.heap.size = W.heap.size + 2 ∧ Below W.heap.size W X) := by
    show ∀ _, _
    rintro X rfl
    exact ⟨by refine ⟨?_, ?_, ?_, ?_⟩ <;> simp, by refine ⟨?_, ?_, ?_, ?_⟩ <;> simp, by simp, ((Below.refl _ _).alloc (Nat.le_refl _) _).alloc (by simp) _⟩
  by_cases h : (t.size : Int) ≤ 1048576
  · by_cases h2 : (t'.size : Int) ≤ 1048576 - t.size
    · have H0 := Lib.hid h
      go_enter Try.func5, Try.ntmps5
      go_wp2_with (go_at_call 6; refine (szValue_fits _ _ _ _ _ _ H0.out (by omega)).mono ?_; rintro e w1 ⟨rfl, hb⟩; obtain ⟨v1, v2, v3, v4⟩ := HV1.out _ rfl; have HA1 := Lib.hid (v4_below v1 (by omega) hb); have HC1 := Lib.hid (v4_below v2 (by omega) hb); have HB1 : Hid (Below W.heap.size W w1) := v4.trans (hb.mono v4.size); have HL1 : Hid (W.heap.size + 1 < w1.heap.size) := Nat.lt_of_lt_of_le (by omega) hb.size; obtain ⟨q0, q1, q2, q3⟩ := HC1.out; clear hb v1 v2 v3 v4 H0)
      go_wp2_with (go_at_call 6; refine (szValue_fits _ _ _ _ _ _ h2 (by omega)).mono ?_; rintro e w2 ⟨rfl, hb⟩; have HAw2 := Lib.hid (v4_below HA1.out (by have := HL1.out; omega) hb); have HCw2 := Lib.hid (v4_below HC1.out HL1.out hb); have HB2 : Hid (Below W.heap.size W w2) := HB1.out.trans (hb.mono HB1.out.size); clear hb q0 q1 q2 q3 HA1 HC1)
      have aw3 := fun (d : Nat) (os : Array Obj) => Calls.regrown_of (w := w2) (d := d) (os := os) (toValue_any k n t r _)
      have bw3 := fun (d : Nat) (os : Array Obj) => Calls.regrown_of (w := w2) (d := d) (os := os) (toValue_any k' n' t' r' _)
      have cw3 : ∀ d os, Calls Try.prog 12 #[.agg #[.int .i64 k, .int .i64 n, .string t, .int .i64 r], .agg #[.int .i64 k', .int .i64 n', .string t', .int .i64 r']] (grow (redrawn w2 d) os) (fun e w'' => e = .returned (.bool p) ∧ ∃ q : Regrown, w'' = grow (redrawn w2 q.d) q.os) := fun d os => Calls.regrown_of (by have h := spec_PrecedesValue_any k n t r k' n' t' r' (grow (redrawn w2 d) os); rw [HP.out] at h; exact h)
      obtain ⟨p0, p1, p2, p3⟩ := HAw2.out
      obtain ⟨q0, q1, q2, q3⟩ := HCw2.out
      have x0 := cell_regrown p0
      have x1 := cell_regrown p1
      have x2 := cell_regrown p2
      have x3 := cell_regrown p3
      have y0 := cell_regrown q0
      have y1 := cell_regrown q1
      have y2 := cell_regrown q2
      have y3 := cell_regrown q3
      clear p0 p1 p2 p3 q0 q1 q2 q3
      refine wp_region_quiet_below (by kernel_rfl) (by kernel_rfl) ?_
      repeat (first | go_big_quiet_step (first | with_reducible exact aw3 _ _ | with_reducible exact bw3 _ _ | with_reducible exact cw3 _ _) | quiet_step (first | with_reducible exact aw3 _ _ | with_reducible exact bw3 _ _ | with_reducible exact cw3 _ _))
      refine wpQuiet_nil ?_
      intro w3 hw'
      obtain ⟨⟨dq, osq⟩, hw''⟩ := hw'
      have HAw3 : Hid (V4 w3 W.heap.size k n t r) := by show V4 _ _ _ _ _ _; rw [hw'']; exact ⟨x0 _ _, x1 _ _, x2 _ _, x3 _ _⟩
      have HCw3 : Hid (V4 w3 (W.heap.size + 1) k' n' t' r') := by show V4 _ _ _ _ _ _; rw [hw'']; exact ⟨y0 _ _, y1 _ _, y2 _ _, y3 _ _⟩
      have HB3 : Hid (Below W.heap.size W w3) := by show Below _ _ _; rw [hw'']; exact HB2.out.trans ((below_regrown w2 dq osq).mono HB2.out.size)
      clear hw'' x0 x1 x2 x3 y0 y1 y2 y3 aw3 bw3 cw3
      go_wp2_with fail
      have aw4 := fun (d : Nat) (os : Array Obj) => Calls.regrown_of (w := w3) (d := d) (os := os) (toValue_any k n t r _)
      have bw4 := fun (d : Nat) (os : Array Obj) => Calls.regrown_of (w := w3) (d := d) (os := os) (toValue_any k' n' t' r' _)
      have cw4 : ∀ d os, Calls Try.prog 13 #[.agg #[.int .i64 k, .int .i64 n, .string t, .int .i64 r], .agg #[.int .i64 k', .int .i64 n', .string t', .int .i64 r']] (grow (redrawn w3 d) os) (fun e w'' => e = .returned (.bool p) ∧ ∃ q : Regrown, w'' = grow (redrawn w3 q.d) q.os) := fun d os => Calls.regrown_of (by have h := impl_PrecedesValue_any k n t r k' n' t' r' (grow (redrawn w3 d) os); rw [HP.out] at h; exact h)
      obtain ⟨p0, p1, p2, p3⟩ := HAw3.out
      obtain ⟨q0, q1, q2, q3⟩ := HCw3.out
      have x0 := cell_regrown p0
      have x1 := cell_regrown p1
      have x2 := cell_regrown p2
      have x3 := cell_regrown p3
      have y0 := cell_regrown q0
      have y1 := cell_regrown q1
      have y2 := cell_regrown q2
      have y3 := cell_regrown q3
      clear p0 p1 p2 p3 q0 q1 q2 q3
      refine wp_region_quiet_below (by kernel_rfl) (by kernel_rfl) ?_
      repeat (first | go_big_quiet_step (first | with_reducible exact aw4 _ _ | with_reducible exact bw4 _ _ | with_reducible exact cw4 _ _) | quiet_step (first | with_reducible exact aw4 _ _ | with_reducible exact bw4 _ _ | with_reducible exact cw4 _ _))
      refine wpQuiet_nil ?_
      intro w4 hw'
      obtain ⟨⟨dq, osq⟩, hw''⟩ := hw'
      have HAw4 : Hid (V4 w4 W.heap.size k n t r) := by show V4 _ _ _ _ _ _; rw [hw'']; exact ⟨x0 _ _, x1 _ _, x2 _ _, x3 _ _⟩
      have HCw4 : Hid (V4 w4 (W.heap.size + 1) k' n' t' r') := by show V4 _ _ _ _ _ _; rw [hw'']; exact ⟨y0 _ _, y1 _ _, y2 _ _, y3 _ _⟩
      have HB4 : Hid (Below W.heap.size W w4) := by show Below _ _ _; rw [hw'']; exact HB3.out.trans ((below_regrown w3 dq osq).mono HB3.out.size)
      clear hw'' x0 x1 x2 x3 y0 y1 y2 y3 aw4 bw4 cw4
      go_wp2_with fail
      all_goals go_ret
      all_goals exact ⟨rfl, HB4.out⟩
    · have h3 : (1048576 : Int) - t.size < t'.size := by omega
      have h4 : (0 : Int) ≤ 1048576 - t.size := by omega
      clear h2
      have H0 := Lib.hid h
      go_enter Try.func5, Try.ntmps5
      go_wp2_with (go_at_call 6; refine (szValue_fits _ _ _ _ _ _ H0.out (by omega)).mono ?_; rintro e w1 ⟨rfl, hb⟩; obtain ⟨v1, v2, v3, v4⟩ := HV1.out _ rfl; have HC1 := Lib.hid (v4_below v2 (by omega) hb); have HB1 : Hid (Below W.heap.size W w1) := v4.trans (hb.mono v4.size); obtain ⟨q0, q1, q2, q3⟩ := HC1.out; clear hb v1 v2 v3 v4 H0)
      go_wp2_with (go_at_call 6; refine (szValue_long _ _ _ _ _ _ h3 h4 (by omega) HS'.out).mono ?_; rintro e w2 ⟨rfl, hb⟩; have HB2 : Hid (Below W.heap.size W w2) := HB1.out.trans (hb.mono HB1.out.size); clear hb q0 q1 q2 q3)
      go_ret
      exact ⟨rfl, HB2.out⟩
  · have h' : 1048576 < (t.size : Int) := by omega
    clear h
    go_enter Try.func5, Try.ntmps5
    go_wp2_with (go_at_call 6; refine (szValue_long _ _ _ _ _ _ h' (by decide) (by decide) HS.out).mono ?_; rintro e w1 ⟨rfl, hb⟩; obtain ⟨_, _, _, v4⟩ := HV1.out _ rfl; have HB1 : Hid (Below W.heap.size W w1) := v4.trans (hb.mono v4.size); clear hb v4)
    go_ret
    exact ⟨rfl, HB1.out⟩
end Go.Proofs.Ytfobjedobojbnaa
