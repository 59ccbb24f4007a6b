/- Contracts: ToInteger of the model and of the program, case by case. Conditions of the program's: the tables hold what the program's text lays. -/
import Derived.Test.YtpjjpfjnjhahcaaGreatDoorTwoV
import Derived.Test.YtpjjpfjnjhahcaaGreatDoorValOrA
import Derived.Test.YtpjjpfjnjhahcaaGreatDoorDigits
namespace Go.Proofs.YtpjjpfjnjhahcaaGreatDoor
open Go Go.RowKit

/-- One box. -/
def B1 (W w : World) (a : Va) : Prop := C4 w W.heap.size a ∧ Below W.heap.size W w ∧ W.heap.size < w.heap.size
theorem B1.go {W w w' : World} {a : Va} (h : B1 W w a) (hb : Below w.heap.size w w') : B1 W w' a := ⟨h.1.below hb h.2.2, h.2.1.trans (hb.mono h.2.1.size), Nat.lt_of_lt_of_le h.2.2 hb.size⟩
theorem B1.new (W : World) (a : Va) : ∀ X, X = W.alloc (.cells #[.int .i64 a.k, .int .i64 a.n, .string a.t, .int .i64 a.r] 25) → B1 W X a := fun X e => by
  obtain ⟨c, b, z⟩ := one_newV W 25 #[.int .i64 a.k, .int .i64 a.n, .string a.t, .int .i64 a.r] X e
  exact ⟨⟨c 0, c 1, c 2, c 3⟩, b, by omega⟩
theorem numB_yes {s : ByteArray} (h : numP s) : numB s = true := (numB_of (b := true) ⟨fun _ => h, fun _ => rfl⟩).symm
theorem numB_no {s : ByteArray} (h : ¬ numP s) : numB s = false := (numB_of (b := false) ⟨fun e => Bool.noConfusion e, fun e => absurd e h⟩).symm
theorem valid_int (n : Int) : validV 2 n ⟨#[]⟩ 0 = decide (-1000000000000 ≤ n ∧ n ≤ 1000000000000) := by
  unfold validV
  rw [if_neg (by decide), if_pos rfl]
  rfl
theorem num_fits {t : ByteArray} (h : valK t (atB t) t.size ≤ 1000000000000) : validV 2 (numV t) ⟨#[]⟩ 0 = true := by
  rw [valid_int, decide_eq_true_iff]
  unfold numV
  split <;> omega
theorem num_big {t : ByteArray} (h : 1000000000000 < valK t (atB t) t.size) : validV 2 (numV t) ⟨#[]⟩ 0 = false := by
  rw [valid_int, decide_eq_false_iff_not]
  unfold numV
  split <;> omega

set_option maxHeartbeats 1000000 in
set_option maxRecDepth 100000 in
theorem spec_ti_no (k n : Int) (t : ByteArray) (r : Int) (W : World) (hs : t.size ≤ 1048576) (f0 : validV k n t r = false) :
    Calls Tryz.prog 19 #[.agg #[.int .i64 k, .int .i64 n, .string t, .int .i64 r]] W fun e w' => e = .returned (.tuple #[.int .i64 0, .bool false]) ∧ Below W.heap.size W w' := by
  have H0 := Lib.hid (B1.new W ⟨k, n, t, r⟩)
  have HS := Lib.hid hs
  have HSM : Hid (t.size ≤ maxLen) := by show _ ≤ _; unfold maxLen; omega
  have F0 := Lib.hid f0
  clear hs
  go_enter Tryz.func19, Tryz.ntmps19
  go_wp2_with (first
    | (go_at_call 16; have hh := H0.out _ rfl; have HH := Lib.hid hh; refine (spec_ValidValue_any k n t r _ HSM.out).mono ?_; clear hh; rintro e w1 ⟨he, hb⟩; rw [F0.out] at he; subst he; replace HH := Lib.hid (HH.out.go hb); clear hb; obtain ⟨x0, x1, x2, x3⟩ := HH.out.1; have lh := HH.out.2.2))
  all_goals go_ret2
  all_goals exact ⟨rfl, by repeat (first | exact HH.out.2.1 | refine Below.setCell ?_ (by first | (simp; done) | (have := HH.out.2.1.size; simp; omega) | exact HH.out.2.1.size) _ | refine Below.alloc ?_ (by first | (simp; done) | exact HH.out.2.1.size) _)⟩

set_option maxHeartbeats 1000000 in
set_option maxRecDepth 100000 in
theorem spec_ti_num (k n : Int) (t : ByteArray) (r : Int) (W : World) (hs : t.size ≤ 1048576) (f0 : validV k n t r = true) (f1 : (k == 2) = true) :
    Calls Tryz.prog 19 #[.agg #[.int .i64 k, .int .i64 n, .string t, .int .i64 r]] W fun e w' => e = .returned (.tuple #[.int .i64 n, .bool true]) ∧ Below W.heap.size W w' := by
  have H0 := Lib.hid (B1.new W ⟨k, n, t, r⟩)
  have HS := Lib.hid hs
  have HSM : Hid (t.size ≤ maxLen) := by show _ ≤ _; unfold maxLen; omega
  have F0 := Lib.hid f0
  have F1 := Lib.hid f1
  clear hs
  go_enter Tryz.func19, Tryz.ntmps19
  go_wp2_with (first
    | (go_at_call 16; have hh := H0.out _ rfl; have HH := Lib.hid hh; refine (spec_ValidValue_any k n t r _ HSM.out).mono ?_; clear hh; rintro e w1 ⟨he, hb⟩; rw [F0.out] at he; subst he; replace HH := Lib.hid (HH.out.go hb); clear hb; obtain ⟨x0, x1, x2, x3⟩ := HH.out.1; have lh := HH.out.2.2))
  all_goals go_ret2
  all_goals exact ⟨rfl, by repeat (first | exact HH.out.2.1 | refine Below.setCell ?_ (by first | (simp; done) | (have := HH.out.2.1.size; simp; omega) | exact HH.out.2.1.size) _ | refine Below.alloc ?_ (by first | (simp; done) | exact HH.out.2.1.size) _)⟩

set_option maxHeartbeats 1000000 in
set_option maxRecDepth 100000 in
theorem spec_ti_null (k n : Int) (t : ByteArray) (r : Int) (W : World) (hs : t.size ≤ 1048576) (f0 : validV k n t r = true) (f1 : (k == 2) = false) (f2 : isNullV k n t r = true) :
    Calls Tryz.prog 19 #[.agg #[.int .i64 k, .int .i64 n, .string t, .int .i64 r]] W fun e w' => e = .returned (.tuple #[.int .i64 0, .bool true]) ∧ Below W.heap.size W w' := by
  have H0 := Lib.hid (B1.new W ⟨k, n, t, r⟩)
  have HS := Lib.hid hs
  have HSM : Hid (t.size ≤ maxLen) := by show _ ≤ _; unfold maxLen; omega
  have F0 := Lib.hid f0
  have F1 := Lib.hid f1
  have F2 := Lib.hid f2
  clear hs
  go_enter Tryz.func19, Tryz.ntmps19
  go_wp2_with (first
    | (go_at_call 16; have hh := H0.out _ rfl; have HH := Lib.hid hh; refine (spec_ValidValue_any k n t r _ HSM.out).mono ?_; clear hh; rintro e w1 ⟨he, hb⟩; rw [F0.out] at he; subst he; replace HH := Lib.hid (HH.out.go hb); clear hb; obtain ⟨x0, x1, x2, x3⟩ := HH.out.1; have lh := HH.out.2.2)
    | (go_at_call 44; refine (spec_IsNull_any k n t r w1).mono ?_; clear x0 x1 x2 x3 lh; rintro e w1 ⟨he, hb⟩; rw [F2.out] at he; subst he; replace HH := Lib.hid (HH.out.go hb); clear hb; obtain ⟨x0, x1, x2, x3⟩ := HH.out.1; have lh := HH.out.2.2))
  all_goals go_ret2
  all_goals exact ⟨rfl, by repeat (first | exact HH.out.2.1 | refine Below.setCell ?_ (by first | (simp; done) | (have := HH.out.2.1.size; simp; omega) | exact HH.out.2.1.size) _ | refine Below.alloc ?_ (by first | (simp; done) | exact HH.out.2.1.size) _)⟩

set_option maxHeartbeats 1000000 in
set_option maxRecDepth 100000 in
theorem spec_ti_other (k n : Int) (t : ByteArray) (r : Int) (W : World) (hs : t.size ≤ 1048576) (f0 : validV k n t r = true) (f1 : (k == 2) = false) (f2 : isNullV k n t r = false) (f3 : (k == 1) = false) :
    Calls Tryz.prog 19 #[.agg #[.int .i64 k, .int .i64 n, .string t, .int .i64 r]] W fun e w' => e = .returned (.tuple #[.int .i64 0, .bool false]) ∧ Below W.heap.size W w' := by
  have H0 := Lib.hid (B1.new W ⟨k, n, t, r⟩)
  have HS := Lib.hid hs
  have HSM : Hid (t.size ≤ maxLen) := by show _ ≤ _; unfold maxLen; omega
  have F0 := Lib.hid f0
  have F1 := Lib.hid f1
  have F2 := Lib.hid f2
  have F3 := Lib.hid f3
  clear hs
  go_enter Tryz.func19, Tryz.ntmps19
  go_wp2_with (first
    | (go_at_call 16; have hh := H0.out _ rfl; have HH := Lib.hid hh; refine (spec_ValidValue_any k n t r _ HSM.out).mono ?_; clear hh; rintro e w1 ⟨he, hb⟩; rw [F0.out] at he; subst he; replace HH := Lib.hid (HH.out.go hb); clear hb; obtain ⟨x0, x1, x2, x3⟩ := HH.out.1; have lh := HH.out.2.2)
    | (go_at_call 44; refine (spec_IsNull_any k n t r w1).mono ?_; clear x0 x1 x2 x3 lh; rintro e w1 ⟨he, hb⟩; rw [F2.out] at he; subst he; replace HH := Lib.hid (HH.out.go hb); clear hb; obtain ⟨x0, x1, x2, x3⟩ := HH.out.1; have lh := HH.out.2.2))
  all_goals go_ret2
  all_goals exact ⟨rfl, by repeat (first | exact HH.out.2.1 | refine Below.setCell ?_ (by first | (simp; done) | (have := HH.out.2.1.size; simp; omega) | exact HH.out.2.1.size) _ | refine Below.alloc ?_ (by first | (simp; done) | exact HH.out.2.1.size) _)⟩

set_option maxHeartbeats 1000000 in
set_option maxRecDepth 100000 in
theorem impl_ti_no (k n : Int) (t : ByteArray) (r : Int) (W : World) (hs : t.size ≤ 1048576) (hT : Tabs W) (f0 : validV k n t r = false) :
    Calls Tryz.prog 27 #[.agg #[.int .i64 k, .int .i64 n, .string t, .int .i64 r]] W fun e w' => e = .returned (.tuple #[.int .i64 0, .bool false]) ∧ Below W.heap.size W w' := by
  have H0 := Lib.hid (B1.new W ⟨k, n, t, r⟩)
  have HS := Lib.hid hs
  have HSM : Hid (t.size ≤ maxLen) := by show _ ≤ _; unfold maxLen; omega
  have HT := Lib.hid hT
  have F0 := Lib.hid f0
  clear hs hT
  go_enter Tryz.func27, Tryz.ntmps27
  go_wp2_with (first
    | (go_at_call 25; have hh := H0.out _ rfl; have HH := Lib.hid hh; refine (impl_ValidValue_any k n t r _ HSM.out (HT.out.go hh.2.1).1).mono ?_; clear hh; rintro e w1 ⟨he, hb⟩; rw [F0.out] at he; subst he; replace HH := Lib.hid (HH.out.go hb); clear hb; obtain ⟨x0, x1, x2, x3⟩ := HH.out.1; have lh := HH.out.2.2))
  all_goals go_ret2
  all_goals exact ⟨rfl, by repeat (first | exact HH.out.2.1 | refine Below.setCell ?_ (by first | (simp; done) | (have := HH.out.2.1.size; simp; omega) | exact HH.out.2.1.size) _ | refine Below.alloc ?_ (by first | (simp; done) | exact HH.out.2.1.size) _)⟩

set_option maxHeartbeats 1000000 in
set_option maxRecDepth 100000 in
theorem impl_ti_num (k n : Int) (t : ByteArray) (r : Int) (W : World) (hs : t.size ≤ 1048576) (hT : Tabs W) (f0 : validV k n t r = true) (f1 : (k == 2) = true) :
    Calls Tryz.prog 27 #[.agg #[.int .i64 k, .int .i64 n, .string t, .int .i64 r]] W fun e w' => e = .returned (.tuple #[.int .i64 n, .bool true]) ∧ Below W.heap.size W w' := by
  have H0 := Lib.hid (B1.new W ⟨k, n, t, r⟩)
  have HS := Lib.hid hs
  have HSM : Hid (t.size ≤ maxLen) := by show _ ≤ _; unfold maxLen; omega
  have HT := Lib.hid hT
  have F0 := Lib.hid f0
  have F1 := Lib.hid f1
  clear hs hT
  go_enter Tryz.func27, Tryz.ntmps27
  go_wp2_with (first
    | (go_at_call 25; have hh := H0.out _ rfl; have HH := Lib.hid hh; refine (impl_ValidValue_any k n t r _ HSM.out (HT.out.go hh.2.1).1).mono ?_; clear hh; rintro e w1 ⟨he, hb⟩; rw [F0.out] at he; subst he; replace HH := Lib.hid (HH.out.go hb); clear hb; obtain ⟨x0, x1, x2, x3⟩ := HH.out.1; have lh := HH.out.2.2))
  all_goals go_ret2
  all_goals exact ⟨rfl, by repeat (first | exact HH.out.2.1 | refine Below.setCell ?_ (by first | (simp; done) | (have := HH.out.2.1.size; simp; omega) | exact HH.out.2.1.size) _ | refine Below.alloc ?_ (by first | (simp; done) | exact HH.out.2.1.size) _)⟩

set_option maxHeartbeats 1000000 in
set_option maxRecDepth 100000 in
theorem impl_ti_null (k n : Int) (t : ByteArray) (r : Int) (W : World) (hs : t.size ≤ 1048576) (hT : Tabs W) (f0 : validV k n t r = true) (f1 : (k == 2) = false) (f2 : isNullV k n t r = true) :
    Calls Tryz.prog 27 #[.agg #[.int .i64 k, .int .i64 n, .string t, .int .i64 r]] W fun e w' => e = .returned (.tuple #[.int .i64 0, .bool true]) ∧ Below W.heap.size W w' := by
  have H0 := Lib.hid (B1.new W ⟨k, n, t, r⟩)
  have HS := Lib.hid hs
  have HSM : Hid (t.size ≤ maxLen) := by show _ ≤ _; unfold maxLen; omega
  have HT := Lib.hid hT
  have F0 := Lib.hid f0
  have F1 := Lib.hid f1
  have F2 := Lib.hid f2
  clear hs hT
  go_enter Tryz.func27, Tryz.ntmps27
  go_wp2_with (first
    | (go_at_call 25; have hh := H0.out _ rfl; have HH := Lib.hid hh; refine (impl_ValidValue_any k n t r _ HSM.out (HT.out.go hh.2.1).1).mono ?_; clear hh; rintro e w1 ⟨he, hb⟩; rw [F0.out] at he; subst he; replace HH := Lib.hid (HH.out.go hb); clear hb; obtain ⟨x0, x1, x2, x3⟩ := HH.out.1; have lh := HH.out.2.2)
    | (go_at_call 55; refine (impl_IsNull_any k n t r w1).mono ?_; clear x0 x1 x2 x3 lh; rintro e w1 ⟨he, hb⟩; rw [F2.out] at he; subst he; replace HH := Lib.hid (HH.out.go hb); clear hb; obtain ⟨x0, x1, x2, x3⟩ := HH.out.1; have lh := HH.out.2.2))
  all_goals go_ret2
  all_goals exact ⟨rfl, by repeat (first | exact HH.out.2.1 | refine Below.setCell ?_ (by first | (simp; done) | (have := HH.out.2.1.size; simp; omega) | exact HH.out.2.1.size) _ | refine Below.alloc ?_ (by first | (simp; done) | exact HH.out.2.1.size) _)⟩

set_option maxHeartbeats 1000000 in
set_option maxRecDepth 100000 in
theorem impl_ti_other (k n : Int) (t : ByteArray) (r : Int) (W : World) (hs : t.size ≤ 1048576) (hT : Tabs W) (f0 : validV k n t r = true) (f1 : (k == 2) = false) (f2 : isNullV k n t r = false) (f3 : (k == 1) = false) :
    Calls Tryz.prog 27 #[.agg #[.int .i64 k, .int .i64 n, .string t, .int .i64 r]] W fun e w' => e = .returned (.tuple #[.int .i64 0, .bool false]) ∧ Below W.heap.size W w' := by
  have H0 := Lib.hid (B1.new W ⟨k, n, t, r⟩)
  have HS := Lib.hid hs
  have HSM : Hid (t.size ≤ maxLen) := by show _ ≤ _; unfold maxLen; omega
  have HT := Lib.hid hT
  have F0 := Lib.hid f0
  have F1 := Lib.hid f1
  have F2 := Lib.hid f2
  have F3 := Lib.hid f3
  clear hs hT
  go_enter Tryz.func27, Tryz.ntmps27
  go_wp2_with (first
    | (go_at_call 25; have hh := H0.out _ rfl; have HH := Lib.hid hh; refine (impl_ValidValue_any k n t r _ HSM.out (HT.out.go hh.2.1).1).mono ?_; clear hh; rintro e w1 ⟨he, hb⟩; rw [F0.out] at he; subst he; replace HH := Lib.hid (HH.out.go hb); clear hb; obtain ⟨x0, x1, x2, x3⟩ := HH.out.1; have lh := HH.out.2.2)
    | (go_at_call 55; refine (impl_IsNull_any k n t r w1).mono ?_; clear x0 x1 x2 x3 lh; rintro e w1 ⟨he, hb⟩; rw [F2.out] at he; subst he; replace HH := Lib.hid (HH.out.go hb); clear hb; obtain ⟨x0, x1, x2, x3⟩ := HH.out.1; have lh := HH.out.2.2))
  all_goals go_ret2
  all_goals exact ⟨rfl, by repeat (first | exact HH.out.2.1 | refine Below.setCell ?_ (by first | (simp; done) | (have := HH.out.2.1.size; simp; omega) | exact HH.out.2.1.size) _ | refine Below.alloc ?_ (by first | (simp; done) | exact HH.out.2.1.size) _)⟩

set_option maxHeartbeats 1000000 in
set_option maxRecDepth 100000 in
theorem spec_ti_strY (k n : Int) (t : ByteArray) (r : Int) (W : World) (hs : t.size ≤ 1048576) (f0 : validV k n t r = true) (f1 : (k == 2) = false) (f2 : isNullV k n t r = false) (f3 : (k == 1) = true) (f4 : numP t) (f5 : valK t (atB t) t.size ≤ 1000000000000) :
    Calls Tryz.prog 19 #[.agg #[.int .i64 k, .int .i64 n, .string t, .int .i64 r]] W fun e w' => e = dgE t ∧ Below W.heap.size W w' := by
  have H0 := Lib.hid (B1.new W ⟨k, n, t, r⟩)
  have HS := Lib.hid hs
  have HSM : Hid (t.size ≤ maxLen) := by show _ ≤ _; unfold maxLen; omega
  have F0 := Lib.hid f0
  have F1 := Lib.hid f1
  have F2 := Lib.hid f2
  have F3 := Lib.hid f3
  have F4 := Lib.hid f4
  have F5 := Lib.hid f5
  skip
  have HE := Lib.hid (dgE_yes f4 f5)
  clear f4 f5 F4 F5
  clear hs
  go_enter Tryz.func19, Tryz.ntmps19
  go_wp2_with (first
    | (go_at_call 16; have hh := H0.out _ rfl; have HH := Lib.hid hh; refine (spec_ValidValue_any k n t r _ HSM.out).mono ?_; clear hh; rintro e w1 ⟨he, hb⟩; rw [F0.out] at he; subst he; replace HH := Lib.hid (HH.out.go hb); clear hb; obtain ⟨x0, x1, x2, x3⟩ := HH.out.1; have lh := HH.out.2.2)
    | (go_at_call 44; refine (spec_IsNull_any k n t r w1).mono ?_; clear x0 x1 x2 x3 lh; rintro e w1 ⟨he, hb⟩; rw [F2.out] at he; subst he; replace HH := Lib.hid (HH.out.go hb); clear hb; obtain ⟨x0, x1, x2, x3⟩ := HH.out.1; have lh := HH.out.2.2)
    | (go_at_call 45; refine (l10Digits_any t w1 HS.out).mono ?_; rintro e w2 ⟨he, rfl⟩; rw [HE.out] at he; subst he))
  all_goals go_ret2
  all_goals exact ⟨by rw [HE.out]; rfl, by repeat (first | exact HH.out.2.1 | refine Below.setCell ?_ (by first | (simp; done) | (have := HH.out.2.1.size; simp; omega) | exact HH.out.2.1.size) _ | refine Below.alloc ?_ (by first | (simp; done) | exact HH.out.2.1.size) _)⟩

set_option maxHeartbeats 1000000 in
set_option maxRecDepth 100000 in
theorem spec_ti_strN (k n : Int) (t : ByteArray) (r : Int) (W : World) (hs : t.size ≤ 1048576) (f0 : validV k n t r = true) (f1 : (k == 2) = false) (f2 : isNullV k n t r = false) (f3 : (k == 1) = true) (f4 : dgE t = .returned (.tuple #[.int .i64 0, .bool false])) :
    Calls Tryz.prog 19 #[.agg #[.int .i64 k, .int .i64 n, .string t, .int .i64 r]] W fun e w' => e = dgE t ∧ Below W.heap.size W w' := by
  have H0 := Lib.hid (B1.new W ⟨k, n, t, r⟩)
  have HS := Lib.hid hs
  have HSM : Hid (t.size ≤ maxLen) := by show _ ≤ _; unfold maxLen; omega
  have F0 := Lib.hid f0
  have F1 := Lib.hid f1
  have F2 := Lib.hid f2
  have F3 := Lib.hid f3
  have F4 := Lib.hid f4
  skip
  have HE := Lib.hid f4
  clear f4 F4
  clear hs
  go_enter Tryz.func19, Tryz.ntmps19
  go_wp2_with (first
    | (go_at_call 16; have hh := H0.out _ rfl; have HH := Lib.hid hh; refine (spec_ValidValue_any k n t r _ HSM.out).mono ?_; clear hh; rintro e w1 ⟨he, hb⟩; rw [F0.out] at he; subst he; replace HH := Lib.hid (HH.out.go hb); clear hb; obtain ⟨x0, x1, x2, x3⟩ := HH.out.1; have lh := HH.out.2.2)
    | (go_at_call 44; refine (spec_IsNull_any k n t r w1).mono ?_; clear x0 x1 x2 x3 lh; rintro e w1 ⟨he, hb⟩; rw [F2.out] at he; subst he; replace HH := Lib.hid (HH.out.go hb); clear hb; obtain ⟨x0, x1, x2, x3⟩ := HH.out.1; have lh := HH.out.2.2)
    | (go_at_call 45; refine (l10Digits_any t w1 HS.out).mono ?_; rintro e w2 ⟨he, rfl⟩; rw [HE.out] at he; subst he))
  all_goals go_ret2
  all_goals exact ⟨by rw [HE.out]; rfl, by repeat (first | exact HH.out.2.1 | refine Below.setCell ?_ (by first | (simp; done) | (have := HH.out.2.1.size; simp; omega) | exact HH.out.2.1.size) _ | refine Below.alloc ?_ (by first | (simp; done) | exact HH.out.2.1.size) _)⟩

set_option maxHeartbeats 1000000 in
set_option maxRecDepth 100000 in
theorem impl_ti_strX (k n : Int) (t : ByteArray) (r : Int) (W : World) (hs : t.size ≤ 1048576) (hT : Tabs W) (f0 : validV k n t r = true) (f1 : (k == 2) = false) (f2 : isNullV k n t r = false) (f3 : (k == 1) = true) (f4 : ¬ numP t) :
    Calls Tryz.prog 27 #[.agg #[.int .i64 k, .int .i64 n, .string t, .int .i64 r]] W fun e w' => e = dgE t ∧ Below W.heap.size W w' := by
  have H0 := Lib.hid (B1.new W ⟨k, n, t, r⟩)
  have HS := Lib.hid hs
  have HSM : Hid (t.size ≤ maxLen) := by show _ ≤ _; unfold maxLen; omega
  have HT := Lib.hid hT
  have F0 := Lib.hid f0
  have F1 := Lib.hid f1
  have F2 := Lib.hid f2
  have F3 := Lib.hid f3
  have F4 := Lib.hid f4
  skip
  have HE := Lib.hid (dgE_no f4)
  have HB : Hid (numB t = false) := numB_no f4
  clear f4 F4
  clear hs hT
  go_enter Tryz.func27, Tryz.ntmps27
  go_wp2_with (first
    | (go_at_call 25; have hh := H0.out _ rfl; have HH := Lib.hid hh; refine (impl_ValidValue_any k n t r _ HSM.out (HT.out.go hh.2.1).1).mono ?_; clear hh; rintro e w1 ⟨he, hb⟩; rw [F0.out] at he; subst he; replace HH := Lib.hid (HH.out.go hb); clear hb; obtain ⟨x0, x1, x2, x3⟩ := HH.out.1; have lh := HH.out.2.2)
    | (go_at_call 55; refine (impl_IsNull_any k n t r w1).mono ?_; clear x0 x1 x2 x3 lh; rintro e w1 ⟨he, hb⟩; rw [F2.out] at he; subst he; replace HH := Lib.hid (HH.out.go hb); clear hb; obtain ⟨x0, x1, x2, x3⟩ := HH.out.1; have lh := HH.out.2.2)
    | (go_at_call 56; refine (isNumeral_any t w1 HS.out (HT.out.go HH.out.2.1).1).mono ?_; clear x0 x1 x2 x3 lh; rintro e w1 ⟨he, hb⟩; rw [HB.out] at he; subst he; replace HH := Lib.hid (HH.out.go hb); clear hb; obtain ⟨x0, x1, x2, x3⟩ := HH.out.1; have lh := HH.out.2.2))
  all_goals go_ret2
  all_goals exact ⟨by rw [HE.out]; rfl, by repeat (first | exact HH.out.2.1 | refine Below.setCell ?_ (by first | (simp; done) | (have := HH.out.2.1.size; simp; omega) | exact HH.out.2.1.size) _ | refine Below.alloc ?_ (by first | (simp; done) | exact HH.out.2.1.size) _)⟩

set_option maxHeartbeats 1000000 in
set_option maxRecDepth 100000 in
theorem impl_ti_strB (k n : Int) (t : ByteArray) (r : Int) (W : World) (hs : t.size ≤ 1048576) (hT : Tabs W) (f0 : validV k n t r = true) (f1 : (k == 2) = false) (f2 : isNullV k n t r = false) (f3 : (k == 1) = true) (f4 : numP t) (f5 : 1000000000000 < valK t (atB t) t.size) :
    Calls Tryz.prog 27 #[.agg #[.int .i64 k, .int .i64 n, .string t, .int .i64 r]] W fun e w' => e = dgE t ∧ Below W.heap.size W w' := by
  have H0 := Lib.hid (B1.new W ⟨k, n, t, r⟩)
  have HS := Lib.hid hs
  have HSM : Hid (t.size ≤ maxLen) := by show _ ≤ _; unfold maxLen; omega
  have HT := Lib.hid hT
  have F0 := Lib.hid f0
  have F1 := Lib.hid f1
  have F2 := Lib.hid f2
  have F3 := Lib.hid f3
  have F4 := Lib.hid f4
  have F5 := Lib.hid f5
  skip
  have HE := Lib.hid (dgE_big f5)
  have HP := Lib.hid f4
  have HB : Hid (numB t = true) := numB_yes f4
  have HI : Hid (validV 2 (numV t) ⟨#[]⟩ 0 = false) := num_big f5
  clear f4 F4 f5 F5
  clear hs hT
  go_enter Tryz.func27, Tryz.ntmps27
  go_wp2_with (first
    | (go_at_call 25; have hh := H0.out _ rfl; have HH := Lib.hid hh; refine (impl_ValidValue_any k n t r _ HSM.out (HT.out.go hh.2.1).1).mono ?_; clear hh; rintro e w1 ⟨he, hb⟩; rw [F0.out] at he; subst he; replace HH := Lib.hid (HH.out.go hb); clear hb; obtain ⟨x0, x1, x2, x3⟩ := HH.out.1; have lh := HH.out.2.2)
    | (go_at_call 55; refine (impl_IsNull_any k n t r w1).mono ?_; clear x0 x1 x2 x3 lh; rintro e w1 ⟨he, hb⟩; rw [F2.out] at he; subst he; replace HH := Lib.hid (HH.out.go hb); clear hb; obtain ⟨x0, x1, x2, x3⟩ := HH.out.1; have lh := HH.out.2.2)
    | (go_at_call 56; refine (isNumeral_any t w1 HS.out (HT.out.go HH.out.2.1).1).mono ?_; clear x0 x1 x2 x3 lh; rintro e w1 ⟨he, hb⟩; rw [HB.out] at he; subst he; replace HH := Lib.hid (HH.out.go hb); clear hb; obtain ⟨x0, x1, x2, x3⟩ := HH.out.1; have lh := HH.out.2.2)
    | (go_at_call 58; refine (numberIn_any t w1 HS.out HP.out).mono ?_; clear x0 x1 x2 x3 lh; rintro e w1 ⟨he, hb⟩; subst he; replace HH := Lib.hid (HH.out.go hb); clear hb; obtain ⟨x0, x1, x2, x3⟩ := HH.out.1; have lh := HH.out.2.2)
    | (go_at_call 57; refine (impl_IntegerValue_any (numV t) w1 (HT.out.go HH.out.2.1).1).mono ?_; clear x0 x1 x2 x3 lh; rintro e w1 ⟨he, hb⟩; rw [HI.out, orV_f] at he; subst he; replace HH := Lib.hid (HH.out.go hb); clear hb; obtain ⟨x0, x1, x2, x3⟩ := HH.out.1; have lh := HH.out.2.2))
  all_goals go_ret2
  all_goals exact ⟨by rw [HE.out]; rfl, by repeat (first | exact HH.out.2.1 | refine Below.setCell ?_ (by first | (simp; done) | (have := HH.out.2.1.size; simp; omega) | exact HH.out.2.1.size) _ | refine Below.alloc ?_ (by first | (simp; done) | exact HH.out.2.1.size) _)⟩

set_option maxHeartbeats 1000000 in
set_option maxRecDepth 100000 in
theorem impl_ti_strY (k n : Int) (t : ByteArray) (r : Int) (W : World) (hs : t.size ≤ 1048576) (hT : Tabs W) (f0 : validV k n t r = true) (f1 : (k == 2) = false) (f2 : isNullV k n t r = false) (f3 : (k == 1) = true) (f4 : numP t) (f5 : valK t (atB t) t.size ≤ 1000000000000) :
    Calls Tryz.prog 27 #[.agg #[.int .i64 k, .int .i64 n, .string t, .int .i64 r]] W fun e w' => e = dgE t ∧ Below W.heap.size W w' := by
  have H0 := Lib.hid (B1.new W ⟨k, n, t, r⟩)
  have HS := Lib.hid hs
  have HSM : Hid (t.size ≤ maxLen) := by show _ ≤ _; unfold maxLen; omega
  have HT := Lib.hid hT
  have F0 := Lib.hid f0
  have F1 := Lib.hid f1
  have F2 := Lib.hid f2
  have F3 := Lib.hid f3
  have F4 := Lib.hid f4
  have F5 := Lib.hid f5
  skip
  have HE := Lib.hid (dgE_yes f4 f5)
  have HP := Lib.hid f4
  have HB : Hid (numB t = true) := numB_yes f4
  have HI : Hid (validV 2 (numV t) ⟨#[]⟩ 0 = true) := num_fits f5
  clear f4 F4 f5 F5
  clear hs hT
  go_enter Tryz.func27, Tryz.ntmps27
  go_wp2_with (first
    | (go_at_call 25; have hh := H0.out _ rfl; have HH := Lib.hid hh; refine (impl_ValidValue_any k n t r _ HSM.out (HT.out.go hh.2.1).1).mono ?_; clear hh; rintro e w1 ⟨he, hb⟩; rw [F0.out] at he; subst he; replace HH := Lib.hid (HH.out.go hb); clear hb; obtain ⟨x0, x1, x2, x3⟩ := HH.out.1; have lh := HH.out.2.2)
    | (go_at_call 55; refine (impl_IsNull_any k n t r w1).mono ?_; clear x0 x1 x2 x3 lh; rintro e w1 ⟨he, hb⟩; rw [F2.out] at he; subst he; replace HH := Lib.hid (HH.out.go hb); clear hb; obtain ⟨x0, x1, x2, x3⟩ := HH.out.1; have lh := HH.out.2.2)
    | (go_at_call 56; refine (isNumeral_any t w1 HS.out (HT.out.go HH.out.2.1).1).mono ?_; clear x0 x1 x2 x3 lh; rintro e w1 ⟨he, hb⟩; rw [HB.out] at he; subst he; replace HH := Lib.hid (HH.out.go hb); clear hb; obtain ⟨x0, x1, x2, x3⟩ := HH.out.1; have lh := HH.out.2.2)
    | (go_at_call 58; refine (numberIn_any t w1 HS.out HP.out).mono ?_; clear x0 x1 x2 x3 lh; rintro e w1 ⟨he, hb⟩; subst he; replace HH := Lib.hid (HH.out.go hb); clear hb; obtain ⟨x0, x1, x2, x3⟩ := HH.out.1; have lh := HH.out.2.2)
    | (go_at_call 57; refine (impl_IntegerValue_any (numV t) w1 (HT.out.go HH.out.2.1).1).mono ?_; clear x0 x1 x2 x3 lh; rintro e w1 ⟨he, hb⟩; rw [HI.out, orV_t] at he; subst he; replace HH := Lib.hid (HH.out.go hb); clear hb; obtain ⟨x0, x1, x2, x3⟩ := HH.out.1; have lh := HH.out.2.2))
  all_goals go_ret2
  all_goals exact ⟨by rw [HE.out]; rfl, by repeat (first | exact HH.out.2.1 | refine Below.setCell ?_ (by first | (simp; done) | (have := HH.out.2.1.size; simp; omega) | exact HH.out.2.1.size) _ | refine Below.alloc ?_ (by first | (simp; done) | exact HH.out.2.1.size) _)⟩
end Go.Proofs.YtpjjpfjnjhahcaaGreatDoor
