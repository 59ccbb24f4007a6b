/- Contracts: l13Leaf, ValidIns of the model. No condition. -/
import Derived.Test.YtjeiiljdhnmofaaDoorInsPlain
import Derived.Test.YtjeiiljdhnmofaaDoorPtSpecN
namespace Go.Proofs.YtjeiiljdhnmofaaDoor
open Go Go.RowKit

/-- A kind without Kids. -/
def leafK (op : Int) : Bool := decide (1 ≤ op ∧ op ≤ 17) || ((op == 23) || (op == 24))
theorem leaf_not {op n : Int} {t : ByteArray} (h : leafK op = false) : (Pt.node op n t []).proper = false := by
  unfold leafK at h
  simp only [Bool.or_eq_false_iff, decide_eq_false_iff_not, beq_eq_false_iff_ne, ne_eq] at h
  obtain ⟨h1, h2, h3⟩ := h
  show (decide (1 ≤ op ∧ op ≤ 24) && (((0 : Int) == kidsK op) && _)) = false
  by_cases hk : 1 ≤ op ∧ op ≤ 24
  · have : kidsK op ≠ 0 := by
      unfold kidsK
      split
      · decide
      · split
        · decide
        · omega
    rw [show ((0 : Int) == kidsK op) = false from by simp; exact fun e => this e.symm, Bool.false_and, Bool.and_false]
  · rw [show decide (1 ≤ op ∧ op ≤ 24) = false from by simp only [decide_eq_false_iff_not]; exact hk, Bool.false_and]
theorem l13Leaf_any (op : Int) (W : World) : Calls Tryd.prog 47 #[.int .i64 op] W fun e w' => e = .returned (.bool (leafK op)) ∧ W = w' := by
  unfold leafK
  obtain ⟨z1, h1⟩ : ∃ z, decide (1 ≤ op ∧ op ≤ 17) = z := ⟨_, rfl⟩
  have H1 := Lib.hid h1
  obtain ⟨z2, h2⟩ : ∃ z, (op == 23) = z := ⟨_, rfl⟩
  obtain ⟨z3, h3⟩ : ∃ z, (op == 24) = z := ⟨_, rfl⟩
  rw [h1, h2, h3]
  clear h1
  cases z1
  · cases z2
    all_goals
      go_enter Tryd.func47, Tryd.ntmps47
      go_wp2_with (go_at_call 45; refine (l00In_any _ _ _ _).mono ?_; rintro e w1 ⟨rfl, rfl⟩; rw [H1.out])
      go_ret
      exact ⟨rfl, rfl⟩
  · go_enter Tryd.func47, Tryd.ntmps47
    go_wp2_with (go_at_call 45; refine (l00In_any _ _ _ _).mono ?_; rintro e w1 ⟨rfl, rfl⟩; rw [H1.out])
    go_ret
    exact ⟨rfl, rfl⟩
theorem null_eq (n : Int) (t : ByteArray) : ((t.size == 0) && decide (0 ≤ n ∧ n ≤ 0)) = ((n == 0) && (t.size == 0)) := by
  rw [Bool.and_comm]
  congr 1
  rw [Bool.eq_iff_iff]
  simp
  omega

set_option maxHeartbeats 2000000 in
set_option maxRecDepth 100000 in
theorem spec_ValidIns_31 (n : Int) (t : ByteArray) (W : World) (hs : t.size ≤ maxLen) :
    Calls Tryd.prog 16 #[.agg #[.int .i64 31, .int .i64 n, .string t]] W fun e w' => e = .returned (.bool (insOk 31 n t)) ∧ Below W.heap.size W w' := by
  rw [show insOk 31 n t = ((t.size == 0) && decide (0 ≤ n ∧ n ≤ 0)) from rfl]
  have HS := Lib.hid hs
  unfold maxLen at hs
  have HB := Lib.hid (below_alloc W (.cells #[.int .i64 31, .int .i64 n, .string t] 37))
  rw [null_eq]
  obtain ⟨z, hz⟩ : ∃ z, (n == 0) = z := ⟨_, rfl⟩
  rw [hz]
  cases z
  · rw [Bool.false_and]
    go_enter Tryd.func16, Tryd.ntmps16
    go_wp2_with fail
    go_ret
    exact ⟨rfl, HB.out⟩
  · rw [Bool.true_and]
    by_cases ht : t.size = 0
    · have e1 := nil_of_size ht
      have e2 := isEmpty_of_size ht
      rw [show (t.size == 0) = true from by simp [ht]]
      clear ht
      go_enter Tryd.func16, Tryd.ntmps16
      go_wp2_with fail
      go_ret
      exact ⟨rfl, HB.out⟩
    · have hp : 0 < t.size := by omega
      have e1 := ne_nil_of_size hp
      have e2 := not_isEmpty_of_size hp
      rw [show (t.size == 0) = false from by simp [ht]]
      clear ht hp
      go_enter Tryd.func16, Tryd.ntmps16
      go_wp2_with fail
      go_ret
      exact ⟨rfl, HB.out⟩
set_option maxHeartbeats 2000000 in
set_option maxRecDepth 100000 in
theorem spec_ValidIns_32 (n : Int) (t : ByteArray) (W : World) (hs : t.size ≤ maxLen) :
    Calls Tryd.prog 16 #[.agg #[.int .i64 32, .int .i64 n, .string t]] W fun e w' => e = .returned (.bool (insOk 32 n t)) ∧ Below W.heap.size W w' := by
  rw [show insOk 32 n t = ((t.size == 0) && decide (0 ≤ n ∧ n ≤ 12999)) from rfl]
  have HS := Lib.hid hs
  unfold maxLen at hs
  have HB := Lib.hid (below_alloc W (.cells #[.int .i64 32, .int .i64 n, .string t] 37))
  rw [Bool.and_comm]
  obtain ⟨z, hz⟩ : ∃ z, decide (0 ≤ n ∧ n ≤ 12999) = z := ⟨_, rfl⟩
  have HI := Lib.hid hz
  rw [hz]
  clear hz
  cases z
  · rw [Bool.false_and]
    go_enter Tryd.func16, Tryd.ntmps16
    go_wp2_with (go_at_call 45; refine (l00In_any _ _ _ _).mono ?_; rintro e w1 ⟨rfl, rfl⟩; rw [HI.out])
    go_ret
    exact ⟨rfl, HB.out⟩
  · rw [Bool.true_and]
    by_cases ht : t.size = 0
    · have e1 := nil_of_size ht
      have e2 := isEmpty_of_size ht
      rw [show (t.size == 0) = true from by simp [ht]]
      clear ht
      go_enter Tryd.func16, Tryd.ntmps16
      go_wp2_with (go_at_call 45; refine (l00In_any _ _ _ _).mono ?_; rintro e w1 ⟨rfl, rfl⟩; rw [HI.out])
      go_ret
      exact ⟨rfl, HB.out⟩
    · have hp : 0 < t.size := by omega
      have e1 := ne_nil_of_size hp
      have e2 := not_isEmpty_of_size hp
      rw [show (t.size == 0) = false from by simp [ht]]
      clear ht hp
      go_enter Tryd.func16, Tryd.ntmps16
      go_wp2_with (go_at_call 45; refine (l00In_any _ _ _ _).mono ?_; rintro e w1 ⟨rfl, rfl⟩; rw [HI.out])
      go_ret
      exact ⟨rfl, HB.out⟩
set_option maxHeartbeats 2000000 in
set_option maxRecDepth 100000 in
theorem spec_ValidIns_33 (n : Int) (t : ByteArray) (W : World) (hs : t.size ≤ maxLen) :
    Calls Tryd.prog 16 #[.agg #[.int .i64 33, .int .i64 n, .string t]] W fun e w' => e = .returned (.bool (insOk 33 n t)) ∧ Below W.heap.size W w' := by
  rw [show insOk 33 n t = ((t.size == 0) && decide (0 ≤ n ∧ n ≤ 12999)) from rfl]
  have HS := Lib.hid hs
  unfold maxLen at hs
  have HB := Lib.hid (below_alloc W (.cells #[.int .i64 33, .int .i64 n, .string t] 37))
  rw [Bool.and_comm]
  obtain ⟨z, hz⟩ : ∃ z, decide (0 ≤ n ∧ n ≤ 12999) = z := ⟨_, rfl⟩
  have HI := Lib.hid hz
  rw [hz]
  clear hz
  cases z
  · rw [Bool.false_and]
    go_enter Tryd.func16, Tryd.ntmps16
    go_wp2_with (go_at_call 45; refine (l00In_any _ _ _ _).mono ?_; rintro e w1 ⟨rfl, rfl⟩; rw [HI.out])
    go_ret
    exact ⟨rfl, HB.out⟩
  · rw [Bool.true_and]
    by_cases ht : t.size = 0
    · have e1 := nil_of_size ht
      have e2 := isEmpty_of_size ht
      rw [show (t.size == 0) = true from by simp [ht]]
      clear ht
      go_enter Tryd.func16, Tryd.ntmps16
      go_wp2_with (go_at_call 45; refine (l00In_any _ _ _ _).mono ?_; rintro e w1 ⟨rfl, rfl⟩; rw [HI.out])
      go_ret
      exact ⟨rfl, HB.out⟩
    · have hp : 0 < t.size := by omega
      have e1 := ne_nil_of_size hp
      have e2 := not_isEmpty_of_size hp
      rw [show (t.size == 0) = false from by simp [ht]]
      clear ht hp
      go_enter Tryd.func16, Tryd.ntmps16
      go_wp2_with (go_at_call 45; refine (l00In_any _ _ _ _).mono ?_; rintro e w1 ⟨rfl, rfl⟩; rw [HI.out])
      go_ret
      exact ⟨rfl, HB.out⟩
set_option maxHeartbeats 2000000 in
set_option maxRecDepth 100000 in
theorem spec_ValidIns_34 (n : Int) (t : ByteArray) (W : World) (hs : t.size ≤ maxLen) :
    Calls Tryd.prog 16 #[.agg #[.int .i64 34, .int .i64 n, .string t]] W fun e w' => e = .returned (.bool (insOk 34 n t)) ∧ Below W.heap.size W w' := by
  rw [show insOk 34 n t = ((t.size == 0) && decide (0 ≤ n ∧ n ≤ 0)) from rfl]
  have HS := Lib.hid hs
  unfold maxLen at hs
  have HB := Lib.hid (below_alloc W (.cells #[.int .i64 34, .int .i64 n, .string t] 37))
  rw [null_eq]
  obtain ⟨z, hz⟩ : ∃ z, (n == 0) = z := ⟨_, rfl⟩
  rw [hz]
  cases z
  · rw [Bool.false_and]
    go_enter Tryd.func16, Tryd.ntmps16
    go_wp2_with fail
    go_ret
    exact ⟨rfl, HB.out⟩
  · rw [Bool.true_and]
    by_cases ht : t.size = 0
    · have e1 := nil_of_size ht
      have e2 := isEmpty_of_size ht
      rw [show (t.size == 0) = true from by simp [ht]]
      clear ht
      go_enter Tryd.func16, Tryd.ntmps16
      go_wp2_with fail
      go_ret
      exact ⟨rfl, HB.out⟩
    · have hp : 0 < t.size := by omega
      have e1 := ne_nil_of_size hp
      have e2 := not_isEmpty_of_size hp
      rw [show (t.size == 0) = false from by simp [ht]]
      clear ht hp
      go_enter Tryd.func16, Tryd.ntmps16
      go_wp2_with fail
      go_ret
      exact ⟨rfl, HB.out⟩
set_option maxHeartbeats 2000000 in
set_option maxRecDepth 100000 in
theorem spec_ValidIns_35 (n : Int) (t : ByteArray) (W : World) (hs : t.size ≤ maxLen) :
    Calls Tryd.prog 16 #[.agg #[.int .i64 35, .int .i64 n, .string t]] W fun e w' => e = .returned (.bool (insOk 35 n t)) ∧ Below W.heap.size W w' := by
  rw [show insOk 35 n t = ((n == 0) && isNameB t) from rfl]
  have HS := Lib.hid hs
  unfold maxLen at hs
  have HB := Lib.hid (below_alloc W (.cells #[.int .i64 35, .int .i64 n, .string t] 37))
  obtain ⟨z, hz⟩ : ∃ z, (n == 0) = z := ⟨_, rfl⟩
  rw [hz]
  cases z
  · rw [Bool.false_and]
    go_enter Tryd.func16, Tryd.ntmps16
    go_wp2_with fail
    go_ret
    exact ⟨rfl, HB.out⟩
  · rw [Bool.true_and]
    obtain ⟨y, hy⟩ : ∃ y, isNameB t = y := ⟨_, rfl⟩
    have HZ := Lib.hid hy
    rw [hy]
    clear hy
    go_enter Tryd.func16, Tryd.ntmps16
    go_wp2_with (go_at_call 46; refine (spec_IsName_any _ _ HS.out).mono ?_; rintro e w1 ⟨rfl, rfl⟩; rw [HZ.out])
    go_ret
    exact ⟨rfl, HB.out⟩
set_option maxHeartbeats 2000000 in
set_option maxRecDepth 100000 in
theorem spec_ValidIns_36 (n : Int) (t : ByteArray) (W : World) (hs : t.size ≤ maxLen) :
    Calls Tryd.prog 16 #[.agg #[.int .i64 36, .int .i64 n, .string t]] W fun e w' => e = .returned (.bool (insOk 36 n t)) ∧ Below W.heap.size W w' := by
  rw [show insOk 36 n t = ((n == 0) && isNameB t) from rfl]
  have HS := Lib.hid hs
  unfold maxLen at hs
  have HB := Lib.hid (below_alloc W (.cells #[.int .i64 36, .int .i64 n, .string t] 37))
  obtain ⟨z, hz⟩ : ∃ z, (n == 0) = z := ⟨_, rfl⟩
  rw [hz]
  cases z
  · rw [Bool.false_and]
    go_enter Tryd.func16, Tryd.ntmps16
    go_wp2_with fail
    go_ret
    exact ⟨rfl, HB.out⟩
  · rw [Bool.true_and]
    obtain ⟨y, hy⟩ : ∃ y, isNameB t = y := ⟨_, rfl⟩
    have HZ := Lib.hid hy
    rw [hy]
    clear hy
    go_enter Tryd.func16, Tryd.ntmps16
    go_wp2_with (go_at_call 46; refine (spec_IsName_any _ _ HS.out).mono ?_; rintro e w1 ⟨rfl, rfl⟩; rw [HZ.out])
    go_ret
    exact ⟨rfl, HB.out⟩
set_option maxHeartbeats 2000000 in
set_option maxRecDepth 100000 in
theorem spec_ValidIns_37 (n : Int) (t : ByteArray) (W : World) (hs : t.size ≤ maxLen) :
    Calls Tryd.prog 16 #[.agg #[.int .i64 37, .int .i64 n, .string t]] W fun e w' => e = .returned (.bool (insOk 37 n t)) ∧ Below W.heap.size W w' := by
  rw [show insOk 37 n t = ((t.size == 0) && decide (0 ≤ n ∧ n ≤ 12999)) from rfl]
  have HS := Lib.hid hs
  unfold maxLen at hs
  have HB := Lib.hid (below_alloc W (.cells #[.int .i64 37, .int .i64 n, .string t] 37))
  rw [Bool.and_comm]
  obtain ⟨z, hz⟩ : ∃ z, decide (0 ≤ n ∧ n ≤ 12999) = z := ⟨_, rfl⟩
  have HI := Lib.hid hz
  rw [hz]
  clear hz
  cases z
  · rw [Bool.false_and]
    go_enter Tryd.func16, Tryd.ntmps16
    go_wp2_with (go_at_call 45; refine (l00In_any _ _ _ _).mono ?_; rintro e w1 ⟨rfl, rfl⟩; rw [HI.out])
    go_ret
    exact ⟨rfl, HB.out⟩
  · rw [Bool.true_and]
    by_cases ht : t.size = 0
    · have e1 := nil_of_size ht
      have e2 := isEmpty_of_size ht
      rw [show (t.size == 0) = true from by simp [ht]]
      clear ht
      go_enter Tryd.func16, Tryd.ntmps16
      go_wp2_with (go_at_call 45; refine (l00In_any _ _ _ _).mono ?_; rintro e w1 ⟨rfl, rfl⟩; rw [HI.out])
      go_ret
      exact ⟨rfl, HB.out⟩
    · have hp : 0 < t.size := by omega
      have e1 := ne_nil_of_size hp
      have e2 := not_isEmpty_of_size hp
      rw [show (t.size == 0) = false from by simp [ht]]
      clear ht hp
      go_enter Tryd.func16, Tryd.ntmps16
      go_wp2_with (go_at_call 45; refine (l00In_any _ _ _ _).mono ?_; rintro e w1 ⟨rfl, rfl⟩; rw [HI.out])
      go_ret
      exact ⟨rfl, HB.out⟩
set_option maxHeartbeats 2000000 in
set_option maxRecDepth 100000 in
theorem spec_ValidIns_38 (n : Int) (t : ByteArray) (W : World) (hs : t.size ≤ maxLen) :
    Calls Tryd.prog 16 #[.agg #[.int .i64 38, .int .i64 n, .string t]] W fun e w' => e = .returned (.bool (insOk 38 n t)) ∧ Below W.heap.size W w' := by
  rw [show insOk 38 n t = ((t.size == 0) && decide (0 ≤ n ∧ n ≤ 0)) from rfl]
  have HS := Lib.hid hs
  unfold maxLen at hs
  have HB := Lib.hid (below_alloc W (.cells #[.int .i64 38, .int .i64 n, .string t] 37))
  rw [null_eq]
  obtain ⟨z, hz⟩ : ∃ z, (n == 0) = z := ⟨_, rfl⟩
  rw [hz]
  cases z
  · rw [Bool.false_and]
    go_enter Tryd.func16, Tryd.ntmps16
    go_wp2_with fail
    go_ret
    exact ⟨rfl, HB.out⟩
  · rw [Bool.true_and]
    by_cases ht : t.size = 0
    · have e1 := nil_of_size ht
      have e2 := isEmpty_of_size ht
      rw [show (t.size == 0) = true from by simp [ht]]
      clear ht
      go_enter Tryd.func16, Tryd.ntmps16
      go_wp2_with fail
      go_ret
      exact ⟨rfl, HB.out⟩
    · have hp : 0 < t.size := by omega
      have e1 := ne_nil_of_size hp
      have e2 := not_isEmpty_of_size hp
      rw [show (t.size == 0) = false from by simp [ht]]
      clear ht hp
      go_enter Tryd.func16, Tryd.ntmps16
      go_wp2_with fail
      go_ret
      exact ⟨rfl, HB.out⟩
set_option maxHeartbeats 2000000 in
set_option maxRecDepth 100000 in
theorem spec_ValidIns_39 (n : Int) (t : ByteArray) (W : World) (hs : t.size ≤ maxLen) :
    Calls Tryd.prog 16 #[.agg #[.int .i64 39, .int .i64 n, .string t]] W fun e w' => e = .returned (.bool (insOk 39 n t)) ∧ Below W.heap.size W w' := by
  rw [show insOk 39 n t = ((t.size == 0) && decide (0 ≤ n ∧ n ≤ 0)) from rfl]
  have HS := Lib.hid hs
  unfold maxLen at hs
  have HB := Lib.hid (below_alloc W (.cells #[.int .i64 39, .int .i64 n, .string t] 37))
  rw [null_eq]
  obtain ⟨z, hz⟩ : ∃ z, (n == 0) = z := ⟨_, rfl⟩
  rw [hz]
  cases z
  · rw [Bool.false_and]
    go_enter Tryd.func16, Tryd.ntmps16
    go_wp2_with fail
    go_ret
    exact ⟨rfl, HB.out⟩
  · rw [Bool.true_and]
    by_cases ht : t.size = 0
    · have e1 := nil_of_size ht
      have e2 := isEmpty_of_size ht
      rw [show (t.size == 0) = true from by simp [ht]]
      clear ht
      go_enter Tryd.func16, Tryd.ntmps16
      go_wp2_with fail
      go_ret
      exact ⟨rfl, HB.out⟩
    · have hp : 0 < t.size := by omega
      have e1 := ne_nil_of_size hp
      have e2 := not_isEmpty_of_size hp
      rw [show (t.size == 0) = false from by simp [ht]]
      clear ht hp
      go_enter Tryd.func16, Tryd.ntmps16
      go_wp2_with fail
      go_ret
      exact ⟨rfl, HB.out⟩
set_option maxHeartbeats 2000000 in
set_option maxRecDepth 100000 in
theorem spec_ValidIns_any (op n : Int) (t : ByteArray) (W : World) (hs : t.size ≤ maxLen) :
    Calls Tryd.prog 16 #[.agg #[.int .i64 op, .int .i64 n, .string t]] W fun e w' => e = .returned (.bool (insOk op n t)) ∧ Below W.heap.size W w' := by
  by_cases hk : 31 ≤ op ∧ op ≤ 39
  · obtain rfl | rfl | rfl | rfl | rfl | rfl | rfl | rfl | rfl : op = 31 ∨ op = 32 ∨ op = 33 ∨ op = 34 ∨ op = 35 ∨ op = 36 ∨ op = 37 ∨ op = 38 ∨ op = 39 := by omega
    · exact spec_ValidIns_31 n t W hs
    · exact spec_ValidIns_32 n t W hs
    · exact spec_ValidIns_33 n t W hs
    · exact spec_ValidIns_34 n t W hs
    · exact spec_ValidIns_35 n t W hs
    · exact spec_ValidIns_36 n t W hs
    · exact spec_ValidIns_37 n t W hs
    · exact spec_ValidIns_38 n t W hs
    · exact spec_ValidIns_39 n t W hs
  · rw [show insOk op n t = (Pt.node op n t []).proper from by rw [insOk, if_neg hk]]
    have HS := Lib.hid hs
    have HB := Lib.hid (below_alloc W (.cells #[.int .i64 op, .int .i64 n, .string t] 37))
    have n31 : (op == 31) = false := by simp; omega
    have n32 : (op == 32) = false := by simp; omega
    have n33 : (op == 33) = false := by simp; omega
    have n34 : (op == 34) = false := by simp; omega
    have n35 : (op == 35) = false := by simp; omega
    have n36 : (op == 36) = false := by simp; omega
    have n37 : (op == 37) = false := by simp; omega
    have n38 : (op == 38) = false := by simp; omega
    have n39 : (op == 39) = false := by simp; omega
    clear hk
    obtain ⟨P, hP⟩ : ∃ P, (Pt.node op n t []).proper = P := ⟨_, rfl⟩
    have HP := Lib.hid hP
    rw [hP]
    obtain ⟨z, hz⟩ : ∃ z, leafK op = z := ⟨_, rfl⟩
    have HL := Lib.hid hz
    cases z
    · have HF : Hid (P = false) := by show _ = _; rw [← hP]; exact leaf_not hz
      clear hP hz
      go_enter Tryd.func16, Tryd.ntmps16
      go_wp2_with (go_at_call 47; refine (l13Leaf_any _ _).mono ?_; rintro e w1 ⟨rfl, rfl⟩; rw [HL.out])
      go_ret
      exact ⟨by rw [HF.out]; rfl, HB.out⟩
    · clear hP hz
      go_enter Tryd.func16, Tryd.ntmps16
      go_wp2_with (first
        | (go_at_call 47; refine (l13Leaf_any _ _).mono ?_; rintro e w1 ⟨rfl, rfl⟩; rw [HL.out])
        | (go_at_call 48; refine (l11Node_any op n t [] none 0 0 _ HS.out rfl (Nat.zero_le _)).mono ?_; rintro e w2 ⟨rfl, hb⟩; rw [HP.out]; have HB2 := Lib.hid (HB.out.trans (hb.mono HB.out.size)); clear hb))
      go_ret
      exact ⟨rfl, HB2.out⟩
end Go.Proofs.YtjeiiljdhnmofaaDoor
