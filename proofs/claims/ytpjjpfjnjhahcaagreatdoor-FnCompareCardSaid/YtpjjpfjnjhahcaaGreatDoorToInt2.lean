/- Contracts: ToInteger of the model and of the program, whole. Conditions of the program's: the tables hold what the program's text lays. -/
import Derived.Test.YtpjjpfjnjhahcaaGreatDoorToInt
namespace Go.Proofs.YtpjjpfjnjhahcaaGreatDoor
open Go Go.RowKit

open Classical in
/-- What ToInteger answers. -/
noncomputable def tiE (k n : Int) (t : ByteArray) (r : Int) : Ending :=
  if validV k n t r = false then .returned (.tuple #[.int .i64 0, .bool false]) else if (k == 2) = true then .returned (.tuple #[.int .i64 n, .bool true])
  else if isNullV k n t r = true then .returned (.tuple #[.int .i64 0, .bool true]) else if (k == 1) = true then dgE t else .returned (.tuple #[.int .i64 0, .bool false])
theorem tru' {b : Bool} (h : ¬ b = false) : b = true := by cases b; exact absurd rfl h; rfl
theorem fls' {b : Bool} (h : ¬ b = true) : b = false := by cases b; rfl; exact absurd rfl h
theorem spec_ToInteger_any (k n : Int) (t : ByteArray) (r : Int) (W : World) (hs : t.size ≤ 1048576) :
    Calls Tryz.prog 19 #[.agg #[.int .i64 k, .int .i64 n, .string t, .int .i64 r]] W fun e w' => e = tiE k n t r ∧ Below W.heap.size W w' := by
  unfold tiE
  by_cases h0 : validV k n t r = false
  · rw [if_pos h0]; exact spec_ti_no k n t r W hs h0
  rw [if_neg h0]
  by_cases h1 : (k == 2) = true
  · rw [if_pos h1]; exact spec_ti_num k n t r W hs (tru' h0) h1
  rw [if_neg h1]
  by_cases h2 : isNullV k n t r = true
  · rw [if_pos h2]; exact spec_ti_null k n t r W hs (tru' h0) (fls' h1) h2
  rw [if_neg h2]
  by_cases h3 : (k == 1) = true
  · rw [if_pos h3]
    by_cases h4 : numP t ∧ valK t (atB t) t.size ≤ 1000000000000
    · exact spec_ti_strY k n t r W hs (tru' h0) (fls' h1) (fls' h2) h3 h4.1 h4.2
    · exact spec_ti_strN k n t r W hs (tru' h0) (fls' h1) (fls' h2) h3 (by unfold dgE; rw [if_neg h4])
  rw [if_neg h3]
  exact spec_ti_other k n t r W hs (tru' h0) (fls' h1) (fls' h2) (fls' h3)
theorem impl_ToInteger_any (k n : Int) (t : ByteArray) (r : Int) (W : World) (hs : t.size ≤ 1048576) (hT : Tabs W) :
    Calls Tryz.prog 27 #[.agg #[.int .i64 k, .int .i64 n, .string t, .int .i64 r]] W fun e w' => e = tiE k n t r ∧ Below W.heap.size W w' := by
  unfold tiE
  by_cases h0 : validV k n t r = false
  · rw [if_pos h0]; exact impl_ti_no k n t r W hs hT h0
  rw [if_neg h0]
  by_cases h1 : (k == 2) = true
  · rw [if_pos h1]; exact impl_ti_num k n t r W hs hT (tru' h0) h1
  rw [if_neg h1]
  by_cases h2 : isNullV k n t r = true
  · rw [if_pos h2]; exact impl_ti_null k n t r W hs hT (tru' h0) (fls' h1) h2
  rw [if_neg h2]
  by_cases h3 : (k == 1) = true
  · rw [if_pos h3]
    by_cases h4 : numP t
    · by_cases h5 : valK t (atB t) t.size ≤ 1000000000000
      · exact impl_ti_strY k n t r W hs hT (tru' h0) (fls' h1) (fls' h2) h3 h4 h5
      · exact impl_ti_strB k n t r W hs hT (tru' h0) (fls' h1) (fls' h2) h3 h4 (by omega)
    · exact impl_ti_strX k n t r W hs hT (tru' h0) (fls' h1) (fls' h2) h3 h4
  rw [if_neg h3]
  exact impl_ti_other k n t r W hs hT (tru' h0) (fls' h1) (fls' h2) (fls' h3)
theorem tiE_ex (k n : Int) (t : ByteArray) (r : Int) : ∃ (m : Int) (b : Bool), tiE k n t r = .returned (.tuple #[.int .i64 m, .bool b]) := by
  unfold tiE dgE
  split
  · exact ⟨_, _, rfl⟩
  split
  · exact ⟨_, _, rfl⟩
  split
  · exact ⟨_, _, rfl⟩
  split
  · split
    · exact ⟨_, _, rfl⟩
    · exact ⟨_, _, rfl⟩
  · exact ⟨_, _, rfl⟩
end Go.Proofs.YtpjjpfjnjhahcaaGreatDoor
