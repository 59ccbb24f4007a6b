/- Contracts: ToText of the model and of the program. Conditions of the program's: the tables hold what the program's text lays. -/
import Derived.Test.YtpjjpfjnjhahcaaGreatDoorValImpl
import Derived.Test.YtpjjpfjnjhahcaaGreatDoorDig
import Derived.Test.YtpjjpfjnjhahcaaGreatDoorTabs
namespace Go.Proofs.YtpjjpfjnjhahcaaGreatDoor
open Go Go.RowKit

/-- What ToText answers: the text, and whether there is one. -/
def ttS (k n : Int) (t : ByteArray) (r : Int) : ByteArray := if validV k n t r = true then (if k = 1 then t else if k = 2 then itoaE n else ⟨#[]⟩) else ⟨#[]⟩
def ttB (k n : Int) (t : ByteArray) (r : Int) : Bool := validV k n t r && decide (k = 1 ∨ k = 2)
theorem tt_no {k n : Int} {t : ByteArray} {r : Int} (h : validV k n t r = false) : ttS k n t r = ⟨#[]⟩ ∧ ttB k n t r = false := by simp [ttS, ttB, h]
theorem tt_str {n : Int} {t : ByteArray} {r : Int} (h : validV 1 n t r = true) : ttS 1 n t r = t ∧ ttB 1 n t r = true := by simp [ttS, ttB, h]
theorem tt_num {n : Int} {t : ByteArray} {r : Int} (h : validV 2 n t r = true) : ttS 2 n t r = itoaE n ∧ ttB 2 n t r = true := by simp [ttS, ttB, h]
theorem tt_else {k n : Int} {t : ByteArray} {r : Int} (h1 : ¬ k = 1) (h2 : ¬ k = 2) : ttS k n t r = ⟨#[]⟩ ∧ ttB k n t r = false := by simp [ttS, ttB, h1, h2]
theorem tt_size {k n : Int} {t : ByteArray} {r : Int} : (ttS k n t r).size ≤ 200 := by
  unfold ttS
  split
  · next h =>
    split
    · next h1 => subst h1; exact vtext h
    split
    · next h2 => subst h2; have := itoa_size (vnum h).1 (vnum h).2; omega
    · exact Nat.zero_le _
  · exact Nat.zero_le _

theorem spec_ToText_any (k n : Int) (t : ByteArray) (r : Int) (W : World) (hs : t.size ≤ maxLen) :
    Calls Tryz.prog 18 #[.agg #[.int .i64 k, .int .i64 n, .string t, .int .i64 r]] W fun e w' => e = .returned (.tuple #[.string (ttS k n t r), .bool (ttB k n t r)]) ∧ Below W.heap.size W w' := by
  have HS := Lib.hid hs
  clear hs
  obtain ⟨x, hx⟩ : ∃ x, validV k n t r = x := ⟨_, rfl⟩
  have HX := Lib.hid hx
  cases x
  · rw [(tt_no hx).1, (tt_no hx).2]
    clear hx
    go_enter Tryz.func18, Tryz.ntmps18
    go_wp2_with (go_at_call 16; refine (spec_ValidValue_any _ _ _ _ _ HS.out).mono ?_; rintro e w1 ⟨rfl, hb⟩; rw [HX.out]; have HB := Lib.hid (((Below.refl _ _).alloc (Nat.le_refl _) _).trans (hb.mono (B' := W.heap.size) (by simp))); obtain ⟨hc, hf⟩ := bcell hb; clear hb)
    go_ret2
    exact ⟨rfl, HB.out⟩
  · by_cases k1 : k = 1
    · subst k1
      rw [(tt_str hx).1, (tt_str hx).2]
      clear hx
      go_enter Tryz.func18, Tryz.ntmps18
      go_wp2_with (go_at_call 16; refine (spec_ValidValue_any _ _ _ _ _ HS.out).mono ?_; rintro e w1 ⟨rfl, hb⟩; rw [HX.out]; have HB := Lib.hid (((Below.refl _ _).alloc (Nat.le_refl _) _).trans (hb.mono (B' := W.heap.size) (by simp))); obtain ⟨hc, hf⟩ := bcell hb; clear hb)
      go_ret2
      exact ⟨rfl, HB.out⟩
    by_cases k2 : k = 2
    · subst k2
      rw [(tt_num hx).1, (tt_num hx).2]
      have HN := Lib.hid (vnum hx)
      clear hx k1
      go_enter Tryz.func18, Tryz.ntmps18
      go_wp2_with (first
        | (go_at_call 16; refine (spec_ValidValue_any _ _ _ _ _ HS.out).mono ?_; rintro e w1 ⟨rfl, hb⟩; rw [HX.out]; have HB := Lib.hid (((Below.refl _ _).alloc (Nat.le_refl _) _).trans (hb.mono (B' := W.heap.size) (by simp))); obtain ⟨hc, hf⟩ := bcell hb; clear hb)
        | (go_at_call 43; refine (l06Digits_any _ _ HN.out.1 HN.out.2).mono ?_; rintro e w2 ⟨rfl, hb⟩; have HB2 := Lib.hid (HB.out.trans (hb.mono HB.out.size)); clear hb))
      go_ret2
      exact ⟨rfl, HB2.out⟩
    · rw [(tt_else k1 k2).1, (tt_else k1 k2).2]
      have f1 : (k == 1) = false := by simpa using k1
      have f2 : (k == 2) = false := by simpa using k2
      clear hx k1 k2
      go_enter Tryz.func18, Tryz.ntmps18
      go_wp2_with (go_at_call 16; refine (spec_ValidValue_any _ _ _ _ _ HS.out).mono ?_; rintro e w1 ⟨rfl, hb⟩; rw [HX.out]; have HB := Lib.hid (((Below.refl _ _).alloc (Nat.le_refl _) _).trans (hb.mono (B' := W.heap.size) (by simp))); obtain ⟨hc, hf⟩ := bcell hb; clear hb)
      go_ret2
      exact ⟨rfl, HB.out⟩

theorem impl_ToText_any (k n : Int) (t : ByteArray) (r : Int) (W : World) (hs : t.size ≤ maxLen) (hT : Tabs W) :
    Calls Tryz.prog 39 #[.agg #[.int .i64 k, .int .i64 n, .string t, .int .i64 r]] W fun e w' => e = .returned (.tuple #[.string (ttS k n t r), .bool (ttB k n t r)]) ∧ Below W.heap.size W w' := by
  have HS := Lib.hid hs
  have HT := Lib.hid hT
  clear hs hT
  obtain ⟨x, hx⟩ : ∃ x, validV k n t r = x := ⟨_, rfl⟩
  have HX := Lib.hid hx
  have HA : Hid (∀ o, Below W.heap.size W (W.alloc o)) := fun o => (Below.refl _ _).alloc (Nat.le_refl _) o
  cases x
  · rw [(tt_no hx).1, (tt_no hx).2]
    clear hx
    go_enter Tryz.func39, Tryz.ntmps39
    go_wp2_with (go_at_call 25; refine (impl_ValidValue_any _ _ _ _ _ HS.out (HT.out.go (HA.out _)).1).mono ?_; rintro e w1 ⟨rfl, hb⟩; rw [HX.out]; have HB := Lib.hid ((HA.out _).trans (hb.mono (B' := W.heap.size) (by simp))); obtain ⟨hc, hf⟩ := bcell hb; clear hb)
    go_ret2
    exact ⟨rfl, HB.out⟩
  · by_cases k1 : k = 1
    · subst k1
      rw [(tt_str hx).1, (tt_str hx).2]
      clear hx
      go_enter Tryz.func39, Tryz.ntmps39
      go_wp2_with (go_at_call 25; refine (impl_ValidValue_any _ _ _ _ _ HS.out (HT.out.go (HA.out _)).1).mono ?_; rintro e w1 ⟨rfl, hb⟩; rw [HX.out]; have HB := Lib.hid ((HA.out _).trans (hb.mono (B' := W.heap.size) (by simp))); obtain ⟨hc, hf⟩ := bcell hb; clear hb)
      go_ret2
      exact ⟨rfl, HB.out⟩
    by_cases k2 : k = 2
    · subst k2
      rw [(tt_num hx).1, (tt_num hx).2]
      have HN := Lib.hid (vnum hx)
      clear hx k1
      go_enter Tryz.func39, Tryz.ntmps39
      go_wp2_with (first
        | (go_at_call 25; refine (impl_ValidValue_any _ _ _ _ _ HS.out (HT.out.go (HA.out _)).1).mono ?_; rintro e w1 ⟨rfl, hb⟩; rw [HX.out]; have HB := Lib.hid ((HA.out _).trans (hb.mono (B' := W.heap.size) (by simp))); obtain ⟨hc, hf⟩ := bcell hb; clear hb)
        | (go_at_call 63; refine (FormatInt_all _ _ HN.out.1 HN.out.2 (HT.out.go HB.out).2.1).mono ?_; rintro e w2 ⟨rfl, hb⟩; have HB2 := Lib.hid (HB.out.trans (hb.mono HB.out.size)); clear hb))
      go_ret2
      exact ⟨rfl, HB2.out⟩
    · rw [(tt_else k1 k2).1, (tt_else k1 k2).2]
      have f1 : (k == 1) = false := by simpa using k1
      have f2 : (k == 2) = false := by simpa using k2
      clear hx k1 k2
      go_enter Tryz.func39, Tryz.ntmps39
      go_wp2_with (go_at_call 25; refine (impl_ValidValue_any _ _ _ _ _ HS.out (HT.out.go (HA.out _)).1).mono ?_; rintro e w1 ⟨rfl, hb⟩; rw [HX.out]; have HB := Lib.hid ((HA.out _).trans (hb.mono (B' := W.heap.size) (by simp))); obtain ⟨hc, hf⟩ := bcell hb; clear hb)
      go_ret2
      exact ⟨rfl, HB.out⟩
end Go.Proofs.YtpjjpfjnjhahcaaGreatDoor
