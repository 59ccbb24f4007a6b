/- Contracts: CanQuote of the program and of the model. No condition but that a string fits in memory. -/
import Derived.Test.YtjmiobmfphkdeaaDoorQuote
namespace Go.Proofs.YtjmiobmfphkdeaaDoor
open Go Go.RowKit

/-- What CanQuote answers. -/
def canB (s : ByteArray) : Bool := decide (s.size ≤ 200) && allB (prnB false) s && !(holdsB 39 s && holdsB 34 s)
theorem contains_any (s : ByteArray) (c : UInt8) (W : World) :
    Calls Tryd.prog 39 #[.string s, .string ⟨#[c]⟩] W fun e w' => e = .returned (.bool (holdsB (c.toNat : Int) s)) ∧ W = w' :=
  (Tryd.strings_Contains_one s c W).mono fun e w' ⟨h1, h2⟩ => ⟨by rw [h1, holds_index], h2.symm⟩

set_option maxHeartbeats 1000000 in
theorem spec_CanQuote_any (s : ByteArray) (W : World) (hs : s.size ≤ maxLen) :
    Calls Tryd.prog 36 #[.string s] W fun e w' => e = .returned (.bool (canB s)) ∧ W = w' := by
  have HS : Hid (s.size ≤ maxLen) := hs
  unfold maxLen at hs
  obtain ⟨p, hp⟩ : ∃ p, allB (prnB false) s = p := ⟨_, rfl⟩
  obtain ⟨q, hq⟩ : ∃ q, holdsB 39 s = q := ⟨_, rfl⟩
  obtain ⟨r, hr⟩ : ∃ r, holdsB 34 s = r := ⟨_, rfl⟩
  have HP := Lib.hid hp
  have HQ := Lib.hid hq
  have HR := Lib.hid hr
  by_cases h2 : s.size ≤ 200
  · have e1 : canB s = (p && !(q && r)) := by simp [canB, hp, hq, hr, h2]
    have d : decide ((s.size : Int) ≤ 200) = true := by simp; omega
    rw [e1]
    clear hp hq hr e1
    cases p <;> cases q <;> cases r
    all_goals
      go_enter Tryd.func36, Tryd.ntmps36
      go_wp2_with (first
        | (go_at_call 43; refine (l01Printable_any _ _ _ HS.out).mono ?_; rintro e w' ⟨rfl, rfl⟩; rw [HP.out])
        | (go_at_call 44; refine (l02Holds_any _ _ _ HS.out).mono ?_; rintro e w' ⟨rfl, rfl⟩; (first | rw [HQ.out] | rw [HR.out])))
      go_ret
      exact ⟨rfl, rfl⟩
  · have e1 : canB s = false := by simp [canB, h2]
    have d : decide ((s.size : Int) ≤ 200) = false := by simp; omega
    rw [e1]
    clear hp hq hr e1
    go_enter Tryd.func36, Tryd.ntmps36
    go_wp2_with fail
    go_ret
    exact ⟨rfl, rfl⟩

set_option maxHeartbeats 1000000 in
theorem impl_CanQuote_any (s : ByteArray) (W : World) (hs : s.size ≤ maxLen) :
    Calls Tryd.prog 31 #[.string s] W fun e w' => e = .returned (.bool (canB s)) ∧ Below W.heap.size W w' := by
  unfold maxLen at hs
  obtain ⟨p, hp⟩ : ∃ p, allB (prnB false) s = p := ⟨_, rfl⟩
  obtain ⟨q, hq⟩ : ∃ q, holdsB 39 s = q := ⟨_, rfl⟩
  obtain ⟨r, hr⟩ : ∃ r, holdsB 34 s = r := ⟨_, rfl⟩
  have HP := Lib.hid hp
  have HQ : Hid (holdsB ((39 : UInt8).toNat : Int) s = q) := hq
  have HR : Hid (holdsB ((34 : UInt8).toNat : Int) s = r) := hr
  by_cases h2 : s.size ≤ 200
  · have e1 : canB s = (p && !(q && r)) := by simp [canB, hp, hq, hr, h2]
    have d : decide (200 < (s.size : Int)) = false := by simp; omega
    rw [e1]
    clear hp hq hr e1
    cases p <;> cases q <;> cases r
    all_goals
      go_enter Tryd.func31, Tryd.ntmps31
      go_wp2_with (first
        | (go_at_call 38; refine (hasUnprintable_any _ _).mono ?_; rintro e w1 ⟨rfl, hb⟩; rw [HP.out]; have HB := Lib.hid hb; clear hb)
        | (go_at_call 39; refine (contains_any _ _ _).mono ?_; rintro e w' ⟨rfl, rfl⟩; (first | rw [HQ.out] | rw [HR.out])))
      go_ret
      exact ⟨rfl, HB.out⟩
  · have e1 : canB s = false := by simp [canB, h2]
    have d : decide (200 < (s.size : Int)) = true := by simp; omega
    rw [e1]
    clear hp hq hr e1
    go_enter Tryd.func31, Tryd.ntmps31
    go_wp2_with fail
    go_ret
    exact ⟨rfl, Below.refl _ _⟩

end Go.Proofs.YtjmiobmfphkdeaaDoor
