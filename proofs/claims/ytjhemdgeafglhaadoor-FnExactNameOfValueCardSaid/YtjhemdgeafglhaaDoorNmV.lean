/- Contracts: NameOfValue of both. Condition (the program's): the table holds what its text lays. -/
import Derived.Test.YtjhemdgeafglhaaDoorVal
import Derived.Test.YtjhemdgeafglhaaDoorValImpl
namespace Go.Proofs.YtjhemdgeafglhaaDoor
open Go Go.RowKit

/-- Whether a value denotes a name, and which. -/
def nvB (k n : Int) (t : ByteArray) (r : Int) : Bool := validV k n t r && ((k == 7) || ((k == 1) && isNameB t))
def nvS (k n : Int) (t : ByteArray) (r : Int) : ByteArray := if nvB k n t r = true then t else ⟨#[]⟩
theorem valid_name {n : Int} {t : ByteArray} {r : Int} (h : validV 7 n t r = true) : isNameB t = true := by
  unfold validV at h
  simp at h
  exact h.2

set_option maxHeartbeats 1000000 in
theorem spec_NameOfValue_any (k n : Int) (t : ByteArray) (r : Int) (W : World) (hs : t.size ≤ maxLen) :
    Calls Tryd.prog 9 #[.agg #[.int .i64 k, .int .i64 n, .string t, .int .i64 r]] W fun e w' => e = .returned (.tuple #[.string (nvS k n t r), .bool (nvB k n t r)]) ∧ Below W.heap.size W w' := by
  have HS := Lib.hid hs
  clear hs
  unfold nvS nvB
  obtain ⟨x, hx⟩ : ∃ x, validV k n t r = x := ⟨_, rfl⟩
  obtain ⟨y, hy⟩ : ∃ y, isNameB t = y := ⟨_, rfl⟩
  obtain ⟨f7, h7⟩ : ∃ z, (k == 7) = z := ⟨_, rfl⟩
  obtain ⟨f1, h1⟩ : ∃ z, (k == 1) = z := ⟨_, rfl⟩
  have g7 : (k != 7) = !f7 := by rw [bne, h7]
  have g1 : (k != 1) = !f1 := by rw [bne, h1]
  have HX := Lib.hid hx
  have HY := Lib.hid hy
  rw [hx, hy, h7, h1]
  clear hx hy
  have HA : Hid (∀ o, Below W.heap.size W (W.alloc o)) := fun o => (Below.refl _ _).alloc (Nat.le_refl _) o
  cases x
  · go_enter Tryd.func9, Tryd.ntmps9
    go_wp2_with (go_at_call 25; refine (spec_ValidValue_any _ _ _ _ _ HS.out).mono ?_; rintro e w1 ⟨rfl, hb⟩; rw [HX.out]; have HB := Lib.hid ((HA.out _).trans (hb.mono (B' := W.heap.size) (by simp))); obtain ⟨hc, hf⟩ := bcell hb; clear hb)
    go_ret2
    exact ⟨rfl, HB.out⟩
  cases f7
  · cases f1
    · go_enter Tryd.func9, Tryd.ntmps9
      go_wp2_with (go_at_call 25; refine (spec_ValidValue_any _ _ _ _ _ HS.out).mono ?_; rintro e w1 ⟨rfl, hb⟩; rw [HX.out]; have HB := Lib.hid ((HA.out _).trans (hb.mono (B' := W.heap.size) (by simp))); obtain ⟨hc, hf⟩ := bcell hb; clear hb)
      go_ret2
      exact ⟨rfl, HB.out⟩
    · cases y
      all_goals
        go_enter Tryd.func9, Tryd.ntmps9
        go_wp2_with (first
          | (go_at_call 25; refine (spec_ValidValue_any _ _ _ _ _ HS.out).mono ?_; rintro e w1 ⟨rfl, hb⟩; rw [HX.out]; have HB := Lib.hid ((HA.out _).trans (hb.mono (B' := W.heap.size) (by simp))); obtain ⟨hc, hf⟩ := bcell hb; clear hb)
          | (go_at_call 26; refine (spec_IsName_any _ _ HS.out).mono ?_; rintro e w2 ⟨rfl, rfl⟩; rw [HY.out]))
        go_ret2
        exact ⟨rfl, HB.out⟩
  · go_enter Tryd.func9, Tryd.ntmps9
    go_wp2_with (go_at_call 25; refine (spec_ValidValue_any _ _ _ _ _ HS.out).mono ?_; rintro e w1 ⟨rfl, hb⟩; rw [HX.out]; have HB := Lib.hid ((HA.out _).trans (hb.mono (B' := W.heap.size) (by simp))); obtain ⟨hc, hf⟩ := bcell hb; clear hb)
    go_ret2
    exact ⟨rfl, HB.out⟩

set_option maxHeartbeats 1000000 in
theorem impl_NameOfValue_any (k n : Int) (t : ByteArray) (r : Int) (W : World) (hs : t.size ≤ maxLen) (hT : Classes W) :
    Calls Tryd.prog 11 #[.agg #[.int .i64 k, .int .i64 n, .string t, .int .i64 r]] W fun e w' => e = .returned (.tuple #[.string (nvS k n t r), .bool (nvB k n t r)]) ∧ Below W.heap.size W w' := by
  have HS := Lib.hid hs
  have HT := Lib.hid hT
  have HG : Hid (1 < W.heap.size) := heap_pos (hT.at_ 0 (by decide))
  clear hs hT
  have HV7 : Hid (k = 7 → validV k n t r = true → isNameB t = true) := fun e h => valid_name (by rw [← e]; exact h)
  unfold nvS nvB
  obtain ⟨x, hx⟩ : ∃ x, validV k n t r = x := ⟨_, rfl⟩
  obtain ⟨y, hy⟩ : ∃ y, isNameB t = y := ⟨_, rfl⟩
  obtain ⟨f7, h7⟩ : ∃ z, (k == 7) = z := ⟨_, rfl⟩
  obtain ⟨f1, h1⟩ : ∃ z, (k == 1) = z := ⟨_, rfl⟩
  have HX := Lib.hid hx
  have HY := Lib.hid hy
  have H77 : Hid (f7 = true → x = true → y = true) := fun e h => by rw [← hy]; exact HV7.out (by simpa using h7.trans e) (hx.trans h)
  rw [hx, hy, h7, h1]
  clear hx hy HV7
  have HA : Hid (∀ o, Below W.heap.size W (W.alloc o)) := fun o => (Below.refl _ _).alloc (Nat.le_refl _) o
  cases f7 <;> cases f1 <;> cases x <;> cases y
  all_goals first
    | (exact absurd (H77.out rfl rfl) (by decide))
    | (clear H77
       go_enter Tryd.func11, Tryd.ntmps11
       go_wp2_with (first
         | (go_at_call 27; refine (impl_ValidValue_any _ _ _ _ _ HS.out (HT.out.below (HA.out _) HG.out)).mono ?_; rintro e w1 ⟨rfl, hb⟩; rw [HX.out]; have HB := Lib.hid ((HA.out _).trans (hb.mono (B' := W.heap.size) (by simp))); obtain ⟨hc, hf⟩ := bcell hb; have hz1 : W.heap.size < w1.heap.size := (by have := hb.size; simp at this; omega); clear hb)
         | (go_at_call 28; refine (impl_IsName_any _ _ HS.out (HT.out.below HB.out HG.out)).mono ?_; rintro e w2 ⟨rfl, hb⟩; rw [HY.out]; have HB2 := Lib.hid (HB.out.trans (hb.mono HB.out.size)); obtain ⟨hc2, hf2⟩ := bcell hb; clear hb))
       go_ret2
       exact ⟨rfl, by first | exact HB2.out | exact HB.out | exact HA.out _⟩)
end Go.Proofs.YtjhemdgeafglhaaDoor
