/- Contracts: l02Text, TokenText of the model and of the program; the law's walk. Condition: the tables hold what the program's text lays. -/
import Derived.Test.YtfobjedobojbnabDoorToken2
import Derived.Test.YtfobjedobojbnabDoorInt
import Derived.Test.YtfobjedobojbnabDoorCards
import Derived.Stop.LaidErr
namespace Go.Proofs.YtfobjedobojbnabDoor
open Go Go.RowKit

/-- The text of a valid token. -/
def textOf (k n : Int) (t : ByteArray) : ByteArray :=
  if k = 2 then ⟨(Lib.decDigits n.toNat).toArray⟩ else if k = 3 then quoteS t else if k = 1 ∨ k = 4 then t
  else if k = 5 then ⟨#[40]⟩ else if k = 6 then ⟨#[41]⟩ else if k = 7 then ⟨#[60]⟩ else if k = 8 then ⟨#[62]⟩ else if k = 9 then ⟨#[44]⟩ else ⟨#[58]⟩
/-- What TokenText answers. -/
def tokText (k n : Int) (t : ByteArray) : ByteArray := if validTok k n t = true then textOf k n t else ⟨#[]⟩
theorem validTok_cases {k n : Int} {t : ByteArray} (h : validTok k n t = true) :
    k = 1 ∨ (k = 2 ∧ ∃ u : Nat, n = (u : Int) ∧ u ≤ 1000000000000) ∨ k = 3 ∨ k = 4 ∨ k = 5 ∨ k = 6 ∨ k = 7 ∨ k = 8 ∨ k = 9 ∨ k = 10 := by
  unfold validTok at h
  by_cases h1 : k = 1
  · exact .inl h1
  rw [if_neg h1] at h
  by_cases h2 : k = 2
  · rw [if_pos h2] at h
    simp only [Bool.and_eq_true, decide_eq_true_eq] at h
    exact .inr (.inl ⟨h2, n.toNat, by omega, by omega⟩)
  rw [if_neg h2] at h
  by_cases h3 : k = 3
  · exact .inr (.inr (.inl h3))
  rw [if_neg h3] at h
  by_cases h4 : k = 4
  · exact .inr (.inr (.inr (.inl h4)))
  rw [if_neg h4] at h
  simp only [Bool.and_eq_true, decide_eq_true_eq] at h
  omega

set_option maxHeartbeats 2000000 in
theorem l02Text_any (k n : Int) (t : ByteArray) (b a : Bool) (W : World) (hs : t.size ≤ maxLen) (hv : validTok k n t = true) :
    Calls Tryd.prog 38 #[.agg #[.int .i64 k, .int .i64 n, .string t, .bool b, .bool a]] W fun e w' => e = .returned (.string (textOf k n t)) ∧ Below W.heap.size W w' := by
  have HS : Hid (t.size ≤ maxLen) := hs
  have hc := validTok_cases hv
  clear hs hv
  rcases hc with rfl | ⟨rfl, u, rfl, hu⟩ | rfl | rfl | hc
  · show Calls _ _ _ _ fun e w' => e = .returned (.string t) ∧ _
    go_enter Tryd.func38, Tryd.ntmps38
    go_wp2_with fail
    go_ret
    exact ⟨rfl, (Below.refl _ _).alloc (Nat.le_refl _) _⟩
  · show Calls _ _ _ _ fun e w' => e = .returned (.string ⟨(Lib.decDigits (u : Int).toNat).toArray⟩) ∧ _
    rw [Int.toNat_natCast]
    go_enter Tryd.func38, Tryd.ntmps38
    go_wp2_with (go_at_call 68; refine (l02Int_any _ _ hu).mono ?_; rintro e w1 ⟨rfl, hb⟩; have HB := Lib.hid hb; clear hb)
    go_ret
    exact ⟨rfl, ((Below.refl _ _).alloc (Nat.le_refl _) _).trans (HB.out.mono (by simp))⟩
  · show Calls _ _ _ _ fun e w' => e = .returned (.string (quoteS t)) ∧ _
    go_enter Tryd.func38, Tryd.ntmps38
    go_wp2_with (go_at_call 69; refine (spec_QuoteString_any _ _ HS.out).mono ?_; rintro e w1 ⟨rfl, rfl⟩)
    go_ret
    exact ⟨rfl, (Below.refl _ _).alloc (Nat.le_refl _) _⟩
  · show Calls _ _ _ _ fun e w' => e = .returned (.string t) ∧ _
    go_enter Tryd.func38, Tryd.ntmps38
    go_wp2_with fail
    go_ret
    exact ⟨rfl, (Below.refl _ _).alloc (Nat.le_refl _) _⟩
  · rcases hc with rfl | rfl | rfl | rfl | rfl | rfl
    all_goals
      go_enter Tryd.func38, Tryd.ntmps38
      go_wp2_with fail
      go_ret
      exact ⟨rfl, ((Below.refl _ _).alloc (Nat.le_refl _) _).alloc (by simp) _⟩

set_option maxHeartbeats 4000000 in
theorem impl_TokenText_any (k n : Int) (t : ByteArray) (b a : Bool) (W : World) (hs : t.size ≤ maxLen) (hT : Classes W) (hP : PowTab W) (hg2 : 2 < W.heap.size) :
    Calls Tryd.prog 70 #[.agg #[.int .i64 k, .int .i64 n, .string t, .bool b, .bool a]] W fun e w' => e = .returned (.string (tokText k n t)) ∧ Below W.heap.size W w' := by
  have HS : Hid (t.size ≤ maxLen) := hs
  have HT := Lib.hid hT
  have HPT := Lib.hid hP
  have HG2 := Lib.hid hg2
  have HG : Hid (0 < W.heap.size) := heap_pos (hT.at_ 0 (by decide))
  clear hs hT hP hg2
  unfold tokText
  obtain ⟨x, hx⟩ : ∃ x, validTok k n t = x := ⟨_, rfl⟩
  have HX := Lib.hid hx
  rw [hx]
  cases x
  · clear hx
    go_enter Tryd.func70, Tryd.ntmps70
    go_wp2_with (go_at_call 23; refine (impl_ValidToken_any _ _ _ _ _ _ HS.out (HT.out.below ((Below.refl W.heap.size W).alloc (Nat.le_refl _) _) HG.out)).mono ?_; rintro e w1 ⟨rfl, hb⟩; rw [HX.out]; have HB := Lib.hid (((Below.refl _ _).alloc (Nat.le_refl _) _).trans (hb.mono (B' := W.heap.size) (by simp))); clear hb)
    go_ret
    exact ⟨rfl, HB.out⟩
  · rw [if_pos rfl]
    have hc := validTok_cases hx
    clear hx
    rcases hc with rfl | ⟨rfl, u, rfl, hu⟩ | rfl | rfl | hc
    · show Calls _ _ _ _ fun e w' => e = .returned (.string t) ∧ _
      go_enter Tryd.func70, Tryd.ntmps70
      go_wp2_with (go_at_call 23; refine (impl_ValidToken_any _ _ _ _ _ _ HS.out (HT.out.below ((Below.refl W.heap.size W).alloc (Nat.le_refl _) _) HG.out)).mono ?_; rintro e w1 ⟨rfl, hb⟩; rw [HX.out]; obtain ⟨hc, hf⟩ := bcell hb; have HB := Lib.hid (((Below.refl _ _).alloc (Nat.le_refl _) _).trans (hb.mono (B' := W.heap.size) (by simp))); clear hb)
      go_ret
      exact ⟨rfl, HB.out⟩
    · show Calls _ _ _ _ fun e w' => e = .returned (.string ⟨(Lib.decDigits (u : Int).toNat).toArray⟩) ∧ _
      rw [Int.toNat_natCast]
      go_enter Tryd.func70, Tryd.ntmps70
      go_wp2_with (first
        | (go_at_call 23; refine (impl_ValidToken_any _ _ _ _ _ _ HS.out (HT.out.below ((Below.refl W.heap.size W).alloc (Nat.le_refl _) _) HG.out)).mono ?_; rintro e w1 ⟨rfl, hb⟩; rw [HX.out]; obtain ⟨hc, hf⟩ := bcell hb; have HB := Lib.hid (((Below.refl _ _).alloc (Nat.le_refl _) _).trans (hb.mono (B' := W.heap.size) (by simp))); clear hb)
        | (go_at_call 88; refine (FormatInt_any _ _ hu (var?_below HB.out gPow HG2.out HPT.out)).mono ?_; rintro e w2 ⟨rfl, hb⟩; have HB2 := Lib.hid (HB.out.trans (hb.mono HB.out.size)); clear hb))
      go_ret
      exact ⟨rfl, HB2.out⟩
    · show Calls _ _ _ _ fun e w' => e = .returned (.string (quoteS t)) ∧ _
      go_enter Tryd.func70, Tryd.ntmps70
      go_wp2_with (first
        | (go_at_call 23; refine (impl_ValidToken_any _ _ _ _ _ _ HS.out (HT.out.below ((Below.refl W.heap.size W).alloc (Nat.le_refl _) _) HG.out)).mono ?_; rintro e w1 ⟨rfl, hb⟩; rw [HX.out]; obtain ⟨hc, hf⟩ := bcell hb; have HB := Lib.hid (((Below.refl _ _).alloc (Nat.le_refl _) _).trans (hb.mono (B' := W.heap.size) (by simp))); clear hb)
        | (go_at_call 89; refine (impl_QuoteString_any _ _ HS.out).mono ?_; rintro e w2 ⟨rfl, hb⟩; have HB2 := Lib.hid (HB.out.trans (hb.mono HB.out.size)); clear hb))
      go_ret
      exact ⟨rfl, HB2.out⟩
    · show Calls _ _ _ _ fun e w' => e = .returned (.string t) ∧ _
      go_enter Tryd.func70, Tryd.ntmps70
      go_wp2_with (go_at_call 23; refine (impl_ValidToken_any _ _ _ _ _ _ HS.out (HT.out.below ((Below.refl W.heap.size W).alloc (Nat.le_refl _) _) HG.out)).mono ?_; rintro e w1 ⟨rfl, hb⟩; rw [HX.out]; obtain ⟨hc, hf⟩ := bcell hb; have HB := Lib.hid (((Below.refl _ _).alloc (Nat.le_refl _) _).trans (hb.mono (B' := W.heap.size) (by simp))); clear hb)
      go_ret
      exact ⟨rfl, HB.out⟩
    · rcases hc with rfl | rfl | rfl | rfl | rfl | rfl
      all_goals
        go_enter Tryd.func70, Tryd.ntmps70
        go_wp2_with (go_at_call 23; refine (impl_ValidToken_any _ _ _ _ _ _ HS.out (HT.out.below ((Below.refl W.heap.size W).alloc (Nat.le_refl _) _) HG.out)).mono ?_; rintro e w1 ⟨rfl, hb⟩; rw [HX.out]; obtain ⟨hc, hf⟩ := bcell hb; have HB := Lib.hid (((Below.refl _ _).alloc (Nat.le_refl _) _).trans (hb.mono (B' := W.heap.size) (by simp))); clear hb)
        go_ret
        exact ⟨rfl, HB.out⟩
end Go.Proofs.YtfobjedobojbnabDoor
