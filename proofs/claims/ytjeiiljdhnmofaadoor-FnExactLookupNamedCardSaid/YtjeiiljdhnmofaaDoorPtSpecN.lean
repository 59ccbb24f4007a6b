/- Contract: l11Node of the model. No condition. -/
import Derived.Test.YtjeiiljdhnmofaaDoorPtWord
import Derived.Test.YtjeiiljdhnmofaaDoorIn
namespace Go.Proofs.YtjeiiljdhnmofaaDoor
open Go Go.RowKit

/-- The condition on Num and Text by what the parentheses have. -/
def restFits (r : ByteArray) (j n : Int) (t : ByteArray) : Bool :=
  if r = ⟨#[115]⟩ then (n == 0) && (decide (t.size ≤ 200) && ((j == 1) || !(t.size == 0)))
  else if r = ⟨#[110]⟩ then (t.size == 0) && decide (0 ≤ n ∧ n ≤ 200)
  else if r = ⟨#[120]⟩ then (n == 0) && isNameB t
  else (n == 0) && (t.size == 0)
theorem restFits_eq {j : Nat} (h1 : 1 ≤ j) (h2 : j ≤ 24) (n : Int) (t : ByteArray) : (textFits j t && ((n == 0) || (hasNum j && decide (0 ≤ n ∧ n ≤ 200)))) = restFits (restK j) j n t := by
  have hc : j ≤ 5 ∨ (6 ≤ j ∧ j ≤ 10) ∨ (11 ≤ j ∧ j ≤ 20) ∨ 21 ≤ j := by omega
  rcases hc with h | h | h | h
  · have e1 : hasName (j : Int) = false := by simp [hasName]; omega
    have e2 : hasLit (j : Int) = true := by simp [hasLit]; omega
    have e3 : hasNum (j : Int) = false := by simp [hasNum]; omega
    have e4 : restK j = ⟨#[115]⟩ := by rw [restK, if_pos h]
    rw [e3, e4, textFits, e1, e2, restFits, if_pos rfl, if_neg (by decide), if_pos rfl, Bool.false_and, Bool.or_false, Bool.or_comm ((j : Int) == 1), Bool.and_comm]
  · have e1 : hasName (j : Int) = false := by simp [hasName]; omega
    have e2 : hasLit (j : Int) = false := by simp [hasLit]; omega
    have e3 : hasNum (j : Int) = true := by simp [hasNum]; omega
    have e4 : restK j = ⟨#[110]⟩ := by rw [restK, if_neg (by omega), if_pos (by omega)]
    rw [e3, e4, textFits, e1, e2, restFits, if_neg (by decide), if_pos rfl, if_neg (by decide), if_neg (by decide), Bool.true_and]
    by_cases h0 : n = 0
    · subst h0; simp
    · rw [show (n == 0) = false from by simp [h0], Bool.false_or]
  · have e1 : hasName (j : Int) = false := by simp [hasName]; omega
    have e2 : hasLit (j : Int) = false := by simp [hasLit]; omega
    have e3 : hasNum (j : Int) = false := by simp [hasNum]; omega
    have e4 : restK j = ⟨#[]⟩ := by rw [restK, if_neg (by omega), if_neg (by omega), if_neg (by omega)]
    rw [e3, e4, textFits, e1, e2, restFits, if_neg (by decide), if_neg (by decide), if_neg (by decide), if_neg (by decide), if_neg (by decide), Bool.false_and, Bool.or_false, Bool.and_comm]
  · have e1 : hasName (j : Int) = true := by simp [hasName]; omega
    have e3 : hasNum (j : Int) = false := by simp [hasNum]; omega
    have e4 : restK j = ⟨#[120]⟩ := by rw [restK, if_neg (by omega), if_neg (by omega), if_pos (by omega)]
    rw [e3, e4, textFits, e1, restFits, if_pos rfl, if_neg (by decide), if_neg (by decide), if_pos rfl, Bool.false_and, Bool.or_false, Bool.and_comm]
theorem restK_cases (j : Nat) : restK j = ⟨#[115]⟩ ∨ restK j = ⟨#[110]⟩ ∨ restK j = ⟨#[120]⟩ ∨ restK j = ⟨#[]⟩ := by
  unfold restK
  split
  · exact .inl rfl
  split
  · exact .inr (.inl rfl)
  split
  · exact .inr (.inr (.inl rfl))
  · exact .inr (.inr (.inr rfl))

set_option maxHeartbeats 4000000 in
set_option maxRecDepth 100000 in
theorem l11Node_any (k n : Int) (t : ByteArray) (ks : List Pt) (A : Option Addr) (nk c : Nat) (W : World) (hs : t.size ≤ maxLen) (hl : ks.length = nk) (hm : nk ≤ maxLen) :
    Calls Tryd.prog 48 #[.agg #[.int .i64 k, .int .i64 n, .string t, .slice A nk c]] W fun e w' => e = .returned (.bool (Pt.node k n t ks).proper) ∧ Below W.heap.size W w' := by
  have HS := Lib.hid hs
  unfold maxLen at hm hs
  have HB := Lib.hid (below_alloc W (.cells #[.int .i64 k, .int .i64 n, .string t, .slice A nk c] 29))
  rw [show (Pt.node k n t ks).proper = (decide (1 ≤ k ∧ k ≤ 24) && (((nk : Int) == kidsK k) && (textFits k t && ((n == 0) || (hasNum k && decide (0 ≤ n ∧ n ≤ 200)))))) from by rw [← hl]; rfl]
  clear hl
  by_cases hk : 1 ≤ k ∧ k ≤ 24
  · have HK : Hid (decide (1 ≤ k ∧ k ≤ 24) = true) := by show _ = _; simp [hk]
    rw [HK.out, Bool.true_and]
    obtain ⟨j, rfl⟩ := Int.eq_ofNat_of_zero_le (show 0 ≤ k by omega)
    have h1 : 1 ≤ j := by omega
    have h2 : j ≤ 24 := by omega
    clear hk
    rw [restFits_eq h1 h2]
    have HF : Hid (∀ w, Calls Tryd.prog 73 #[.int .i64 (j : Int)] w fun e w' => e = .returned (.tuple #[.int .i64 (kidsK j), .string (restK j)]) ∧ w = w') := fun w => l11Form_any j h1 h2 w
    have hr := restK_cases j
    clear h1 h2
    generalize kidsK j = q at HF ⊢
    generalize restK j = r at HF hr ⊢
    obtain ⟨z1, h1⟩ : ∃ z, ((nk : Int) == q) = z := ⟨_, rfl⟩
    rw [h1]
    cases z1
    · have hne : ((nk : Int) != q) = true := by rw [bne, h1]; rfl
      rw [Bool.false_and]
      clear h1 hr
      have tk1 : True := trivial
      go_enter Tryd.func48, Tryd.ntmps48
      go_wp2_with (first | (go_at_call 45; have tk := tk1; refine (l00In_any _ _ _ _).mono ?_; rintro e w1 ⟨rfl, rfl⟩; rw [HK.out]; clear tk tk1) | (go_at_call 45; refine (l00In_any _ _ _ _).mono ?_; rintro e w2 ⟨rfl, rfl⟩; rw [HI.out]) | (go_at_call 73; refine (HF.out _).mono ?_; rintro e w3 ⟨rfl, rfl⟩) | (go_at_call 46; refine (spec_IsName_any _ _ HS.out).mono ?_; rintro e w4 ⟨rfl, rfl⟩; rw [HZ.out]))
      go_ret
      exact ⟨rfl, HB.out⟩
    · have hne : ((nk : Int) != q) = false := by rw [bne, h1]; rfl
      rw [Bool.true_and]
      clear h1
      obtain ⟨z2, h2⟩ : ∃ z, (n == 0) = z := ⟨_, rfl⟩
      rcases hr with rfl | rfl | rfl | rfl
      · rw [restFits, if_pos rfl, h2]
        cases z2
        · rw [Bool.false_and]
          have tk1 : True := trivial
          go_enter Tryd.func48, Tryd.ntmps48
          go_wp2_with (first | (go_at_call 45; have tk := tk1; refine (l00In_any _ _ _ _).mono ?_; rintro e w1 ⟨rfl, rfl⟩; rw [HK.out]; clear tk tk1) | (go_at_call 45; refine (l00In_any _ _ _ _).mono ?_; rintro e w2 ⟨rfl, rfl⟩; rw [HI.out]) | (go_at_call 73; refine (HF.out _).mono ?_; rintro e w3 ⟨rfl, rfl⟩) | (go_at_call 46; refine (spec_IsName_any _ _ HS.out).mono ?_; rintro e w4 ⟨rfl, rfl⟩; rw [HZ.out]))
          go_ret
          exact ⟨rfl, HB.out⟩
        · rw [Bool.true_and]
          by_cases hz : t.size ≤ 200
          · have d1 : decide ((t.size : Int) ≤ 200) = true := by simp; omega
            rw [show decide (t.size ≤ 200) = true from by simp [hz], Bool.true_and]
            clear hz
            obtain ⟨z3, h3⟩ : ∃ z, ((j : Int) == 1) = z := ⟨_, rfl⟩
            rw [h3]
            cases z3
            · rw [Bool.false_or]
              by_cases ht : t.size = 0
              · have e1 := nil_of_size ht
                have e2 := isEmpty_of_size ht
                rw [show (t.size == 0) = true from by simp [ht]]
                clear ht
                rw [Bool.not_true]
                have tk1 : True := trivial
                go_enter Tryd.func48, Tryd.ntmps48
                go_wp2_with (first | (go_at_call 45; have tk := tk1; refine (l00In_any _ _ _ _).mono ?_; rintro e w1 ⟨rfl, rfl⟩; rw [HK.out]; clear tk tk1) | (go_at_call 45; refine (l00In_any _ _ _ _).mono ?_; rintro e w2 ⟨rfl, rfl⟩; rw [HI.out]) | (go_at_call 73; refine (HF.out _).mono ?_; rintro e w3 ⟨rfl, rfl⟩) | (go_at_call 46; refine (spec_IsName_any _ _ HS.out).mono ?_; rintro e w4 ⟨rfl, rfl⟩; rw [HZ.out]))
                go_ret
                exact ⟨rfl, HB.out⟩
              · have hp : 0 < t.size := by omega
                have e1 := ne_nil_of_size hp
                have e2 := not_isEmpty_of_size hp
                rw [show (t.size == 0) = false from by simp [ht]]
                clear ht hp
                rw [Bool.not_false]
                have tk1 : True := trivial
                go_enter Tryd.func48, Tryd.ntmps48
                go_wp2_with (first | (go_at_call 45; have tk := tk1; refine (l00In_any _ _ _ _).mono ?_; rintro e w1 ⟨rfl, rfl⟩; rw [HK.out]; clear tk tk1) | (go_at_call 45; refine (l00In_any _ _ _ _).mono ?_; rintro e w2 ⟨rfl, rfl⟩; rw [HI.out]) | (go_at_call 73; refine (HF.out _).mono ?_; rintro e w3 ⟨rfl, rfl⟩) | (go_at_call 46; refine (spec_IsName_any _ _ HS.out).mono ?_; rintro e w4 ⟨rfl, rfl⟩; rw [HZ.out]))
                go_ret
                exact ⟨rfl, HB.out⟩
            · rw [Bool.true_or]
              have tk1 : True := trivial
              go_enter Tryd.func48, Tryd.ntmps48
              go_wp2_with (first | (go_at_call 45; have tk := tk1; refine (l00In_any _ _ _ _).mono ?_; rintro e w1 ⟨rfl, rfl⟩; rw [HK.out]; clear tk tk1) | (go_at_call 45; refine (l00In_any _ _ _ _).mono ?_; rintro e w2 ⟨rfl, rfl⟩; rw [HI.out]) | (go_at_call 73; refine (HF.out _).mono ?_; rintro e w3 ⟨rfl, rfl⟩) | (go_at_call 46; refine (spec_IsName_any _ _ HS.out).mono ?_; rintro e w4 ⟨rfl, rfl⟩; rw [HZ.out]))
              go_ret
              exact ⟨rfl, HB.out⟩
          · have d1 : decide ((t.size : Int) ≤ 200) = false := by simp; omega
            rw [show decide (t.size ≤ 200) = false from by simp [hz], Bool.false_and]
            clear hz
            have tk1 : True := trivial
            go_enter Tryd.func48, Tryd.ntmps48
            go_wp2_with (first | (go_at_call 45; have tk := tk1; refine (l00In_any _ _ _ _).mono ?_; rintro e w1 ⟨rfl, rfl⟩; rw [HK.out]; clear tk tk1) | (go_at_call 45; refine (l00In_any _ _ _ _).mono ?_; rintro e w2 ⟨rfl, rfl⟩; rw [HI.out]) | (go_at_call 73; refine (HF.out _).mono ?_; rintro e w3 ⟨rfl, rfl⟩) | (go_at_call 46; refine (spec_IsName_any _ _ HS.out).mono ?_; rintro e w4 ⟨rfl, rfl⟩; rw [HZ.out]))
            go_ret
            exact ⟨rfl, HB.out⟩
      · rw [restFits, if_neg (by decide), if_pos rfl]
        clear h2
        by_cases ht : t.size = 0
        · have e1 := nil_of_size ht
          have e2 := isEmpty_of_size ht
          rw [show (t.size == 0) = true from by simp [ht]]
          clear ht
          rw [Bool.true_and]
          obtain ⟨z3, h3⟩ : ∃ z, decide (0 ≤ n ∧ n ≤ 200) = z := ⟨_, rfl⟩
          have HI := Lib.hid h3
          rw [h3]
          clear h3
          have tk1 : True := trivial
          go_enter Tryd.func48, Tryd.ntmps48
          go_wp2_with (first | (go_at_call 45; have tk := tk1; refine (l00In_any _ _ _ _).mono ?_; rintro e w1 ⟨rfl, rfl⟩; rw [HK.out]; clear tk tk1) | (go_at_call 45; refine (l00In_any _ _ _ _).mono ?_; rintro e w2 ⟨rfl, rfl⟩; rw [HI.out]) | (go_at_call 73; refine (HF.out _).mono ?_; rintro e w3 ⟨rfl, rfl⟩) | (go_at_call 46; refine (spec_IsName_any _ _ HS.out).mono ?_; rintro e w4 ⟨rfl, rfl⟩; rw [HZ.out]))
          go_ret
          exact ⟨rfl, HB.out⟩
        · have hp : 0 < t.size := by omega
          have e1 := ne_nil_of_size hp
          have e2 := not_isEmpty_of_size hp
          rw [show (t.size == 0) = false from by simp [ht]]
          clear ht hp
          rw [Bool.false_and]
          have tk1 : True := trivial
          go_enter Tryd.func48, Tryd.ntmps48
          go_wp2_with (first | (go_at_call 45; have tk := tk1; refine (l00In_any _ _ _ _).mono ?_; rintro e w1 ⟨rfl, rfl⟩; rw [HK.out]; clear tk tk1) | (go_at_call 45; refine (l00In_any _ _ _ _).mono ?_; rintro e w2 ⟨rfl, rfl⟩; rw [HI.out]) | (go_at_call 73; refine (HF.out _).mono ?_; rintro e w3 ⟨rfl, rfl⟩) | (go_at_call 46; refine (spec_IsName_any _ _ HS.out).mono ?_; rintro e w4 ⟨rfl, rfl⟩; rw [HZ.out]))
          go_ret
          exact ⟨rfl, HB.out⟩
      · rw [restFits, if_neg (by decide), if_neg (by decide), if_pos rfl, h2]
        cases z2
        · rw [Bool.false_and]
          have tk1 : True := trivial
          go_enter Tryd.func48, Tryd.ntmps48
          go_wp2_with (first | (go_at_call 45; have tk := tk1; refine (l00In_any _ _ _ _).mono ?_; rintro e w1 ⟨rfl, rfl⟩; rw [HK.out]; clear tk tk1) | (go_at_call 45; refine (l00In_any _ _ _ _).mono ?_; rintro e w2 ⟨rfl, rfl⟩; rw [HI.out]) | (go_at_call 73; refine (HF.out _).mono ?_; rintro e w3 ⟨rfl, rfl⟩) | (go_at_call 46; refine (spec_IsName_any _ _ HS.out).mono ?_; rintro e w4 ⟨rfl, rfl⟩; rw [HZ.out]))
          go_ret
          exact ⟨rfl, HB.out⟩
        · rw [Bool.true_and]
          obtain ⟨z3, h3⟩ : ∃ z, isNameB t = z := ⟨_, rfl⟩
          have HZ := Lib.hid h3
          rw [h3]
          clear h3
          have tk1 : True := trivial
          go_enter Tryd.func48, Tryd.ntmps48
          go_wp2_with (first | (go_at_call 45; have tk := tk1; refine (l00In_any _ _ _ _).mono ?_; rintro e w1 ⟨rfl, rfl⟩; rw [HK.out]; clear tk tk1) | (go_at_call 45; refine (l00In_any _ _ _ _).mono ?_; rintro e w2 ⟨rfl, rfl⟩; rw [HI.out]) | (go_at_call 73; refine (HF.out _).mono ?_; rintro e w3 ⟨rfl, rfl⟩) | (go_at_call 46; refine (spec_IsName_any _ _ HS.out).mono ?_; rintro e w4 ⟨rfl, rfl⟩; rw [HZ.out]))
          go_ret
          exact ⟨rfl, HB.out⟩
      · rw [restFits, if_neg (by decide), if_neg (by decide), if_neg (by decide), h2]
        cases z2
        · rw [Bool.false_and]
          have tk1 : True := trivial
          go_enter Tryd.func48, Tryd.ntmps48
          go_wp2_with (first | (go_at_call 45; have tk := tk1; refine (l00In_any _ _ _ _).mono ?_; rintro e w1 ⟨rfl, rfl⟩; rw [HK.out]; clear tk tk1) | (go_at_call 45; refine (l00In_any _ _ _ _).mono ?_; rintro e w2 ⟨rfl, rfl⟩; rw [HI.out]) | (go_at_call 73; refine (HF.out _).mono ?_; rintro e w3 ⟨rfl, rfl⟩) | (go_at_call 46; refine (spec_IsName_any _ _ HS.out).mono ?_; rintro e w4 ⟨rfl, rfl⟩; rw [HZ.out]))
          go_ret
          exact ⟨rfl, HB.out⟩
        · rw [Bool.true_and]
          by_cases ht : t.size = 0
          · have e1 := nil_of_size ht
            have e2 := isEmpty_of_size ht
            rw [show (t.size == 0) = true from by simp [ht]]
            clear ht
            have tk1 : True := trivial
            go_enter Tryd.func48, Tryd.ntmps48
            go_wp2_with (first | (go_at_call 45; have tk := tk1; refine (l00In_any _ _ _ _).mono ?_; rintro e w1 ⟨rfl, rfl⟩; rw [HK.out]; clear tk tk1) | (go_at_call 45; refine (l00In_any _ _ _ _).mono ?_; rintro e w2 ⟨rfl, rfl⟩; rw [HI.out]) | (go_at_call 73; refine (HF.out _).mono ?_; rintro e w3 ⟨rfl, rfl⟩) | (go_at_call 46; refine (spec_IsName_any _ _ HS.out).mono ?_; rintro e w4 ⟨rfl, rfl⟩; rw [HZ.out]))
            go_ret
            exact ⟨rfl, HB.out⟩
          · have hp : 0 < t.size := by omega
            have e1 := ne_nil_of_size hp
            have e2 := not_isEmpty_of_size hp
            rw [show (t.size == 0) = false from by simp [ht]]
            clear ht hp
            have tk1 : True := trivial
            go_enter Tryd.func48, Tryd.ntmps48
            go_wp2_with (first | (go_at_call 45; have tk := tk1; refine (l00In_any _ _ _ _).mono ?_; rintro e w1 ⟨rfl, rfl⟩; rw [HK.out]; clear tk tk1) | (go_at_call 45; refine (l00In_any _ _ _ _).mono ?_; rintro e w2 ⟨rfl, rfl⟩; rw [HI.out]) | (go_at_call 73; refine (HF.out _).mono ?_; rintro e w3 ⟨rfl, rfl⟩) | (go_at_call 46; refine (spec_IsName_any _ _ HS.out).mono ?_; rintro e w4 ⟨rfl, rfl⟩; rw [HZ.out]))
            go_ret
            exact ⟨rfl, HB.out⟩
  · rw [show decide (1 ≤ k ∧ k ≤ 24) = false from by simp only [decide_eq_false_iff_not]; exact hk, Bool.false_and]
    have HK : Hid (decide (1 ≤ k ∧ k ≤ 24) = false) := by show _ = _; simp only [decide_eq_false_iff_not]; exact hk
    clear hk
    have tk1 : True := trivial
    go_enter Tryd.func48, Tryd.ntmps48
    go_wp2_with (first | (go_at_call 45; have tk := tk1; refine (l00In_any _ _ _ _).mono ?_; rintro e w1 ⟨rfl, rfl⟩; rw [HK.out]; clear tk tk1) | (go_at_call 45; refine (l00In_any _ _ _ _).mono ?_; rintro e w2 ⟨rfl, rfl⟩; rw [HI.out]) | (go_at_call 73; refine (HF.out _).mono ?_; rintro e w3 ⟨rfl, rfl⟩) | (go_at_call 46; refine (spec_IsName_any _ _ HS.out).mono ?_; rintro e w4 ⟨rfl, rfl⟩; rw [HZ.out]))
    go_ret
    exact ⟨rfl, HB.out⟩
end Go.Proofs.YtjeiiljdhnmofaaDoor
