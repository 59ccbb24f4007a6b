/- Contract: l03Shape of the model. No condition. -/
import Derived.Test.YtjmiobmfphkdeaaDoorExPlain
import Derived.Test.YtjmiobmfphkdeaaDoorExsEq
import Derived.Test.YtjmiobmfphkdeaaDoorIn
namespace Go.Proofs.YtjmiobmfphkdeaaDoor
open Go Go.RowKit

set_option maxHeartbeats 4000000 in
set_option maxRecDepth 100000 in
theorem l03Shape_any (g o : Nat) (k n : Int) (t : ByteArray) (ks : List Ex) (A : Option Addr) (nk c d : Nat) (W : World) (hs : t.size ≤ maxLen) (hx : ExAt W g o (.node k n t ks) A nk c) (hd : ExD W 0 W.heap.size d A nk ks) :
    Calls Tryd.prog 30 #[.pointer (some ⟨g, o, none⟩)] W fun e w' => e = .returned (.bool (Ex.node k n t ks).proper) ∧ W = w' := by
  have HS := Lib.hid hs
  have HN := Lib.hid hd.len.1
  have HD := Lib.hid hd
  have hnm := hd.len.2
  unfold maxLen at hs hnm
  obtain ⟨x0, x1, x2, x3⟩ := hx
  change W.cell? ⟨g, o, none⟩ = some (.int .i64 k) at x0
  change W.cell? ⟨g, o + 1, none⟩ = some (.int .i64 n) at x1
  change W.cell? ⟨g, o + 2, none⟩ = some (.string t) at x2
  clear hd
  by_cases e1 : k = 1
  · subst e1
    rw [show (Ex.node 1 n t ks).proper = ((n == 0) && (canB t && ((nk : Int) == 0))) from by rw [← HN.out]; rfl]
    obtain ⟨z1, h1⟩ : ∃ z, (n == 0) = z := ⟨_, rfl⟩
    obtain ⟨z2, h2⟩ : ∃ z, canB t = z := ⟨_, rfl⟩
    obtain ⟨z3, h3⟩ : ∃ z, ((nk : Int) == 0) = z := ⟨_, rfl⟩
    rw [h1, h2, h3]
    have HQ := Lib.hid h2
    clear h2
    cases z1
    · rw [Bool.false_and]
      go_enter Tryd.func30, Tryd.ntmps30
      go_wp2_with (first | (go_at_call 36; refine Calls.mono (spec_CanQuote_any _ _ HS.out) ?_; rintro e w1 ⟨rfl, rfl⟩; rw [HQ.out]) | (go_at_call 34; refine Calls.mono (spec_IsName_any _ _ HS.out) ?_; rintro e w1 ⟨rfl, rfl⟩; rw [HQ.out]) | (go_at_call 37; refine Calls.mono (l00In_any _ _ _ _) ?_; rintro e w1 ⟨rfl, rfl⟩; rw [HQ.out]))
      all_goals go_ret
      all_goals first | exact ⟨rfl, rfl⟩
    rw [Bool.true_and]
    cases z3
    · rw [Bool.and_false]
      go_enter Tryd.func30, Tryd.ntmps30
      go_wp2_with (first | (go_at_call 36; refine Calls.mono (spec_CanQuote_any _ _ HS.out) ?_; rintro e w1 ⟨rfl, rfl⟩; rw [HQ.out]) | (go_at_call 34; refine Calls.mono (spec_IsName_any _ _ HS.out) ?_; rintro e w1 ⟨rfl, rfl⟩; rw [HQ.out]) | (go_at_call 37; refine Calls.mono (l00In_any _ _ _ _) ?_; rintro e w1 ⟨rfl, rfl⟩; rw [HQ.out]))
      all_goals go_ret
      all_goals first | exact ⟨rfl, rfl⟩
    rw [Bool.and_true]
    cases z2
    all_goals
      go_enter Tryd.func30, Tryd.ntmps30
      go_wp2_with (first | (go_at_call 36; refine Calls.mono (spec_CanQuote_any _ _ HS.out) ?_; rintro e w1 ⟨rfl, rfl⟩; rw [HQ.out]) | (go_at_call 34; refine Calls.mono (spec_IsName_any _ _ HS.out) ?_; rintro e w1 ⟨rfl, rfl⟩; rw [HQ.out]) | (go_at_call 37; refine Calls.mono (l00In_any _ _ _ _) ?_; rintro e w1 ⟨rfl, rfl⟩; rw [HQ.out]))
      all_goals go_ret
      all_goals first | exact ⟨rfl, rfl⟩
  by_cases e2 : k = 2
  · subst e2
    rw [show (Ex.node 2 n t ks).proper = ((decide (0 ≤ n) && decide (n ≤ 1000000000000)) && ((t.size == 0) && ((nk : Int) == 0))) from by rw [← HN.out]; rfl]
    obtain ⟨z3, h3⟩ : ∃ z, ((nk : Int) == 0) = z := ⟨_, rfl⟩
    rw [h3]
    rw [Bool.and_comm]
    obtain ⟨z2, h2⟩ : ∃ z, decide (0 ≤ n ∧ n ≤ 1000000000000) = z := ⟨_, rfl⟩
    rw [show (decide (0 ≤ n) && decide (n ≤ 1000000000000)) = z2 from by rw [← h2]; simp]
    have HQ := Lib.hid h2
    clear h2
    by_cases ht : t.size = 0
    · have e1 := nil_of_size ht
      have e2 := isEmpty_of_size ht
      rw [show (t.size == 0) = true from by simp [ht]]
      clear ht
      rw [Bool.true_and]
      cases z3
      · rw [Bool.false_and]
        go_enter Tryd.func30, Tryd.ntmps30
        go_wp2_with (first | (go_at_call 36; refine Calls.mono (spec_CanQuote_any _ _ HS.out) ?_; rintro e w1 ⟨rfl, rfl⟩; rw [HQ.out]) | (go_at_call 34; refine Calls.mono (spec_IsName_any _ _ HS.out) ?_; rintro e w1 ⟨rfl, rfl⟩; rw [HQ.out]) | (go_at_call 37; refine Calls.mono (l00In_any _ _ _ _) ?_; rintro e w1 ⟨rfl, rfl⟩; rw [HQ.out]))
        all_goals go_ret
        all_goals first | exact ⟨rfl, rfl⟩
      rw [Bool.true_and]
      cases z2
      all_goals
        go_enter Tryd.func30, Tryd.ntmps30
        go_wp2_with (first | (go_at_call 36; refine Calls.mono (spec_CanQuote_any _ _ HS.out) ?_; rintro e w1 ⟨rfl, rfl⟩; rw [HQ.out]) | (go_at_call 34; refine Calls.mono (spec_IsName_any _ _ HS.out) ?_; rintro e w1 ⟨rfl, rfl⟩; rw [HQ.out]) | (go_at_call 37; refine Calls.mono (l00In_any _ _ _ _) ?_; rintro e w1 ⟨rfl, rfl⟩; rw [HQ.out]))
        all_goals go_ret
        all_goals first | exact ⟨rfl, rfl⟩
    · have hp : 0 < t.size := by omega
      have e1 := ne_nil_of_size hp
      have e2 := not_isEmpty_of_size hp
      rw [show (t.size == 0) = false from by simp [ht]]
      clear ht hp
      rw [Bool.false_and, Bool.false_and]
      go_enter Tryd.func30, Tryd.ntmps30
      go_wp2_with (first | (go_at_call 36; refine Calls.mono (spec_CanQuote_any _ _ HS.out) ?_; rintro e w1 ⟨rfl, rfl⟩; rw [HQ.out]) | (go_at_call 34; refine Calls.mono (spec_IsName_any _ _ HS.out) ?_; rintro e w1 ⟨rfl, rfl⟩; rw [HQ.out]) | (go_at_call 37; refine Calls.mono (l00In_any _ _ _ _) ?_; rintro e w1 ⟨rfl, rfl⟩; rw [HQ.out]))
      all_goals go_ret
      all_goals first | exact ⟨rfl, rfl⟩
  by_cases e3 : k = 3
  · subst e3
    rw [show (Ex.node 3 n t ks).proper = ((n == 0) && (isNameB t && ((nk : Int) == 0))) from by rw [← HN.out]; rfl]
    obtain ⟨z1, h1⟩ : ∃ z, (n == 0) = z := ⟨_, rfl⟩
    obtain ⟨z2, h2⟩ : ∃ z, isNameB t = z := ⟨_, rfl⟩
    obtain ⟨z3, h3⟩ : ∃ z, ((nk : Int) == 0) = z := ⟨_, rfl⟩
    rw [h1, h2, h3]
    have HQ := Lib.hid h2
    clear h2
    cases z1
    · rw [Bool.false_and]
      go_enter Tryd.func30, Tryd.ntmps30
      go_wp2_with (first | (go_at_call 36; refine Calls.mono (spec_CanQuote_any _ _ HS.out) ?_; rintro e w1 ⟨rfl, rfl⟩; rw [HQ.out]) | (go_at_call 34; refine Calls.mono (spec_IsName_any _ _ HS.out) ?_; rintro e w1 ⟨rfl, rfl⟩; rw [HQ.out]) | (go_at_call 37; refine Calls.mono (l00In_any _ _ _ _) ?_; rintro e w1 ⟨rfl, rfl⟩; rw [HQ.out]))
      all_goals go_ret
      all_goals first | exact ⟨rfl, rfl⟩
    rw [Bool.true_and]
    cases z3
    · rw [Bool.and_false]
      go_enter Tryd.func30, Tryd.ntmps30
      go_wp2_with (first | (go_at_call 36; refine Calls.mono (spec_CanQuote_any _ _ HS.out) ?_; rintro e w1 ⟨rfl, rfl⟩; rw [HQ.out]) | (go_at_call 34; refine Calls.mono (spec_IsName_any _ _ HS.out) ?_; rintro e w1 ⟨rfl, rfl⟩; rw [HQ.out]) | (go_at_call 37; refine Calls.mono (l00In_any _ _ _ _) ?_; rintro e w1 ⟨rfl, rfl⟩; rw [HQ.out]))
      all_goals go_ret
      all_goals first | exact ⟨rfl, rfl⟩
    rw [Bool.and_true]
    cases z2
    all_goals
      go_enter Tryd.func30, Tryd.ntmps30
      go_wp2_with (first | (go_at_call 36; refine Calls.mono (spec_CanQuote_any _ _ HS.out) ?_; rintro e w1 ⟨rfl, rfl⟩; rw [HQ.out]) | (go_at_call 34; refine Calls.mono (spec_IsName_any _ _ HS.out) ?_; rintro e w1 ⟨rfl, rfl⟩; rw [HQ.out]) | (go_at_call 37; refine Calls.mono (l00In_any _ _ _ _) ?_; rintro e w1 ⟨rfl, rfl⟩; rw [HQ.out]))
      all_goals go_ret
      all_goals first | exact ⟨rfl, rfl⟩
  by_cases e16 : k = 16
  · subst e16
    rw [show (Ex.node 16 n t ks).proper = ((n == 0) && (isNameB t && ((nk : Int) == 0))) from by rw [← HN.out]; rfl]
    obtain ⟨z1, h1⟩ : ∃ z, (n == 0) = z := ⟨_, rfl⟩
    obtain ⟨z2, h2⟩ : ∃ z, isNameB t = z := ⟨_, rfl⟩
    obtain ⟨z3, h3⟩ : ∃ z, ((nk : Int) == 0) = z := ⟨_, rfl⟩
    rw [h1, h2, h3]
    have HQ := Lib.hid h2
    clear h2
    cases z1
    · rw [Bool.false_and]
      go_enter Tryd.func30, Tryd.ntmps30
      go_wp2_with (first | (go_at_call 36; refine Calls.mono (spec_CanQuote_any _ _ HS.out) ?_; rintro e w1 ⟨rfl, rfl⟩; rw [HQ.out]) | (go_at_call 34; refine Calls.mono (spec_IsName_any _ _ HS.out) ?_; rintro e w1 ⟨rfl, rfl⟩; rw [HQ.out]) | (go_at_call 37; refine Calls.mono (l00In_any _ _ _ _) ?_; rintro e w1 ⟨rfl, rfl⟩; rw [HQ.out]))
      all_goals go_ret
      all_goals first | exact ⟨rfl, rfl⟩
    rw [Bool.true_and]
    cases z3
    · rw [Bool.and_false]
      go_enter Tryd.func30, Tryd.ntmps30
      go_wp2_with (first | (go_at_call 36; refine Calls.mono (spec_CanQuote_any _ _ HS.out) ?_; rintro e w1 ⟨rfl, rfl⟩; rw [HQ.out]) | (go_at_call 34; refine Calls.mono (spec_IsName_any _ _ HS.out) ?_; rintro e w1 ⟨rfl, rfl⟩; rw [HQ.out]) | (go_at_call 37; refine Calls.mono (l00In_any _ _ _ _) ?_; rintro e w1 ⟨rfl, rfl⟩; rw [HQ.out]))
      all_goals go_ret
      all_goals first | exact ⟨rfl, rfl⟩
    rw [Bool.and_true]
    cases z2
    all_goals
      go_enter Tryd.func30, Tryd.ntmps30
      go_wp2_with (first | (go_at_call 36; refine Calls.mono (spec_CanQuote_any _ _ HS.out) ?_; rintro e w1 ⟨rfl, rfl⟩; rw [HQ.out]) | (go_at_call 34; refine Calls.mono (spec_IsName_any _ _ HS.out) ?_; rintro e w1 ⟨rfl, rfl⟩; rw [HQ.out]) | (go_at_call 37; refine Calls.mono (l00In_any _ _ _ _) ?_; rintro e w1 ⟨rfl, rfl⟩; rw [HQ.out]))
      all_goals go_ret
      all_goals first | exact ⟨rfl, rfl⟩
  by_cases e17 : k = 17
  · subst e17
    rw [show (Ex.node 17 n t ks).proper = ((n == 0) && (isNameB t && ((nk : Int) == 0))) from by rw [← HN.out]; rfl]
    obtain ⟨z1, h1⟩ : ∃ z, (n == 0) = z := ⟨_, rfl⟩
    obtain ⟨z2, h2⟩ : ∃ z, isNameB t = z := ⟨_, rfl⟩
    obtain ⟨z3, h3⟩ : ∃ z, ((nk : Int) == 0) = z := ⟨_, rfl⟩
    rw [h1, h2, h3]
    have HQ := Lib.hid h2
    clear h2
    cases z1
    · rw [Bool.false_and]
      go_enter Tryd.func30, Tryd.ntmps30
      go_wp2_with (first | (go_at_call 36; refine Calls.mono (spec_CanQuote_any _ _ HS.out) ?_; rintro e w1 ⟨rfl, rfl⟩; rw [HQ.out]) | (go_at_call 34; refine Calls.mono (spec_IsName_any _ _ HS.out) ?_; rintro e w1 ⟨rfl, rfl⟩; rw [HQ.out]) | (go_at_call 37; refine Calls.mono (l00In_any _ _ _ _) ?_; rintro e w1 ⟨rfl, rfl⟩; rw [HQ.out]))
      all_goals go_ret
      all_goals first | exact ⟨rfl, rfl⟩
    rw [Bool.true_and]
    cases z3
    · rw [Bool.and_false]
      go_enter Tryd.func30, Tryd.ntmps30
      go_wp2_with (first | (go_at_call 36; refine Calls.mono (spec_CanQuote_any _ _ HS.out) ?_; rintro e w1 ⟨rfl, rfl⟩; rw [HQ.out]) | (go_at_call 34; refine Calls.mono (spec_IsName_any _ _ HS.out) ?_; rintro e w1 ⟨rfl, rfl⟩; rw [HQ.out]) | (go_at_call 37; refine Calls.mono (l00In_any _ _ _ _) ?_; rintro e w1 ⟨rfl, rfl⟩; rw [HQ.out]))
      all_goals go_ret
      all_goals first | exact ⟨rfl, rfl⟩
    rw [Bool.and_true]
    cases z2
    all_goals
      go_enter Tryd.func30, Tryd.ntmps30
      go_wp2_with (first | (go_at_call 36; refine Calls.mono (spec_CanQuote_any _ _ HS.out) ?_; rintro e w1 ⟨rfl, rfl⟩; rw [HQ.out]) | (go_at_call 34; refine Calls.mono (spec_IsName_any _ _ HS.out) ?_; rintro e w1 ⟨rfl, rfl⟩; rw [HQ.out]) | (go_at_call 37; refine Calls.mono (l00In_any _ _ _ _) ?_; rintro e w1 ⟨rfl, rfl⟩; rw [HQ.out]))
      all_goals go_ret
      all_goals first | exact ⟨rfl, rfl⟩
  by_cases e18 : k = 18
  · subst e18
    rw [show (Ex.node 18 n t ks).proper = ((n == 0) && (isNameB t && ((nk : Int) == 0))) from by rw [← HN.out]; rfl]
    obtain ⟨z1, h1⟩ : ∃ z, (n == 0) = z := ⟨_, rfl⟩
    obtain ⟨z2, h2⟩ : ∃ z, isNameB t = z := ⟨_, rfl⟩
    obtain ⟨z3, h3⟩ : ∃ z, ((nk : Int) == 0) = z := ⟨_, rfl⟩
    rw [h1, h2, h3]
    have HQ := Lib.hid h2
    clear h2
    cases z1
    · rw [Bool.false_and]
      go_enter Tryd.func30, Tryd.ntmps30
      go_wp2_with (first | (go_at_call 36; refine Calls.mono (spec_CanQuote_any _ _ HS.out) ?_; rintro e w1 ⟨rfl, rfl⟩; rw [HQ.out]) | (go_at_call 34; refine Calls.mono (spec_IsName_any _ _ HS.out) ?_; rintro e w1 ⟨rfl, rfl⟩; rw [HQ.out]) | (go_at_call 37; refine Calls.mono (l00In_any _ _ _ _) ?_; rintro e w1 ⟨rfl, rfl⟩; rw [HQ.out]))
      all_goals go_ret
      all_goals first | exact ⟨rfl, rfl⟩
    rw [Bool.true_and]
    cases z3
    · rw [Bool.and_false]
      go_enter Tryd.func30, Tryd.ntmps30
      go_wp2_with (first | (go_at_call 36; refine Calls.mono (spec_CanQuote_any _ _ HS.out) ?_; rintro e w1 ⟨rfl, rfl⟩; rw [HQ.out]) | (go_at_call 34; refine Calls.mono (spec_IsName_any _ _ HS.out) ?_; rintro e w1 ⟨rfl, rfl⟩; rw [HQ.out]) | (go_at_call 37; refine Calls.mono (l00In_any _ _ _ _) ?_; rintro e w1 ⟨rfl, rfl⟩; rw [HQ.out]))
      all_goals go_ret
      all_goals first | exact ⟨rfl, rfl⟩
    rw [Bool.and_true]
    cases z2
    all_goals
      go_enter Tryd.func30, Tryd.ntmps30
      go_wp2_with (first | (go_at_call 36; refine Calls.mono (spec_CanQuote_any _ _ HS.out) ?_; rintro e w1 ⟨rfl, rfl⟩; rw [HQ.out]) | (go_at_call 34; refine Calls.mono (spec_IsName_any _ _ HS.out) ?_; rintro e w1 ⟨rfl, rfl⟩; rw [HQ.out]) | (go_at_call 37; refine Calls.mono (l00In_any _ _ _ _) ?_; rintro e w1 ⟨rfl, rfl⟩; rw [HQ.out]))
      all_goals go_ret
      all_goals first | exact ⟨rfl, rfl⟩
  by_cases e4 : k = 4
  · subst e4
    rw [show (Ex.node 4 n t ks).proper = ((n == 0) && (isNameB t && decide ((nk : Int) ≤ 6))) from by rw [← HN.out]; rfl]
    obtain ⟨z1, h1⟩ : ∃ z, (n == 0) = z := ⟨_, rfl⟩
    obtain ⟨z2, h2⟩ : ∃ z, isNameB t = z := ⟨_, rfl⟩
    obtain ⟨z3, h3⟩ : ∃ z, decide ((nk : Int) ≤ 6) = z := ⟨_, rfl⟩
    rw [h1, h2, h3]
    have HQ := Lib.hid h2
    clear h2
    cases z1
    · rw [Bool.false_and]
      go_enter Tryd.func30, Tryd.ntmps30
      go_wp2_with (first | (go_at_call 36; refine Calls.mono (spec_CanQuote_any _ _ HS.out) ?_; rintro e w1 ⟨rfl, rfl⟩; rw [HQ.out]) | (go_at_call 34; refine Calls.mono (spec_IsName_any _ _ HS.out) ?_; rintro e w1 ⟨rfl, rfl⟩; rw [HQ.out]) | (go_at_call 37; refine Calls.mono (l00In_any _ _ _ _) ?_; rintro e w1 ⟨rfl, rfl⟩; rw [HQ.out]))
      all_goals go_ret
      all_goals first | exact ⟨rfl, rfl⟩
    rw [Bool.true_and]
    cases z2
    · rw [Bool.false_and]
      go_enter Tryd.func30, Tryd.ntmps30
      go_wp2_with (first | (go_at_call 36; refine Calls.mono (spec_CanQuote_any _ _ HS.out) ?_; rintro e w1 ⟨rfl, rfl⟩; rw [HQ.out]) | (go_at_call 34; refine Calls.mono (spec_IsName_any _ _ HS.out) ?_; rintro e w1 ⟨rfl, rfl⟩; rw [HQ.out]) | (go_at_call 37; refine Calls.mono (l00In_any _ _ _ _) ?_; rintro e w1 ⟨rfl, rfl⟩; rw [HQ.out]))
      all_goals go_ret
      all_goals first | exact ⟨rfl, rfl⟩
    rw [Bool.true_and]
    cases z3
    all_goals
      go_enter Tryd.func30, Tryd.ntmps30
      go_wp2_with (first | (go_at_call 36; refine Calls.mono (spec_CanQuote_any _ _ HS.out) ?_; rintro e w1 ⟨rfl, rfl⟩; rw [HQ.out]) | (go_at_call 34; refine Calls.mono (spec_IsName_any _ _ HS.out) ?_; rintro e w1 ⟨rfl, rfl⟩; rw [HQ.out]) | (go_at_call 37; refine Calls.mono (l00In_any _ _ _ _) ?_; rintro e w1 ⟨rfl, rfl⟩; rw [HQ.out]))
      all_goals go_ret
      all_goals first | exact ⟨rfl, rfl⟩
  by_cases e14 : k = 14
  · subst e14
    rw [show (Ex.node 14 n t ks).proper = ((Ex.node 14 n t ks).only 1) from rfl]
    rw [show (Ex.node 14 n t ks).only 1 = ((n == 0) && ((t.size == 0) && ((nk : Int) == 1))) from by rw [← HN.out]; rfl]
    obtain ⟨z1, h1⟩ : ∃ z, (n == 0) = z := ⟨_, rfl⟩
    obtain ⟨z3, h3⟩ : ∃ z, ((nk : Int) == 1) = z := ⟨_, rfl⟩
    rw [h1, h3]
    cases z1
    · simp only [Bool.false_and]
      go_enter Tryd.func30, Tryd.ntmps30
      go_wp2_with (first | (go_at_call 36; refine Calls.mono (spec_CanQuote_any _ _ HS.out) ?_; rintro e w1 ⟨rfl, rfl⟩; rw [HQ.out]) | (go_at_call 34; refine Calls.mono (spec_IsName_any _ _ HS.out) ?_; rintro e w1 ⟨rfl, rfl⟩; rw [HQ.out]) | (go_at_call 37; refine Calls.mono (l00In_any _ _ _ _) ?_; rintro e w1 ⟨rfl, rfl⟩; rw [HQ.out]))
      all_goals go_ret
      all_goals first | exact ⟨rfl, rfl⟩
    cases z3
    · simp only [Bool.true_and, Bool.and_false, Bool.false_and]
      go_enter Tryd.func30, Tryd.ntmps30
      go_wp2_with (first | (go_at_call 36; refine Calls.mono (spec_CanQuote_any _ _ HS.out) ?_; rintro e w1 ⟨rfl, rfl⟩; rw [HQ.out]) | (go_at_call 34; refine Calls.mono (spec_IsName_any _ _ HS.out) ?_; rintro e w1 ⟨rfl, rfl⟩; rw [HQ.out]) | (go_at_call 37; refine Calls.mono (l00In_any _ _ _ _) ?_; rintro e w1 ⟨rfl, rfl⟩; rw [HQ.out]))
      all_goals go_ret
      all_goals first | exact ⟨rfl, rfl⟩
    by_cases ht : t.size = 0
    · have e1 := nil_of_size ht
      have e2 := isEmpty_of_size ht
      rw [show (t.size == 0) = true from by simp [ht]]
      clear ht
      simp only [Bool.true_and]
      go_enter Tryd.func30, Tryd.ntmps30
      go_wp2_with (first | (go_at_call 36; refine Calls.mono (spec_CanQuote_any _ _ HS.out) ?_; rintro e w1 ⟨rfl, rfl⟩; rw [HQ.out]) | (go_at_call 34; refine Calls.mono (spec_IsName_any _ _ HS.out) ?_; rintro e w1 ⟨rfl, rfl⟩; rw [HQ.out]) | (go_at_call 37; refine Calls.mono (l00In_any _ _ _ _) ?_; rintro e w1 ⟨rfl, rfl⟩; rw [HQ.out]))
      all_goals go_ret
      all_goals first | exact ⟨rfl, rfl⟩
    · have hp : 0 < t.size := by omega
      have e1 := ne_nil_of_size hp
      have e2 := not_isEmpty_of_size hp
      rw [show (t.size == 0) = false from by simp [ht]]
      clear ht hp
      simp only [Bool.true_and, Bool.false_and]
      go_enter Tryd.func30, Tryd.ntmps30
      go_wp2_with (first | (go_at_call 36; refine Calls.mono (spec_CanQuote_any _ _ HS.out) ?_; rintro e w1 ⟨rfl, rfl⟩; rw [HQ.out]) | (go_at_call 34; refine Calls.mono (spec_IsName_any _ _ HS.out) ?_; rintro e w1 ⟨rfl, rfl⟩; rw [HQ.out]) | (go_at_call 37; refine Calls.mono (l00In_any _ _ _ _) ?_; rintro e w1 ⟨rfl, rfl⟩; rw [HQ.out]))
      all_goals go_ret
      all_goals first | exact ⟨rfl, rfl⟩
  by_cases e15 : k = 15
  · subst e15
    rw [show (Ex.node 15 n t ks).proper = ((Ex.node 15 n t ks).only 1) from rfl]
    rw [show (Ex.node 15 n t ks).only 1 = ((n == 0) && ((t.size == 0) && ((nk : Int) == 1))) from by rw [← HN.out]; rfl]
    obtain ⟨z1, h1⟩ : ∃ z, (n == 0) = z := ⟨_, rfl⟩
    obtain ⟨z3, h3⟩ : ∃ z, ((nk : Int) == 1) = z := ⟨_, rfl⟩
    rw [h1, h3]
    cases z1
    · simp only [Bool.false_and]
      go_enter Tryd.func30, Tryd.ntmps30
      go_wp2_with (first | (go_at_call 36; refine Calls.mono (spec_CanQuote_any _ _ HS.out) ?_; rintro e w1 ⟨rfl, rfl⟩; rw [HQ.out]) | (go_at_call 34; refine Calls.mono (spec_IsName_any _ _ HS.out) ?_; rintro e w1 ⟨rfl, rfl⟩; rw [HQ.out]) | (go_at_call 37; refine Calls.mono (l00In_any _ _ _ _) ?_; rintro e w1 ⟨rfl, rfl⟩; rw [HQ.out]))
      all_goals go_ret
      all_goals first | exact ⟨rfl, rfl⟩
    cases z3
    · simp only [Bool.true_and, Bool.and_false, Bool.false_and]
      go_enter Tryd.func30, Tryd.ntmps30
      go_wp2_with (first | (go_at_call 36; refine Calls.mono (spec_CanQuote_any _ _ HS.out) ?_; rintro e w1 ⟨rfl, rfl⟩; rw [HQ.out]) | (go_at_call 34; refine Calls.mono (spec_IsName_any _ _ HS.out) ?_; rintro e w1 ⟨rfl, rfl⟩; rw [HQ.out]) | (go_at_call 37; refine Calls.mono (l00In_any _ _ _ _) ?_; rintro e w1 ⟨rfl, rfl⟩; rw [HQ.out]))
      all_goals go_ret
      all_goals first | exact ⟨rfl, rfl⟩
    by_cases ht : t.size = 0
    · have e1 := nil_of_size ht
      have e2 := isEmpty_of_size ht
      rw [show (t.size == 0) = true from by simp [ht]]
      clear ht
      simp only [Bool.true_and]
      go_enter Tryd.func30, Tryd.ntmps30
      go_wp2_with (first | (go_at_call 36; refine Calls.mono (spec_CanQuote_any _ _ HS.out) ?_; rintro e w1 ⟨rfl, rfl⟩; rw [HQ.out]) | (go_at_call 34; refine Calls.mono (spec_IsName_any _ _ HS.out) ?_; rintro e w1 ⟨rfl, rfl⟩; rw [HQ.out]) | (go_at_call 37; refine Calls.mono (l00In_any _ _ _ _) ?_; rintro e w1 ⟨rfl, rfl⟩; rw [HQ.out]))
      all_goals go_ret
      all_goals first | exact ⟨rfl, rfl⟩
    · have hp : 0 < t.size := by omega
      have e1 := ne_nil_of_size hp
      have e2 := not_isEmpty_of_size hp
      rw [show (t.size == 0) = false from by simp [ht]]
      clear ht hp
      simp only [Bool.true_and, Bool.false_and]
      go_enter Tryd.func30, Tryd.ntmps30
      go_wp2_with (first | (go_at_call 36; refine Calls.mono (spec_CanQuote_any _ _ HS.out) ?_; rintro e w1 ⟨rfl, rfl⟩; rw [HQ.out]) | (go_at_call 34; refine Calls.mono (spec_IsName_any _ _ HS.out) ?_; rintro e w1 ⟨rfl, rfl⟩; rw [HQ.out]) | (go_at_call 37; refine Calls.mono (l00In_any _ _ _ _) ?_; rintro e w1 ⟨rfl, rfl⟩; rw [HQ.out]))
      all_goals go_ret
      all_goals first | exact ⟨rfl, rfl⟩
  by_cases e12 : k = 12
  · subst e12
    rw [show (Ex.node 12 n t ks).proper = ((Ex.node 12 n t ks).only 2 && ((Ex.node 12 n t ks).k1 == 3)) from rfl]
    rw [show (Ex.node 12 n t ks).only 2 = ((n == 0) && ((t.size == 0) && ((nk : Int) == 2))) from by rw [← HN.out]; rfl]
    obtain ⟨z1, h1⟩ : ∃ z, (n == 0) = z := ⟨_, rfl⟩
    obtain ⟨z3, h3⟩ : ∃ z, ((nk : Int) == 2) = z := ⟨_, rfl⟩
    rw [h1, h3]
    by_cases hk2 : nk = 2
    · subst hk2
      obtain rfl : z3 = true := by rw [← h3]; rfl
      obtain ⟨b, off, yk, rfl, HY⟩ : ∃ b off yk, A = some ⟨b, off, none⟩ ∧ Hid ((Ex.node 12 n t ks).k1 = yk ∧ W.cell? ⟨b, off + 4, none⟩ = some (.int .i64 yk)) := by
        cases d with
        | zero => exact absurd HD.out.2 (by omega)
        | succ d =>
          obtain ⟨b, off, y, _, _, _, e, _, hg, hy, _, hc, _, _⟩ := HD.out.at_ (show 1 < 2 by omega)
          refine ⟨b, off, y.k, e, ?_, ?_⟩
          · show ((ks[1]?).map Ex.k).getD 0 = y.k
            rw [hy]; rfl
          · exact hc.1
      rw [HY.out.1]
      have q4 := HY.out.2
      obtain ⟨z4, h4⟩ : ∃ z, (yk == 3) = z := ⟨_, rfl⟩
      rw [h4]
      cases z4
      · simp only [Bool.and_false]
        go_enter Tryd.func30, Tryd.ntmps30
        go_wp2_with (first | (go_at_call 36; refine Calls.mono (spec_CanQuote_any _ _ HS.out) ?_; rintro e w1 ⟨rfl, rfl⟩; rw [HQ.out]) | (go_at_call 34; refine Calls.mono (spec_IsName_any _ _ HS.out) ?_; rintro e w1 ⟨rfl, rfl⟩; rw [HQ.out]) | (go_at_call 37; refine Calls.mono (l00In_any _ _ _ _) ?_; rintro e w1 ⟨rfl, rfl⟩; rw [HQ.out]))
        all_goals go_ret
        all_goals first | exact ⟨rfl, rfl⟩
      simp only [Bool.and_true]
      cases z1
      · simp only [Bool.false_and]
        go_enter Tryd.func30, Tryd.ntmps30
        go_wp2_with (first | (go_at_call 36; refine Calls.mono (spec_CanQuote_any _ _ HS.out) ?_; rintro e w1 ⟨rfl, rfl⟩; rw [HQ.out]) | (go_at_call 34; refine Calls.mono (spec_IsName_any _ _ HS.out) ?_; rintro e w1 ⟨rfl, rfl⟩; rw [HQ.out]) | (go_at_call 37; refine Calls.mono (l00In_any _ _ _ _) ?_; rintro e w1 ⟨rfl, rfl⟩; rw [HQ.out]))
        all_goals go_ret
        all_goals first | exact ⟨rfl, rfl⟩
      by_cases ht : t.size = 0
      · have e1 := nil_of_size ht
        have e2 := isEmpty_of_size ht
        rw [show (t.size == 0) = true from by simp [ht]]
        clear ht
        simp only [Bool.true_and]
        go_enter Tryd.func30, Tryd.ntmps30
        go_wp2_with (first | (go_at_call 36; refine Calls.mono (spec_CanQuote_any _ _ HS.out) ?_; rintro e w1 ⟨rfl, rfl⟩; rw [HQ.out]) | (go_at_call 34; refine Calls.mono (spec_IsName_any _ _ HS.out) ?_; rintro e w1 ⟨rfl, rfl⟩; rw [HQ.out]) | (go_at_call 37; refine Calls.mono (l00In_any _ _ _ _) ?_; rintro e w1 ⟨rfl, rfl⟩; rw [HQ.out]))
        all_goals go_ret
        all_goals first | exact ⟨rfl, rfl⟩
      · have hp : 0 < t.size := by omega
        have e1 := ne_nil_of_size hp
        have e2 := not_isEmpty_of_size hp
        rw [show (t.size == 0) = false from by simp [ht]]
        clear ht hp
        simp only [Bool.true_and, Bool.false_and]
        go_enter Tryd.func30, Tryd.ntmps30
        go_wp2_with (first | (go_at_call 36; refine Calls.mono (spec_CanQuote_any _ _ HS.out) ?_; rintro e w1 ⟨rfl, rfl⟩; rw [HQ.out]) | (go_at_call 34; refine Calls.mono (spec_IsName_any _ _ HS.out) ?_; rintro e w1 ⟨rfl, rfl⟩; rw [HQ.out]) | (go_at_call 37; refine Calls.mono (l00In_any _ _ _ _) ?_; rintro e w1 ⟨rfl, rfl⟩; rw [HQ.out]))
        all_goals go_ret
        all_goals first | exact ⟨rfl, rfl⟩
    · obtain rfl : z3 = false := by rw [← h3]; simp; omega
      simp only [Bool.and_false, Bool.false_and]
      cases z1
      all_goals
        go_enter Tryd.func30, Tryd.ntmps30
        go_wp2_with (first | (go_at_call 36; refine Calls.mono (spec_CanQuote_any _ _ HS.out) ?_; rintro e w1 ⟨rfl, rfl⟩; rw [HQ.out]) | (go_at_call 34; refine Calls.mono (spec_IsName_any _ _ HS.out) ?_; rintro e w1 ⟨rfl, rfl⟩; rw [HQ.out]) | (go_at_call 37; refine Calls.mono (l00In_any _ _ _ _) ?_; rintro e w1 ⟨rfl, rfl⟩; rw [HQ.out]))
        all_goals go_ret
        all_goals first | exact ⟨rfl, rfl⟩
  by_cases e13 : k = 13
  · subst e13
    rw [show (Ex.node 13 n t ks).proper = ((Ex.node 13 n t ks).only 2 && ((Ex.node 13 n t ks).k1 == 3)) from rfl]
    rw [show (Ex.node 13 n t ks).only 2 = ((n == 0) && ((t.size == 0) && ((nk : Int) == 2))) from by rw [← HN.out]; rfl]
    obtain ⟨z1, h1⟩ : ∃ z, (n == 0) = z := ⟨_, rfl⟩
    obtain ⟨z3, h3⟩ : ∃ z, ((nk : Int) == 2) = z := ⟨_, rfl⟩
    rw [h1, h3]
    by_cases hk2 : nk = 2
    · subst hk2
      obtain rfl : z3 = true := by rw [← h3]; rfl
      obtain ⟨b, off, yk, rfl, HY⟩ : ∃ b off yk, A = some ⟨b, off, none⟩ ∧ Hid ((Ex.node 13 n t ks).k1 = yk ∧ W.cell? ⟨b, off + 4, none⟩ = some (.int .i64 yk)) := by
        cases d with
        | zero => exact absurd HD.out.2 (by omega)
        | succ d =>
          obtain ⟨b, off, y, _, _, _, e, _, hg, hy, _, hc, _, _⟩ := HD.out.at_ (show 1 < 2 by omega)
          refine ⟨b, off, y.k, e, ?_, ?_⟩
          · show ((ks[1]?).map Ex.k).getD 0 = y.k
            rw [hy]; rfl
          · exact hc.1
      rw [HY.out.1]
      have q4 := HY.out.2
      obtain ⟨z4, h4⟩ : ∃ z, (yk == 3) = z := ⟨_, rfl⟩
      rw [h4]
      cases z4
      · simp only [Bool.and_false]
        go_enter Tryd.func30, Tryd.ntmps30
        go_wp2_with (first | (go_at_call 36; refine Calls.mono (spec_CanQuote_any _ _ HS.out) ?_; rintro e w1 ⟨rfl, rfl⟩; rw [HQ.out]) | (go_at_call 34; refine Calls.mono (spec_IsName_any _ _ HS.out) ?_; rintro e w1 ⟨rfl, rfl⟩; rw [HQ.out]) | (go_at_call 37; refine Calls.mono (l00In_any _ _ _ _) ?_; rintro e w1 ⟨rfl, rfl⟩; rw [HQ.out]))
        all_goals go_ret
        all_goals first | exact ⟨rfl, rfl⟩
      simp only [Bool.and_true]
      cases z1
      · simp only [Bool.false_and]
        go_enter Tryd.func30, Tryd.ntmps30
        go_wp2_with (first | (go_at_call 36; refine Calls.mono (spec_CanQuote_any _ _ HS.out) ?_; rintro e w1 ⟨rfl, rfl⟩; rw [HQ.out]) | (go_at_call 34; refine Calls.mono (spec_IsName_any _ _ HS.out) ?_; rintro e w1 ⟨rfl, rfl⟩; rw [HQ.out]) | (go_at_call 37; refine Calls.mono (l00In_any _ _ _ _) ?_; rintro e w1 ⟨rfl, rfl⟩; rw [HQ.out]))
        all_goals go_ret
        all_goals first | exact ⟨rfl, rfl⟩
      by_cases ht : t.size = 0
      · have e1 := nil_of_size ht
        have e2 := isEmpty_of_size ht
        rw [show (t.size == 0) = true from by simp [ht]]
        clear ht
        simp only [Bool.true_and]
        go_enter Tryd.func30, Tryd.ntmps30
        go_wp2_with (first | (go_at_call 36; refine Calls.mono (spec_CanQuote_any _ _ HS.out) ?_; rintro e w1 ⟨rfl, rfl⟩; rw [HQ.out]) | (go_at_call 34; refine Calls.mono (spec_IsName_any _ _ HS.out) ?_; rintro e w1 ⟨rfl, rfl⟩; rw [HQ.out]) | (go_at_call 37; refine Calls.mono (l00In_any _ _ _ _) ?_; rintro e w1 ⟨rfl, rfl⟩; rw [HQ.out]))
        all_goals go_ret
        all_goals first | exact ⟨rfl, rfl⟩
      · have hp : 0 < t.size := by omega
        have e1 := ne_nil_of_size hp
        have e2 := not_isEmpty_of_size hp
        rw [show (t.size == 0) = false from by simp [ht]]
        clear ht hp
        simp only [Bool.true_and, Bool.false_and]
        go_enter Tryd.func30, Tryd.ntmps30
        go_wp2_with (first | (go_at_call 36; refine Calls.mono (spec_CanQuote_any _ _ HS.out) ?_; rintro e w1 ⟨rfl, rfl⟩; rw [HQ.out]) | (go_at_call 34; refine Calls.mono (spec_IsName_any _ _ HS.out) ?_; rintro e w1 ⟨rfl, rfl⟩; rw [HQ.out]) | (go_at_call 37; refine Calls.mono (l00In_any _ _ _ _) ?_; rintro e w1 ⟨rfl, rfl⟩; rw [HQ.out]))
        all_goals go_ret
        all_goals first | exact ⟨rfl, rfl⟩
    · obtain rfl : z3 = false := by rw [← h3]; simp; omega
      simp only [Bool.and_false, Bool.false_and]
      cases z1
      all_goals
        go_enter Tryd.func30, Tryd.ntmps30
        go_wp2_with (first | (go_at_call 36; refine Calls.mono (spec_CanQuote_any _ _ HS.out) ?_; rintro e w1 ⟨rfl, rfl⟩; rw [HQ.out]) | (go_at_call 34; refine Calls.mono (spec_IsName_any _ _ HS.out) ?_; rintro e w1 ⟨rfl, rfl⟩; rw [HQ.out]) | (go_at_call 37; refine Calls.mono (l00In_any _ _ _ _) ?_; rintro e w1 ⟨rfl, rfl⟩; rw [HQ.out]))
        all_goals go_ret
        all_goals first | exact ⟨rfl, rfl⟩
  by_cases e5 : k = 5
  · subst e5
    rw [show (Ex.node 5 n t ks).proper = ((Ex.node 5 n t ks).only 2) from rfl]
    rw [show (Ex.node 5 n t ks).only 2 = ((n == 0) && ((t.size == 0) && ((nk : Int) == 2))) from by rw [← HN.out]; rfl]
    obtain ⟨z1, h1⟩ : ∃ z, (n == 0) = z := ⟨_, rfl⟩
    obtain ⟨z3, h3⟩ : ∃ z, ((nk : Int) == 2) = z := ⟨_, rfl⟩
    rw [h1, h3]
    cases z1
    · simp only [Bool.false_and]
      go_enter Tryd.func30, Tryd.ntmps30
      go_wp2_with (first | (go_at_call 36; refine Calls.mono (spec_CanQuote_any _ _ HS.out) ?_; rintro e w1 ⟨rfl, rfl⟩; rw [HQ.out]) | (go_at_call 34; refine Calls.mono (spec_IsName_any _ _ HS.out) ?_; rintro e w1 ⟨rfl, rfl⟩; rw [HQ.out]) | (go_at_call 37; refine Calls.mono (l00In_any _ _ _ _) ?_; rintro e w1 ⟨rfl, rfl⟩; rw [HQ.out]))
      all_goals go_ret
      all_goals first | exact ⟨rfl, rfl⟩
    cases z3
    · simp only [Bool.true_and, Bool.and_false, Bool.false_and]
      go_enter Tryd.func30, Tryd.ntmps30
      go_wp2_with (first | (go_at_call 36; refine Calls.mono (spec_CanQuote_any _ _ HS.out) ?_; rintro e w1 ⟨rfl, rfl⟩; rw [HQ.out]) | (go_at_call 34; refine Calls.mono (spec_IsName_any _ _ HS.out) ?_; rintro e w1 ⟨rfl, rfl⟩; rw [HQ.out]) | (go_at_call 37; refine Calls.mono (l00In_any _ _ _ _) ?_; rintro e w1 ⟨rfl, rfl⟩; rw [HQ.out]))
      all_goals go_ret
      all_goals first | exact ⟨rfl, rfl⟩
    by_cases ht : t.size = 0
    · have e1 := nil_of_size ht
      have e2 := isEmpty_of_size ht
      rw [show (t.size == 0) = true from by simp [ht]]
      clear ht
      simp only [Bool.true_and]
      go_enter Tryd.func30, Tryd.ntmps30
      go_wp2_with (first | (go_at_call 36; refine Calls.mono (spec_CanQuote_any _ _ HS.out) ?_; rintro e w1 ⟨rfl, rfl⟩; rw [HQ.out]) | (go_at_call 34; refine Calls.mono (spec_IsName_any _ _ HS.out) ?_; rintro e w1 ⟨rfl, rfl⟩; rw [HQ.out]) | (go_at_call 37; refine Calls.mono (l00In_any _ _ _ _) ?_; rintro e w1 ⟨rfl, rfl⟩; rw [HQ.out]))
      all_goals go_ret
      all_goals first | exact ⟨rfl, rfl⟩
    · have hp : 0 < t.size := by omega
      have e1 := ne_nil_of_size hp
      have e2 := not_isEmpty_of_size hp
      rw [show (t.size == 0) = false from by simp [ht]]
      clear ht hp
      simp only [Bool.true_and, Bool.false_and]
      go_enter Tryd.func30, Tryd.ntmps30
      go_wp2_with (first | (go_at_call 36; refine Calls.mono (spec_CanQuote_any _ _ HS.out) ?_; rintro e w1 ⟨rfl, rfl⟩; rw [HQ.out]) | (go_at_call 34; refine Calls.mono (spec_IsName_any _ _ HS.out) ?_; rintro e w1 ⟨rfl, rfl⟩; rw [HQ.out]) | (go_at_call 37; refine Calls.mono (l00In_any _ _ _ _) ?_; rintro e w1 ⟨rfl, rfl⟩; rw [HQ.out]))
      all_goals go_ret
      all_goals first | exact ⟨rfl, rfl⟩
  by_cases e6 : k = 6
  · subst e6
    rw [show (Ex.node 6 n t ks).proper = ((Ex.node 6 n t ks).only 2) from rfl]
    rw [show (Ex.node 6 n t ks).only 2 = ((n == 0) && ((t.size == 0) && ((nk : Int) == 2))) from by rw [← HN.out]; rfl]
    obtain ⟨z1, h1⟩ : ∃ z, (n == 0) = z := ⟨_, rfl⟩
    obtain ⟨z3, h3⟩ : ∃ z, ((nk : Int) == 2) = z := ⟨_, rfl⟩
    rw [h1, h3]
    cases z1
    · simp only [Bool.false_and]
      go_enter Tryd.func30, Tryd.ntmps30
      go_wp2_with (first | (go_at_call 36; refine Calls.mono (spec_CanQuote_any _ _ HS.out) ?_; rintro e w1 ⟨rfl, rfl⟩; rw [HQ.out]) | (go_at_call 34; refine Calls.mono (spec_IsName_any _ _ HS.out) ?_; rintro e w1 ⟨rfl, rfl⟩; rw [HQ.out]) | (go_at_call 37; refine Calls.mono (l00In_any _ _ _ _) ?_; rintro e w1 ⟨rfl, rfl⟩; rw [HQ.out]))
      all_goals go_ret
      all_goals first | exact ⟨rfl, rfl⟩
    cases z3
    · simp only [Bool.true_and, Bool.and_false, Bool.false_and]
      go_enter Tryd.func30, Tryd.ntmps30
      go_wp2_with (first | (go_at_call 36; refine Calls.mono (spec_CanQuote_any _ _ HS.out) ?_; rintro e w1 ⟨rfl, rfl⟩; rw [HQ.out]) | (go_at_call 34; refine Calls.mono (spec_IsName_any _ _ HS.out) ?_; rintro e w1 ⟨rfl, rfl⟩; rw [HQ.out]) | (go_at_call 37; refine Calls.mono (l00In_any _ _ _ _) ?_; rintro e w1 ⟨rfl, rfl⟩; rw [HQ.out]))
      all_goals go_ret
      all_goals first | exact ⟨rfl, rfl⟩
    by_cases ht : t.size = 0
    · have e1 := nil_of_size ht
      have e2 := isEmpty_of_size ht
      rw [show (t.size == 0) = true from by simp [ht]]
      clear ht
      simp only [Bool.true_and]
      go_enter Tryd.func30, Tryd.ntmps30
      go_wp2_with (first | (go_at_call 36; refine Calls.mono (spec_CanQuote_any _ _ HS.out) ?_; rintro e w1 ⟨rfl, rfl⟩; rw [HQ.out]) | (go_at_call 34; refine Calls.mono (spec_IsName_any _ _ HS.out) ?_; rintro e w1 ⟨rfl, rfl⟩; rw [HQ.out]) | (go_at_call 37; refine Calls.mono (l00In_any _ _ _ _) ?_; rintro e w1 ⟨rfl, rfl⟩; rw [HQ.out]))
      all_goals go_ret
      all_goals first | exact ⟨rfl, rfl⟩
    · have hp : 0 < t.size := by omega
      have e1 := ne_nil_of_size hp
      have e2 := not_isEmpty_of_size hp
      rw [show (t.size == 0) = false from by simp [ht]]
      clear ht hp
      simp only [Bool.true_and, Bool.false_and]
      go_enter Tryd.func30, Tryd.ntmps30
      go_wp2_with (first | (go_at_call 36; refine Calls.mono (spec_CanQuote_any _ _ HS.out) ?_; rintro e w1 ⟨rfl, rfl⟩; rw [HQ.out]) | (go_at_call 34; refine Calls.mono (spec_IsName_any _ _ HS.out) ?_; rintro e w1 ⟨rfl, rfl⟩; rw [HQ.out]) | (go_at_call 37; refine Calls.mono (l00In_any _ _ _ _) ?_; rintro e w1 ⟨rfl, rfl⟩; rw [HQ.out]))
      all_goals go_ret
      all_goals first | exact ⟨rfl, rfl⟩
  by_cases e7 : k = 7
  · subst e7
    rw [show (Ex.node 7 n t ks).proper = ((Ex.node 7 n t ks).only 2) from rfl]
    rw [show (Ex.node 7 n t ks).only 2 = ((n == 0) && ((t.size == 0) && ((nk : Int) == 2))) from by rw [← HN.out]; rfl]
    obtain ⟨z1, h1⟩ : ∃ z, (n == 0) = z := ⟨_, rfl⟩
    obtain ⟨z3, h3⟩ : ∃ z, ((nk : Int) == 2) = z := ⟨_, rfl⟩
    rw [h1, h3]
    cases z1
    · simp only [Bool.false_and]
      go_enter Tryd.func30, Tryd.ntmps30
      go_wp2_with (first | (go_at_call 36; refine Calls.mono (spec_CanQuote_any _ _ HS.out) ?_; rintro e w1 ⟨rfl, rfl⟩; rw [HQ.out]) | (go_at_call 34; refine Calls.mono (spec_IsName_any _ _ HS.out) ?_; rintro e w1 ⟨rfl, rfl⟩; rw [HQ.out]) | (go_at_call 37; refine Calls.mono (l00In_any _ _ _ _) ?_; rintro e w1 ⟨rfl, rfl⟩; rw [HQ.out]))
      all_goals go_ret
      all_goals first | exact ⟨rfl, rfl⟩
    cases z3
    · simp only [Bool.true_and, Bool.and_false, Bool.false_and]
      go_enter Tryd.func30, Tryd.ntmps30
      go_wp2_with (first | (go_at_call 36; refine Calls.mono (spec_CanQuote_any _ _ HS.out) ?_; rintro e w1 ⟨rfl, rfl⟩; rw [HQ.out]) | (go_at_call 34; refine Calls.mono (spec_IsName_any _ _ HS.out) ?_; rintro e w1 ⟨rfl, rfl⟩; rw [HQ.out]) | (go_at_call 37; refine Calls.mono (l00In_any _ _ _ _) ?_; rintro e w1 ⟨rfl, rfl⟩; rw [HQ.out]))
      all_goals go_ret
      all_goals first | exact ⟨rfl, rfl⟩
    by_cases ht : t.size = 0
    · have e1 := nil_of_size ht
      have e2 := isEmpty_of_size ht
      rw [show (t.size == 0) = true from by simp [ht]]
      clear ht
      simp only [Bool.true_and]
      go_enter Tryd.func30, Tryd.ntmps30
      go_wp2_with (first | (go_at_call 36; refine Calls.mono (spec_CanQuote_any _ _ HS.out) ?_; rintro e w1 ⟨rfl, rfl⟩; rw [HQ.out]) | (go_at_call 34; refine Calls.mono (spec_IsName_any _ _ HS.out) ?_; rintro e w1 ⟨rfl, rfl⟩; rw [HQ.out]) | (go_at_call 37; refine Calls.mono (l00In_any _ _ _ _) ?_; rintro e w1 ⟨rfl, rfl⟩; rw [HQ.out]))
      all_goals go_ret
      all_goals first | exact ⟨rfl, rfl⟩
    · have hp : 0 < t.size := by omega
      have e1 := ne_nil_of_size hp
      have e2 := not_isEmpty_of_size hp
      rw [show (t.size == 0) = false from by simp [ht]]
      clear ht hp
      simp only [Bool.true_and, Bool.false_and]
      go_enter Tryd.func30, Tryd.ntmps30
      go_wp2_with (first | (go_at_call 36; refine Calls.mono (spec_CanQuote_any _ _ HS.out) ?_; rintro e w1 ⟨rfl, rfl⟩; rw [HQ.out]) | (go_at_call 34; refine Calls.mono (spec_IsName_any _ _ HS.out) ?_; rintro e w1 ⟨rfl, rfl⟩; rw [HQ.out]) | (go_at_call 37; refine Calls.mono (l00In_any _ _ _ _) ?_; rintro e w1 ⟨rfl, rfl⟩; rw [HQ.out]))
      all_goals go_ret
      all_goals first | exact ⟨rfl, rfl⟩
  by_cases e8 : k = 8
  · subst e8
    rw [show (Ex.node 8 n t ks).proper = ((Ex.node 8 n t ks).only 2) from rfl]
    rw [show (Ex.node 8 n t ks).only 2 = ((n == 0) && ((t.size == 0) && ((nk : Int) == 2))) from by rw [← HN.out]; rfl]
    obtain ⟨z1, h1⟩ : ∃ z, (n == 0) = z := ⟨_, rfl⟩
    obtain ⟨z3, h3⟩ : ∃ z, ((nk : Int) == 2) = z := ⟨_, rfl⟩
    rw [h1, h3]
    cases z1
    · simp only [Bool.false_and]
      go_enter Tryd.func30, Tryd.ntmps30
      go_wp2_with (first | (go_at_call 36; refine Calls.mono (spec_CanQuote_any _ _ HS.out) ?_; rintro e w1 ⟨rfl, rfl⟩; rw [HQ.out]) | (go_at_call 34; refine Calls.mono (spec_IsName_any _ _ HS.out) ?_; rintro e w1 ⟨rfl, rfl⟩; rw [HQ.out]) | (go_at_call 37; refine Calls.mono (l00In_any _ _ _ _) ?_; rintro e w1 ⟨rfl, rfl⟩; rw [HQ.out]))
      all_goals go_ret
      all_goals first | exact ⟨rfl, rfl⟩
    cases z3
    · simp only [Bool.true_and, Bool.and_false, Bool.false_and]
      go_enter Tryd.func30, Tryd.ntmps30
      go_wp2_with (first | (go_at_call 36; refine Calls.mono (spec_CanQuote_any _ _ HS.out) ?_; rintro e w1 ⟨rfl, rfl⟩; rw [HQ.out]) | (go_at_call 34; refine Calls.mono (spec_IsName_any _ _ HS.out) ?_; rintro e w1 ⟨rfl, rfl⟩; rw [HQ.out]) | (go_at_call 37; refine Calls.mono (l00In_any _ _ _ _) ?_; rintro e w1 ⟨rfl, rfl⟩; rw [HQ.out]))
      all_goals go_ret
      all_goals first | exact ⟨rfl, rfl⟩
    by_cases ht : t.size = 0
    · have e1 := nil_of_size ht
      have e2 := isEmpty_of_size ht
      rw [show (t.size == 0) = true from by simp [ht]]
      clear ht
      simp only [Bool.true_and]
      go_enter Tryd.func30, Tryd.ntmps30
      go_wp2_with (first | (go_at_call 36; refine Calls.mono (spec_CanQuote_any _ _ HS.out) ?_; rintro e w1 ⟨rfl, rfl⟩; rw [HQ.out]) | (go_at_call 34; refine Calls.mono (spec_IsName_any _ _ HS.out) ?_; rintro e w1 ⟨rfl, rfl⟩; rw [HQ.out]) | (go_at_call 37; refine Calls.mono (l00In_any _ _ _ _) ?_; rintro e w1 ⟨rfl, rfl⟩; rw [HQ.out]))
      all_goals go_ret
      all_goals first | exact ⟨rfl, rfl⟩
    · have hp : 0 < t.size := by omega
      have e1 := ne_nil_of_size hp
      have e2 := not_isEmpty_of_size hp
      rw [show (t.size == 0) = false from by simp [ht]]
      clear ht hp
      simp only [Bool.true_and, Bool.false_and]
      go_enter Tryd.func30, Tryd.ntmps30
      go_wp2_with (first | (go_at_call 36; refine Calls.mono (spec_CanQuote_any _ _ HS.out) ?_; rintro e w1 ⟨rfl, rfl⟩; rw [HQ.out]) | (go_at_call 34; refine Calls.mono (spec_IsName_any _ _ HS.out) ?_; rintro e w1 ⟨rfl, rfl⟩; rw [HQ.out]) | (go_at_call 37; refine Calls.mono (l00In_any _ _ _ _) ?_; rintro e w1 ⟨rfl, rfl⟩; rw [HQ.out]))
      all_goals go_ret
      all_goals first | exact ⟨rfl, rfl⟩
  by_cases e9 : k = 9
  · subst e9
    rw [show (Ex.node 9 n t ks).proper = ((Ex.node 9 n t ks).only 2) from rfl]
    rw [show (Ex.node 9 n t ks).only 2 = ((n == 0) && ((t.size == 0) && ((nk : Int) == 2))) from by rw [← HN.out]; rfl]
    obtain ⟨z1, h1⟩ : ∃ z, (n == 0) = z := ⟨_, rfl⟩
    obtain ⟨z3, h3⟩ : ∃ z, ((nk : Int) == 2) = z := ⟨_, rfl⟩
    rw [h1, h3]
    cases z1
    · simp only [Bool.false_and]
      go_enter Tryd.func30, Tryd.ntmps30
      go_wp2_with (first | (go_at_call 36; refine Calls.mono (spec_CanQuote_any _ _ HS.out) ?_; rintro e w1 ⟨rfl, rfl⟩; rw [HQ.out]) | (go_at_call 34; refine Calls.mono (spec_IsName_any _ _ HS.out) ?_; rintro e w1 ⟨rfl, rfl⟩; rw [HQ.out]) | (go_at_call 37; refine Calls.mono (l00In_any _ _ _ _) ?_; rintro e w1 ⟨rfl, rfl⟩; rw [HQ.out]))
      all_goals go_ret
      all_goals first | exact ⟨rfl, rfl⟩
    cases z3
    · simp only [Bool.true_and, Bool.and_false, Bool.false_and]
      go_enter Tryd.func30, Tryd.ntmps30
      go_wp2_with (first | (go_at_call 36; refine Calls.mono (spec_CanQuote_any _ _ HS.out) ?_; rintro e w1 ⟨rfl, rfl⟩; rw [HQ.out]) | (go_at_call 34; refine Calls.mono (spec_IsName_any _ _ HS.out) ?_; rintro e w1 ⟨rfl, rfl⟩; rw [HQ.out]) | (go_at_call 37; refine Calls.mono (l00In_any _ _ _ _) ?_; rintro e w1 ⟨rfl, rfl⟩; rw [HQ.out]))
      all_goals go_ret
      all_goals first | exact ⟨rfl, rfl⟩
    by_cases ht : t.size = 0
    · have e1 := nil_of_size ht
      have e2 := isEmpty_of_size ht
      rw [show (t.size == 0) = true from by simp [ht]]
      clear ht
      simp only [Bool.true_and]
      go_enter Tryd.func30, Tryd.ntmps30
      go_wp2_with (first | (go_at_call 36; refine Calls.mono (spec_CanQuote_any _ _ HS.out) ?_; rintro e w1 ⟨rfl, rfl⟩; rw [HQ.out]) | (go_at_call 34; refine Calls.mono (spec_IsName_any _ _ HS.out) ?_; rintro e w1 ⟨rfl, rfl⟩; rw [HQ.out]) | (go_at_call 37; refine Calls.mono (l00In_any _ _ _ _) ?_; rintro e w1 ⟨rfl, rfl⟩; rw [HQ.out]))
      all_goals go_ret
      all_goals first | exact ⟨rfl, rfl⟩
    · have hp : 0 < t.size := by omega
      have e1 := ne_nil_of_size hp
      have e2 := not_isEmpty_of_size hp
      rw [show (t.size == 0) = false from by simp [ht]]
      clear ht hp
      simp only [Bool.true_and, Bool.false_and]
      go_enter Tryd.func30, Tryd.ntmps30
      go_wp2_with (first | (go_at_call 36; refine Calls.mono (spec_CanQuote_any _ _ HS.out) ?_; rintro e w1 ⟨rfl, rfl⟩; rw [HQ.out]) | (go_at_call 34; refine Calls.mono (spec_IsName_any _ _ HS.out) ?_; rintro e w1 ⟨rfl, rfl⟩; rw [HQ.out]) | (go_at_call 37; refine Calls.mono (l00In_any _ _ _ _) ?_; rintro e w1 ⟨rfl, rfl⟩; rw [HQ.out]))
      all_goals go_ret
      all_goals first | exact ⟨rfl, rfl⟩
  by_cases e10 : k = 10
  · subst e10
    rw [show (Ex.node 10 n t ks).proper = ((Ex.node 10 n t ks).only 2) from rfl]
    rw [show (Ex.node 10 n t ks).only 2 = ((n == 0) && ((t.size == 0) && ((nk : Int) == 2))) from by rw [← HN.out]; rfl]
    obtain ⟨z1, h1⟩ : ∃ z, (n == 0) = z := ⟨_, rfl⟩
    obtain ⟨z3, h3⟩ : ∃ z, ((nk : Int) == 2) = z := ⟨_, rfl⟩
    rw [h1, h3]
    cases z1
    · simp only [Bool.false_and]
      go_enter Tryd.func30, Tryd.ntmps30
      go_wp2_with (first | (go_at_call 36; refine Calls.mono (spec_CanQuote_any _ _ HS.out) ?_; rintro e w1 ⟨rfl, rfl⟩; rw [HQ.out]) | (go_at_call 34; refine Calls.mono (spec_IsName_any _ _ HS.out) ?_; rintro e w1 ⟨rfl, rfl⟩; rw [HQ.out]) | (go_at_call 37; refine Calls.mono (l00In_any _ _ _ _) ?_; rintro e w1 ⟨rfl, rfl⟩; rw [HQ.out]))
      all_goals go_ret
      all_goals first | exact ⟨rfl, rfl⟩
    cases z3
    · simp only [Bool.true_and, Bool.and_false, Bool.false_and]
      go_enter Tryd.func30, Tryd.ntmps30
      go_wp2_with (first | (go_at_call 36; refine Calls.mono (spec_CanQuote_any _ _ HS.out) ?_; rintro e w1 ⟨rfl, rfl⟩; rw [HQ.out]) | (go_at_call 34; refine Calls.mono (spec_IsName_any _ _ HS.out) ?_; rintro e w1 ⟨rfl, rfl⟩; rw [HQ.out]) | (go_at_call 37; refine Calls.mono (l00In_any _ _ _ _) ?_; rintro e w1 ⟨rfl, rfl⟩; rw [HQ.out]))
      all_goals go_ret
      all_goals first | exact ⟨rfl, rfl⟩
    by_cases ht : t.size = 0
    · have e1 := nil_of_size ht
      have e2 := isEmpty_of_size ht
      rw [show (t.size == 0) = true from by simp [ht]]
      clear ht
      simp only [Bool.true_and]
      go_enter Tryd.func30, Tryd.ntmps30
      go_wp2_with (first | (go_at_call 36; refine Calls.mono (spec_CanQuote_any _ _ HS.out) ?_; rintro e w1 ⟨rfl, rfl⟩; rw [HQ.out]) | (go_at_call 34; refine Calls.mono (spec_IsName_any _ _ HS.out) ?_; rintro e w1 ⟨rfl, rfl⟩; rw [HQ.out]) | (go_at_call 37; refine Calls.mono (l00In_any _ _ _ _) ?_; rintro e w1 ⟨rfl, rfl⟩; rw [HQ.out]))
      all_goals go_ret
      all_goals first | exact ⟨rfl, rfl⟩
    · have hp : 0 < t.size := by omega
      have e1 := ne_nil_of_size hp
      have e2 := not_isEmpty_of_size hp
      rw [show (t.size == 0) = false from by simp [ht]]
      clear ht hp
      simp only [Bool.true_and, Bool.false_and]
      go_enter Tryd.func30, Tryd.ntmps30
      go_wp2_with (first | (go_at_call 36; refine Calls.mono (spec_CanQuote_any _ _ HS.out) ?_; rintro e w1 ⟨rfl, rfl⟩; rw [HQ.out]) | (go_at_call 34; refine Calls.mono (spec_IsName_any _ _ HS.out) ?_; rintro e w1 ⟨rfl, rfl⟩; rw [HQ.out]) | (go_at_call 37; refine Calls.mono (l00In_any _ _ _ _) ?_; rintro e w1 ⟨rfl, rfl⟩; rw [HQ.out]))
      all_goals go_ret
      all_goals first | exact ⟨rfl, rfl⟩
  by_cases e11 : k = 11
  · subst e11
    rw [show (Ex.node 11 n t ks).proper = ((Ex.node 11 n t ks).only 2) from rfl]
    rw [show (Ex.node 11 n t ks).only 2 = ((n == 0) && ((t.size == 0) && ((nk : Int) == 2))) from by rw [← HN.out]; rfl]
    obtain ⟨z1, h1⟩ : ∃ z, (n == 0) = z := ⟨_, rfl⟩
    obtain ⟨z3, h3⟩ : ∃ z, ((nk : Int) == 2) = z := ⟨_, rfl⟩
    rw [h1, h3]
    cases z1
    · simp only [Bool.false_and]
      go_enter Tryd.func30, Tryd.ntmps30
      go_wp2_with (first | (go_at_call 36; refine Calls.mono (spec_CanQuote_any _ _ HS.out) ?_; rintro e w1 ⟨rfl, rfl⟩; rw [HQ.out]) | (go_at_call 34; refine Calls.mono (spec_IsName_any _ _ HS.out) ?_; rintro e w1 ⟨rfl, rfl⟩; rw [HQ.out]) | (go_at_call 37; refine Calls.mono (l00In_any _ _ _ _) ?_; rintro e w1 ⟨rfl, rfl⟩; rw [HQ.out]))
      all_goals go_ret
      all_goals first | exact ⟨rfl, rfl⟩
    cases z3
    · simp only [Bool.true_and, Bool.and_false, Bool.false_and]
      go_enter Tryd.func30, Tryd.ntmps30
      go_wp2_with (first | (go_at_call 36; refine Calls.mono (spec_CanQuote_any _ _ HS.out) ?_; rintro e w1 ⟨rfl, rfl⟩; rw [HQ.out]) | (go_at_call 34; refine Calls.mono (spec_IsName_any _ _ HS.out) ?_; rintro e w1 ⟨rfl, rfl⟩; rw [HQ.out]) | (go_at_call 37; refine Calls.mono (l00In_any _ _ _ _) ?_; rintro e w1 ⟨rfl, rfl⟩; rw [HQ.out]))
      all_goals go_ret
      all_goals first | exact ⟨rfl, rfl⟩
    by_cases ht : t.size = 0
    · have e1 := nil_of_size ht
      have e2 := isEmpty_of_size ht
      rw [show (t.size == 0) = true from by simp [ht]]
      clear ht
      simp only [Bool.true_and]
      go_enter Tryd.func30, Tryd.ntmps30
      go_wp2_with (first | (go_at_call 36; refine Calls.mono (spec_CanQuote_any _ _ HS.out) ?_; rintro e w1 ⟨rfl, rfl⟩; rw [HQ.out]) | (go_at_call 34; refine Calls.mono (spec_IsName_any _ _ HS.out) ?_; rintro e w1 ⟨rfl, rfl⟩; rw [HQ.out]) | (go_at_call 37; refine Calls.mono (l00In_any _ _ _ _) ?_; rintro e w1 ⟨rfl, rfl⟩; rw [HQ.out]))
      all_goals go_ret
      all_goals first | exact ⟨rfl, rfl⟩
    · have hp : 0 < t.size := by omega
      have e1 := ne_nil_of_size hp
      have e2 := not_isEmpty_of_size hp
      rw [show (t.size == 0) = false from by simp [ht]]
      clear ht hp
      simp only [Bool.true_and, Bool.false_and]
      go_enter Tryd.func30, Tryd.ntmps30
      go_wp2_with (first | (go_at_call 36; refine Calls.mono (spec_CanQuote_any _ _ HS.out) ?_; rintro e w1 ⟨rfl, rfl⟩; rw [HQ.out]) | (go_at_call 34; refine Calls.mono (spec_IsName_any _ _ HS.out) ?_; rintro e w1 ⟨rfl, rfl⟩; rw [HQ.out]) | (go_at_call 37; refine Calls.mono (l00In_any _ _ _ _) ?_; rintro e w1 ⟨rfl, rfl⟩; rw [HQ.out]))
      all_goals go_ret
      all_goals first | exact ⟨rfl, rfl⟩
  · rw [show (Ex.node k n t ks).proper = false from by
      unfold Ex.proper
      change (if k = 1 then _ else if k = 2 then _ else if k = 3 ∨ k = 16 ∨ k = 17 ∨ k = 18 then _ else if k = 4 then _ else if k = 14 ∨ k = 15 then _ else if k = 12 ∨ k = 13 then _ else if 5 ≤ k ∧ k ≤ 11 then _ else false) = false
      rw [if_neg e1, if_neg e2, if_neg (by omega), if_neg e4, if_neg (by omega), if_neg (by omega), if_neg (by omega)]]
    go_enter Tryd.func30, Tryd.ntmps30
    go_wp2_with (first | (go_at_call 36; refine Calls.mono (spec_CanQuote_any _ _ HS.out) ?_; rintro e w1 ⟨rfl, rfl⟩; rw [HQ.out]) | (go_at_call 34; refine Calls.mono (spec_IsName_any _ _ HS.out) ?_; rintro e w1 ⟨rfl, rfl⟩; rw [HQ.out]) | (go_at_call 37; refine Calls.mono (l00In_any _ _ _ _) ?_; rintro e w1 ⟨rfl, rfl⟩; rw [HQ.out]))
    all_goals go_ret
    all_goals first | exact ⟨rfl, rfl⟩

end Go.Proofs.YtjmiobmfphkdeaaDoor
