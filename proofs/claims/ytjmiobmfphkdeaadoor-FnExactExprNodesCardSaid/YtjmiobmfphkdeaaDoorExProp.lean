/- Contracts: isProperNode, hasOnlyKids of the program, l03Shape of the model. Condition: the table holds what the program's text lays (the program's). -/
import Derived.Test.YtjmiobmfphkdeaaDoorExPlain
import Derived.Test.YtjmiobmfphkdeaaDoorExsEq
import Derived.Test.YtjmiobmfphkdeaaDoorIn
namespace Go.Proofs.YtjmiobmfphkdeaaDoor
open Go Go.RowKit

set_option maxHeartbeats 1000000 in
set_option maxRecDepth 100000 in
theorem hasOnlyKids_any (k n : Int) (t : ByteArray) (ks : List Ex) (A : Option Addr) (nk c : Nat) (q : Int) (W : World) (hs : t.size ≤ maxLen) (hk : ks.length = nk) :
    Calls Tryd.prog 33 #[.agg #[.int .i64 k, .int .i64 n, .string t, .slice A nk c], .int .i64 q] W fun e w' => e = .returned (.bool ((Ex.node k n t ks).only q)) ∧ Below W.heap.size W w' := by
  rw [show (Ex.node k n t ks).only q = ((n == 0) && ((t.size == 0) && ((nk : Int) == q))) from by rw [Ex.only, ← hk]; rfl]
  unfold maxLen at hs
  clear hk
  obtain ⟨z1, h1⟩ : ∃ z, (n == 0) = z := ⟨_, rfl⟩
  obtain ⟨z2, h2⟩ : ∃ z, ((nk : Int) == q) = z := ⟨_, rfl⟩
  rw [h1, h2]
  cases z1
  · rw [Bool.false_and]
    go_enter Tryd.func33, Tryd.ntmps33
    go_wp2_with fail
    all_goals go_ret
    all_goals first | exact ⟨rfl, below_alloc _ _⟩ | exact ⟨rfl, Below.refl _ _⟩
  rw [Bool.true_and]
  by_cases ht : t.size = 0
  · have e1 := nil_of_size ht
    have e2 := isEmpty_of_size ht
    rw [show (t.size == 0) = true from by simp [ht]]
    clear ht
    cases z2
    all_goals
      go_enter Tryd.func33, Tryd.ntmps33
      go_wp2_with fail
      all_goals go_ret
      all_goals first | exact ⟨rfl, below_alloc _ _⟩ | exact ⟨rfl, Below.refl _ _⟩
  · have hp : 0 < t.size := by omega
    have e1 := ne_nil_of_size hp
    have e2 := not_isEmpty_of_size hp
    rw [show (t.size == 0) = false from by simp [ht]]
    clear ht hp
    rw [Bool.false_and]
    go_enter Tryd.func33, Tryd.ntmps33
    go_wp2_with fail
    all_goals go_ret
    all_goals first | exact ⟨rfl, below_alloc _ _⟩ | exact ⟨rfl, Below.refl _ _⟩

set_option maxHeartbeats 4000000 in
set_option maxRecDepth 100000 in
theorem isProperNode_any (k n : Int) (t : ByteArray) (ks : List Ex) (A : Option Addr) (nk c d : Nat) (W : World) (hs : t.size ≤ maxLen) (hd : ExD W 0 W.heap.size d A nk ks) (hT : Classes W) :
    Calls Tryd.prog 27 #[.agg #[.int .i64 k, .int .i64 n, .string t, .slice A nk c]] W fun e w' => e = .returned (.bool (Ex.node k n t ks).proper) ∧ Below W.heap.size W w' := by
  have HS := Lib.hid hs
  have HN := Lib.hid hd.len.1
  have HD := Lib.hid hd
  have hnm := hd.len.2
  unfold maxLen at hs hnm
  have HT := Lib.hid hT
  have HC := Lib.hid (fun X (e : X = W.alloc (.cells #[.int .i64 k, .int .i64 n, .string t, .slice A nk c] 29)) => (show RW 29 X W.heap.size #[.int .i64 k, .int .i64 n, .string t, .slice A nk c] ∧ Below W.heap.size W X ∧ W.heap.size < X.heap.size from by rw [e]; exact ⟨RW.new _ _ _, below_alloc _ _, lt_alloc _ _⟩))
  clear hd hT
  by_cases e1 : k = 1
  · subst e1
    rw [show (Ex.node 1 n t ks).proper = ((n == 0) && (canB t && ((nk : Int) == 0))) from by rw [← HN.out]; rfl]
    obtain ⟨z1, h1⟩ : ∃ z, (n == 0) = z := ⟨_, rfl⟩
    obtain ⟨z2, h2⟩ : ∃ z, canB t = z := ⟨_, rfl⟩
    obtain ⟨z3, h3⟩ : ∃ z, ((nk : Int) == 0) = z := ⟨_, rfl⟩
    rw [h1, h2, h3]
    have HQ := Lib.hid h2
    clear h2
    cases z1
    · rw [Bool.false_and]
      go_enter Tryd.func27, Tryd.ntmps27
      go_wp2_with (first | (go_at_call 31; refine Calls.mono (impl_CanQuote_any _ _ HS.out) ?_; rintro e w1 ⟨rfl, hb⟩; rw [HQ.out]; have HR1 := Lib.hid ((HC.out _ rfl).1.below hb (HC.out _ rfl).2.2); have HB1 := Lib.hid ((HC.out _ rfl).2.1.trans (hb.mono (HC.out _ rfl).2.1.size)); have q3 : w1.cell? ⟨W.heap.size, 3, none⟩ = some (.slice A nk c) := HR1.out.cell 3; clear hb) | (go_at_call 32; refine Calls.mono (impl_IsName_any _ _ HS.out (classes_go HT.out (HC.out _ rfl).2.1)) ?_; rintro e w1 ⟨rfl, hb⟩; rw [HQ.out]; have HR1 := Lib.hid ((HC.out _ rfl).1.below hb (HC.out _ rfl).2.2); have HB1 := Lib.hid ((HC.out _ rfl).2.1.trans (hb.mono (HC.out _ rfl).2.1.size)); have q3 : w1.cell? ⟨W.heap.size, 3, none⟩ = some (.slice A nk c) := HR1.out.cell 3; clear hb) | (go_at_call 33; refine Calls.mono (hasOnlyKids_any _ n t ks _ _ _ _ _ HS.out HN.out) ?_; rintro e w1 ⟨rfl, hb⟩; rw [HQ.out]; have HR1 := Lib.hid ((HC.out _ rfl).1.below hb (HC.out _ rfl).2.2); have HB1 := Lib.hid ((HC.out _ rfl).2.1.trans (hb.mono (HC.out _ rfl).2.1.size)); have q3 : w1.cell? ⟨W.heap.size, 3, none⟩ = some (.slice A nk c) := HR1.out.cell 3; have HB2 := Lib.hid hb; clear hb))
      all_goals go_ret
      all_goals first | exact ⟨rfl, HB1.out⟩ | exact ⟨rfl, below_alloc _ _⟩
    rw [Bool.true_and]
    cases z2
    · rw [Bool.false_and]
      go_enter Tryd.func27, Tryd.ntmps27
      go_wp2_with (first | (go_at_call 31; refine Calls.mono (impl_CanQuote_any _ _ HS.out) ?_; rintro e w1 ⟨rfl, hb⟩; rw [HQ.out]; have HR1 := Lib.hid ((HC.out _ rfl).1.below hb (HC.out _ rfl).2.2); have HB1 := Lib.hid ((HC.out _ rfl).2.1.trans (hb.mono (HC.out _ rfl).2.1.size)); have q3 : w1.cell? ⟨W.heap.size, 3, none⟩ = some (.slice A nk c) := HR1.out.cell 3; clear hb) | (go_at_call 32; refine Calls.mono (impl_IsName_any _ _ HS.out (classes_go HT.out (HC.out _ rfl).2.1)) ?_; rintro e w1 ⟨rfl, hb⟩; rw [HQ.out]; have HR1 := Lib.hid ((HC.out _ rfl).1.below hb (HC.out _ rfl).2.2); have HB1 := Lib.hid ((HC.out _ rfl).2.1.trans (hb.mono (HC.out _ rfl).2.1.size)); have q3 : w1.cell? ⟨W.heap.size, 3, none⟩ = some (.slice A nk c) := HR1.out.cell 3; clear hb) | (go_at_call 33; refine Calls.mono (hasOnlyKids_any _ n t ks _ _ _ _ _ HS.out HN.out) ?_; rintro e w1 ⟨rfl, hb⟩; rw [HQ.out]; have HR1 := Lib.hid ((HC.out _ rfl).1.below hb (HC.out _ rfl).2.2); have HB1 := Lib.hid ((HC.out _ rfl).2.1.trans (hb.mono (HC.out _ rfl).2.1.size)); have q3 : w1.cell? ⟨W.heap.size, 3, none⟩ = some (.slice A nk c) := HR1.out.cell 3; have HB2 := Lib.hid hb; clear hb))
      all_goals go_ret
      all_goals first | exact ⟨rfl, HB1.out⟩ | exact ⟨rfl, below_alloc _ _⟩
    rw [Bool.true_and]
    cases z3
    all_goals
      go_enter Tryd.func27, Tryd.ntmps27
      go_wp2_with (first | (go_at_call 31; refine Calls.mono (impl_CanQuote_any _ _ HS.out) ?_; rintro e w1 ⟨rfl, hb⟩; rw [HQ.out]; have HR1 := Lib.hid ((HC.out _ rfl).1.below hb (HC.out _ rfl).2.2); have HB1 := Lib.hid ((HC.out _ rfl).2.1.trans (hb.mono (HC.out _ rfl).2.1.size)); have q3 : w1.cell? ⟨W.heap.size, 3, none⟩ = some (.slice A nk c) := HR1.out.cell 3; clear hb) | (go_at_call 32; refine Calls.mono (impl_IsName_any _ _ HS.out (classes_go HT.out (HC.out _ rfl).2.1)) ?_; rintro e w1 ⟨rfl, hb⟩; rw [HQ.out]; have HR1 := Lib.hid ((HC.out _ rfl).1.below hb (HC.out _ rfl).2.2); have HB1 := Lib.hid ((HC.out _ rfl).2.1.trans (hb.mono (HC.out _ rfl).2.1.size)); have q3 : w1.cell? ⟨W.heap.size, 3, none⟩ = some (.slice A nk c) := HR1.out.cell 3; clear hb) | (go_at_call 33; refine Calls.mono (hasOnlyKids_any _ n t ks _ _ _ _ _ HS.out HN.out) ?_; rintro e w1 ⟨rfl, hb⟩; rw [HQ.out]; have HR1 := Lib.hid ((HC.out _ rfl).1.below hb (HC.out _ rfl).2.2); have HB1 := Lib.hid ((HC.out _ rfl).2.1.trans (hb.mono (HC.out _ rfl).2.1.size)); have q3 : w1.cell? ⟨W.heap.size, 3, none⟩ = some (.slice A nk c) := HR1.out.cell 3; have HB2 := Lib.hid hb; clear hb))
      all_goals go_ret
      all_goals first | exact ⟨rfl, HB1.out⟩ | exact ⟨rfl, below_alloc _ _⟩
  by_cases e2 : k = 2
  · subst e2
    rw [show (Ex.node 2 n t ks).proper = ((decide (0 ≤ n) && decide (n ≤ 1000000000000)) && ((t.size == 0) && ((nk : Int) == 0))) from by rw [← HN.out]; rfl]
    obtain ⟨z3, h3⟩ : ∃ z, ((nk : Int) == 0) = z := ⟨_, rfl⟩
    rw [h3]
    by_cases g1 : 0 ≤ n
    · by_cases g2 : n ≤ 1000000000000
      · rw [show (decide (0 ≤ n) && decide (n ≤ 1000000000000)) = true from by simp [g1, g2], Bool.true_and]
        have d1 : decide (0 ≤ n) = true := by simp [g1]
        have d2 : decide (n ≤ 1000000000000) = true := by simp [g2]
        by_cases ht : t.size = 0
        · have e1 := nil_of_size ht
          have e2 := isEmpty_of_size ht
          rw [show (t.size == 0) = true from by simp [ht]]
          clear ht
          rw [Bool.true_and]
          cases z3
          all_goals
            go_enter Tryd.func27, Tryd.ntmps27
            go_wp2_with (first | (go_at_call 31; refine Calls.mono (impl_CanQuote_any _ _ HS.out) ?_; rintro e w1 ⟨rfl, hb⟩; rw [HQ.out]; have HR1 := Lib.hid ((HC.out _ rfl).1.below hb (HC.out _ rfl).2.2); have HB1 := Lib.hid ((HC.out _ rfl).2.1.trans (hb.mono (HC.out _ rfl).2.1.size)); have q3 : w1.cell? ⟨W.heap.size, 3, none⟩ = some (.slice A nk c) := HR1.out.cell 3; clear hb) | (go_at_call 32; refine Calls.mono (impl_IsName_any _ _ HS.out (classes_go HT.out (HC.out _ rfl).2.1)) ?_; rintro e w1 ⟨rfl, hb⟩; rw [HQ.out]; have HR1 := Lib.hid ((HC.out _ rfl).1.below hb (HC.out _ rfl).2.2); have HB1 := Lib.hid ((HC.out _ rfl).2.1.trans (hb.mono (HC.out _ rfl).2.1.size)); have q3 : w1.cell? ⟨W.heap.size, 3, none⟩ = some (.slice A nk c) := HR1.out.cell 3; clear hb) | (go_at_call 33; refine Calls.mono (hasOnlyKids_any _ n t ks _ _ _ _ _ HS.out HN.out) ?_; rintro e w1 ⟨rfl, hb⟩; rw [HQ.out]; have HR1 := Lib.hid ((HC.out _ rfl).1.below hb (HC.out _ rfl).2.2); have HB1 := Lib.hid ((HC.out _ rfl).2.1.trans (hb.mono (HC.out _ rfl).2.1.size)); have q3 : w1.cell? ⟨W.heap.size, 3, none⟩ = some (.slice A nk c) := HR1.out.cell 3; have HB2 := Lib.hid hb; clear hb))
            all_goals go_ret
            all_goals first | exact ⟨rfl, HB1.out⟩ | exact ⟨rfl, below_alloc _ _⟩
        · have hp : 0 < t.size := by omega
          have e1 := ne_nil_of_size hp
          have e2 := not_isEmpty_of_size hp
          rw [show (t.size == 0) = false from by simp [ht]]
          clear ht hp
          rw [Bool.false_and]
          go_enter Tryd.func27, Tryd.ntmps27
          go_wp2_with (first | (go_at_call 31; refine Calls.mono (impl_CanQuote_any _ _ HS.out) ?_; rintro e w1 ⟨rfl, hb⟩; rw [HQ.out]; have HR1 := Lib.hid ((HC.out _ rfl).1.below hb (HC.out _ rfl).2.2); have HB1 := Lib.hid ((HC.out _ rfl).2.1.trans (hb.mono (HC.out _ rfl).2.1.size)); have q3 : w1.cell? ⟨W.heap.size, 3, none⟩ = some (.slice A nk c) := HR1.out.cell 3; clear hb) | (go_at_call 32; refine Calls.mono (impl_IsName_any _ _ HS.out (classes_go HT.out (HC.out _ rfl).2.1)) ?_; rintro e w1 ⟨rfl, hb⟩; rw [HQ.out]; have HR1 := Lib.hid ((HC.out _ rfl).1.below hb (HC.out _ rfl).2.2); have HB1 := Lib.hid ((HC.out _ rfl).2.1.trans (hb.mono (HC.out _ rfl).2.1.size)); have q3 : w1.cell? ⟨W.heap.size, 3, none⟩ = some (.slice A nk c) := HR1.out.cell 3; clear hb) | (go_at_call 33; refine Calls.mono (hasOnlyKids_any _ n t ks _ _ _ _ _ HS.out HN.out) ?_; rintro e w1 ⟨rfl, hb⟩; rw [HQ.out]; have HR1 := Lib.hid ((HC.out _ rfl).1.below hb (HC.out _ rfl).2.2); have HB1 := Lib.hid ((HC.out _ rfl).2.1.trans (hb.mono (HC.out _ rfl).2.1.size)); have q3 : w1.cell? ⟨W.heap.size, 3, none⟩ = some (.slice A nk c) := HR1.out.cell 3; have HB2 := Lib.hid hb; clear hb))
          all_goals go_ret
          all_goals first | exact ⟨rfl, HB1.out⟩ | exact ⟨rfl, below_alloc _ _⟩
      · rw [show (decide (0 ≤ n) && decide (n ≤ 1000000000000)) = false from by simp [g2], Bool.false_and]
        have d1 : decide (0 ≤ n) = true := by simp [g1]
        have d2 : decide (n ≤ 1000000000000) = false := by simp; omega
        go_enter Tryd.func27, Tryd.ntmps27
        go_wp2_with (first | (go_at_call 31; refine Calls.mono (impl_CanQuote_any _ _ HS.out) ?_; rintro e w1 ⟨rfl, hb⟩; rw [HQ.out]; have HR1 := Lib.hid ((HC.out _ rfl).1.below hb (HC.out _ rfl).2.2); have HB1 := Lib.hid ((HC.out _ rfl).2.1.trans (hb.mono (HC.out _ rfl).2.1.size)); have q3 : w1.cell? ⟨W.heap.size, 3, none⟩ = some (.slice A nk c) := HR1.out.cell 3; clear hb) | (go_at_call 32; refine Calls.mono (impl_IsName_any _ _ HS.out (classes_go HT.out (HC.out _ rfl).2.1)) ?_; rintro e w1 ⟨rfl, hb⟩; rw [HQ.out]; have HR1 := Lib.hid ((HC.out _ rfl).1.below hb (HC.out _ rfl).2.2); have HB1 := Lib.hid ((HC.out _ rfl).2.1.trans (hb.mono (HC.out _ rfl).2.1.size)); have q3 : w1.cell? ⟨W.heap.size, 3, none⟩ = some (.slice A nk c) := HR1.out.cell 3; clear hb) | (go_at_call 33; refine Calls.mono (hasOnlyKids_any _ n t ks _ _ _ _ _ HS.out HN.out) ?_; rintro e w1 ⟨rfl, hb⟩; rw [HQ.out]; have HR1 := Lib.hid ((HC.out _ rfl).1.below hb (HC.out _ rfl).2.2); have HB1 := Lib.hid ((HC.out _ rfl).2.1.trans (hb.mono (HC.out _ rfl).2.1.size)); have q3 : w1.cell? ⟨W.heap.size, 3, none⟩ = some (.slice A nk c) := HR1.out.cell 3; have HB2 := Lib.hid hb; clear hb))
        all_goals go_ret
        all_goals first | exact ⟨rfl, HB1.out⟩ | exact ⟨rfl, below_alloc _ _⟩
    · rw [show (decide (0 ≤ n) && decide (n ≤ 1000000000000)) = false from by simp [g1], Bool.false_and]
      have d1 : decide (0 ≤ n) = false := by simp; omega
      go_enter Tryd.func27, Tryd.ntmps27
      go_wp2_with (first | (go_at_call 31; refine Calls.mono (impl_CanQuote_any _ _ HS.out) ?_; rintro e w1 ⟨rfl, hb⟩; rw [HQ.out]; have HR1 := Lib.hid ((HC.out _ rfl).1.below hb (HC.out _ rfl).2.2); have HB1 := Lib.hid ((HC.out _ rfl).2.1.trans (hb.mono (HC.out _ rfl).2.1.size)); have q3 : w1.cell? ⟨W.heap.size, 3, none⟩ = some (.slice A nk c) := HR1.out.cell 3; clear hb) | (go_at_call 32; refine Calls.mono (impl_IsName_any _ _ HS.out (classes_go HT.out (HC.out _ rfl).2.1)) ?_; rintro e w1 ⟨rfl, hb⟩; rw [HQ.out]; have HR1 := Lib.hid ((HC.out _ rfl).1.below hb (HC.out _ rfl).2.2); have HB1 := Lib.hid ((HC.out _ rfl).2.1.trans (hb.mono (HC.out _ rfl).2.1.size)); have q3 : w1.cell? ⟨W.heap.size, 3, none⟩ = some (.slice A nk c) := HR1.out.cell 3; clear hb) | (go_at_call 33; refine Calls.mono (hasOnlyKids_any _ n t ks _ _ _ _ _ HS.out HN.out) ?_; rintro e w1 ⟨rfl, hb⟩; rw [HQ.out]; have HR1 := Lib.hid ((HC.out _ rfl).1.below hb (HC.out _ rfl).2.2); have HB1 := Lib.hid ((HC.out _ rfl).2.1.trans (hb.mono (HC.out _ rfl).2.1.size)); have q3 : w1.cell? ⟨W.heap.size, 3, none⟩ = some (.slice A nk c) := HR1.out.cell 3; have HB2 := Lib.hid hb; clear hb))
      all_goals go_ret
      all_goals first | exact ⟨rfl, HB1.out⟩ | exact ⟨rfl, below_alloc _ _⟩
  by_cases e3 : k = 3
  · subst e3
    rw [show (Ex.node 3 n t ks).proper = ((n == 0) && (isNameB t && ((nk : Int) == 0))) from by rw [← HN.out]; rfl]
    obtain ⟨z1, h1⟩ : ∃ z, (n == 0) = z := ⟨_, rfl⟩
    obtain ⟨z2, h2⟩ : ∃ z, isNameB t = z := ⟨_, rfl⟩
    obtain ⟨z3, h3⟩ : ∃ z, ((nk : Int) == 0) = z := ⟨_, rfl⟩
    rw [h1, h2, h3]
    have HQ := Lib.hid h2
    clear h2
    cases z1
    · rw [Bool.false_and]
      go_enter Tryd.func27, Tryd.ntmps27
      go_wp2_with (first | (go_at_call 31; refine Calls.mono (impl_CanQuote_any _ _ HS.out) ?_; rintro e w1 ⟨rfl, hb⟩; rw [HQ.out]; have HR1 := Lib.hid ((HC.out _ rfl).1.below hb (HC.out _ rfl).2.2); have HB1 := Lib.hid ((HC.out _ rfl).2.1.trans (hb.mono (HC.out _ rfl).2.1.size)); have q3 : w1.cell? ⟨W.heap.size, 3, none⟩ = some (.slice A nk c) := HR1.out.cell 3; clear hb) | (go_at_call 32; refine Calls.mono (impl_IsName_any _ _ HS.out (classes_go HT.out (HC.out _ rfl).2.1)) ?_; rintro e w1 ⟨rfl, hb⟩; rw [HQ.out]; have HR1 := Lib.hid ((HC.out _ rfl).1.below hb (HC.out _ rfl).2.2); have HB1 := Lib.hid ((HC.out _ rfl).2.1.trans (hb.mono (HC.out _ rfl).2.1.size)); have q3 : w1.cell? ⟨W.heap.size, 3, none⟩ = some (.slice A nk c) := HR1.out.cell 3; clear hb) | (go_at_call 33; refine Calls.mono (hasOnlyKids_any _ n t ks _ _ _ _ _ HS.out HN.out) ?_; rintro e w1 ⟨rfl, hb⟩; rw [HQ.out]; have HR1 := Lib.hid ((HC.out _ rfl).1.below hb (HC.out _ rfl).2.2); have HB1 := Lib.hid ((HC.out _ rfl).2.1.trans (hb.mono (HC.out _ rfl).2.1.size)); have q3 : w1.cell? ⟨W.heap.size, 3, none⟩ = some (.slice A nk c) := HR1.out.cell 3; have HB2 := Lib.hid hb; clear hb))
      all_goals go_ret
      all_goals first | exact ⟨rfl, HB1.out⟩ | exact ⟨rfl, below_alloc _ _⟩
    rw [Bool.true_and]
    cases z2
    · rw [Bool.false_and]
      go_enter Tryd.func27, Tryd.ntmps27
      go_wp2_with (first | (go_at_call 31; refine Calls.mono (impl_CanQuote_any _ _ HS.out) ?_; rintro e w1 ⟨rfl, hb⟩; rw [HQ.out]; have HR1 := Lib.hid ((HC.out _ rfl).1.below hb (HC.out _ rfl).2.2); have HB1 := Lib.hid ((HC.out _ rfl).2.1.trans (hb.mono (HC.out _ rfl).2.1.size)); have q3 : w1.cell? ⟨W.heap.size, 3, none⟩ = some (.slice A nk c) := HR1.out.cell 3; clear hb) | (go_at_call 32; refine Calls.mono (impl_IsName_any _ _ HS.out (classes_go HT.out (HC.out _ rfl).2.1)) ?_; rintro e w1 ⟨rfl, hb⟩; rw [HQ.out]; have HR1 := Lib.hid ((HC.out _ rfl).1.below hb (HC.out _ rfl).2.2); have HB1 := Lib.hid ((HC.out _ rfl).2.1.trans (hb.mono (HC.out _ rfl).2.1.size)); have q3 : w1.cell? ⟨W.heap.size, 3, none⟩ = some (.slice A nk c) := HR1.out.cell 3; clear hb) | (go_at_call 33; refine Calls.mono (hasOnlyKids_any _ n t ks _ _ _ _ _ HS.out HN.out) ?_; rintro e w1 ⟨rfl, hb⟩; rw [HQ.out]; have HR1 := Lib.hid ((HC.out _ rfl).1.below hb (HC.out _ rfl).2.2); have HB1 := Lib.hid ((HC.out _ rfl).2.1.trans (hb.mono (HC.out _ rfl).2.1.size)); have q3 : w1.cell? ⟨W.heap.size, 3, none⟩ = some (.slice A nk c) := HR1.out.cell 3; have HB2 := Lib.hid hb; clear hb))
      all_goals go_ret
      all_goals first | exact ⟨rfl, HB1.out⟩ | exact ⟨rfl, below_alloc _ _⟩
    rw [Bool.true_and]
    cases z3
    all_goals
      go_enter Tryd.func27, Tryd.ntmps27
      go_wp2_with (first | (go_at_call 31; refine Calls.mono (impl_CanQuote_any _ _ HS.out) ?_; rintro e w1 ⟨rfl, hb⟩; rw [HQ.out]; have HR1 := Lib.hid ((HC.out _ rfl).1.below hb (HC.out _ rfl).2.2); have HB1 := Lib.hid ((HC.out _ rfl).2.1.trans (hb.mono (HC.out _ rfl).2.1.size)); have q3 : w1.cell? ⟨W.heap.size, 3, none⟩ = some (.slice A nk c) := HR1.out.cell 3; clear hb) | (go_at_call 32; refine Calls.mono (impl_IsName_any _ _ HS.out (classes_go HT.out (HC.out _ rfl).2.1)) ?_; rintro e w1 ⟨rfl, hb⟩; rw [HQ.out]; have HR1 := Lib.hid ((HC.out _ rfl).1.below hb (HC.out _ rfl).2.2); have HB1 := Lib.hid ((HC.out _ rfl).2.1.trans (hb.mono (HC.out _ rfl).2.1.size)); have q3 : w1.cell? ⟨W.heap.size, 3, none⟩ = some (.slice A nk c) := HR1.out.cell 3; clear hb) | (go_at_call 33; refine Calls.mono (hasOnlyKids_any _ n t ks _ _ _ _ _ HS.out HN.out) ?_; rintro e w1 ⟨rfl, hb⟩; rw [HQ.out]; have HR1 := Lib.hid ((HC.out _ rfl).1.below hb (HC.out _ rfl).2.2); have HB1 := Lib.hid ((HC.out _ rfl).2.1.trans (hb.mono (HC.out _ rfl).2.1.size)); have q3 : w1.cell? ⟨W.heap.size, 3, none⟩ = some (.slice A nk c) := HR1.out.cell 3; have HB2 := Lib.hid hb; clear hb))
      all_goals go_ret
      all_goals first | exact ⟨rfl, HB1.out⟩ | exact ⟨rfl, below_alloc _ _⟩
  by_cases e16 : k = 16
  · subst e16
    rw [show (Ex.node 16 n t ks).proper = ((n == 0) && (isNameB t && ((nk : Int) == 0))) from by rw [← HN.out]; rfl]
    obtain ⟨z1, h1⟩ : ∃ z, (n == 0) = z := ⟨_, rfl⟩
    obtain ⟨z2, h2⟩ : ∃ z, isNameB t = z := ⟨_, rfl⟩
    obtain ⟨z3, h3⟩ : ∃ z, ((nk : Int) == 0) = z := ⟨_, rfl⟩
    rw [h1, h2, h3]
    have HQ := Lib.hid h2
    clear h2
    cases z1
    · rw [Bool.false_and]
      go_enter Tryd.func27, Tryd.ntmps27
      go_wp2_with (first | (go_at_call 31; refine Calls.mono (impl_CanQuote_any _ _ HS.out) ?_; rintro e w1 ⟨rfl, hb⟩; rw [HQ.out]; have HR1 := Lib.hid ((HC.out _ rfl).1.below hb (HC.out _ rfl).2.2); have HB1 := Lib.hid ((HC.out _ rfl).2.1.trans (hb.mono (HC.out _ rfl).2.1.size)); have q3 : w1.cell? ⟨W.heap.size, 3, none⟩ = some (.slice A nk c) := HR1.out.cell 3; clear hb) | (go_at_call 32; refine Calls.mono (impl_IsName_any _ _ HS.out (classes_go HT.out (HC.out _ rfl).2.1)) ?_; rintro e w1 ⟨rfl, hb⟩; rw [HQ.out]; have HR1 := Lib.hid ((HC.out _ rfl).1.below hb (HC.out _ rfl).2.2); have HB1 := Lib.hid ((HC.out _ rfl).2.1.trans (hb.mono (HC.out _ rfl).2.1.size)); have q3 : w1.cell? ⟨W.heap.size, 3, none⟩ = some (.slice A nk c) := HR1.out.cell 3; clear hb) | (go_at_call 33; refine Calls.mono (hasOnlyKids_any _ n t ks _ _ _ _ _ HS.out HN.out) ?_; rintro e w1 ⟨rfl, hb⟩; rw [HQ.out]; have HR1 := Lib.hid ((HC.out _ rfl).1.below hb (HC.out _ rfl).2.2); have HB1 := Lib.hid ((HC.out _ rfl).2.1.trans (hb.mono (HC.out _ rfl).2.1.size)); have q3 : w1.cell? ⟨W.heap.size, 3, none⟩ = some (.slice A nk c) := HR1.out.cell 3; have HB2 := Lib.hid hb; clear hb))
      all_goals go_ret
      all_goals first | exact ⟨rfl, HB1.out⟩ | exact ⟨rfl, below_alloc _ _⟩
    rw [Bool.true_and]
    cases z2
    · rw [Bool.false_and]
      go_enter Tryd.func27, Tryd.ntmps27
      go_wp2_with (first | (go_at_call 31; refine Calls.mono (impl_CanQuote_any _ _ HS.out) ?_; rintro e w1 ⟨rfl, hb⟩; rw [HQ.out]; have HR1 := Lib.hid ((HC.out _ rfl).1.below hb (HC.out _ rfl).2.2); have HB1 := Lib.hid ((HC.out _ rfl).2.1.trans (hb.mono (HC.out _ rfl).2.1.size)); have q3 : w1.cell? ⟨W.heap.size, 3, none⟩ = some (.slice A nk c) := HR1.out.cell 3; clear hb) | (go_at_call 32; refine Calls.mono (impl_IsName_any _ _ HS.out (classes_go HT.out (HC.out _ rfl).2.1)) ?_; rintro e w1 ⟨rfl, hb⟩; rw [HQ.out]; have HR1 := Lib.hid ((HC.out _ rfl).1.below hb (HC.out _ rfl).2.2); have HB1 := Lib.hid ((HC.out _ rfl).2.1.trans (hb.mono (HC.out _ rfl).2.1.size)); have q3 : w1.cell? ⟨W.heap.size, 3, none⟩ = some (.slice A nk c) := HR1.out.cell 3; clear hb) | (go_at_call 33; refine Calls.mono (hasOnlyKids_any _ n t ks _ _ _ _ _ HS.out HN.out) ?_; rintro e w1 ⟨rfl, hb⟩; rw [HQ.out]; have HR1 := Lib.hid ((HC.out _ rfl).1.below hb (HC.out _ rfl).2.2); have HB1 := Lib.hid ((HC.out _ rfl).2.1.trans (hb.mono (HC.out _ rfl).2.1.size)); have q3 : w1.cell? ⟨W.heap.size, 3, none⟩ = some (.slice A nk c) := HR1.out.cell 3; have HB2 := Lib.hid hb; clear hb))
      all_goals go_ret
      all_goals first | exact ⟨rfl, HB1.out⟩ | exact ⟨rfl, below_alloc _ _⟩
    rw [Bool.true_and]
    cases z3
    all_goals
      go_enter Tryd.func27, Tryd.ntmps27
      go_wp2_with (first | (go_at_call 31; refine Calls.mono (impl_CanQuote_any _ _ HS.out) ?_; rintro e w1 ⟨rfl, hb⟩; rw [HQ.out]; have HR1 := Lib.hid ((HC.out _ rfl).1.below hb (HC.out _ rfl).2.2); have HB1 := Lib.hid ((HC.out _ rfl).2.1.trans (hb.mono (HC.out _ rfl).2.1.size)); have q3 : w1.cell? ⟨W.heap.size, 3, none⟩ = some (.slice A nk c) := HR1.out.cell 3; clear hb) | (go_at_call 32; refine Calls.mono (impl_IsName_any _ _ HS.out (classes_go HT.out (HC.out _ rfl).2.1)) ?_; rintro e w1 ⟨rfl, hb⟩; rw [HQ.out]; have HR1 := Lib.hid ((HC.out _ rfl).1.below hb (HC.out _ rfl).2.2); have HB1 := Lib.hid ((HC.out _ rfl).2.1.trans (hb.mono (HC.out _ rfl).2.1.size)); have q3 : w1.cell? ⟨W.heap.size, 3, none⟩ = some (.slice A nk c) := HR1.out.cell 3; clear hb) | (go_at_call 33; refine Calls.mono (hasOnlyKids_any _ n t ks _ _ _ _ _ HS.out HN.out) ?_; rintro e w1 ⟨rfl, hb⟩; rw [HQ.out]; have HR1 := Lib.hid ((HC.out _ rfl).1.below hb (HC.out _ rfl).2.2); have HB1 := Lib.hid ((HC.out _ rfl).2.1.trans (hb.mono (HC.out _ rfl).2.1.size)); have q3 : w1.cell? ⟨W.heap.size, 3, none⟩ = some (.slice A nk c) := HR1.out.cell 3; have HB2 := Lib.hid hb; clear hb))
      all_goals go_ret
      all_goals first | exact ⟨rfl, HB1.out⟩ | exact ⟨rfl, below_alloc _ _⟩
  by_cases e17 : k = 17
  · subst e17
    rw [show (Ex.node 17 n t ks).proper = ((n == 0) && (isNameB t && ((nk : Int) == 0))) from by rw [← HN.out]; rfl]
    obtain ⟨z1, h1⟩ : ∃ z, (n == 0) = z := ⟨_, rfl⟩
    obtain ⟨z2, h2⟩ : ∃ z, isNameB t = z := ⟨_, rfl⟩
    obtain ⟨z3, h3⟩ : ∃ z, ((nk : Int) == 0) = z := ⟨_, rfl⟩
    rw [h1, h2, h3]
    have HQ := Lib.hid h2
    clear h2
    cases z1
    · rw [Bool.false_and]
      go_enter Tryd.func27, Tryd.ntmps27
      go_wp2_with (first | (go_at_call 31; refine Calls.mono (impl_CanQuote_any _ _ HS.out) ?_; rintro e w1 ⟨rfl, hb⟩; rw [HQ.out]; have HR1 := Lib.hid ((HC.out _ rfl).1.below hb (HC.out _ rfl).2.2); have HB1 := Lib.hid ((HC.out _ rfl).2.1.trans (hb.mono (HC.out _ rfl).2.1.size)); have q3 : w1.cell? ⟨W.heap.size, 3, none⟩ = some (.slice A nk c) := HR1.out.cell 3; clear hb) | (go_at_call 32; refine Calls.mono (impl_IsName_any _ _ HS.out (classes_go HT.out (HC.out _ rfl).2.1)) ?_; rintro e w1 ⟨rfl, hb⟩; rw [HQ.out]; have HR1 := Lib.hid ((HC.out _ rfl).1.below hb (HC.out _ rfl).2.2); have HB1 := Lib.hid ((HC.out _ rfl).2.1.trans (hb.mono (HC.out _ rfl).2.1.size)); have q3 : w1.cell? ⟨W.heap.size, 3, none⟩ = some (.slice A nk c) := HR1.out.cell 3; clear hb) | (go_at_call 33; refine Calls.mono (hasOnlyKids_any _ n t ks _ _ _ _ _ HS.out HN.out) ?_; rintro e w1 ⟨rfl, hb⟩; rw [HQ.out]; have HR1 := Lib.hid ((HC.out _ rfl).1.below hb (HC.out _ rfl).2.2); have HB1 := Lib.hid ((HC.out _ rfl).2.1.trans (hb.mono (HC.out _ rfl).2.1.size)); have q3 : w1.cell? ⟨W.heap.size, 3, none⟩ = some (.slice A nk c) := HR1.out.cell 3; have HB2 := Lib.hid hb; clear hb))
      all_goals go_ret
      all_goals first | exact ⟨rfl, HB1.out⟩ | exact ⟨rfl, below_alloc _ _⟩
    rw [Bool.true_and]
    cases z2
    · rw [Bool.false_and]
      go_enter Tryd.func27, Tryd.ntmps27
      go_wp2_with (first | (go_at_call 31; refine Calls.mono (impl_CanQuote_any _ _ HS.out) ?_; rintro e w1 ⟨rfl, hb⟩; rw [HQ.out]; have HR1 := Lib.hid ((HC.out _ rfl).1.below hb (HC.out _ rfl).2.2); have HB1 := Lib.hid ((HC.out _ rfl).2.1.trans (hb.mono (HC.out _ rfl).2.1.size)); have q3 : w1.cell? ⟨W.heap.size, 3, none⟩ = some (.slice A nk c) := HR1.out.cell 3; clear hb) | (go_at_call 32; refine Calls.mono (impl_IsName_any _ _ HS.out (classes_go HT.out (HC.out _ rfl).2.1)) ?_; rintro e w1 ⟨rfl, hb⟩; rw [HQ.out]; have HR1 := Lib.hid ((HC.out _ rfl).1.below hb (HC.out _ rfl).2.2); have HB1 := Lib.hid ((HC.out _ rfl).2.1.trans (hb.mono (HC.out _ rfl).2.1.size)); have q3 : w1.cell? ⟨W.heap.size, 3, none⟩ = some (.slice A nk c) := HR1.out.cell 3; clear hb) | (go_at_call 33; refine Calls.mono (hasOnlyKids_any _ n t ks _ _ _ _ _ HS.out HN.out) ?_; rintro e w1 ⟨rfl, hb⟩; rw [HQ.out]; have HR1 := Lib.hid ((HC.out _ rfl).1.below hb (HC.out _ rfl).2.2); have HB1 := Lib.hid ((HC.out _ rfl).2.1.trans (hb.mono (HC.out _ rfl).2.1.size)); have q3 : w1.cell? ⟨W.heap.size, 3, none⟩ = some (.slice A nk c) := HR1.out.cell 3; have HB2 := Lib.hid hb; clear hb))
      all_goals go_ret
      all_goals first | exact ⟨rfl, HB1.out⟩ | exact ⟨rfl, below_alloc _ _⟩
    rw [Bool.true_and]
    cases z3
    all_goals
      go_enter Tryd.func27, Tryd.ntmps27
      go_wp2_with (first | (go_at_call 31; refine Calls.mono (impl_CanQuote_any _ _ HS.out) ?_; rintro e w1 ⟨rfl, hb⟩; rw [HQ.out]; have HR1 := Lib.hid ((HC.out _ rfl).1.below hb (HC.out _ rfl).2.2); have HB1 := Lib.hid ((HC.out _ rfl).2.1.trans (hb.mono (HC.out _ rfl).2.1.size)); have q3 : w1.cell? ⟨W.heap.size, 3, none⟩ = some (.slice A nk c) := HR1.out.cell 3; clear hb) | (go_at_call 32; refine Calls.mono (impl_IsName_any _ _ HS.out (classes_go HT.out (HC.out _ rfl).2.1)) ?_; rintro e w1 ⟨rfl, hb⟩; rw [HQ.out]; have HR1 := Lib.hid ((HC.out _ rfl).1.below hb (HC.out _ rfl).2.2); have HB1 := Lib.hid ((HC.out _ rfl).2.1.trans (hb.mono (HC.out _ rfl).2.1.size)); have q3 : w1.cell? ⟨W.heap.size, 3, none⟩ = some (.slice A nk c) := HR1.out.cell 3; clear hb) | (go_at_call 33; refine Calls.mono (hasOnlyKids_any _ n t ks _ _ _ _ _ HS.out HN.out) ?_; rintro e w1 ⟨rfl, hb⟩; rw [HQ.out]; have HR1 := Lib.hid ((HC.out _ rfl).1.below hb (HC.out _ rfl).2.2); have HB1 := Lib.hid ((HC.out _ rfl).2.1.trans (hb.mono (HC.out _ rfl).2.1.size)); have q3 : w1.cell? ⟨W.heap.size, 3, none⟩ = some (.slice A nk c) := HR1.out.cell 3; have HB2 := Lib.hid hb; clear hb))
      all_goals go_ret
      all_goals first | exact ⟨rfl, HB1.out⟩ | exact ⟨rfl, below_alloc _ _⟩
  by_cases e18 : k = 18
  · subst e18
    rw [show (Ex.node 18 n t ks).proper = ((n == 0) && (isNameB t && ((nk : Int) == 0))) from by rw [← HN.out]; rfl]
    obtain ⟨z1, h1⟩ : ∃ z, (n == 0) = z := ⟨_, rfl⟩
    obtain ⟨z2, h2⟩ : ∃ z, isNameB t = z := ⟨_, rfl⟩
    obtain ⟨z3, h3⟩ : ∃ z, ((nk : Int) == 0) = z := ⟨_, rfl⟩
    rw [h1, h2, h3]
    have HQ := Lib.hid h2
    clear h2
    cases z1
    · rw [Bool.false_and]
      go_enter Tryd.func27, Tryd.ntmps27
      go_wp2_with (first | (go_at_call 31; refine Calls.mono (impl_CanQuote_any _ _ HS.out) ?_; rintro e w1 ⟨rfl, hb⟩; rw [HQ.out]; have HR1 := Lib.hid ((HC.out _ rfl).1.below hb (HC.out _ rfl).2.2); have HB1 := Lib.hid ((HC.out _ rfl).2.1.trans (hb.mono (HC.out _ rfl).2.1.size)); have q3 : w1.cell? ⟨W.heap.size, 3, none⟩ = some (.slice A nk c) := HR1.out.cell 3; clear hb) | (go_at_call 32; refine Calls.mono (impl_IsName_any _ _ HS.out (classes_go HT.out (HC.out _ rfl).2.1)) ?_; rintro e w1 ⟨rfl, hb⟩; rw [HQ.out]; have HR1 := Lib.hid ((HC.out _ rfl).1.below hb (HC.out _ rfl).2.2); have HB1 := Lib.hid ((HC.out _ rfl).2.1.trans (hb.mono (HC.out _ rfl).2.1.size)); have q3 : w1.cell? ⟨W.heap.size, 3, none⟩ = some (.slice A nk c) := HR1.out.cell 3; clear hb) | (go_at_call 33; refine Calls.mono (hasOnlyKids_any _ n t ks _ _ _ _ _ HS.out HN.out) ?_; rintro e w1 ⟨rfl, hb⟩; rw [HQ.out]; have HR1 := Lib.hid ((HC.out _ rfl).1.below hb (HC.out _ rfl).2.2); have HB1 := Lib.hid ((HC.out _ rfl).2.1.trans (hb.mono (HC.out _ rfl).2.1.size)); have q3 : w1.cell? ⟨W.heap.size, 3, none⟩ = some (.slice A nk c) := HR1.out.cell 3; have HB2 := Lib.hid hb; clear hb))
      all_goals go_ret
      all_goals first | exact ⟨rfl, HB1.out⟩ | exact ⟨rfl, below_alloc _ _⟩
    rw [Bool.true_and]
    cases z2
    · rw [Bool.false_and]
      go_enter Tryd.func27, Tryd.ntmps27
      go_wp2_with (first | (go_at_call 31; refine Calls.mono (impl_CanQuote_any _ _ HS.out) ?_; rintro e w1 ⟨rfl, hb⟩; rw [HQ.out]; have HR1 := Lib.hid ((HC.out _ rfl).1.below hb (HC.out _ rfl).2.2); have HB1 := Lib.hid ((HC.out _ rfl).2.1.trans (hb.mono (HC.out _ rfl).2.1.size)); have q3 : w1.cell? ⟨W.heap.size, 3, none⟩ = some (.slice A nk c) := HR1.out.cell 3; clear hb) | (go_at_call 32; refine Calls.mono (impl_IsName_any _ _ HS.out (classes_go HT.out (HC.out _ rfl).2.1)) ?_; rintro e w1 ⟨rfl, hb⟩; rw [HQ.out]; have HR1 := Lib.hid ((HC.out _ rfl).1.below hb (HC.out _ rfl).2.2); have HB1 := Lib.hid ((HC.out _ rfl).2.1.trans (hb.mono (HC.out _ rfl).2.1.size)); have q3 : w1.cell? ⟨W.heap.size, 3, none⟩ = some (.slice A nk c) := HR1.out.cell 3; clear hb) | (go_at_call 33; refine Calls.mono (hasOnlyKids_any _ n t ks _ _ _ _ _ HS.out HN.out) ?_; rintro e w1 ⟨rfl, hb⟩; rw [HQ.out]; have HR1 := Lib.hid ((HC.out _ rfl).1.below hb (HC.out _ rfl).2.2); have HB1 := Lib.hid ((HC.out _ rfl).2.1.trans (hb.mono (HC.out _ rfl).2.1.size)); have q3 : w1.cell? ⟨W.heap.size, 3, none⟩ = some (.slice A nk c) := HR1.out.cell 3; have HB2 := Lib.hid hb; clear hb))
      all_goals go_ret
      all_goals first | exact ⟨rfl, HB1.out⟩ | exact ⟨rfl, below_alloc _ _⟩
    rw [Bool.true_and]
    cases z3
    all_goals
      go_enter Tryd.func27, Tryd.ntmps27
      go_wp2_with (first | (go_at_call 31; refine Calls.mono (impl_CanQuote_any _ _ HS.out) ?_; rintro e w1 ⟨rfl, hb⟩; rw [HQ.out]; have HR1 := Lib.hid ((HC.out _ rfl).1.below hb (HC.out _ rfl).2.2); have HB1 := Lib.hid ((HC.out _ rfl).2.1.trans (hb.mono (HC.out _ rfl).2.1.size)); have q3 : w1.cell? ⟨W.heap.size, 3, none⟩ = some (.slice A nk c) := HR1.out.cell 3; clear hb) | (go_at_call 32; refine Calls.mono (impl_IsName_any _ _ HS.out (classes_go HT.out (HC.out _ rfl).2.1)) ?_; rintro e w1 ⟨rfl, hb⟩; rw [HQ.out]; have HR1 := Lib.hid ((HC.out _ rfl).1.below hb (HC.out _ rfl).2.2); have HB1 := Lib.hid ((HC.out _ rfl).2.1.trans (hb.mono (HC.out _ rfl).2.1.size)); have q3 : w1.cell? ⟨W.heap.size, 3, none⟩ = some (.slice A nk c) := HR1.out.cell 3; clear hb) | (go_at_call 33; refine Calls.mono (hasOnlyKids_any _ n t ks _ _ _ _ _ HS.out HN.out) ?_; rintro e w1 ⟨rfl, hb⟩; rw [HQ.out]; have HR1 := Lib.hid ((HC.out _ rfl).1.below hb (HC.out _ rfl).2.2); have HB1 := Lib.hid ((HC.out _ rfl).2.1.trans (hb.mono (HC.out _ rfl).2.1.size)); have q3 : w1.cell? ⟨W.heap.size, 3, none⟩ = some (.slice A nk c) := HR1.out.cell 3; have HB2 := Lib.hid hb; clear hb))
      all_goals go_ret
      all_goals first | exact ⟨rfl, HB1.out⟩ | exact ⟨rfl, below_alloc _ _⟩
  by_cases e4 : k = 4
  · subst e4
    rw [show (Ex.node 4 n t ks).proper = ((n == 0) && (isNameB t && decide ((nk : Int) ≤ 6))) from by rw [← HN.out]; rfl]
    obtain ⟨z1, h1⟩ : ∃ z, (n == 0) = z := ⟨_, rfl⟩
    obtain ⟨z2, h2⟩ : ∃ z, isNameB t = z := ⟨_, rfl⟩
    obtain ⟨z3, h3⟩ : ∃ z, decide ((nk : Int) ≤ 6) = z := ⟨_, rfl⟩
    rw [h1, h2, h3]
    have HQ := Lib.hid h2
    clear h2
    cases z1
    · rw [Bool.false_and]
      go_enter Tryd.func27, Tryd.ntmps27
      go_wp2_with (first | (go_at_call 31; refine Calls.mono (impl_CanQuote_any _ _ HS.out) ?_; rintro e w1 ⟨rfl, hb⟩; rw [HQ.out]; have HR1 := Lib.hid ((HC.out _ rfl).1.below hb (HC.out _ rfl).2.2); have HB1 := Lib.hid ((HC.out _ rfl).2.1.trans (hb.mono (HC.out _ rfl).2.1.size)); have q3 : w1.cell? ⟨W.heap.size, 3, none⟩ = some (.slice A nk c) := HR1.out.cell 3; clear hb) | (go_at_call 32; refine Calls.mono (impl_IsName_any _ _ HS.out (classes_go HT.out (HC.out _ rfl).2.1)) ?_; rintro e w1 ⟨rfl, hb⟩; rw [HQ.out]; have HR1 := Lib.hid ((HC.out _ rfl).1.below hb (HC.out _ rfl).2.2); have HB1 := Lib.hid ((HC.out _ rfl).2.1.trans (hb.mono (HC.out _ rfl).2.1.size)); have q3 : w1.cell? ⟨W.heap.size, 3, none⟩ = some (.slice A nk c) := HR1.out.cell 3; clear hb) | (go_at_call 33; refine Calls.mono (hasOnlyKids_any _ n t ks _ _ _ _ _ HS.out HN.out) ?_; rintro e w1 ⟨rfl, hb⟩; rw [HQ.out]; have HR1 := Lib.hid ((HC.out _ rfl).1.below hb (HC.out _ rfl).2.2); have HB1 := Lib.hid ((HC.out _ rfl).2.1.trans (hb.mono (HC.out _ rfl).2.1.size)); have q3 : w1.cell? ⟨W.heap.size, 3, none⟩ = some (.slice A nk c) := HR1.out.cell 3; have HB2 := Lib.hid hb; clear hb))
      all_goals go_ret
      all_goals first | exact ⟨rfl, HB1.out⟩ | exact ⟨rfl, below_alloc _ _⟩
    rw [Bool.true_and]
    cases z2
    · rw [Bool.false_and]
      go_enter Tryd.func27, Tryd.ntmps27
      go_wp2_with (first | (go_at_call 31; refine Calls.mono (impl_CanQuote_any _ _ HS.out) ?_; rintro e w1 ⟨rfl, hb⟩; rw [HQ.out]; have HR1 := Lib.hid ((HC.out _ rfl).1.below hb (HC.out _ rfl).2.2); have HB1 := Lib.hid ((HC.out _ rfl).2.1.trans (hb.mono (HC.out _ rfl).2.1.size)); have q3 : w1.cell? ⟨W.heap.size, 3, none⟩ = some (.slice A nk c) := HR1.out.cell 3; clear hb) | (go_at_call 32; refine Calls.mono (impl_IsName_any _ _ HS.out (classes_go HT.out (HC.out _ rfl).2.1)) ?_; rintro e w1 ⟨rfl, hb⟩; rw [HQ.out]; have HR1 := Lib.hid ((HC.out _ rfl).1.below hb (HC.out _ rfl).2.2); have HB1 := Lib.hid ((HC.out _ rfl).2.1.trans (hb.mono (HC.out _ rfl).2.1.size)); have q3 : w1.cell? ⟨W.heap.size, 3, none⟩ = some (.slice A nk c) := HR1.out.cell 3; clear hb) | (go_at_call 33; refine Calls.mono (hasOnlyKids_any _ n t ks _ _ _ _ _ HS.out HN.out) ?_; rintro e w1 ⟨rfl, hb⟩; rw [HQ.out]; have HR1 := Lib.hid ((HC.out _ rfl).1.below hb (HC.out _ rfl).2.2); have HB1 := Lib.hid ((HC.out _ rfl).2.1.trans (hb.mono (HC.out _ rfl).2.1.size)); have q3 : w1.cell? ⟨W.heap.size, 3, none⟩ = some (.slice A nk c) := HR1.out.cell 3; have HB2 := Lib.hid hb; clear hb))
      all_goals go_ret
      all_goals first | exact ⟨rfl, HB1.out⟩ | exact ⟨rfl, below_alloc _ _⟩
    rw [Bool.true_and]
    cases z3
    all_goals
      go_enter Tryd.func27, Tryd.ntmps27
      go_wp2_with (first | (go_at_call 31; refine Calls.mono (impl_CanQuote_any _ _ HS.out) ?_; rintro e w1 ⟨rfl, hb⟩; rw [HQ.out]; have HR1 := Lib.hid ((HC.out _ rfl).1.below hb (HC.out _ rfl).2.2); have HB1 := Lib.hid ((HC.out _ rfl).2.1.trans (hb.mono (HC.out _ rfl).2.1.size)); have q3 : w1.cell? ⟨W.heap.size, 3, none⟩ = some (.slice A nk c) := HR1.out.cell 3; clear hb) | (go_at_call 32; refine Calls.mono (impl_IsName_any _ _ HS.out (classes_go HT.out (HC.out _ rfl).2.1)) ?_; rintro e w1 ⟨rfl, hb⟩; rw [HQ.out]; have HR1 := Lib.hid ((HC.out _ rfl).1.below hb (HC.out _ rfl).2.2); have HB1 := Lib.hid ((HC.out _ rfl).2.1.trans (hb.mono (HC.out _ rfl).2.1.size)); have q3 : w1.cell? ⟨W.heap.size, 3, none⟩ = some (.slice A nk c) := HR1.out.cell 3; clear hb) | (go_at_call 33; refine Calls.mono (hasOnlyKids_any _ n t ks _ _ _ _ _ HS.out HN.out) ?_; rintro e w1 ⟨rfl, hb⟩; rw [HQ.out]; have HR1 := Lib.hid ((HC.out _ rfl).1.below hb (HC.out _ rfl).2.2); have HB1 := Lib.hid ((HC.out _ rfl).2.1.trans (hb.mono (HC.out _ rfl).2.1.size)); have q3 : w1.cell? ⟨W.heap.size, 3, none⟩ = some (.slice A nk c) := HR1.out.cell 3; have HB2 := Lib.hid hb; clear hb))
      all_goals go_ret
      all_goals first | exact ⟨rfl, HB1.out⟩ | exact ⟨rfl, below_alloc _ _⟩
  by_cases e14 : k = 14
  · subst e14
    rw [show (Ex.node 14 n t ks).proper = ((Ex.node 14 n t ks).only 1) from rfl]
    obtain ⟨z1, h1⟩ : ∃ z, (Ex.node 14 n t ks).only 1 = z := ⟨_, rfl⟩
    rw [h1]
    have HQ := Lib.hid h1
    clear h1
    cases z1
    all_goals
      go_enter Tryd.func27, Tryd.ntmps27
      go_wp2_with (first | (go_at_call 31; refine Calls.mono (impl_CanQuote_any _ _ HS.out) ?_; rintro e w1 ⟨rfl, hb⟩; rw [HQ.out]; have HR1 := Lib.hid ((HC.out _ rfl).1.below hb (HC.out _ rfl).2.2); have HB1 := Lib.hid ((HC.out _ rfl).2.1.trans (hb.mono (HC.out _ rfl).2.1.size)); have q3 : w1.cell? ⟨W.heap.size, 3, none⟩ = some (.slice A nk c) := HR1.out.cell 3; clear hb) | (go_at_call 32; refine Calls.mono (impl_IsName_any _ _ HS.out (classes_go HT.out (HC.out _ rfl).2.1)) ?_; rintro e w1 ⟨rfl, hb⟩; rw [HQ.out]; have HR1 := Lib.hid ((HC.out _ rfl).1.below hb (HC.out _ rfl).2.2); have HB1 := Lib.hid ((HC.out _ rfl).2.1.trans (hb.mono (HC.out _ rfl).2.1.size)); have q3 : w1.cell? ⟨W.heap.size, 3, none⟩ = some (.slice A nk c) := HR1.out.cell 3; clear hb) | (go_at_call 33; refine Calls.mono (hasOnlyKids_any _ n t ks _ _ _ _ _ HS.out HN.out) ?_; rintro e w1 ⟨rfl, hb⟩; rw [HQ.out]; have HR1 := Lib.hid ((HC.out _ rfl).1.below hb (HC.out _ rfl).2.2); have HB1 := Lib.hid ((HC.out _ rfl).2.1.trans (hb.mono (HC.out _ rfl).2.1.size)); have q3 : w1.cell? ⟨W.heap.size, 3, none⟩ = some (.slice A nk c) := HR1.out.cell 3; have HB2 := Lib.hid hb; clear hb))
      all_goals go_ret
      all_goals first | exact ⟨rfl, HB1.out⟩ | exact ⟨rfl, below_alloc _ _⟩
  by_cases e15 : k = 15
  · subst e15
    rw [show (Ex.node 15 n t ks).proper = ((Ex.node 15 n t ks).only 1) from rfl]
    obtain ⟨z1, h1⟩ : ∃ z, (Ex.node 15 n t ks).only 1 = z := ⟨_, rfl⟩
    rw [h1]
    have HQ := Lib.hid h1
    clear h1
    cases z1
    all_goals
      go_enter Tryd.func27, Tryd.ntmps27
      go_wp2_with (first | (go_at_call 31; refine Calls.mono (impl_CanQuote_any _ _ HS.out) ?_; rintro e w1 ⟨rfl, hb⟩; rw [HQ.out]; have HR1 := Lib.hid ((HC.out _ rfl).1.below hb (HC.out _ rfl).2.2); have HB1 := Lib.hid ((HC.out _ rfl).2.1.trans (hb.mono (HC.out _ rfl).2.1.size)); have q3 : w1.cell? ⟨W.heap.size, 3, none⟩ = some (.slice A nk c) := HR1.out.cell 3; clear hb) | (go_at_call 32; refine Calls.mono (impl_IsName_any _ _ HS.out (classes_go HT.out (HC.out _ rfl).2.1)) ?_; rintro e w1 ⟨rfl, hb⟩; rw [HQ.out]; have HR1 := Lib.hid ((HC.out _ rfl).1.below hb (HC.out _ rfl).2.2); have HB1 := Lib.hid ((HC.out _ rfl).2.1.trans (hb.mono (HC.out _ rfl).2.1.size)); have q3 : w1.cell? ⟨W.heap.size, 3, none⟩ = some (.slice A nk c) := HR1.out.cell 3; clear hb) | (go_at_call 33; refine Calls.mono (hasOnlyKids_any _ n t ks _ _ _ _ _ HS.out HN.out) ?_; rintro e w1 ⟨rfl, hb⟩; rw [HQ.out]; have HR1 := Lib.hid ((HC.out _ rfl).1.below hb (HC.out _ rfl).2.2); have HB1 := Lib.hid ((HC.out _ rfl).2.1.trans (hb.mono (HC.out _ rfl).2.1.size)); have q3 : w1.cell? ⟨W.heap.size, 3, none⟩ = some (.slice A nk c) := HR1.out.cell 3; have HB2 := Lib.hid hb; clear hb))
      all_goals go_ret
      all_goals first | exact ⟨rfl, HB1.out⟩ | exact ⟨rfl, below_alloc _ _⟩
  by_cases e12 : k = 12
  · subst e12
    rw [show (Ex.node 12 n t ks).proper = ((Ex.node 12 n t ks).only 2 && ((Ex.node 12 n t ks).k1 == 3)) from rfl]
    obtain ⟨z1, h1⟩ : ∃ z, (Ex.node 12 n t ks).only 2 = z := ⟨_, rfl⟩
    rw [h1]
    have HQ := Lib.hid h1
    clear h1
    cases z1
    · rw [Bool.false_and]
      go_enter Tryd.func27, Tryd.ntmps27
      go_wp2_with (first | (go_at_call 31; refine Calls.mono (impl_CanQuote_any _ _ HS.out) ?_; rintro e w1 ⟨rfl, hb⟩; rw [HQ.out]; have HR1 := Lib.hid ((HC.out _ rfl).1.below hb (HC.out _ rfl).2.2); have HB1 := Lib.hid ((HC.out _ rfl).2.1.trans (hb.mono (HC.out _ rfl).2.1.size)); have q3 : w1.cell? ⟨W.heap.size, 3, none⟩ = some (.slice A nk c) := HR1.out.cell 3; clear hb) | (go_at_call 32; refine Calls.mono (impl_IsName_any _ _ HS.out (classes_go HT.out (HC.out _ rfl).2.1)) ?_; rintro e w1 ⟨rfl, hb⟩; rw [HQ.out]; have HR1 := Lib.hid ((HC.out _ rfl).1.below hb (HC.out _ rfl).2.2); have HB1 := Lib.hid ((HC.out _ rfl).2.1.trans (hb.mono (HC.out _ rfl).2.1.size)); have q3 : w1.cell? ⟨W.heap.size, 3, none⟩ = some (.slice A nk c) := HR1.out.cell 3; clear hb) | (go_at_call 33; refine Calls.mono (hasOnlyKids_any _ n t ks _ _ _ _ _ HS.out HN.out) ?_; rintro e w1 ⟨rfl, hb⟩; rw [HQ.out]; have HR1 := Lib.hid ((HC.out _ rfl).1.below hb (HC.out _ rfl).2.2); have HB1 := Lib.hid ((HC.out _ rfl).2.1.trans (hb.mono (HC.out _ rfl).2.1.size)); have q3 : w1.cell? ⟨W.heap.size, 3, none⟩ = some (.slice A nk c) := HR1.out.cell 3; have HB2 := Lib.hid hb; clear hb))
      all_goals go_ret
      all_goals first | exact ⟨rfl, HB1.out⟩ | exact ⟨rfl, below_alloc _ _⟩
    rw [Bool.true_and]
    have hk2 : nk = 2 := by
      have h := HQ.out
      unfold Ex.only at h
      simp only [Bool.and_eq_true, beq_iff_eq] at h
      have h2 := h.2.2
      change (ks.length : Int) = 2 at h2
      rw [HN.out] at h2
      omega
    subst hk2
    obtain ⟨b, off, y, yk, rfl, HY⟩ : ∃ b off y yk, A = some ⟨b, off, none⟩ ∧ Hid ((Ex.node 12 n t ks).k1 = yk ∧ W.cell? ⟨b, off + 4, none⟩ = some (.int .i64 yk) ∧ b < W.heap.size ∧ y = 0) := by
      cases d with
      | zero => exact absurd HD.out.2 (by omega)
      | succ d =>
        obtain ⟨b, off, y, _, _, _, e, _, hg, hy, _, hc, _, _⟩ := HD.out.at_ (show 1 < 2 by omega)
        refine ⟨b, off, 0, y.k, e, ?_, ?_, hg, rfl⟩
        · show ((ks[1]?).map Ex.k).getD 0 = y.k
          rw [hy]; rfl
        · exact hc.1
    rw [HY.out.1]
    obtain ⟨z2, h2⟩ : ∃ z, (yk == 3) = z := ⟨_, rfl⟩
    rw [h2]
    cases z2
    all_goals
      go_enter Tryd.func27, Tryd.ntmps27
      go_wp2_with (first | (go_at_call 31; refine Calls.mono (impl_CanQuote_any _ _ HS.out) ?_; rintro e w1 ⟨rfl, hb⟩; rw [HQ.out]; have HR1 := Lib.hid ((HC.out _ rfl).1.below hb (HC.out _ rfl).2.2); have HB1 := Lib.hid ((HC.out _ rfl).2.1.trans (hb.mono (HC.out _ rfl).2.1.size)); have q3 : w1.cell? ⟨W.heap.size, 3, none⟩ = some (.slice (some ⟨b, off, none⟩) 2 c) := HR1.out.cell 3; clear hb) | (go_at_call 32; refine Calls.mono (impl_IsName_any _ _ HS.out (classes_go HT.out (HC.out _ rfl).2.1)) ?_; rintro e w1 ⟨rfl, hb⟩; rw [HQ.out]; have HR1 := Lib.hid ((HC.out _ rfl).1.below hb (HC.out _ rfl).2.2); have HB1 := Lib.hid ((HC.out _ rfl).2.1.trans (hb.mono (HC.out _ rfl).2.1.size)); have q3 : w1.cell? ⟨W.heap.size, 3, none⟩ = some (.slice (some ⟨b, off, none⟩) 2 c) := HR1.out.cell 3; clear hb) | (go_at_call 33; refine Calls.mono (hasOnlyKids_any _ n t ks _ _ _ _ _ HS.out HN.out) ?_; rintro e w1 ⟨rfl, hb⟩; rw [HQ.out]; have HR1 := Lib.hid ((HC.out _ rfl).1.below hb (HC.out _ rfl).2.2); have HB1 := Lib.hid ((HC.out _ rfl).2.1.trans (hb.mono (HC.out _ rfl).2.1.size)); have q3 : w1.cell? ⟨W.heap.size, 3, none⟩ = some (.slice (some ⟨b, off, none⟩) 2 c) := HR1.out.cell 3; have HB2 := Lib.hid hb; have q4 : w1.cell? ⟨b, off + 4, none⟩ = some (.int .i64 yk) := (hb.cell (p := ⟨b, off + 4, none⟩) (Nat.lt_of_lt_of_le HY.out.2.2.1 (HC.out _ rfl).2.1.size)).trans (((HC.out _ rfl).2.1.cell (p := ⟨b, off + 4, none⟩) HY.out.2.2.1).trans HY.out.2.1); clear hb))
      all_goals go_ret
      all_goals first | exact ⟨rfl, HB1.out⟩ | exact ⟨rfl, below_alloc _ _⟩
  by_cases e13 : k = 13
  · subst e13
    rw [show (Ex.node 13 n t ks).proper = ((Ex.node 13 n t ks).only 2 && ((Ex.node 13 n t ks).k1 == 3)) from rfl]
    obtain ⟨z1, h1⟩ : ∃ z, (Ex.node 13 n t ks).only 2 = z := ⟨_, rfl⟩
    rw [h1]
    have HQ := Lib.hid h1
    clear h1
    cases z1
    · rw [Bool.false_and]
      go_enter Tryd.func27, Tryd.ntmps27
      go_wp2_with (first | (go_at_call 31; refine Calls.mono (impl_CanQuote_any _ _ HS.out) ?_; rintro e w1 ⟨rfl, hb⟩; rw [HQ.out]; have HR1 := Lib.hid ((HC.out _ rfl).1.below hb (HC.out _ rfl).2.2); have HB1 := Lib.hid ((HC.out _ rfl).2.1.trans (hb.mono (HC.out _ rfl).2.1.size)); have q3 : w1.cell? ⟨W.heap.size, 3, none⟩ = some (.slice A nk c) := HR1.out.cell 3; clear hb) | (go_at_call 32; refine Calls.mono (impl_IsName_any _ _ HS.out (classes_go HT.out (HC.out _ rfl).2.1)) ?_; rintro e w1 ⟨rfl, hb⟩; rw [HQ.out]; have HR1 := Lib.hid ((HC.out _ rfl).1.below hb (HC.out _ rfl).2.2); have HB1 := Lib.hid ((HC.out _ rfl).2.1.trans (hb.mono (HC.out _ rfl).2.1.size)); have q3 : w1.cell? ⟨W.heap.size, 3, none⟩ = some (.slice A nk c) := HR1.out.cell 3; clear hb) | (go_at_call 33; refine Calls.mono (hasOnlyKids_any _ n t ks _ _ _ _ _ HS.out HN.out) ?_; rintro e w1 ⟨rfl, hb⟩; rw [HQ.out]; have HR1 := Lib.hid ((HC.out _ rfl).1.below hb (HC.out _ rfl).2.2); have HB1 := Lib.hid ((HC.out _ rfl).2.1.trans (hb.mono (HC.out _ rfl).2.1.size)); have q3 : w1.cell? ⟨W.heap.size, 3, none⟩ = some (.slice A nk c) := HR1.out.cell 3; have HB2 := Lib.hid hb; clear hb))
      all_goals go_ret
      all_goals first | exact ⟨rfl, HB1.out⟩ | exact ⟨rfl, below_alloc _ _⟩
    rw [Bool.true_and]
    have hk2 : nk = 2 := by
      have h := HQ.out
      unfold Ex.only at h
      simp only [Bool.and_eq_true, beq_iff_eq] at h
      have h2 := h.2.2
      change (ks.length : Int) = 2 at h2
      rw [HN.out] at h2
      omega
    subst hk2
    obtain ⟨b, off, y, yk, rfl, HY⟩ : ∃ b off y yk, A = some ⟨b, off, none⟩ ∧ Hid ((Ex.node 13 n t ks).k1 = yk ∧ W.cell? ⟨b, off + 4, none⟩ = some (.int .i64 yk) ∧ b < W.heap.size ∧ y = 0) := by
      cases d with
      | zero => exact absurd HD.out.2 (by omega)
      | succ d =>
        obtain ⟨b, off, y, _, _, _, e, _, hg, hy, _, hc, _, _⟩ := HD.out.at_ (show 1 < 2 by omega)
        refine ⟨b, off, 0, y.k, e, ?_, ?_, hg, rfl⟩
        · show ((ks[1]?).map Ex.k).getD 0 = y.k
          rw [hy]; rfl
        · exact hc.1
    rw [HY.out.1]
    obtain ⟨z2, h2⟩ : ∃ z, (yk == 3) = z := ⟨_, rfl⟩
    rw [h2]
    cases z2
    all_goals
      go_enter Tryd.func27, Tryd.ntmps27
      go_wp2_with (first | (go_at_call 31; refine Calls.mono (impl_CanQuote_any _ _ HS.out) ?_; rintro e w1 ⟨rfl, hb⟩; rw [HQ.out]; have HR1 := Lib.hid ((HC.out _ rfl).1.below hb (HC.out _ rfl).2.2); have HB1 := Lib.hid ((HC.out _ rfl).2.1.trans (hb.mono (HC.out _ rfl).2.1.size)); have q3 : w1.cell? ⟨W.heap.size, 3, none⟩ = some (.slice (some ⟨b, off, none⟩) 2 c) := HR1.out.cell 3; clear hb) | (go_at_call 32; refine Calls.mono (impl_IsName_any _ _ HS.out (classes_go HT.out (HC.out _ rfl).2.1)) ?_; rintro e w1 ⟨rfl, hb⟩; rw [HQ.out]; have HR1 := Lib.hid ((HC.out _ rfl).1.below hb (HC.out _ rfl).2.2); have HB1 := Lib.hid ((HC.out _ rfl).2.1.trans (hb.mono (HC.out _ rfl).2.1.size)); have q3 : w1.cell? ⟨W.heap.size, 3, none⟩ = some (.slice (some ⟨b, off, none⟩) 2 c) := HR1.out.cell 3; clear hb) | (go_at_call 33; refine Calls.mono (hasOnlyKids_any _ n t ks _ _ _ _ _ HS.out HN.out) ?_; rintro e w1 ⟨rfl, hb⟩; rw [HQ.out]; have HR1 := Lib.hid ((HC.out _ rfl).1.below hb (HC.out _ rfl).2.2); have HB1 := Lib.hid ((HC.out _ rfl).2.1.trans (hb.mono (HC.out _ rfl).2.1.size)); have q3 : w1.cell? ⟨W.heap.size, 3, none⟩ = some (.slice (some ⟨b, off, none⟩) 2 c) := HR1.out.cell 3; have HB2 := Lib.hid hb; have q4 : w1.cell? ⟨b, off + 4, none⟩ = some (.int .i64 yk) := (hb.cell (p := ⟨b, off + 4, none⟩) (Nat.lt_of_lt_of_le HY.out.2.2.1 (HC.out _ rfl).2.1.size)).trans (((HC.out _ rfl).2.1.cell (p := ⟨b, off + 4, none⟩) HY.out.2.2.1).trans HY.out.2.1); clear hb))
      all_goals go_ret
      all_goals first | exact ⟨rfl, HB1.out⟩ | exact ⟨rfl, below_alloc _ _⟩
  by_cases e5 : k = 5
  · subst e5
    rw [show (Ex.node 5 n t ks).proper = ((Ex.node 5 n t ks).only 2) from rfl]
    obtain ⟨z1, h1⟩ : ∃ z, (Ex.node 5 n t ks).only 2 = z := ⟨_, rfl⟩
    rw [h1]
    have HQ := Lib.hid h1
    clear h1
    cases z1
    all_goals
      go_enter Tryd.func27, Tryd.ntmps27
      go_wp2_with (first | (go_at_call 31; refine Calls.mono (impl_CanQuote_any _ _ HS.out) ?_; rintro e w1 ⟨rfl, hb⟩; rw [HQ.out]; have HR1 := Lib.hid ((HC.out _ rfl).1.below hb (HC.out _ rfl).2.2); have HB1 := Lib.hid ((HC.out _ rfl).2.1.trans (hb.mono (HC.out _ rfl).2.1.size)); have q3 : w1.cell? ⟨W.heap.size, 3, none⟩ = some (.slice A nk c) := HR1.out.cell 3; clear hb) | (go_at_call 32; refine Calls.mono (impl_IsName_any _ _ HS.out (classes_go HT.out (HC.out _ rfl).2.1)) ?_; rintro e w1 ⟨rfl, hb⟩; rw [HQ.out]; have HR1 := Lib.hid ((HC.out _ rfl).1.below hb (HC.out _ rfl).2.2); have HB1 := Lib.hid ((HC.out _ rfl).2.1.trans (hb.mono (HC.out _ rfl).2.1.size)); have q3 : w1.cell? ⟨W.heap.size, 3, none⟩ = some (.slice A nk c) := HR1.out.cell 3; clear hb) | (go_at_call 33; refine Calls.mono (hasOnlyKids_any _ n t ks _ _ _ _ _ HS.out HN.out) ?_; rintro e w1 ⟨rfl, hb⟩; rw [HQ.out]; have HR1 := Lib.hid ((HC.out _ rfl).1.below hb (HC.out _ rfl).2.2); have HB1 := Lib.hid ((HC.out _ rfl).2.1.trans (hb.mono (HC.out _ rfl).2.1.size)); have q3 : w1.cell? ⟨W.heap.size, 3, none⟩ = some (.slice A nk c) := HR1.out.cell 3; have HB2 := Lib.hid hb; clear hb))
      all_goals go_ret
      all_goals first | exact ⟨rfl, HB1.out⟩ | exact ⟨rfl, below_alloc _ _⟩
  by_cases e6 : k = 6
  · subst e6
    rw [show (Ex.node 6 n t ks).proper = ((Ex.node 6 n t ks).only 2) from rfl]
    obtain ⟨z1, h1⟩ : ∃ z, (Ex.node 6 n t ks).only 2 = z := ⟨_, rfl⟩
    rw [h1]
    have HQ := Lib.hid h1
    clear h1
    cases z1
    all_goals
      go_enter Tryd.func27, Tryd.ntmps27
      go_wp2_with (first | (go_at_call 31; refine Calls.mono (impl_CanQuote_any _ _ HS.out) ?_; rintro e w1 ⟨rfl, hb⟩; rw [HQ.out]; have HR1 := Lib.hid ((HC.out _ rfl).1.below hb (HC.out _ rfl).2.2); have HB1 := Lib.hid ((HC.out _ rfl).2.1.trans (hb.mono (HC.out _ rfl).2.1.size)); have q3 : w1.cell? ⟨W.heap.size, 3, none⟩ = some (.slice A nk c) := HR1.out.cell 3; clear hb) | (go_at_call 32; refine Calls.mono (impl_IsName_any _ _ HS.out (classes_go HT.out (HC.out _ rfl).2.1)) ?_; rintro e w1 ⟨rfl, hb⟩; rw [HQ.out]; have HR1 := Lib.hid ((HC.out _ rfl).1.below hb (HC.out _ rfl).2.2); have HB1 := Lib.hid ((HC.out _ rfl).2.1.trans (hb.mono (HC.out _ rfl).2.1.size)); have q3 : w1.cell? ⟨W.heap.size, 3, none⟩ = some (.slice A nk c) := HR1.out.cell 3; clear hb) | (go_at_call 33; refine Calls.mono (hasOnlyKids_any _ n t ks _ _ _ _ _ HS.out HN.out) ?_; rintro e w1 ⟨rfl, hb⟩; rw [HQ.out]; have HR1 := Lib.hid ((HC.out _ rfl).1.below hb (HC.out _ rfl).2.2); have HB1 := Lib.hid ((HC.out _ rfl).2.1.trans (hb.mono (HC.out _ rfl).2.1.size)); have q3 : w1.cell? ⟨W.heap.size, 3, none⟩ = some (.slice A nk c) := HR1.out.cell 3; have HB2 := Lib.hid hb; clear hb))
      all_goals go_ret
      all_goals first | exact ⟨rfl, HB1.out⟩ | exact ⟨rfl, below_alloc _ _⟩
  by_cases e7 : k = 7
  · subst e7
    rw [show (Ex.node 7 n t ks).proper = ((Ex.node 7 n t ks).only 2) from rfl]
    obtain ⟨z1, h1⟩ : ∃ z, (Ex.node 7 n t ks).only 2 = z := ⟨_, rfl⟩
    rw [h1]
    have HQ := Lib.hid h1
    clear h1
    cases z1
    all_goals
      go_enter Tryd.func27, Tryd.ntmps27
      go_wp2_with (first | (go_at_call 31; refine Calls.mono (impl_CanQuote_any _ _ HS.out) ?_; rintro e w1 ⟨rfl, hb⟩; rw [HQ.out]; have HR1 := Lib.hid ((HC.out _ rfl).1.below hb (HC.out _ rfl).2.2); have HB1 := Lib.hid ((HC.out _ rfl).2.1.trans (hb.mono (HC.out _ rfl).2.1.size)); have q3 : w1.cell? ⟨W.heap.size, 3, none⟩ = some (.slice A nk c) := HR1.out.cell 3; clear hb) | (go_at_call 32; refine Calls.mono (impl_IsName_any _ _ HS.out (classes_go HT.out (HC.out _ rfl).2.1)) ?_; rintro e w1 ⟨rfl, hb⟩; rw [HQ.out]; have HR1 := Lib.hid ((HC.out _ rfl).1.below hb (HC.out _ rfl).2.2); have HB1 := Lib.hid ((HC.out _ rfl).2.1.trans (hb.mono (HC.out _ rfl).2.1.size)); have q3 : w1.cell? ⟨W.heap.size, 3, none⟩ = some (.slice A nk c) := HR1.out.cell 3; clear hb) | (go_at_call 33; refine Calls.mono (hasOnlyKids_any _ n t ks _ _ _ _ _ HS.out HN.out) ?_; rintro e w1 ⟨rfl, hb⟩; rw [HQ.out]; have HR1 := Lib.hid ((HC.out _ rfl).1.below hb (HC.out _ rfl).2.2); have HB1 := Lib.hid ((HC.out _ rfl).2.1.trans (hb.mono (HC.out _ rfl).2.1.size)); have q3 : w1.cell? ⟨W.heap.size, 3, none⟩ = some (.slice A nk c) := HR1.out.cell 3; have HB2 := Lib.hid hb; clear hb))
      all_goals go_ret
      all_goals first | exact ⟨rfl, HB1.out⟩ | exact ⟨rfl, below_alloc _ _⟩
  by_cases e8 : k = 8
  · subst e8
    rw [show (Ex.node 8 n t ks).proper = ((Ex.node 8 n t ks).only 2) from rfl]
    obtain ⟨z1, h1⟩ : ∃ z, (Ex.node 8 n t ks).only 2 = z := ⟨_, rfl⟩
    rw [h1]
    have HQ := Lib.hid h1
    clear h1
    cases z1
    all_goals
      go_enter Tryd.func27, Tryd.ntmps27
      go_wp2_with (first | (go_at_call 31; refine Calls.mono (impl_CanQuote_any _ _ HS.out) ?_; rintro e w1 ⟨rfl, hb⟩; rw [HQ.out]; have HR1 := Lib.hid ((HC.out _ rfl).1.below hb (HC.out _ rfl).2.2); have HB1 := Lib.hid ((HC.out _ rfl).2.1.trans (hb.mono (HC.out _ rfl).2.1.size)); have q3 : w1.cell? ⟨W.heap.size, 3, none⟩ = some (.slice A nk c) := HR1.out.cell 3; clear hb) | (go_at_call 32; refine Calls.mono (impl_IsName_any _ _ HS.out (classes_go HT.out (HC.out _ rfl).2.1)) ?_; rintro e w1 ⟨rfl, hb⟩; rw [HQ.out]; have HR1 := Lib.hid ((HC.out _ rfl).1.below hb (HC.out _ rfl).2.2); have HB1 := Lib.hid ((HC.out _ rfl).2.1.trans (hb.mono (HC.out _ rfl).2.1.size)); have q3 : w1.cell? ⟨W.heap.size, 3, none⟩ = some (.slice A nk c) := HR1.out.cell 3; clear hb) | (go_at_call 33; refine Calls.mono (hasOnlyKids_any _ n t ks _ _ _ _ _ HS.out HN.out) ?_; rintro e w1 ⟨rfl, hb⟩; rw [HQ.out]; have HR1 := Lib.hid ((HC.out _ rfl).1.below hb (HC.out _ rfl).2.2); have HB1 := Lib.hid ((HC.out _ rfl).2.1.trans (hb.mono (HC.out _ rfl).2.1.size)); have q3 : w1.cell? ⟨W.heap.size, 3, none⟩ = some (.slice A nk c) := HR1.out.cell 3; have HB2 := Lib.hid hb; clear hb))
      all_goals go_ret
      all_goals first | exact ⟨rfl, HB1.out⟩ | exact ⟨rfl, below_alloc _ _⟩
  by_cases e9 : k = 9
  · subst e9
    rw [show (Ex.node 9 n t ks).proper = ((Ex.node 9 n t ks).only 2) from rfl]
    obtain ⟨z1, h1⟩ : ∃ z, (Ex.node 9 n t ks).only 2 = z := ⟨_, rfl⟩
    rw [h1]
    have HQ := Lib.hid h1
    clear h1
    cases z1
    all_goals
      go_enter Tryd.func27, Tryd.ntmps27
      go_wp2_with (first | (go_at_call 31; refine Calls.mono (impl_CanQuote_any _ _ HS.out) ?_; rintro e w1 ⟨rfl, hb⟩; rw [HQ.out]; have HR1 := Lib.hid ((HC.out _ rfl).1.below hb (HC.out _ rfl).2.2); have HB1 := Lib.hid ((HC.out _ rfl).2.1.trans (hb.mono (HC.out _ rfl).2.1.size)); have q3 : w1.cell? ⟨W.heap.size, 3, none⟩ = some (.slice A nk c) := HR1.out.cell 3; clear hb) | (go_at_call 32; refine Calls.mono (impl_IsName_any _ _ HS.out (classes_go HT.out (HC.out _ rfl).2.1)) ?_; rintro e w1 ⟨rfl, hb⟩; rw [HQ.out]; have HR1 := Lib.hid ((HC.out _ rfl).1.below hb (HC.out _ rfl).2.2); have HB1 := Lib.hid ((HC.out _ rfl).2.1.trans (hb.mono (HC.out _ rfl).2.1.size)); have q3 : w1.cell? ⟨W.heap.size, 3, none⟩ = some (.slice A nk c) := HR1.out.cell 3; clear hb) | (go_at_call 33; refine Calls.mono (hasOnlyKids_any _ n t ks _ _ _ _ _ HS.out HN.out) ?_; rintro e w1 ⟨rfl, hb⟩; rw [HQ.out]; have HR1 := Lib.hid ((HC.out _ rfl).1.below hb (HC.out _ rfl).2.2); have HB1 := Lib.hid ((HC.out _ rfl).2.1.trans (hb.mono (HC.out _ rfl).2.1.size)); have q3 : w1.cell? ⟨W.heap.size, 3, none⟩ = some (.slice A nk c) := HR1.out.cell 3; have HB2 := Lib.hid hb; clear hb))
      all_goals go_ret
      all_goals first | exact ⟨rfl, HB1.out⟩ | exact ⟨rfl, below_alloc _ _⟩
  by_cases e10 : k = 10
  · subst e10
    rw [show (Ex.node 10 n t ks).proper = ((Ex.node 10 n t ks).only 2) from rfl]
    obtain ⟨z1, h1⟩ : ∃ z, (Ex.node 10 n t ks).only 2 = z := ⟨_, rfl⟩
    rw [h1]
    have HQ := Lib.hid h1
    clear h1
    cases z1
    all_goals
      go_enter Tryd.func27, Tryd.ntmps27
      go_wp2_with (first | (go_at_call 31; refine Calls.mono (impl_CanQuote_any _ _ HS.out) ?_; rintro e w1 ⟨rfl, hb⟩; rw [HQ.out]; have HR1 := Lib.hid ((HC.out _ rfl).1.below hb (HC.out _ rfl).2.2); have HB1 := Lib.hid ((HC.out _ rfl).2.1.trans (hb.mono (HC.out _ rfl).2.1.size)); have q3 : w1.cell? ⟨W.heap.size, 3, none⟩ = some (.slice A nk c) := HR1.out.cell 3; clear hb) | (go_at_call 32; refine Calls.mono (impl_IsName_any _ _ HS.out (classes_go HT.out (HC.out _ rfl).2.1)) ?_; rintro e w1 ⟨rfl, hb⟩; rw [HQ.out]; have HR1 := Lib.hid ((HC.out _ rfl).1.below hb (HC.out _ rfl).2.2); have HB1 := Lib.hid ((HC.out _ rfl).2.1.trans (hb.mono (HC.out _ rfl).2.1.size)); have q3 : w1.cell? ⟨W.heap.size, 3, none⟩ = some (.slice A nk c) := HR1.out.cell 3; clear hb) | (go_at_call 33; refine Calls.mono (hasOnlyKids_any _ n t ks _ _ _ _ _ HS.out HN.out) ?_; rintro e w1 ⟨rfl, hb⟩; rw [HQ.out]; have HR1 := Lib.hid ((HC.out _ rfl).1.below hb (HC.out _ rfl).2.2); have HB1 := Lib.hid ((HC.out _ rfl).2.1.trans (hb.mono (HC.out _ rfl).2.1.size)); have q3 : w1.cell? ⟨W.heap.size, 3, none⟩ = some (.slice A nk c) := HR1.out.cell 3; have HB2 := Lib.hid hb; clear hb))
      all_goals go_ret
      all_goals first | exact ⟨rfl, HB1.out⟩ | exact ⟨rfl, below_alloc _ _⟩
  by_cases e11 : k = 11
  · subst e11
    rw [show (Ex.node 11 n t ks).proper = ((Ex.node 11 n t ks).only 2) from rfl]
    obtain ⟨z1, h1⟩ : ∃ z, (Ex.node 11 n t ks).only 2 = z := ⟨_, rfl⟩
    rw [h1]
    have HQ := Lib.hid h1
    clear h1
    cases z1
    all_goals
      go_enter Tryd.func27, Tryd.ntmps27
      go_wp2_with (first | (go_at_call 31; refine Calls.mono (impl_CanQuote_any _ _ HS.out) ?_; rintro e w1 ⟨rfl, hb⟩; rw [HQ.out]; have HR1 := Lib.hid ((HC.out _ rfl).1.below hb (HC.out _ rfl).2.2); have HB1 := Lib.hid ((HC.out _ rfl).2.1.trans (hb.mono (HC.out _ rfl).2.1.size)); have q3 : w1.cell? ⟨W.heap.size, 3, none⟩ = some (.slice A nk c) := HR1.out.cell 3; clear hb) | (go_at_call 32; refine Calls.mono (impl_IsName_any _ _ HS.out (classes_go HT.out (HC.out _ rfl).2.1)) ?_; rintro e w1 ⟨rfl, hb⟩; rw [HQ.out]; have HR1 := Lib.hid ((HC.out _ rfl).1.below hb (HC.out _ rfl).2.2); have HB1 := Lib.hid ((HC.out _ rfl).2.1.trans (hb.mono (HC.out _ rfl).2.1.size)); have q3 : w1.cell? ⟨W.heap.size, 3, none⟩ = some (.slice A nk c) := HR1.out.cell 3; clear hb) | (go_at_call 33; refine Calls.mono (hasOnlyKids_any _ n t ks _ _ _ _ _ HS.out HN.out) ?_; rintro e w1 ⟨rfl, hb⟩; rw [HQ.out]; have HR1 := Lib.hid ((HC.out _ rfl).1.below hb (HC.out _ rfl).2.2); have HB1 := Lib.hid ((HC.out _ rfl).2.1.trans (hb.mono (HC.out _ rfl).2.1.size)); have q3 : w1.cell? ⟨W.heap.size, 3, none⟩ = some (.slice A nk c) := HR1.out.cell 3; have HB2 := Lib.hid hb; clear hb))
      all_goals go_ret
      all_goals first | exact ⟨rfl, HB1.out⟩ | exact ⟨rfl, below_alloc _ _⟩
  · rw [show (Ex.node k n t ks).proper = false from by
      unfold Ex.proper
      change (if k = 1 then _ else if k = 2 then _ else if k = 3 ∨ k = 16 ∨ k = 17 ∨ k = 18 then _ else if k = 4 then _ else if k = 14 ∨ k = 15 then _ else if k = 12 ∨ k = 13 then _ else if 5 ≤ k ∧ k ≤ 11 then _ else false) = false
      rw [if_neg e1, if_neg e2, if_neg (by omega), if_neg e4, if_neg (by omega), if_neg (by omega), if_neg (by omega)]]
    go_enter Tryd.func27, Tryd.ntmps27
    go_wp2_with (first | (go_at_call 31; refine Calls.mono (impl_CanQuote_any _ _ HS.out) ?_; rintro e w1 ⟨rfl, hb⟩; rw [HQ.out]; have HR1 := Lib.hid ((HC.out _ rfl).1.below hb (HC.out _ rfl).2.2); have HB1 := Lib.hid ((HC.out _ rfl).2.1.trans (hb.mono (HC.out _ rfl).2.1.size)); have q3 : w1.cell? ⟨W.heap.size, 3, none⟩ = some (.slice A nk c) := HR1.out.cell 3; clear hb) | (go_at_call 32; refine Calls.mono (impl_IsName_any _ _ HS.out (classes_go HT.out (HC.out _ rfl).2.1)) ?_; rintro e w1 ⟨rfl, hb⟩; rw [HQ.out]; have HR1 := Lib.hid ((HC.out _ rfl).1.below hb (HC.out _ rfl).2.2); have HB1 := Lib.hid ((HC.out _ rfl).2.1.trans (hb.mono (HC.out _ rfl).2.1.size)); have q3 : w1.cell? ⟨W.heap.size, 3, none⟩ = some (.slice A nk c) := HR1.out.cell 3; clear hb) | (go_at_call 33; refine Calls.mono (hasOnlyKids_any _ n t ks _ _ _ _ _ HS.out HN.out) ?_; rintro e w1 ⟨rfl, hb⟩; rw [HQ.out]; have HR1 := Lib.hid ((HC.out _ rfl).1.below hb (HC.out _ rfl).2.2); have HB1 := Lib.hid ((HC.out _ rfl).2.1.trans (hb.mono (HC.out _ rfl).2.1.size)); have q3 : w1.cell? ⟨W.heap.size, 3, none⟩ = some (.slice A nk c) := HR1.out.cell 3; have HB2 := Lib.hid hb; clear hb))
    all_goals go_ret
    all_goals first | exact ⟨rfl, HB1.out⟩ | exact ⟨rfl, below_alloc _ _⟩

end Go.Proofs.YtjmiobmfphkdeaaDoor
