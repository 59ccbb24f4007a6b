/- Contracts: cmp.Compare, cmp.Or, PrecedesValue of the model and of the program. No condition. -/
import Derived.Test.YtfobjedobojbnaaValText
import Derived.StillTailTactics
import Derived.Sort.Walk0
namespace Go.Proofs.Ytfobjedobojbnaa
open Go Go.RowKit Go.Sort

def cmpI (a b : Int) : Int := if a < b then -1 else if b < a then 1 else 0
def cmpS (a b : ByteArray) : Int := if Op.bytesLess a.toList b.toList = true then -1 else if (a.toList == b.toList) = true then 0 else 1
def firstNZ (a b c d : Int) : Int := if a = 0 then (if b = 0 then (if c = 0 then d else c) else b) else a
/-- What PrecedesValue answers. -/
def precV (k n : Int) (t : ByteArray) (r k' n' : Int) (t' : ByteArray) (r' : Int) : Bool := decide (firstNZ (cmpI k k') (cmpI n n') (cmpS t t') (cmpI r r') < 0)
theorem less_ne {a b : List UInt8} (h : Op.bytesLess a b = true) : (a == b) = false := by
  rw [bytesLess_eq, decide_eq_true_eq] at h
  rw [beq_eq_false_iff_ne]
  rintro rfl
  exact List.lt_irrefl _ h
theorem cmpI_lt {a b : Int} (h : a < b) : cmpI a b = -1 := by unfold cmpI; rw [if_pos h]
theorem cmpI_gt {a b : Int} (h : b < a) : cmpI a b = 1 := by unfold cmpI; rw [if_neg (by omega), if_pos h]
theorem cmpI_eq (a : Int) : cmpI a a = 0 := by unfold cmpI; rw [if_neg (by omega), if_neg (by omega)]

theorem nan_i64 (a : Int) (W : World) : Calls Try.prog 18 #[.int .i64 a] W fun e w' => e = .returned (.bool false) ∧ W = w' := by
  go_enter Try.func18, Try.ntmps18
  go_wp2
  go_ret
  exact ⟨rfl, rfl⟩
theorem nan_str (a : ByteArray) (W : World) : Calls Try.prog 19 #[.string a] W fun e w' => e = .returned (.bool false) ∧ W = w' := by
  go_enter Try.func19, Try.ntmps19
  go_wp2
  go_ret
  exact ⟨rfl, rfl⟩
theorem compare_i64 (a b : Int) (W : World) : Calls Try.prog 16 #[.int .i64 a, .int .i64 b] W fun e w' => e = .returned (.int .i64 (cmpI a b)) ∧ W = w' := by
  rcases Int.lt_trichotomy a b with h | h | h
  · rw [cmpI_lt h]
    have d0 : decide (a < b) = true := by simp [h]
    go_enter Try.func16, Try.ntmps16
    go_wp2_with (go_at_call 18; refine (nan_i64 _ _).mono ?_; rintro e w' ⟨rfl, rfl⟩)
    go_ret
    exact ⟨rfl, rfl⟩
  · subst h
    rw [cmpI_eq]
    go_enter Try.func16, Try.ntmps16
    go_wp2_with (go_at_call 18; refine (nan_i64 _ _).mono ?_; rintro e w' ⟨rfl, rfl⟩)
    go_ret
    exact ⟨rfl, rfl⟩
  · rw [cmpI_gt h]
    have d0 : decide (a < b) = false := by simp; omega
    have d1 : decide (b < a) = true := by simp [h]
    have h2 : ¬ a < b := by omega
    go_enter Try.func16, Try.ntmps16
    go_wp2_with (go_at_call 18; refine (nan_i64 _ _).mono ?_; rintro e w' ⟨rfl, rfl⟩)
    go_ret
    exact ⟨rfl, rfl⟩
theorem compare_str (a b : ByteArray) (W : World) : Calls Try.prog 17 #[.string a, .string b] W fun e w' => e = .returned (.int .i64 (cmpS a b)) ∧ W = w' := by
  unfold cmpS
  obtain ⟨l, hl⟩ : ∃ l, Op.bytesLess a.toList b.toList = l := ⟨_, rfl⟩
  obtain ⟨q, hq⟩ : ∃ q, (a.toList == b.toList) = q := ⟨_, rfl⟩
  rw [hl, hq]
  cases l <;> cases q
  all_goals
    go_enter Try.func17, Try.ntmps17
    go_wp2_with (go_at_call 19; refine (nan_str _ _).mono ?_; rintro e w' ⟨rfl, rfl⟩)
    go_ret
    exact ⟨rfl, rfl⟩
theorem or_any (a b c d : Int) (g cap : Nat) (W : World) (h0 : W.cell? ⟨g, 0, none⟩ = some (.int .i64 a)) (h1 : W.cell? ⟨g, 1, none⟩ = some (.int .i64 b)) (h2 : W.cell? ⟨g, 2, none⟩ = some (.int .i64 c)) (h3 : W.cell? ⟨g, 3, none⟩ = some (.int .i64 d)) :
    Calls Try.prog 15 #[.slice (some ⟨g, 0, none⟩) 4 cap] W fun e w' => e = .returned (.int .i64 (firstNZ a b c d)) ∧ W = w' := by
  go_enter Try.func15, Try.ntmps15
  go_wp2_with fail
  go_loop [8] (fun i => ∃ j : Nat, j ≤ 4 ∧ i = .int .i64 j ∧ Hid ((1 ≤ j → a = 0) ∧ (2 ≤ j → b = 0) ∧ (3 ≤ j → c = 0) ∧ (4 ≤ j → d = 0))) (fun i => 4 - (intOf i).toNat)
  case atStart => exact ⟨0, Nat.zero_le _, rfl, Lib.hid ⟨fun h => absurd h (by decide), fun h => absurd h (by decide), fun h => absurd h (by decide), fun h => absurd h (by decide)⟩⟩
  case round =>
    obtain ⟨j, q1, rfl, HZ⟩ := hrel
    have hj : j = 0 ∨ j = 1 ∨ j = 2 ∨ j = 3 ∨ j = 4 := by omega
    clear q1
    rcases hj with rfl | rfl | rfl | rfl | rfl
    · obtain ⟨z, hz⟩ : ∃ z, (a == 0) = z := ⟨_, rfl⟩
      cases z
      · have HN : Hid (¬ a = 0) := by show ¬ _; simpa using hz
        have hz2 : (a != 0) = true := by rw [bne, hz]; rfl
        have HE : Hid (firstNZ a b c d = a) := by show _ = _; unfold firstNZ; rw [if_neg HN.out]
        go_wp2_with fail
        go_ret
        exact ⟨by rw [HE.out]; first | done | rfl, rfl⟩
      · have HN : Hid (a = 0) := by show _ = _; simpa using hz
        have hz2 : (a != 0) = false := by rw [bne, hz]; rfl
        go_wp2_with fail
        go_round
        case rel => exact ⟨1, by decide, rfl, Lib.hid ⟨fun _ => HN.out, fun h => absurd h (by decide), fun h => absurd h (by decide), fun h => absurd h (by decide)⟩⟩
        case measure => simp [intOf]
    · obtain ⟨z, hz⟩ : ∃ z, (b == 0) = z := ⟨_, rfl⟩
      cases z
      · have HN : Hid (¬ b = 0) := by show ¬ _; simpa using hz
        have hz2 : (b != 0) = true := by rw [bne, hz]; rfl
        have HE : Hid (firstNZ a b c d = b) := by show _ = _; unfold firstNZ; rw [if_pos (HZ.out.1 (by decide))]; rw [if_neg HN.out]
        go_wp2_with fail
        go_ret
        exact ⟨by rw [HE.out]; first | done | rfl, rfl⟩
      · have HN : Hid (b = 0) := by show _ = _; simpa using hz
        have hz2 : (b != 0) = false := by rw [bne, hz]; rfl
        go_wp2_with fail
        go_round
        case rel => exact ⟨2, by decide, rfl, Lib.hid ⟨fun _ => HZ.out.1 (by decide), fun _ => HN.out, fun h => absurd h (by decide), fun h => absurd h (by decide)⟩⟩
        case measure => simp [intOf]
    · obtain ⟨z, hz⟩ : ∃ z, (c == 0) = z := ⟨_, rfl⟩
      cases z
      · have HN : Hid (¬ c = 0) := by show ¬ _; simpa using hz
        have hz2 : (c != 0) = true := by rw [bne, hz]; rfl
        have HE : Hid (firstNZ a b c d = c) := by show _ = _; unfold firstNZ; rw [if_pos (HZ.out.1 (by decide))]; rw [if_pos (HZ.out.2.1 (by decide))]; rw [if_neg HN.out]
        go_wp2_with fail
        go_ret
        exact ⟨by rw [HE.out]; first | done | rfl, rfl⟩
      · have HN : Hid (c = 0) := by show _ = _; simpa using hz
        have hz2 : (c != 0) = false := by rw [bne, hz]; rfl
        go_wp2_with fail
        go_round
        case rel => exact ⟨3, by decide, rfl, Lib.hid ⟨fun _ => HZ.out.1 (by decide), fun _ => HZ.out.2.1 (by decide), fun _ => HN.out, fun h => absurd h (by decide)⟩⟩
        case measure => simp [intOf]
    · obtain ⟨z, hz⟩ : ∃ z, (d == 0) = z := ⟨_, rfl⟩
      cases z
      · have HN : Hid (¬ d = 0) := by show ¬ _; simpa using hz
        have hz2 : (d != 0) = true := by rw [bne, hz]; rfl
        have HE : Hid (firstNZ a b c d = d) := by show _ = _; unfold firstNZ; rw [if_pos (HZ.out.1 (by decide))]; rw [if_pos (HZ.out.2.1 (by decide))]; rw [if_pos (HZ.out.2.2.1 (by decide))]
        go_wp2_with fail
        go_ret
        exact ⟨by rw [HE.out]; first | done | rfl, rfl⟩
      · have HN : Hid (d = 0) := by show _ = _; simpa using hz
        have hz2 : (d != 0) = false := by rw [bne, hz]; rfl
        go_wp2_with fail
        go_round
        case rel => exact ⟨4, by decide, rfl, Lib.hid ⟨fun _ => HZ.out.1 (by decide), fun _ => HZ.out.2.1 (by decide), fun _ => HZ.out.2.2.1 (by decide), fun _ => HN.out⟩⟩
        case measure => simp [intOf]
    · have HE : Hid (firstNZ a b c d = 0) := by show _ = _; unfold firstNZ; rw [if_pos (HZ.out.1 (by decide)), if_pos (HZ.out.2.1 (by decide)), if_pos (HZ.out.2.2.1 (by decide))]; first | done | exact HZ.out.2.2.2 (by decide)
      go_wp2_with fail
      go_ret
      exact ⟨by rw [HE.out]; first | done | rfl, rfl⟩

set_option maxHeartbeats 2000000 in
theorem spec_PrecedesValue_any (k n : Int) (t : ByteArray) (r k' n' : Int) (t' : ByteArray) (r' : Int) (W : World) :
    Calls Try.prog 12 #[.agg #[.int .i64 k, .int .i64 n, .string t, .int .i64 r], .agg #[.int .i64 k', .int .i64 n', .string t', .int .i64 r']] W fun e w' => e = .returned (.bool (precV k n t r k' n' t' r')) ∧ Below W.heap.size W w' := by
  rcases Int.lt_trichotomy k k' with h | h | h
  · have hp : precV k n t r k' n' t' r' = true := by unfold precV; rw [cmpI_lt h]; rfl
    have g1 : (k == k') = false := by simp; omega
    have g2 : (k != k') = true := by simp; omega
    have g3 : ¬ k = k' := by omega
    have g4 : decide (k < k') = true := by simp [h]
    rw [hp]
    clear hp
    go_enter Try.func12, Try.ntmps12
    go_wp2_with fail
    go_ret
    exact ⟨rfl, ((Below.refl _ _).alloc (Nat.le_refl _) _).alloc (by simp) _⟩
  rotate_left
  · have hp : precV k n t r k' n' t' r' = false := by unfold precV; rw [cmpI_gt h]; rfl
    have g1 : (k == k') = false := by simp; omega
    have g2 : (k != k') = true := by simp; omega
    have g3 : ¬ k = k' := by omega
    have g4 : decide (k < k') = false := by simp; omega
    have g5 : ¬ k < k' := by omega
    rw [hp]
    clear hp
    go_enter Try.func12, Try.ntmps12
    go_wp2_with fail
    go_ret
    exact ⟨rfl, ((Below.refl _ _).alloc (Nat.le_refl _) _).alloc (by simp) _⟩
  subst h
  rcases Int.lt_trichotomy n n' with h | h | h
  · have hp : precV k n t r k n' t' r' = true := by unfold precV; rw [cmpI_eq, cmpI_lt h]; rfl
    have g1 : (n == n') = false := by simp; omega
    have g2 : (n != n') = true := by simp; omega
    have g3 : ¬ n = n' := by omega
    have g4 : decide (n < n') = true := by simp [h]
    rw [hp]
    clear hp
    go_enter Try.func12, Try.ntmps12
    go_wp2_with fail
    go_ret
    exact ⟨rfl, ((Below.refl _ _).alloc (Nat.le_refl _) _).alloc (by simp) _⟩
  rotate_left
  · have hp : precV k n t r k n' t' r' = false := by unfold precV; rw [cmpI_eq, cmpI_gt h]; rfl
    have g1 : (n == n') = false := by simp; omega
    have g2 : (n != n') = true := by simp; omega
    have g3 : ¬ n = n' := by omega
    have g4 : decide (n < n') = false := by simp; omega
    have g5 : ¬ n < n' := by omega
    rw [hp]
    clear hp
    go_enter Try.func12, Try.ntmps12
    go_wp2_with fail
    go_ret
    exact ⟨rfl, ((Below.refl _ _).alloc (Nat.le_refl _) _).alloc (by simp) _⟩
  subst h
  obtain ⟨l, hl⟩ : ∃ l, Op.bytesLess t.toList t'.toList = l := ⟨_, rfl⟩
  obtain ⟨q, hq⟩ : ∃ q, (t.toList == t'.toList) = q := ⟨_, rfl⟩
  cases q
  · have g2 : (t.toList != t'.toList) = true := by rw [bne, hq]; rfl
    have g3 : ¬ t.toList = t'.toList := by simpa using hq
    cases l
    · have hp : precV k n t r k n t' r' = false := by unfold precV cmpS; rw [cmpI_eq, cmpI_eq, hl, hq]; rfl
      rw [hp]
      clear hp
      go_enter Try.func12, Try.ntmps12
      go_wp2_with fail
      go_ret
      exact ⟨rfl, ((Below.refl _ _).alloc (Nat.le_refl _) _).alloc (by simp) _⟩
    · have hp : precV k n t r k n t' r' = true := by unfold precV cmpS; rw [cmpI_eq, cmpI_eq, hl]; rfl
      rw [hp]
      clear hp
      go_enter Try.func12, Try.ntmps12
      go_wp2_with fail
      go_ret
      exact ⟨rfl, ((Below.refl _ _).alloc (Nat.le_refl _) _).alloc (by simp) _⟩
  have ht : t = t' := WideShapes.bytes_inj (by rw [Lib.toList_data, Lib.toList_data] at hq; simpa using hq)
  subst ht
  have hl2 : Op.bytesLess t.toList t.toList = false := by
    cases h : Op.bytesLess t.toList t.toList
    · rfl
    · rw [less_ne h] at hq; cases hq
  have hS : cmpS t t = 0 := by unfold cmpS; rw [hl2, hq]; rfl
  clear hl hl2 hq
  rcases Int.lt_trichotomy r r' with h | h | h
  · have hp : precV k n t r k n t r' = true := by unfold precV; rw [cmpI_eq, cmpI_eq, hS, cmpI_lt h]; rfl
    have g1 : (r == r') = false := by simp; omega
    have g2 : (r != r') = true := by simp; omega
    have g3 : ¬ r = r' := by omega
    have g4 : decide (r < r') = true := by simp [h]
    rw [hp]
    clear hp
    go_enter Try.func12, Try.ntmps12
    go_wp2_with fail
    go_ret
    exact ⟨rfl, ((Below.refl _ _).alloc (Nat.le_refl _) _).alloc (by simp) _⟩
  rotate_left
  · have hp : precV k n t r k n t r' = false := by unfold precV; rw [cmpI_eq, cmpI_eq, hS, cmpI_gt h]; rfl
    have g1 : (r == r') = false := by simp; omega
    have g2 : (r != r') = true := by simp; omega
    have g3 : ¬ r = r' := by omega
    have g4 : decide (r < r') = false := by simp; omega
    have g5 : ¬ r < r' := by omega
    rw [hp]
    clear hp
    go_enter Try.func12, Try.ntmps12
    go_wp2_with fail
    go_ret
    exact ⟨rfl, ((Below.refl _ _).alloc (Nat.le_refl _) _).alloc (by simp) _⟩
  subst h
  have hp : precV k n t r k n t r = false := by unfold precV; rw [cmpI_eq, cmpI_eq, hS, cmpI_eq]; rfl
  rw [hp]
  clear hp hS
  go_enter Try.func12, Try.ntmps12
  go_wp2_with fail
  go_ret
  exact ⟨rfl, ((Below.refl _ _).alloc (Nat.le_refl _) _).alloc (by simp) _⟩

set_option maxHeartbeats 2000000 in
set_option maxRecDepth 100000 in
theorem impl_PrecedesValue_any (k n : Int) (t : ByteArray) (r k' n' : Int) (t' : ByteArray) (r' : Int) (W : World) :
    Calls Try.prog 13 #[.agg #[.int .i64 k, .int .i64 n, .string t, .int .i64 r], .agg #[.int .i64 k', .int .i64 n', .string t', .int .i64 r']] W fun e w' => e = .returned (.bool (precV k n t r k' n' t' r')) ∧ Below W.heap.size W w' := by
  obtain ⟨c0, h0⟩ : ∃ c, cmpI k k' = c := ⟨_, rfl⟩
  obtain ⟨c1, h1⟩ : ∃ c, cmpI n n' = c := ⟨_, rfl⟩
  obtain ⟨c2, h2⟩ : ∃ c, cmpS t t' = c := ⟨_, rfl⟩
  obtain ⟨c3, h3⟩ : ∃ c, cmpI r r' = c := ⟨_, rfl⟩
  obtain ⟨c, hcc⟩ : ∃ c, firstNZ c0 c1 c2 c3 = c := ⟨_, rfl⟩
  have hp : precV k n t r k' n' t' r' = decide (c < 0) := by unfold precV; rw [h0, h1, h2, h3, hcc]
  rw [hp]
  have C0 : Hid (∀ w, Calls Try.prog 16 #[.int .i64 k, .int .i64 k'] w fun e w' => e = .returned (.int .i64 c0) ∧ w' = w) := fun w => (compare_i64 k k' w).mono fun e w' h => ⟨by rw [h.1, h0], h.2.symm⟩
  have C1 : Hid (∀ w, Calls Try.prog 16 #[.int .i64 n, .int .i64 n'] w fun e w' => e = .returned (.int .i64 c1) ∧ w' = w) := fun w => (compare_i64 n n' w).mono fun e w' h => ⟨by rw [h.1, h1], h.2.symm⟩
  have C2 : Hid (∀ w, Calls Try.prog 17 #[.string t, .string t'] w fun e w' => e = .returned (.int .i64 c2) ∧ w' = w) := fun w => (compare_str t t' w).mono fun e w' h => ⟨by rw [h.1, h2], h.2.symm⟩
  have C3 : Hid (∀ w, Calls Try.prog 16 #[.int .i64 r, .int .i64 r'] w fun e w' => e = .returned (.int .i64 c3) ∧ w' = w) := fun w => (compare_i64 r r' w).mono fun e w' h => ⟨by rw [h.1, h3], h.2.symm⟩
  have HC := Lib.hid hcc
  clear h0 h1 h2 h3 hcc hp
  go_enter Try.func13, Try.ntmps13
  go_wp2_with fail
  obtain ⟨w0, hw0⟩ : ∃ w0, (W.alloc (.cells #[.int .i64 k, .int .i64 n, .string t, .int .i64 r] 26)).alloc (.cells #[.int .i64 k', .int .i64 n', .string t', .int .i64 r'] 26) = w0 := ⟨_, rfl⟩
  have Q : V4 w0 W.heap.size k n t r := by rw [← hw0]; refine ⟨?_, ?_, ?_, ?_⟩ <;> simp
  have Q' : V4 w0 (W.heap.size + 1) k' n' t' r' := by rw [← hw0]; refine ⟨?_, ?_, ?_, ?_⟩ <;> simp
  have HB0 : Hid (Below W.heap.size W w0) := by show Below _ _ _; rw [← hw0]; exact ((Below.refl _ _).alloc (Nat.le_refl _) _).alloc (by simp) _
  rw [hw0]
  obtain ⟨p0, p1, p2, p3⟩ := Q
  obtain ⟨q0, q1, q2, q3⟩ := Q'
  clear hw0
  go_still_tail 20, (by kernel_rfl)
  still_call (C0.out _)
  repeat still_step
  still_call (C1.out _)
  repeat still_step
  still_call (C2.out _)
  repeat still_step
  still_call (C3.out _)
  repeat still_step
  refine wpStill_nil ?_
  change wpList _ _ _ _ _ w0.drew
  have HB1 : Hid (Below W.heap.size W w0.drew) := HB0.out.drew
  clear p0 p1 p2 p3 q0 q1 q2 q3 C0 C1 C2 C3 HB0
  generalize w0.drew = w1 at HB1 ⊢
  go_wp2_with (go_at_call 15; refine (or_any c0 c1 c2 c3 _ _ _ (by simp) (by simp) (by simp) (by simp)).mono ?_; rintro e w' ⟨rfl, rfl⟩; rw [HC.out])
  go_ret
  exact ⟨rfl, HB1.out.alloc HB1.out.size _⟩
end Go.Proofs.Ytfobjedobojbnaa
