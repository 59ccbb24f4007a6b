/- Contract: Compared of the program. Conditions: the tables hold what the program's text lays. -/
import Derived.Test.YtpjjpfjnjhahcaaGreatDoorCmpT
import Derived.Test.YtpjjpfjnjhahcaaGreatDoorValImpl
import Derived.Laws.PanicsMore
namespace Go.Proofs.YtpjjpfjnjhahcaaGreatDoor
open Go Go.RowKit

/-- Two boxes, and the two values in a row behind them. -/
theorem L2.row (W : World) (a b : Va) : ∀ X, X = ((W.alloc (.cells #[.int .i64 a.k, .int .i64 a.n, .string a.t, .int .i64 a.r] 25)).alloc (.cells #[.int .i64 b.k, .int .i64 b.n, .string b.t, .int .i64 b.r] 25)).alloc (.cells #[.int .i64 a.k, .int .i64 a.n, .string a.t, .int .i64 a.r, .int .i64 b.k, .int .i64 b.n, .string b.t, .int .i64 b.r] 25) →
    L2 W X a b ∧ E8 X (W.heap.size + 1 + 1) a b ∧ W.heap.size + 1 + 1 < X.heap.size := fun X e => by
  obtain ⟨X2, h2⟩ : ∃ X2, (W.alloc (.cells #[.int .i64 a.k, .int .i64 a.n, .string a.t, .int .i64 a.r] 25)).alloc (.cells #[.int .i64 b.k, .int .i64 b.n, .string b.t, .int .i64 b.r] 25) = X2 := ⟨_, rfl⟩
  have l2 := L2.newI W a b X2 h2.symm
  obtain ⟨-, -, -, s2⟩ := two_newV W 25 a b X2 h2.symm
  rw [h2] at e
  obtain ⟨c4, b4, s4⟩ := one_newV X2 25 #[.int .i64 a.k, .int .i64 a.n, .string a.t, .int .i64 a.r, .int .i64 b.k, .int .i64 b.n, .string b.t, .int .i64 b.r] X e
  rw [show X2.heap.size = W.heap.size + 1 + 1 from s2] at c4
  exact ⟨l2.go b4, ⟨⟨c4 0, c4 1, c4 2, c4 3⟩, c4 4, c4 5, c4 6, c4 7⟩, by omega⟩
theorem idx9_0 (v1 v2 v3 v4 v5 v6 v7 v8 v9 : Value) (w : World) : (Instr.index 44 (.agg #[v1, v2, v3, v4, v5, v6, v7, v8, v9]) (.int .i64 0)).run Tryz.prog w = .ok v1 w := by
  simp [Instr.index, run_underlying Tryz.underlying44, asIntOf, go_sem]
theorem idx9_1 (v1 v2 v3 v4 v5 v6 v7 v8 v9 : Value) (w : World) : (Instr.index 44 (.agg #[v1, v2, v3, v4, v5, v6, v7, v8, v9]) (.int .i64 1)).run Tryz.prog w = .ok v2 w := by
  simp [Instr.index, run_underlying Tryz.underlying44, asIntOf, go_sem]
theorem idx9_2 (v1 v2 v3 v4 v5 v6 v7 v8 v9 : Value) (w : World) : (Instr.index 44 (.agg #[v1, v2, v3, v4, v5, v6, v7, v8, v9]) (.int .i64 2)).run Tryz.prog w = .ok v3 w := by
  simp [Instr.index, run_underlying Tryz.underlying44, asIntOf, go_sem]
theorem idx9_3 (v1 v2 v3 v4 v5 v6 v7 v8 v9 : Value) (w : World) : (Instr.index 44 (.agg #[v1, v2, v3, v4, v5, v6, v7, v8, v9]) (.int .i64 3)).run Tryz.prog w = .ok v4 w := by
  simp [Instr.index, run_underlying Tryz.underlying44, asIntOf, go_sem]
theorem idx9_4 (v1 v2 v3 v4 v5 v6 v7 v8 v9 : Value) (w : World) : (Instr.index 44 (.agg #[v1, v2, v3, v4, v5, v6, v7, v8, v9]) (.int .i64 4)).run Tryz.prog w = .ok v5 w := by
  simp [Instr.index, run_underlying Tryz.underlying44, asIntOf, go_sem]
theorem idx9_5 (v1 v2 v3 v4 v5 v6 v7 v8 v9 : Value) (w : World) : (Instr.index 44 (.agg #[v1, v2, v3, v4, v5, v6, v7, v8, v9]) (.int .i64 5)).run Tryz.prog w = .ok v6 w := by
  simp [Instr.index, run_underlying Tryz.underlying44, asIntOf, go_sem]
theorem idx9_6 (v1 v2 v3 v4 v5 v6 v7 v8 v9 : Value) (w : World) : (Instr.index 44 (.agg #[v1, v2, v3, v4, v5, v6, v7, v8, v9]) (.int .i64 6)).run Tryz.prog w = .ok v7 w := by
  simp [Instr.index, run_underlying Tryz.underlying44, asIntOf, go_sem]
theorem idx9_7 (v1 v2 v3 v4 v5 v6 v7 v8 v9 : Value) (w : World) : (Instr.index 44 (.agg #[v1, v2, v3, v4, v5, v6, v7, v8, v9]) (.int .i64 7)).run Tryz.prog w = .ok v8 w := by
  simp [Instr.index, run_underlying Tryz.underlying44, asIntOf, go_sem]
theorem idx9_8 (v1 v2 v3 v4 v5 v6 v7 v8 v9 : Value) (w : World) : (Instr.index 44 (.agg #[v1, v2, v3, v4, v5, v6, v7, v8, v9]) (.int .i64 8)).run Tryz.prog w = .ok v9 w := by
  simp [Instr.index, run_underlying Tryz.underlying44, asIntOf, go_sem]

set_option maxHeartbeats 800000 in
set_option maxRecDepth 100000 in
theorem impl_cmp_op (op : Int) (a b : Va) (W : World) (ha : a.t.size ≤ 1048576) (hb : b.t.size ≤ 1048576) (hT : Tabs W)  (fo : decide (1 ≤ op ∧ op ≤ 9) = false) :
    Calls Tryz.prog 6 #[.int .i64 op, a.ag, b.ag] W fun e w' => e = .returned (.tuple #[.bool false, .int .i64 1]) ∧ Below W.heap.size W w' := by
  have H0 := Lib.hid (L2.newI W a b)
  have HA := Lib.hid ha
  have HB := Lib.hid hb
  have HMA : Hid (a.t.size ≤ maxLen) := Nat.le_trans ha (by unfold maxLen; omega)
  have HMB : Hid (b.t.size ≤ maxLen) := Nat.le_trans hb (by unfold maxLen; omega)
  have HT := Lib.hid hT
  clear hT
  have FO := Lib.hid fo
  clear ha hb fo
  have H4 := Lib.hid (L2.row W a b)
  have K0 : True := trivial
  have K1 : True := trivial
  have K2 : True := trivial
  have K3 : True := trivial
  have K4 : True := trivial
  have K5 : True := trivial
  unfold Va.ag
  go_enter Tryz.func6, Tryz.ntmps6
  go_wp2_with (go_at_call 13; refine (within_i64 _ _ _ _).mono ?_; rintro e w9 ⟨rfl, rfl⟩; rw [FO.out])
  go_ret2
  exact ⟨rfl, (H0.out _ rfl).2.2.1⟩

set_option maxHeartbeats 800000 in
set_option maxRecDepth 100000 in
theorem impl_cmp_bad (op : Int) (a b : Va) (W : World) (ha : a.t.size ≤ 1048576) (hb : b.t.size ≤ 1048576) (hT : Tabs W)  (fo : decide (1 ≤ op ∧ op ≤ 9) = true) (f0 : (a.ok && b.ok) = false) :
    Calls Tryz.prog 6 #[.int .i64 op, a.ag, b.ag] W fun e w' => e = .returned (.tuple #[.bool false, .int .i64 1]) ∧ Below W.heap.size W w' := by
  have H0 := Lib.hid (L2.newI W a b)
  have HA := Lib.hid ha
  have HB := Lib.hid hb
  have HMA : Hid (a.t.size ≤ maxLen) := Nat.le_trans ha (by unfold maxLen; omega)
  have HMB : Hid (b.t.size ≤ maxLen) := Nat.le_trans hb (by unfold maxLen; omega)
  have HT := Lib.hid hT
  clear hT
  have FO := Lib.hid fo
  have F0 := Lib.hid f0
  clear ha hb fo f0
  have H4 := Lib.hid (L2.row W a b)
  have K0 : True := trivial
  have K1 : True := trivial
  have K2 : True := trivial
  have K3 : True := trivial
  have K4 : True := trivial
  have K5 : True := trivial
  unfold Va.ag
  go_enter Tryz.func6, Tryz.ntmps6
  go_wp2_with (first
    | (go_at_call 13; refine (within_i64 _ _ _ _).mono ?_; rintro e w9 ⟨rfl, rfl⟩; rw [FO.out])
    | (go_at_call 14; obtain ⟨hh, h8, hl⟩ := H4.out _ rfl; have HH := Lib.hid hh; have HQ := areValid_two a b (W.heap.size + 1 + 1) 2 _ h8 hl HMA.out HMB.out (HT.out.go hh.2.2.1); rw [F0.out] at HQ; refine Calls.mono HQ ?_; clear HQ hh h8 hl; rintro e w1 ⟨he, hb⟩; subst he; replace HH := Lib.hid (HH.out.go hb); clear hb; obtain ⟨⟨x0, x1, x2, x3⟩, ⟨y0, y1, y2, y3⟩, _, lz⟩ := HH.out))
  go_ret2
  exact ⟨rfl, HH.out.2.2.1⟩

set_option maxHeartbeats 800000 in
set_option maxRecDepth 100000 in
theorem impl_cmp_1 (a b : Va) (W : World) (ha : a.t.size ≤ 1048576) (hb : b.t.size ≤ 1048576) (hT : Tabs W)  (f0 : (a.ok && b.ok) = true) :
    Calls Tryz.prog 6 #[.int .i64 1, a.ag, b.ag] W fun e w' => e = .returned (.tuple #[.bool ((tiB a && tiB b) && holdI 1 (tiI a) (tiI b)), .int .i64 (if (tiB a && tiB b) = true then 0 else 4)]) ∧ Below W.heap.size W w' := by
  have H0 := Lib.hid (L2.newI W a b)
  have HA := Lib.hid ha
  have HB := Lib.hid hb
  have HMA : Hid (a.t.size ≤ maxLen) := Nat.le_trans ha (by unfold maxLen; omega)
  have HMB : Hid (b.t.size ≤ maxLen) := Nat.le_trans hb (by unfold maxLen; omega)
  have HT := Lib.hid hT
  clear hT
  have F0 := Lib.hid f0
  clear ha hb f0
  have H4 := Lib.hid (L2.row W a b)
  have K0 : True := trivial
  have K1 : True := trivial
  have K2 : True := trivial
  have K3 : True := trivial
  have K4 : True := trivial
  have K5 : True := trivial
  unfold Va.ag
  obtain ⟨h, hh⟩ : ∃ h, holdI 1 (tiI a) (tiI b) = h := ⟨_, rfl⟩
  have HO := Lib.hid hh
  rw [hh]
  clear hh
  obtain ⟨pq, hq⟩ : ∃ pq, (tiB a && tiB b) = pq := ⟨_, rfl⟩
  have HPQ := Lib.hid hq
  rw [hq]
  clear hq
  cases pq
  all_goals
    go_enter Tryz.func6, Tryz.ntmps6
    go_wp2_with (first
      | (go_at_call 13; refine (within_i64 _ _ _ _).mono ?_; rintro e w9 ⟨rfl, rfl⟩; rw [show decide ((1 : Int) ≤ 1 ∧ (1 : Int) ≤ 9) = true from rfl])
      | (go_at_call 14; obtain ⟨hh, h8, hl⟩ := H4.out _ rfl; have HH := Lib.hid hh; have HQ := areValid_two a b (W.heap.size + 1 + 1) 2 _ h8 hl HMA.out HMB.out (HT.out.go hh.2.2.1); rw [F0.out] at HQ; refine Calls.mono HQ ?_; clear HQ hh h8 hl; rintro e w1 ⟨he, hb⟩; subst he; replace HH := Lib.hid (HH.out.go hb); clear hb; obtain ⟨⟨x0, x1, x2, x3⟩, ⟨y0, y1, y2, y3⟩, _, lz⟩ := HH.out))
    have H1 := Lib.hid (HH.out.go (Below.refl _ _).drew)
    clear x0 x1 x2 x3 y0 y1 y2 y3 lz HH
    have hw : IntKind.i64.wrap 0 = 0 := by decide
    have hix := idx9_0
    go_region_held3 (fun w' => FlatL W a b w')
      (first | exact H1.out.flat | exact HS3.out.flat | exact HS4.out.flat | go_keep)
      ((first
        | (go_at_call 15; refine Calls.mono (table_any _) ?_; rintro e w3 ⟨⟨v1, v2, v3, v4, v5, v6, v7, v8, v9, rfl, hl⟩, hb⟩; have hq : FnAt _ w3 v1 53 27 28 := hl (v1, 53, 27, 28) (by simp); obtain ⟨gq, rfl, c1, c2, lq, -⟩ := hq; have Q1 := Lib.hid c1; have Q2 := Lib.hid c2; have Q3 := Lib.hid lq; have HS3 := Lib.hid (H1.out.go hb); clear hb hl c1 c2 lq)
        | (go_at_call 53; refine Calls.mono (cl1_any a b gq w3 HA.out HB.out (HT.out.go HS3.out.2.2.1) Q1.out Q2.out Q3.out) ?_; rintro e w4 ⟨he, hb⟩; rw [HO.out, HPQ.out] at he; subst he; have HS4 := Lib.hid (HS3.out.go hb); clear hb)))
    go_split_ands
    clear hw hix
    go_wp2_with fail
    go_ret2
    exact ⟨rfl, HS4.out.2.2.1⟩

set_option maxHeartbeats 800000 in
set_option maxRecDepth 100000 in
theorem impl_cmp_2 (a b : Va) (W : World) (ha : a.t.size ≤ 1048576) (hb : b.t.size ≤ 1048576) (hT : Tabs W)  (f0 : (a.ok && b.ok) = true) :
    Calls Tryz.prog 6 #[.int .i64 2, a.ag, b.ag] W fun e w' => e = .returned (.tuple #[.bool ((tiB a && tiB b) && holdI 2 (tiI a) (tiI b)), .int .i64 (if (tiB a && tiB b) = true then 0 else 4)]) ∧ Below W.heap.size W w' := by
  have H0 := Lib.hid (L2.newI W a b)
  have HA := Lib.hid ha
  have HB := Lib.hid hb
  have HMA : Hid (a.t.size ≤ maxLen) := Nat.le_trans ha (by unfold maxLen; omega)
  have HMB : Hid (b.t.size ≤ maxLen) := Nat.le_trans hb (by unfold maxLen; omega)
  have HT := Lib.hid hT
  clear hT
  have F0 := Lib.hid f0
  clear ha hb f0
  have H4 := Lib.hid (L2.row W a b)
  have K0 : True := trivial
  have K1 : True := trivial
  have K2 : True := trivial
  have K3 : True := trivial
  have K4 : True := trivial
  have K5 : True := trivial
  unfold Va.ag
  obtain ⟨h, hh⟩ : ∃ h, holdI 2 (tiI a) (tiI b) = h := ⟨_, rfl⟩
  have HO := Lib.hid hh
  rw [hh]
  clear hh
  obtain ⟨pq, hq⟩ : ∃ pq, (tiB a && tiB b) = pq := ⟨_, rfl⟩
  have HPQ := Lib.hid hq
  rw [hq]
  clear hq
  cases pq
  all_goals
    go_enter Tryz.func6, Tryz.ntmps6
    go_wp2_with (first
      | (go_at_call 13; refine (within_i64 _ _ _ _).mono ?_; rintro e w9 ⟨rfl, rfl⟩; rw [show decide ((1 : Int) ≤ 2 ∧ (2 : Int) ≤ 9) = true from rfl])
      | (go_at_call 14; obtain ⟨hh, h8, hl⟩ := H4.out _ rfl; have HH := Lib.hid hh; have HQ := areValid_two a b (W.heap.size + 1 + 1) 2 _ h8 hl HMA.out HMB.out (HT.out.go hh.2.2.1); rw [F0.out] at HQ; refine Calls.mono HQ ?_; clear HQ hh h8 hl; rintro e w1 ⟨he, hb⟩; subst he; replace HH := Lib.hid (HH.out.go hb); clear hb; obtain ⟨⟨x0, x1, x2, x3⟩, ⟨y0, y1, y2, y3⟩, _, lz⟩ := HH.out))
    have H1 := Lib.hid (HH.out.go (Below.refl _ _).drew)
    clear x0 x1 x2 x3 y0 y1 y2 y3 lz HH
    have hw : IntKind.i64.wrap 1 = 1 := by decide
    have hix := idx9_1
    go_region_held3 (fun w' => FlatL W a b w')
      (first | exact H1.out.flat | exact HS3.out.flat | exact HS4.out.flat | go_keep)
      ((first
        | (go_at_call 15; refine Calls.mono (table_any _) ?_; rintro e w3 ⟨⟨v1, v2, v3, v4, v5, v6, v7, v8, v9, rfl, hl⟩, hb⟩; have hq : FnAt _ w3 v2 53 27 29 := hl (v2, 53, 27, 29) (by simp); obtain ⟨gq, rfl, c1, c2, lq, -⟩ := hq; have Q1 := Lib.hid c1; have Q2 := Lib.hid c2; have Q3 := Lib.hid lq; have HS3 := Lib.hid (H1.out.go hb); clear hb hl c1 c2 lq)
        | (go_at_call 53; refine Calls.mono (cl2_any a b gq w3 HA.out HB.out (HT.out.go HS3.out.2.2.1) Q1.out Q2.out Q3.out) ?_; rintro e w4 ⟨he, hb⟩; rw [HO.out, HPQ.out] at he; subst he; have HS4 := Lib.hid (HS3.out.go hb); clear hb)))
    go_split_ands
    clear hw hix
    go_wp2_with fail
    go_ret2
    exact ⟨rfl, HS4.out.2.2.1⟩

set_option maxHeartbeats 800000 in
set_option maxRecDepth 100000 in
theorem impl_cmp_3 (a b : Va) (W : World) (ha : a.t.size ≤ 1048576) (hb : b.t.size ≤ 1048576) (hT : Tabs W)  (f0 : (a.ok && b.ok) = true) :
    Calls Tryz.prog 6 #[.int .i64 3, a.ag, b.ag] W fun e w' => e = .returned (.tuple #[.bool ((tiB a && tiB b) && holdI 3 (tiI a) (tiI b)), .int .i64 (if (tiB a && tiB b) = true then 0 else 4)]) ∧ Below W.heap.size W w' := by
  have H0 := Lib.hid (L2.newI W a b)
  have HA := Lib.hid ha
  have HB := Lib.hid hb
  have HMA : Hid (a.t.size ≤ maxLen) := Nat.le_trans ha (by unfold maxLen; omega)
  have HMB : Hid (b.t.size ≤ maxLen) := Nat.le_trans hb (by unfold maxLen; omega)
  have HT := Lib.hid hT
  clear hT
  have F0 := Lib.hid f0
  clear ha hb f0
  have H4 := Lib.hid (L2.row W a b)
  have K0 : True := trivial
  have K1 : True := trivial
  have K2 : True := trivial
  have K3 : True := trivial
  have K4 : True := trivial
  have K5 : True := trivial
  unfold Va.ag
  obtain ⟨h, hh⟩ : ∃ h, holdI 3 (tiI a) (tiI b) = h := ⟨_, rfl⟩
  have HO := Lib.hid hh
  rw [hh]
  clear hh
  obtain ⟨pq, hq⟩ : ∃ pq, (tiB a && tiB b) = pq := ⟨_, rfl⟩
  have HPQ := Lib.hid hq
  rw [hq]
  clear hq
  cases pq
  all_goals
    go_enter Tryz.func6, Tryz.ntmps6
    go_wp2_with (first
      | (go_at_call 13; refine (within_i64 _ _ _ _).mono ?_; rintro e w9 ⟨rfl, rfl⟩; rw [show decide ((1 : Int) ≤ 3 ∧ (3 : Int) ≤ 9) = true from rfl])
      | (go_at_call 14; obtain ⟨hh, h8, hl⟩ := H4.out _ rfl; have HH := Lib.hid hh; have HQ := areValid_two a b (W.heap.size + 1 + 1) 2 _ h8 hl HMA.out HMB.out (HT.out.go hh.2.2.1); rw [F0.out] at HQ; refine Calls.mono HQ ?_; clear HQ hh h8 hl; rintro e w1 ⟨he, hb⟩; subst he; replace HH := Lib.hid (HH.out.go hb); clear hb; obtain ⟨⟨x0, x1, x2, x3⟩, ⟨y0, y1, y2, y3⟩, _, lz⟩ := HH.out))
    have H1 := Lib.hid (HH.out.go (Below.refl _ _).drew)
    clear x0 x1 x2 x3 y0 y1 y2 y3 lz HH
    have hw : IntKind.i64.wrap 2 = 2 := by decide
    have hix := idx9_2
    go_region_held3 (fun w' => FlatL W a b w')
      (first | exact H1.out.flat | exact HS3.out.flat | exact HS4.out.flat | go_keep)
      ((first
        | (go_at_call 15; refine Calls.mono (table_any _) ?_; rintro e w3 ⟨⟨v1, v2, v3, v4, v5, v6, v7, v8, v9, rfl, hl⟩, hb⟩; have hq : FnAt _ w3 v3 53 27 30 := hl (v3, 53, 27, 30) (by simp); obtain ⟨gq, rfl, c1, c2, lq, -⟩ := hq; have Q1 := Lib.hid c1; have Q2 := Lib.hid c2; have Q3 := Lib.hid lq; have HS3 := Lib.hid (H1.out.go hb); clear hb hl c1 c2 lq)
        | (go_at_call 53; refine Calls.mono (cl3_any a b gq w3 HA.out HB.out (HT.out.go HS3.out.2.2.1) Q1.out Q2.out Q3.out) ?_; rintro e w4 ⟨he, hb⟩; rw [HO.out, HPQ.out] at he; subst he; have HS4 := Lib.hid (HS3.out.go hb); clear hb)))
    go_split_ands
    clear hw hix
    go_wp2_with fail
    go_ret2
    exact ⟨rfl, HS4.out.2.2.1⟩

set_option maxHeartbeats 800000 in
set_option maxRecDepth 100000 in
theorem impl_cmp_4 (a b : Va) (W : World) (ha : a.t.size ≤ 1048576) (hb : b.t.size ≤ 1048576) (hT : Tabs W)  (f0 : (a.ok && b.ok) = true) :
    Calls Tryz.prog 6 #[.int .i64 4, a.ag, b.ag] W fun e w' => e = .returned (.tuple #[.bool ((tiB a && tiB b) && holdI 4 (tiI a) (tiI b)), .int .i64 (if (tiB a && tiB b) = true then 0 else 4)]) ∧ Below W.heap.size W w' := by
  have H0 := Lib.hid (L2.newI W a b)
  have HA := Lib.hid ha
  have HB := Lib.hid hb
  have HMA : Hid (a.t.size ≤ maxLen) := Nat.le_trans ha (by unfold maxLen; omega)
  have HMB : Hid (b.t.size ≤ maxLen) := Nat.le_trans hb (by unfold maxLen; omega)
  have HT := Lib.hid hT
  clear hT
  have F0 := Lib.hid f0
  clear ha hb f0
  have H4 := Lib.hid (L2.row W a b)
  have K0 : True := trivial
  have K1 : True := trivial
  have K2 : True := trivial
  have K3 : True := trivial
  have K4 : True := trivial
  have K5 : True := trivial
  unfold Va.ag
  obtain ⟨h, hh⟩ : ∃ h, holdI 4 (tiI a) (tiI b) = h := ⟨_, rfl⟩
  have HO := Lib.hid hh
  rw [hh]
  clear hh
  obtain ⟨pq, hq⟩ : ∃ pq, (tiB a && tiB b) = pq := ⟨_, rfl⟩
  have HPQ := Lib.hid hq
  rw [hq]
  clear hq
  cases pq
  all_goals
    go_enter Tryz.func6, Tryz.ntmps6
    go_wp2_with (first
      | (go_at_call 13; refine (within_i64 _ _ _ _).mono ?_; rintro e w9 ⟨rfl, rfl⟩; rw [show decide ((1 : Int) ≤ 4 ∧ (4 : Int) ≤ 9) = true from rfl])
      | (go_at_call 14; obtain ⟨hh, h8, hl⟩ := H4.out _ rfl; have HH := Lib.hid hh; have HQ := areValid_two a b (W.heap.size + 1 + 1) 2 _ h8 hl HMA.out HMB.out (HT.out.go hh.2.2.1); rw [F0.out] at HQ; refine Calls.mono HQ ?_; clear HQ hh h8 hl; rintro e w1 ⟨he, hb⟩; subst he; replace HH := Lib.hid (HH.out.go hb); clear hb; obtain ⟨⟨x0, x1, x2, x3⟩, ⟨y0, y1, y2, y3⟩, _, lz⟩ := HH.out))
    have H1 := Lib.hid (HH.out.go (Below.refl _ _).drew)
    clear x0 x1 x2 x3 y0 y1 y2 y3 lz HH
    have hw : IntKind.i64.wrap 3 = 3 := by decide
    have hix := idx9_3
    go_region_held3 (fun w' => FlatL W a b w')
      (first | exact H1.out.flat | exact HS3.out.flat | exact HS4.out.flat | go_keep)
      ((first
        | (go_at_call 15; refine Calls.mono (table_any _) ?_; rintro e w3 ⟨⟨v1, v2, v3, v4, v5, v6, v7, v8, v9, rfl, hl⟩, hb⟩; have hq : FnAt _ w3 v4 53 27 31 := hl (v4, 53, 27, 31) (by simp); obtain ⟨gq, rfl, c1, c2, lq, -⟩ := hq; have Q1 := Lib.hid c1; have Q2 := Lib.hid c2; have Q3 := Lib.hid lq; have HS3 := Lib.hid (H1.out.go hb); clear hb hl c1 c2 lq)
        | (go_at_call 53; refine Calls.mono (cl4_any a b gq w3 HA.out HB.out (HT.out.go HS3.out.2.2.1) Q1.out Q2.out Q3.out) ?_; rintro e w4 ⟨he, hb⟩; rw [HO.out, HPQ.out] at he; subst he; have HS4 := Lib.hid (HS3.out.go hb); clear hb)))
    go_split_ands
    clear hw hix
    go_wp2_with fail
    go_ret2
    exact ⟨rfl, HS4.out.2.2.1⟩

set_option maxHeartbeats 800000 in
set_option maxRecDepth 100000 in
theorem impl_cmp_5 (a b : Va) (W : World) (ha : a.t.size ≤ 1048576) (hb : b.t.size ≤ 1048576) (hT : Tabs W)  (f0 : (a.ok && b.ok) = true) :
    Calls Tryz.prog 6 #[.int .i64 5, a.ag, b.ag] W fun e w' => e = .returned (.tuple #[.bool ((tiB a && tiB b) && holdI 5 (tiI a) (tiI b)), .int .i64 (if (tiB a && tiB b) = true then 0 else 4)]) ∧ Below W.heap.size W w' := by
  have H0 := Lib.hid (L2.newI W a b)
  have HA := Lib.hid ha
  have HB := Lib.hid hb
  have HMA : Hid (a.t.size ≤ maxLen) := Nat.le_trans ha (by unfold maxLen; omega)
  have HMB : Hid (b.t.size ≤ maxLen) := Nat.le_trans hb (by unfold maxLen; omega)
  have HT := Lib.hid hT
  clear hT
  have F0 := Lib.hid f0
  clear ha hb f0
  have H4 := Lib.hid (L2.row W a b)
  have K0 : True := trivial
  have K1 : True := trivial
  have K2 : True := trivial
  have K3 : True := trivial
  have K4 : True := trivial
  have K5 : True := trivial
  unfold Va.ag
  obtain ⟨h, hh⟩ : ∃ h, holdI 5 (tiI a) (tiI b) = h := ⟨_, rfl⟩
  have HO := Lib.hid hh
  rw [hh]
  clear hh
  obtain ⟨pq, hq⟩ : ∃ pq, (tiB a && tiB b) = pq := ⟨_, rfl⟩
  have HPQ := Lib.hid hq
  rw [hq]
  clear hq
  cases pq
  all_goals
    go_enter Tryz.func6, Tryz.ntmps6
    go_wp2_with (first
      | (go_at_call 13; refine (within_i64 _ _ _ _).mono ?_; rintro e w9 ⟨rfl, rfl⟩; rw [show decide ((1 : Int) ≤ 5 ∧ (5 : Int) ≤ 9) = true from rfl])
      | (go_at_call 14; obtain ⟨hh, h8, hl⟩ := H4.out _ rfl; have HH := Lib.hid hh; have HQ := areValid_two a b (W.heap.size + 1 + 1) 2 _ h8 hl HMA.out HMB.out (HT.out.go hh.2.2.1); rw [F0.out] at HQ; refine Calls.mono HQ ?_; clear HQ hh h8 hl; rintro e w1 ⟨he, hb⟩; subst he; replace HH := Lib.hid (HH.out.go hb); clear hb; obtain ⟨⟨x0, x1, x2, x3⟩, ⟨y0, y1, y2, y3⟩, _, lz⟩ := HH.out))
    have H1 := Lib.hid (HH.out.go (Below.refl _ _).drew)
    clear x0 x1 x2 x3 y0 y1 y2 y3 lz HH
    have hw : IntKind.i64.wrap 4 = 4 := by decide
    have hix := idx9_4
    go_region_held3 (fun w' => FlatL W a b w')
      (first | exact H1.out.flat | exact HS3.out.flat | exact HS4.out.flat | go_keep)
      ((first
        | (go_at_call 15; refine Calls.mono (table_any _) ?_; rintro e w3 ⟨⟨v1, v2, v3, v4, v5, v6, v7, v8, v9, rfl, hl⟩, hb⟩; have hq : FnAt _ w3 v5 53 27 32 := hl (v5, 53, 27, 32) (by simp); obtain ⟨gq, rfl, c1, c2, lq, -⟩ := hq; have Q1 := Lib.hid c1; have Q2 := Lib.hid c2; have Q3 := Lib.hid lq; have HS3 := Lib.hid (H1.out.go hb); clear hb hl c1 c2 lq)
        | (go_at_call 53; refine Calls.mono (cl5_any a b gq w3 HA.out HB.out (HT.out.go HS3.out.2.2.1) Q1.out Q2.out Q3.out) ?_; rintro e w4 ⟨he, hb⟩; rw [HO.out, HPQ.out] at he; subst he; have HS4 := Lib.hid (HS3.out.go hb); clear hb)))
    go_split_ands
    clear hw hix
    go_wp2_with fail
    go_ret2
    exact ⟨rfl, HS4.out.2.2.1⟩

set_option maxHeartbeats 800000 in
set_option maxRecDepth 100000 in
theorem impl_cmp_6 (a b : Va) (W : World) (ha : a.t.size ≤ 1048576) (hb : b.t.size ≤ 1048576) (hT : Tabs W)  (f0 : (a.ok && b.ok) = true) :
    Calls Tryz.prog 6 #[.int .i64 6, a.ag, b.ag] W fun e w' => e = .returned (.tuple #[.bool ((tiB a && tiB b) && holdI 6 (tiI a) (tiI b)), .int .i64 (if (tiB a && tiB b) = true then 0 else 4)]) ∧ Below W.heap.size W w' := by
  have H0 := Lib.hid (L2.newI W a b)
  have HA := Lib.hid ha
  have HB := Lib.hid hb
  have HMA : Hid (a.t.size ≤ maxLen) := Nat.le_trans ha (by unfold maxLen; omega)
  have HMB : Hid (b.t.size ≤ maxLen) := Nat.le_trans hb (by unfold maxLen; omega)
  have HT := Lib.hid hT
  clear hT
  have F0 := Lib.hid f0
  clear ha hb f0
  have H4 := Lib.hid (L2.row W a b)
  have K0 : True := trivial
  have K1 : True := trivial
  have K2 : True := trivial
  have K3 : True := trivial
  have K4 : True := trivial
  have K5 : True := trivial
  unfold Va.ag
  obtain ⟨h, hh⟩ : ∃ h, holdI 6 (tiI a) (tiI b) = h := ⟨_, rfl⟩
  have HO := Lib.hid hh
  rw [hh]
  clear hh
  obtain ⟨pq, hq⟩ : ∃ pq, (tiB a && tiB b) = pq := ⟨_, rfl⟩
  have HPQ := Lib.hid hq
  rw [hq]
  clear hq
  cases pq
  all_goals
    go_enter Tryz.func6, Tryz.ntmps6
    go_wp2_with (first
      | (go_at_call 13; refine (within_i64 _ _ _ _).mono ?_; rintro e w9 ⟨rfl, rfl⟩; rw [show decide ((1 : Int) ≤ 6 ∧ (6 : Int) ≤ 9) = true from rfl])
      | (go_at_call 14; obtain ⟨hh, h8, hl⟩ := H4.out _ rfl; have HH := Lib.hid hh; have HQ := areValid_two a b (W.heap.size + 1 + 1) 2 _ h8 hl HMA.out HMB.out (HT.out.go hh.2.2.1); rw [F0.out] at HQ; refine Calls.mono HQ ?_; clear HQ hh h8 hl; rintro e w1 ⟨he, hb⟩; subst he; replace HH := Lib.hid (HH.out.go hb); clear hb; obtain ⟨⟨x0, x1, x2, x3⟩, ⟨y0, y1, y2, y3⟩, _, lz⟩ := HH.out))
    have H1 := Lib.hid (HH.out.go (Below.refl _ _).drew)
    clear x0 x1 x2 x3 y0 y1 y2 y3 lz HH
    have hw : IntKind.i64.wrap 5 = 5 := by decide
    have hix := idx9_5
    go_region_held3 (fun w' => FlatL W a b w')
      (first | exact H1.out.flat | exact HS3.out.flat | exact HS4.out.flat | go_keep)
      ((first
        | (go_at_call 15; refine Calls.mono (table_any _) ?_; rintro e w3 ⟨⟨v1, v2, v3, v4, v5, v6, v7, v8, v9, rfl, hl⟩, hb⟩; have hq : FnAt _ w3 v6 53 27 33 := hl (v6, 53, 27, 33) (by simp); obtain ⟨gq, rfl, c1, c2, lq, -⟩ := hq; have Q1 := Lib.hid c1; have Q2 := Lib.hid c2; have Q3 := Lib.hid lq; have HS3 := Lib.hid (H1.out.go hb); clear hb hl c1 c2 lq)
        | (go_at_call 53; refine Calls.mono (cl6_any a b gq w3 HA.out HB.out (HT.out.go HS3.out.2.2.1) Q1.out Q2.out Q3.out) ?_; rintro e w4 ⟨he, hb⟩; rw [HO.out, HPQ.out] at he; subst he; have HS4 := Lib.hid (HS3.out.go hb); clear hb)))
    go_split_ands
    clear hw hix
    go_wp2_with fail
    go_ret2
    exact ⟨rfl, HS4.out.2.2.1⟩

set_option maxHeartbeats 800000 in
set_option maxRecDepth 100000 in
theorem impl_cmp_7 (a b : Va) (W : World) (ha : a.t.size ≤ 1048576) (hb : b.t.size ≤ 1048576) (hT : Tabs W)  (f0 : (a.ok && b.ok) = true) :
    Calls Tryz.prog 6 #[.int .i64 7, a.ag, b.ag] W fun e w' => e = .returned (.tuple #[.bool (a.same b), .int .i64 0]) ∧ Below W.heap.size W w' := by
  have H0 := Lib.hid (L2.newI W a b)
  have HA := Lib.hid ha
  have HB := Lib.hid hb
  have HMA : Hid (a.t.size ≤ maxLen) := Nat.le_trans ha (by unfold maxLen; omega)
  have HMB : Hid (b.t.size ≤ maxLen) := Nat.le_trans hb (by unfold maxLen; omega)
  have HT := Lib.hid hT
  clear hT
  have F0 := Lib.hid f0
  clear ha hb f0
  have H4 := Lib.hid (L2.row W a b)
  have K0 : True := trivial
  have K1 : True := trivial
  have K2 : True := trivial
  have K3 : True := trivial
  have K4 : True := trivial
  have K5 : True := trivial
  unfold Va.ag
  obtain ⟨h, hh⟩ : ∃ h, a.same b = h := ⟨_, rfl⟩
  have HO := Lib.hid hh
  rw [hh]
  clear hh
  go_enter Tryz.func6, Tryz.ntmps6
  go_wp2_with (first
    | (go_at_call 13; refine (within_i64 _ _ _ _).mono ?_; rintro e w9 ⟨rfl, rfl⟩; rw [show decide ((1 : Int) ≤ 7 ∧ (7 : Int) ≤ 9) = true from rfl])
    | (go_at_call 14; obtain ⟨hh, h8, hl⟩ := H4.out _ rfl; have HH := Lib.hid hh; have HQ := areValid_two a b (W.heap.size + 1 + 1) 2 _ h8 hl HMA.out HMB.out (HT.out.go hh.2.2.1); rw [F0.out] at HQ; refine Calls.mono HQ ?_; clear HQ hh h8 hl; rintro e w1 ⟨he, hb⟩; subst he; replace HH := Lib.hid (HH.out.go hb); clear hb; obtain ⟨⟨x0, x1, x2, x3⟩, ⟨y0, y1, y2, y3⟩, _, lz⟩ := HH.out))
  have H1 := Lib.hid (HH.out.go (Below.refl _ _).drew)
  clear x0 x1 x2 x3 y0 y1 y2 y3 lz HH
  have hw : IntKind.i64.wrap 6 = 6 := by decide
  have hix := idx9_6
  go_region_held3 (fun w' => FlatL W a b w')
    (first | exact H1.out.flat | exact HS3.out.flat | exact HS4.out.flat | go_keep)
    ((first
      | (go_at_call 15; refine Calls.mono (table_any _) ?_; rintro e w3 ⟨⟨v1, v2, v3, v4, v5, v6, v7, v8, v9, rfl, hl⟩, hb⟩; have hq : FnAt _ w3 v7 59 35 36 := hl (v7, 59, 35, 36) (by simp); obtain ⟨gq, rfl, c1, c2, lq, -⟩ := hq; have Q1 := Lib.hid c1; have Q2 := Lib.hid c2; have Q3 := Lib.hid lq; have HS3 := Lib.hid (H1.out.go hb); clear hb hl c1 c2 lq)
      | (go_at_call 59; refine Calls.mono (cl7_any a b gq w3 HA.out HB.out (HT.out.go HS3.out.2.2.1) Q1.out Q2.out Q3.out) ?_; rintro e w4 ⟨he, hb⟩; rw [HO.out] at he; subst he; have HS4 := Lib.hid (HS3.out.go hb); clear hb)))
  go_split_ands
  clear hw hix
  go_wp2_with fail
  go_ret2
  exact ⟨rfl, HS4.out.2.2.1⟩

set_option maxHeartbeats 800000 in
set_option maxRecDepth 100000 in
theorem impl_cmp_8 (a b : Va) (W : World) (ha : a.t.size ≤ 1048576) (hb : b.t.size ≤ 1048576) (hT : Tabs W)  (f0 : (a.ok && b.ok) = true) :
    Calls Tryz.prog 6 #[.int .i64 8, a.ag, b.ag] W fun e w' => e = .returned (.tuple #[.bool ((!a.same b)), .int .i64 0]) ∧ Below W.heap.size W w' := by
  have H0 := Lib.hid (L2.newI W a b)
  have HA := Lib.hid ha
  have HB := Lib.hid hb
  have HMA : Hid (a.t.size ≤ maxLen) := Nat.le_trans ha (by unfold maxLen; omega)
  have HMB : Hid (b.t.size ≤ maxLen) := Nat.le_trans hb (by unfold maxLen; omega)
  have HT := Lib.hid hT
  clear hT
  have F0 := Lib.hid f0
  clear ha hb f0
  have H4 := Lib.hid (L2.row W a b)
  have K0 : True := trivial
  have K1 : True := trivial
  have K2 : True := trivial
  have K3 : True := trivial
  have K4 : True := trivial
  have K5 : True := trivial
  unfold Va.ag
  obtain ⟨h, hh⟩ : ∃ h, (!a.same b) = h := ⟨_, rfl⟩
  have HO := Lib.hid hh
  rw [hh]
  clear hh
  go_enter Tryz.func6, Tryz.ntmps6
  go_wp2_with (first
    | (go_at_call 13; refine (within_i64 _ _ _ _).mono ?_; rintro e w9 ⟨rfl, rfl⟩; rw [show decide ((1 : Int) ≤ 8 ∧ (8 : Int) ≤ 9) = true from rfl])
    | (go_at_call 14; obtain ⟨hh, h8, hl⟩ := H4.out _ rfl; have HH := Lib.hid hh; have HQ := areValid_two a b (W.heap.size + 1 + 1) 2 _ h8 hl HMA.out HMB.out (HT.out.go hh.2.2.1); rw [F0.out] at HQ; refine Calls.mono HQ ?_; clear HQ hh h8 hl; rintro e w1 ⟨he, hb⟩; subst he; replace HH := Lib.hid (HH.out.go hb); clear hb; obtain ⟨⟨x0, x1, x2, x3⟩, ⟨y0, y1, y2, y3⟩, _, lz⟩ := HH.out))
  have H1 := Lib.hid (HH.out.go (Below.refl _ _).drew)
  clear x0 x1 x2 x3 y0 y1 y2 y3 lz HH
  have hw : IntKind.i64.wrap 7 = 7 := by decide
  have hix := idx9_7
  go_region_held3 (fun w' => FlatL W a b w')
    (first | exact H1.out.flat | exact HS3.out.flat | exact HS4.out.flat | go_keep)
    ((first
      | (go_at_call 15; refine Calls.mono (table_any _) ?_; rintro e w3 ⟨⟨v1, v2, v3, v4, v5, v6, v7, v8, v9, rfl, hl⟩, hb⟩; have hq : FnAt _ w3 v8 59 35 37 := hl (v8, 59, 35, 37) (by simp); obtain ⟨gq, rfl, c1, c2, lq, -⟩ := hq; have Q1 := Lib.hid c1; have Q2 := Lib.hid c2; have Q3 := Lib.hid lq; have HS3 := Lib.hid (H1.out.go hb); clear hb hl c1 c2 lq)
      | (go_at_call 59; refine Calls.mono (cl8_any a b gq w3 HA.out HB.out (HT.out.go HS3.out.2.2.1) Q1.out Q2.out Q3.out) ?_; rintro e w4 ⟨he, hb⟩; rw [HO.out] at he; subst he; have HS4 := Lib.hid (HS3.out.go hb); clear hb)))
  go_split_ands
  clear hw hix
  go_wp2_with fail
  go_ret2
  exact ⟨rfl, HS4.out.2.2.1⟩

set_option maxHeartbeats 800000 in
set_option maxRecDepth 100000 in
theorem impl_cmp_9 (a b : Va) (W : World) (ha : a.t.size ≤ 1048576) (hb : b.t.size ≤ 1048576) (hT : Tabs W)  (f0 : (a.ok && b.ok) = true) :
    Calls Tryz.prog 6 #[.int .i64 9, a.ag, b.ag] W fun e w' => e = .returned (.tuple #[.bool ((ttB a.k a.n a.t a.r && ttB b.k b.n b.t b.r) && txtGt a b), .int .i64 (if (ttB a.k a.n a.t a.r && ttB b.k b.n b.t b.r) = true then 0 else 4)]) ∧ Below W.heap.size W w' := by
  have H0 := Lib.hid (L2.newI W a b)
  have HA := Lib.hid ha
  have HB := Lib.hid hb
  have HMA : Hid (a.t.size ≤ maxLen) := Nat.le_trans ha (by unfold maxLen; omega)
  have HMB : Hid (b.t.size ≤ maxLen) := Nat.le_trans hb (by unfold maxLen; omega)
  have HT := Lib.hid hT
  clear hT
  have F0 := Lib.hid f0
  clear ha hb f0
  have H4 := Lib.hid (L2.row W a b)
  have K0 : True := trivial
  have K1 : True := trivial
  have K2 : True := trivial
  have K3 : True := trivial
  have K4 : True := trivial
  have K5 : True := trivial
  unfold Va.ag
  obtain ⟨h, hh⟩ : ∃ h, txtGt a b = h := ⟨_, rfl⟩
  have HO := Lib.hid hh
  rw [hh]
  clear hh
  obtain ⟨pq, hq⟩ : ∃ pq, (ttB a.k a.n a.t a.r && ttB b.k b.n b.t b.r) = pq := ⟨_, rfl⟩
  have HPQ := Lib.hid hq
  rw [hq]
  clear hq
  cases pq
  all_goals
    go_enter Tryz.func6, Tryz.ntmps6
    go_wp2_with (first
      | (go_at_call 13; refine (within_i64 _ _ _ _).mono ?_; rintro e w9 ⟨rfl, rfl⟩; rw [show decide ((1 : Int) ≤ 9 ∧ (9 : Int) ≤ 9) = true from rfl])
      | (go_at_call 14; obtain ⟨hh, h8, hl⟩ := H4.out _ rfl; have HH := Lib.hid hh; have HQ := areValid_two a b (W.heap.size + 1 + 1) 2 _ h8 hl HMA.out HMB.out (HT.out.go hh.2.2.1); rw [F0.out] at HQ; refine Calls.mono HQ ?_; clear HQ hh h8 hl; rintro e w1 ⟨he, hb⟩; subst he; replace HH := Lib.hid (HH.out.go hb); clear hb; obtain ⟨⟨x0, x1, x2, x3⟩, ⟨y0, y1, y2, y3⟩, _, lz⟩ := HH.out))
    have H1 := Lib.hid (HH.out.go (Below.refl _ _).drew)
    clear x0 x1 x2 x3 y0 y1 y2 y3 lz HH
    have hw : IntKind.i64.wrap 8 = 8 := by decide
    have hix := idx9_8
    go_region_held3 (fun w' => FlatL W a b w')
      (first | exact H1.out.flat | exact HS3.out.flat | exact HS4.out.flat | go_keep)
      ((first
        | (go_at_call 15; refine Calls.mono (table_any _) ?_; rintro e w3 ⟨⟨v1, v2, v3, v4, v5, v6, v7, v8, v9, rfl, hl⟩, hb⟩; have hq : FnAt _ w3 v9 61 39 40 := hl (v9, 61, 39, 40) (by simp); obtain ⟨gq, rfl, c1, c2, lq, -⟩ := hq; have Q1 := Lib.hid c1; have Q2 := Lib.hid c2; have Q3 := Lib.hid lq; have HS3 := Lib.hid (H1.out.go hb); clear hb hl c1 c2 lq)
        | (go_at_call 61; refine Calls.mono (cl9_any a b gq w3 HA.out HB.out (HT.out.go HS3.out.2.2.1) Q1.out Q2.out Q3.out) ?_; rintro e w4 ⟨he, hb⟩; rw [show gtS (ttS a.k a.n a.t a.r) (ttS b.k b.n b.t b.r) = h from HO.out, HPQ.out] at he; subst he; have HS4 := Lib.hid (HS3.out.go hb); clear hb)))
    go_split_ands
    clear hw hix
    go_wp2_with fail
    go_ret2
    exact ⟨rfl, HS4.out.2.2.1⟩

theorem impl_Compared_any (op : Int) (a b : Va) (W : World) (ha : a.t.size ≤ 1048576) (hb : b.t.size ≤ 1048576) (hT : Tabs W) :
    Calls Tryz.prog 6 #[.int .i64 op, a.ag, b.ag] W fun e w' => e = .returned (.tuple #[.bool (cmpV op a b).1, .int .i64 (cmpV op a b).2]) ∧ Below W.heap.size W w' := by
  unfold cmpV
  cases hop : decide (1 ≤ op ∧ op ≤ 9)
  · rw [if_pos (by simp)]; exact impl_cmp_op op a b W ha hb hT hop
  cases hv : (a.ok && b.ok)
  · rw [if_pos (by simp)]; exact impl_cmp_bad op a b W ha hb hT hop hv
  rw [if_neg (by simp)]
  have hop := of_decide_eq_true hop
  have ho : op = 1 ∨ op = 2 ∨ op = 3 ∨ op = 4 ∨ op = 5 ∨ op = 6 ∨ op = 7 ∨ op = 8 ∨ op = 9 := by omega
  clear hop
  rcases ho with rfl | rfl | rfl | rfl | rfl | rfl | rfl | rfl | rfl
  · rw [if_neg (by decide), if_neg (by decide), if_neg (by decide)]; exact impl_cmp_1 a b W ha hb hT hv
  · rw [if_neg (by decide), if_neg (by decide), if_neg (by decide)]; exact impl_cmp_2 a b W ha hb hT hv
  · rw [if_neg (by decide), if_neg (by decide), if_neg (by decide)]; exact impl_cmp_3 a b W ha hb hT hv
  · rw [if_neg (by decide), if_neg (by decide), if_neg (by decide)]; exact impl_cmp_4 a b W ha hb hT hv
  · rw [if_neg (by decide), if_neg (by decide), if_neg (by decide)]; exact impl_cmp_5 a b W ha hb hT hv
  · rw [if_neg (by decide), if_neg (by decide), if_neg (by decide)]; exact impl_cmp_6 a b W ha hb hT hv
  · rw [if_pos rfl]; exact impl_cmp_7 a b W ha hb hT hv
  · rw [if_neg (by decide), if_pos rfl]; exact impl_cmp_8 a b W ha hb hT hv
  · rw [if_neg (by decide), if_neg (by decide), if_pos rfl]; exact impl_cmp_9 a b W ha hb hT hv
end Go.Proofs.YtpjjpfjnjhahcaaGreatDoor
