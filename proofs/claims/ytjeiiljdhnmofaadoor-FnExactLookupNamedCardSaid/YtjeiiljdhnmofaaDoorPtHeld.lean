/- Contracts: laws.heldPatternS, heldPattern on marked trees. No condition but a bound on the number. -/
import Derived.Test.YtjeiiljdhnmofaaDoorPtMark
import Derived.Deep.QuietTactic
import Derived.BigQuiet
import Derived.Lib.QuietBelow
namespace Go.Proofs.YtjeiiljdhnmofaaDoor
open Go Go.RowKit Go.Sort

def HeldAt (d : Nat) : Prop := ∀ (A : Option Addr) (n c k : Nat) (xs : List Pt) (W : World), PtD W 0 W.heap.size d A n (mkTs k xs) → 0 < k → k + 3 * ptCnts xs ≤ 16777000 →
  Calls Tryd.prog 63 #[.slice A n c, .int .i64 (k : Int)] W fun e w' => e = .returned (.int .i64 ((k + 3 * ptCnts xs : Nat) : Int)) ∧ Below W.heap.size W w'

set_option maxHeartbeats 4000000 in
set_option maxRecDepth 100000 in
theorem held_step (d : Nat) (A : Option Addr) (n c k : Nat) (xs : List Pt) (W : World) (ih : 0 < n → HeldAt d) (h : PtD W 0 W.heap.size (d + 1) A n (mkTs k xs)) (h0 : 0 < k) (hk : k + 3 * ptCnts xs ≤ 16777000) :
    Calls Tryd.prog 63 #[.slice A n c, .int .i64 (k : Int)] W fun e w' => e = .returned (.int .i64 ((k + 3 * ptCnts xs : Nat) : Int)) ∧ Below W.heap.size W w' := by
  have hl : xs.length = n := by rw [← mkTs_len xs k]; exact h.1
  rw [ptCnts_eq, hl] at hk ⊢
  have HH := Lib.hid h
  have HL := Lib.hid hl
  have HIH := Lib.hid ih
  have hnm := h.2.1
  unfold maxLen at hnm
  clear h ih hl
  go_enter Tryd.func63, Tryd.ntmps63
  go_wp2
  go_loopw [1, 5] (fun q i wr => ∃ j : Nat, j ≤ n ∧ i = .int .i64 j ∧ q = .int .i64 ((k + 3 * pcntK xs j : Nat) : Int) ∧ Hid (Below W.heap.size W wr)) (fun _ i _ => n - (intOf i).toNat)
  case atStart => exact ⟨0, Nat.zero_le _, rfl, by simp [pcntK], Below.refl _ _⟩
  case round =>
    obtain ⟨j, hj, rfl, rfl, HW⟩ := hrel
    by_cases hlt : j < n
    · obtain ⟨b, off, y, A1, n1, c1, rfl, _, hgb, hy, _, ⟨q0, q1, q2, q3⟩, _, hyk⟩ := (HH.out.go HW.out).at_ hlt
      rw [mkTs_at] at hy
      obtain ⟨x, hx, rfl⟩ := Option.map_eq_some_iff.1 hy
      have HNX := Lib.hid (pcntK_next hx)
      have hmo := pcntK_mono (xs := xs) (show j + 1 ≤ n by omega)
      have b0 : (0 : Int) ≤ (j : Int) := by omega
      have b1 : (j : Int) < (n : Int) := by omega
      obtain ⟨t, ht⟩ : ∃ t, k + 3 * pcntK xs j = t := ⟨_, rfl⟩
      have HT := Lib.hid ht
      rw [ht] at q0 q1 q2 hyk ⊢
      have hnx := HNX.out
      have hcp := ptCnt_pos x
      have htx : t + 3 * ptCnt x ≤ 16777000 := by omega
      have ht1 : t < 16777000 := by omega
      have ht0 : 0 < t := by omega
      have hce := ptCnt_eq x
      have HQ : Hid (∀ w1, Below wr.heap.size wr w1 → Calls Tryd.prog 63 #[.slice A1 n1 c1, .int .i64 ((t : Int) + 1 + 1 + 1)] w1 fun e w' => e = .returned (.int .i64 ((t + 3 * ptCnt x : Nat) : Int)) ∧ Below w1.heap.size w1 w') := by
        show ∀ w1, _ → _
        intro w1 hb
        obtain ⟨xk, xm, xt, xks⟩ := x
        rw [mkT] at hyk
        change PtD wr 0 wr.heap.size d A1 n1 (mkTs (t + 3) xks) at hyk
        have := HIH.out (by omega) A1 n1 c1 (t + 3) xks w1 (hyk.go hb) (by omega) (by have e1 : (Pt.node xk xm xt xks).kids = xks := rfl; rw [e1] at hce; omega)
        rw [show ((t + 3 : Nat) : Int) = (t : Int) + 1 + 1 + 1 from by omega, show t + 3 + 3 * ptCnts xks = t + 3 * ptCnt (.node xk xm xt xks) from by have e1 : (Pt.node xk xm xt xks).kids = xks := rfl; rw [e1] at hce; omega] at this
        exact this
      have HMT : Hid (∀ w, Calls Tryd.prog 62 #[.int .i64 ((t : Int) + 1 + 1)] w fun e w' => e = .returned (.string (markT (t + 2))) ∧ Below w.heap.size w w') := fun w => by
        have := markText_any (t + 2) w (by omega) (by omega)
        rw [show ((t + 2 : Nat) : Int) = (t : Int) + 1 + 1 by omega] at this
        exact this
      have e0 : (mkT t x).k = (t : Int) := by cases x; rw [mkT]; rfl
      have e1 : (mkT t x).n = (t : Int) + 1 := by cases x; rw [mkT]; rfl
      have e2 : (mkT t x).t = markT (t + 2) := by cases x; rw [mkT]; rfl
      rw [e0] at q0
      rw [e1] at q1
      rw [e2] at q2
      obtain ⟨mt, hmt⟩ : ∃ mt, markT (t + 2) = mt := ⟨_, rfl⟩
      rw [hmt] at q2 HMT
      obtain ⟨u, hu⟩ : ∃ u, t + 3 * ptCnt x = u := ⟨_, rfl⟩
      rw [hu] at HQ
      have HU : Hid (k + 3 * pcntK xs (j + 1) = u) := by show _ = _; omega
      have du : decide ((u : Int) < 0) = false := by first | (simp; done) | (simp; omega)
      clear ht hmo hy hyk hgb hx hnx hce htx hmt hu e0 e1 e2 hcp
      go_wp2_with fail
      have x0 := cell_regrown q0
      have x1 := cell_regrown q1
      have x2 := cell_regrown q2
      have x3 := cell_regrown q3
      have cM : ∀ dd os', Calls Tryd.prog 62 #[.int .i64 ((t : Int) + 1 + 1)] (grow (redrawn wr dd) os') (fun e w'' => e = .returned (.string mt) ∧ ∃ r : Regrown, w'' = grow (redrawn wr r.d) r.os) := fun dd os' => Calls.regrown_of (w := wr) (HMT.out _)
      refine wp_region_quiet_below (by kernel_rfl) (by kernel_rfl) ?_
      repeat (first | go_big_quiet_step (exact cM _ _) | quiet_step (exact cM _ _))
      refine wpQuiet_nil ?_
      intro w4 hw'
      obtain ⟨⟨dq, osq⟩, hw''⟩ := hw'
      have HB4 : Hid (Below wr.heap.size wr w4) := by show Below _ _ _; rw [hw'']; exact below_regrown wr dq osq
      have y3 : w4.cell? ⟨b, off + j * 4 + 3, none⟩ = some (.slice A1 n1 c1) := by rw [hw'']; exact x3 dq osq
      clear hw'' x0 x1 x2 x3 cM q0 q1 q2 q3
      go_wp2_with (go_at_call 63; refine Calls.mono (HQ.out _ HB4.out) ?_; rintro e w5 ⟨rfl, hb⟩; have HW5 := Lib.hid (HW.out.trans ((HB4.out.trans (hb.mono HB4.out.size)).mono HW.out.size)); clear hb)
      go_roundw
      case rel => exact ⟨j + 1, by omega, by go_num, by rw [HU.out], HW5⟩
      case measure => simp [intOf]; omega
    · have HN : Hid (j = n) := by show _ = _; omega
      go_wp2_with fail
      go_ret
      exact ⟨by rw [HN.out]; rfl, HW.out⟩

theorem heldPatternS_all : ∀ d, HeldAt d
  | 0 => fun A n c k xs W h h0 hk => held_step 0 A n c k xs W (fun hn => absurd hn (by have := h.2; omega)) h.deeper h0 hk
  | d + 1 => fun A n c k xs W h h0 hk => held_step d A n c k xs W (fun _ => heldPatternS_all d) h h0 hk
theorem heldPattern_any (d : Nat) (x : Pt) (A : Option Addr) (n c : Nat) (W : World) (h : PtD W 0 W.heap.size d A n (mkTs 1 x.kids)) (hk : 1 + 3 * ptCnts x.kids ≤ 16777000) :
    Calls Tryd.prog 28 #[x.ag A n c, .int .i64 1] W fun e w' => e = .returned (.int .i64 ((1 + 3 * ptCnts x.kids : Nat) : Int)) ∧ Below W.heap.size W w' := by
  obtain ⟨k, m, t, ks⟩ := x
  change PtD W 0 W.heap.size d A n (mkTs 1 ks) at h
  change 1 + 3 * ptCnts ks ≤ 16777000 at hk
  have HBX := Lib.hid (fun X (e : X = W.alloc (.cells #[.int .i64 k, .int .i64 m, .string t, .slice A n c] 29)) => (show Below W.heap.size W X from by rw [e]; exact below_alloc _ _))
  have HQ := Lib.hid (fun X (hb : Below W.heap.size W X) => heldPatternS_all d A n c 1 ks X (h.go hb) (by decide) hk)
  show Calls Tryd.prog 28 #[.agg #[.int .i64 k, .int .i64 m, .string t, .slice A n c], .int .i64 1] W fun e w' => e = .returned (.int .i64 ((1 + 3 * ptCnts ks : Nat) : Int)) ∧ Below W.heap.size W w'
  obtain ⟨q, hq⟩ : ∃ q, 1 + 3 * ptCnts ks = q := ⟨_, rfl⟩
  rw [hq] at HQ ⊢
  have dq : decide ((q : Int) < 0) = false := by first | (simp; done) | (simp; omega)
  clear h hk hq
  go_enter Tryd.func28, Tryd.ntmps28
  go_wp2_with (go_at_call 63; have g := HBX.out _ rfl; refine Calls.mono (HQ.out _ g) ?_; rintro e w1 ⟨rfl, hb⟩; have HB := Lib.hid (g.trans (hb.mono g.size)); clear g hb)
  go_ret
  exact ⟨rfl, HB.out⟩
end Go.Proofs.YtjeiiljdhnmofaaDoor
