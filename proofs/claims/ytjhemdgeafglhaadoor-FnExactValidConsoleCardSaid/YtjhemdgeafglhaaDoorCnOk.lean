/- Contracts: ValidConsole of both. Condition (the program's): the table holds what its text lays. -/
import Derived.Test.YtjhemdgeafglhaaDoorCnFl
import Derived.Test.YtjhemdgeafglhaaDoorCnsEq
import Derived.Deep.RegionHeld3
namespace Go.Proofs.YtjhemdgeafglhaaDoor
open Go Go.RowKit Go.Sort

/-- The lists of a console but its files. -/
def partsB (x : Cn) : Bool := linesB x.input_ 100 200 && (decide (0 ≤ x.at_ ∧ x.at_ ≤ (x.input_.length : Int)) && (linesB x.output_ 100 200 && linesB x.trace_ 200 1300))
noncomputable def filesB (xs : List Fl) : Bool := tt (ListOk fileB Fl.name_ 6 xs)
/-- Whether a console is valid. -/
noncomputable def consoleB (x : Cn) : Bool := partsB x && filesB x.files_

set_option maxHeartbeats 1000000 in
set_option maxRecDepth 100000 in
theorem areFiles_any (A : Option Addr) (n c : Nat) (xs : List Fl) (W : World) (hr : FlI W W.heap.size A n xs) (hT : Classes W) :
    Calls Tryd.prog 41 #[.slice A n c] W fun e w' => e = .returned (.bool (filesB xs)) ∧ Below W.heap.size W w' := by
  unfold filesB
  obtain ⟨P, hP⟩ : ∃ P, tt (ListOk fileB Fl.name_ 6 xs) = P := ⟨_, rfl⟩
  have HNO : Hid (¬ ListOk fileB Fl.name_ 6 xs → P = false) := fun h => by rw [← hP]; exact tt_false h
  have HYES : Hid (ListOk fileB Fl.name_ 6 xs → P = true) := fun h => by rw [← hP]; exact tt_true h
  rw [hP]
  clear hP
  have HR := Lib.hid hr
  have HT := Lib.hid hT
  have hl := hr.1
  have HLL := Lib.hid hl
  clear hr hT
  by_cases hn : n ≤ 6
  case neg =>
    have HF : Hid (P = false) := HNO.out fun h => by have := h.1; omega
    have d1 : (6 : Int) < (n : Int) := by omega
    go_enter Tryd.func41, Tryd.ntmps41
    go_wp2_with fail
    go_ret
    exact ⟨by rw [HF.out]; rfl, Below.refl _ _⟩
  have d1 : ¬ (6 : Int) < (n : Int) := by omega
  have HN := Lib.hid hn
  have hnm : n ≤ 6 := hn
  clear hn hl
  go_enter Tryd.func41, Tryd.ntmps41
  go_wp2_with fail
  go_loopw [10] (fun i wr => ∃ k : Nat, k ≤ n ∧ i = .int .i64 k ∧ Hid (Below W.heap.size W wr) ∧ Hid (UpOk fileB Fl.name_ xs k)) (fun i _ => n - (intOf i).toNat)
  case atStart => exact ⟨0, Nat.zero_le _, rfl, Below.refl _ _, Lib.hid UpOk.zero⟩
  case round =>
    obtain ⟨k, hk, rfl, HB, HV⟩ := hrel
    by_cases hlt : k < n
    · have b0 : (0 : Int) ≤ (k : Int) := by omega
      have b1 : (k : Int) < (n : Int) := by omega
      obtain ⟨b, off, x, l, rfl, hg, hx, ⟨q0, q1, q2, q3⟩, hv⟩ := (HR.out.go HB.out).at_ hlt
      have HX := Lib.hid hx
      have HGB : Hid (b < wr.heap.size) := hg
      have HEL := Lib.hid (fun (w : World) (hb : Below wr.heap.size wr w) => isFile_any x l w (hv.go hb) (classes_go HT.out (HB.out.trans (hb.mono HB.out.size))))
      obtain ⟨x0, x1, x2, x3⟩ := x
      obtain ⟨a1, s1, d1', e1⟩ := l
      dsimp only at q0 q1 q2 q3
      obtain ⟨z0, hz0⟩ : ∃ z, fileB ⟨x0, x1, x2, x3⟩ = z := ⟨_, rfl⟩
      have HZ := Lib.hid hz0
      clear hx hg hv hz0

      cases z0
      case false =>
        have HF : Hid (P = false) := HNO.out (not_ok HX.out HZ.out)
        go_wp2_with fail
        obtain ⟨w0, hw0⟩ : ∃ w0, wr.alloc (.cells #[.string x0, .slice a1 s1 d1', .int .i64 x2, .int .i64 x3] 89) = w0 := ⟨_, rfl⟩
        have g1 : Below wr.heap.size wr w0 := by rw [← hw0]; exact below_alloc _ _
        have HR0 := Lib.hid (one_new1 wr 89 #[.string x0, .slice a1 s1 d1', .int .i64 x2, .int .i64 x3] w0 hw0.symm).1
        have HB0 := Lib.hid (HB.out.trans (g1.mono HB.out.size))
        rw [hw0]
        have xx0 := cell_regrown (HR0.out.cell 0)
        have xx1 := cell_regrown (HR0.out.cell 1)
        have xx2 := cell_regrown (HR0.out.cell 2)
        have xx3 := cell_regrown (HR0.out.cell 3)
        have cA : ∀ d os', Calls Tryd.prog 68 #[.agg #[.string x0, .slice a1 s1 d1', .int .i64 x2, .int .i64 x3]] (grow (redrawn w0 d) os') (fun e w'' => e = .returned (.bool false) ∧ ∃ q : Regrown, w'' = grow (redrawn w0 q.d) q.os) := fun d os' => Calls.regrown_of (by have hb := g1.trans ((below_regrown w0 d os').mono g1.size); have h := HEL.out _ hb; rw [HZ.out] at h; exact h)
        clear hw0 g1 q0 q1 q2 q3
        refine wp_region_quiet_below (by kernel_rfl) (by kernel_rfl) ?_
        repeat (first | go_big_quiet_step (with_reducible exact cA _ _) | quiet_step (with_reducible exact cA _ _))
        refine wpQuiet_nil ?_
        intro w4 hw'
        obtain ⟨⟨dq, osq⟩, hw''⟩ := hw'
        have HB4 : Hid (Below W.heap.size W w4) := by show Below _ _ _; rw [hw'']; exact HB0.out.trans ((below_regrown w0 dq osq).mono HB0.out.size)
        clear hw'' xx0 xx1 xx2 xx3 cA
        go_wp2_with fail
        go_ret
        exact ⟨by rw [HF.out]; rfl, HB4.out⟩
      have HOK : Hid (fileB ⟨x0, x1, x2, x3⟩ = true) := HZ.out
      by_cases hkp : k = 0
      · subst hkp
        have HV2 := Lib.hid (UpOk.first (nm := Fl.name_) HX.out HOK.out)
        simp only [Nat.zero_mul, Nat.add_zero] at q0 q1 q2 q3
        go_wp2_with fail
        obtain ⟨w0, hw0⟩ : ∃ w0, wr.alloc (.cells #[.string x0, .slice a1 s1 d1', .int .i64 x2, .int .i64 x3] 89) = w0 := ⟨_, rfl⟩
        have g1 : Below wr.heap.size wr w0 := by rw [← hw0]; exact below_alloc _ _
        have HR0 := Lib.hid (one_new1 wr 89 #[.string x0, .slice a1 s1 d1', .int .i64 x2, .int .i64 x3] w0 hw0.symm).1
        have HB0 := Lib.hid (HB.out.trans (g1.mono HB.out.size))
        rw [hw0]
        have xx0 := cell_regrown (HR0.out.cell 0)
        have xx1 := cell_regrown (HR0.out.cell 1)
        have xx2 := cell_regrown (HR0.out.cell 2)
        have xx3 := cell_regrown (HR0.out.cell 3)
        have cA : ∀ d os', Calls Tryd.prog 68 #[.agg #[.string x0, .slice a1 s1 d1', .int .i64 x2, .int .i64 x3]] (grow (redrawn w0 d) os') (fun e w'' => e = .returned (.bool true) ∧ ∃ q : Regrown, w'' = grow (redrawn w0 q.d) q.os) := fun d os' => Calls.regrown_of (by have hb := g1.trans ((below_regrown w0 d os').mono g1.size); have h := HEL.out _ hb; rw [HZ.out] at h; exact h)
        clear hw0 g1 q0 q1 q2 q3
        refine wp_region_quiet_below (by kernel_rfl) (by kernel_rfl) ?_
        repeat (first | go_big_quiet_step (with_reducible exact cA _ _) | quiet_step (with_reducible exact cA _ _))
        refine wpQuiet_nil ?_
        intro w4 hw'
        obtain ⟨⟨dq, osq⟩, hw''⟩ := hw'
        have HB4 : Hid (Below W.heap.size W w4) := by show Below _ _ _; rw [hw'']; exact HB0.out.trans ((below_regrown w0 dq osq).mono HB0.out.size)
        clear hw'' xx0 xx1 xx2 xx3 cA
        go_wp2_with fail
        go_roundw
        case rel => exact ⟨0 + 1, by omega, by go_num, HB4, HV2⟩
        case measure => simp [intOf]; omega
      obtain ⟨j, hj⟩ : ∃ j, k = j + 1 := ⟨k - 1, by omega⟩
      have hj1 : (k : Int) - 1 = (j : Int) := by omega
      have hkp2 : (0 : Int) < (k : Int) := by omega
      have hkp3 : decide ((0 : Int) < (k : Int)) = true := by simp; omega
      have hkp4 : decide (0 < k) = true := by simp; omega
      have hkp5 : 0 < k := by omega
      have e0 : (0 : Int) ≤ (j : Int) := by omega
      have e1' : (j : Int) < (n : Int) := by omega
      obtain ⟨b', off', y, l', hA, hg', hy, ⟨r0, r1, r2, r3⟩, _⟩ := (HR.out.go HB.out).at_ (show j < n by omega)
      simp only [Option.some.injEq, Addr.mk.injEq, and_true] at hA
      obtain ⟨rfl, rfl⟩ := hA
      have HY : Hid (xs[k - 1]? = some y) := by show _ = _; rw [show k - 1 = j by omega]; exact hy
      clear hj hkp hg' hy r1 r2 r3
      obtain ⟨R, hRR⟩ : ∃ z, Op.bytesLess y.name_.toList x0.toList = z := ⟨_, rfl⟩
      have HRR := Lib.hid hRR
      cases R
      · have HF : Hid (P = false) := HNO.out (not_up hkp5 HX.out HY.out HRR.out)
        go_wp2_with fail
        obtain ⟨w0, hw0⟩ : ∃ w0, wr.alloc (.cells #[.string x0, .slice a1 s1 d1', .int .i64 x2, .int .i64 x3] 89) = w0 := ⟨_, rfl⟩
        have g1 : Below wr.heap.size wr w0 := by rw [← hw0]; exact below_alloc _ _
        have HR0 := Lib.hid (one_new1 wr 89 #[.string x0, .slice a1 s1 d1', .int .i64 x2, .int .i64 x3] w0 hw0.symm).1
        have HB0 := Lib.hid (HB.out.trans (g1.mono HB.out.size))
        rw [hw0]
        have xx0 := cell_regrown (HR0.out.cell 0)
        have xx1 := cell_regrown (HR0.out.cell 1)
        have xx2 := cell_regrown (HR0.out.cell 2)
        have xx3 := cell_regrown (HR0.out.cell 3)
        have y0 := cell_regrown ((g1.cell (p := ⟨b, off + j * 4, none⟩) HGB.out).trans r0)
        have cA : ∀ d os', Calls Tryd.prog 68 #[.agg #[.string x0, .slice a1 s1 d1', .int .i64 x2, .int .i64 x3]] (grow (redrawn w0 d) os') (fun e w'' => e = .returned (.bool true) ∧ ∃ q : Regrown, w'' = grow (redrawn w0 q.d) q.os) := fun d os' => Calls.regrown_of (by have hb := g1.trans ((below_regrown w0 d os').mono g1.size); have h := HEL.out _ hb; rw [HZ.out] at h; exact h)
        clear hw0 g1 q0 q1 q2 q3 r0
        refine wp_region_quiet_below (by kernel_rfl) (by kernel_rfl) ?_
        repeat (first | go_big_quiet_step (with_reducible exact cA _ _) | quiet_step (with_reducible exact cA _ _))
        refine wpQuiet_nil ?_
        intro w4 hw'
        obtain ⟨⟨dq, osq⟩, hw''⟩ := hw'
        have HB4 : Hid (Below W.heap.size W w4) := by show Below _ _ _; rw [hw'']; exact HB0.out.trans ((below_regrown w0 dq osq).mono HB0.out.size)
        clear hw'' xx0 xx1 xx2 xx3 cA y0
        go_wp2_with fail
        go_ret
        exact ⟨by rw [HF.out]; rfl, HB4.out⟩
      · have HV2 := Lib.hid (UpOk.next HV.out HX.out HOK.out HY.out HRR.out)
        go_wp2_with fail
        obtain ⟨w0, hw0⟩ : ∃ w0, wr.alloc (.cells #[.string x0, .slice a1 s1 d1', .int .i64 x2, .int .i64 x3] 89) = w0 := ⟨_, rfl⟩
        have g1 : Below wr.heap.size wr w0 := by rw [← hw0]; exact below_alloc _ _
        have HR0 := Lib.hid (one_new1 wr 89 #[.string x0, .slice a1 s1 d1', .int .i64 x2, .int .i64 x3] w0 hw0.symm).1
        have HB0 := Lib.hid (HB.out.trans (g1.mono HB.out.size))
        rw [hw0]
        have xx0 := cell_regrown (HR0.out.cell 0)
        have xx1 := cell_regrown (HR0.out.cell 1)
        have xx2 := cell_regrown (HR0.out.cell 2)
        have xx3 := cell_regrown (HR0.out.cell 3)
        have y0 := cell_regrown ((g1.cell (p := ⟨b, off + j * 4, none⟩) HGB.out).trans r0)
        have cA : ∀ d os', Calls Tryd.prog 68 #[.agg #[.string x0, .slice a1 s1 d1', .int .i64 x2, .int .i64 x3]] (grow (redrawn w0 d) os') (fun e w'' => e = .returned (.bool true) ∧ ∃ q : Regrown, w'' = grow (redrawn w0 q.d) q.os) := fun d os' => Calls.regrown_of (by have hb := g1.trans ((below_regrown w0 d os').mono g1.size); have h := HEL.out _ hb; rw [HZ.out] at h; exact h)
        clear hw0 g1 q0 q1 q2 q3 r0
        refine wp_region_quiet_below (by kernel_rfl) (by kernel_rfl) ?_
        repeat (first | go_big_quiet_step (with_reducible exact cA _ _) | quiet_step (with_reducible exact cA _ _))
        refine wpQuiet_nil ?_
        intro w4 hw'
        obtain ⟨⟨dq, osq⟩, hw''⟩ := hw'
        have HB4 : Hid (Below W.heap.size W w4) := by show Below _ _ _; rw [hw'']; exact HB0.out.trans ((below_regrown w0 dq osq).mono HB0.out.size)
        clear hw'' xx0 xx1 xx2 xx3 cA y0
        go_wp2_with fail
        go_roundw
        case rel => exact ⟨k + 1, by omega, by go_num, HB4, HV2⟩
        case measure => simp [intOf]; omega
    · have hkn : k = n := by omega
      have HT1 : Hid (P = true) := HYES.out (by
        refine ⟨by have := HLL.out; have := HN.out; omega, ?_⟩
        rw [HLL.out, ← hkn]
        exact HV.out)
      have hnk : ¬ (k : Int) < (n : Int) := by omega
      clear HV hkn
      go_wp2_with fail
      go_ret
      exact ⟨by rw [HT1.out]; rfl, HB.out⟩

set_option maxHeartbeats 1000000 in
set_option maxRecDepth 100000 in
theorem hasLines_any (x : Cn) (l : CnLay) (W : World) (hx : CnV W W.heap.size x l) :
    Calls Tryd.prog 40 #[x.ag l] W fun e w' => e = .returned (.bool (partsB x)) ∧ Below W.heap.size W w' := by
  unfold partsB
  obtain ⟨x0, x1, x2, x3, x4⟩ := x
  obtain ⟨A0, n0, c0, h0, A2, n2, c2, h2, A3, n3, c3, h3, A4, n4, c4, h4⟩ := l
  obtain ⟨k0, k2, k3, k4⟩ := hx
  dsimp only at k0 k2 k3 k4 ⊢
  have HK0 := Lib.hid k0
  have HK2 := Lib.hid k2
  have HK3 := Lib.hid k3
  have HK4 := Lib.hid k4
  have hn0 := k0.2.1
  unfold maxLen at hn0
  rw [k0.1]
  obtain ⟨a, ha⟩ : ∃ z, linesB x0 100 200 = z := ⟨_, rfl⟩
  obtain ⟨b, hb⟩ : ∃ z, decide (0 ≤ x1 ∧ x1 ≤ (n0 : Int)) = z := ⟨_, rfl⟩
  obtain ⟨c, hc⟩ : ∃ z, linesB x2 100 200 = z := ⟨_, rfl⟩
  obtain ⟨d, hd⟩ : ∃ z, linesB x4 200 1300 = z := ⟨_, rfl⟩
  have HA := Lib.hid ha
  have HB := Lib.hid hb
  have HC := Lib.hid hc
  have HD := Lib.hid hd
  rw [ha, hb, hc, hd]
  clear k0 k2 k3 k4 ha hb hc hd
  have HO := Lib.hid (fun X (e : X = W.alloc (.cells #[.slice A0 n0 c0, .int .i64 x1, .slice A2 n2 c2, .slice A3 n3 c3, .slice A4 n4 c4] 40)) => one_new1 W 40 #[.slice A0 n0 c0, .int .i64 x1, .slice A2 n2 c2, .slice A3 n3 c3, .slice A4 n4 c4] X e)
  show Calls Tryd.prog 40 #[.agg #[.slice A0 n0 c0, .int .i64 x1, .slice A2 n2 c2, .slice A3 n3 c3, .slice A4 n4 c4]] W _
  cases a
  · skip
    have tk1 : True := trivial
    go_enter Tryd.func40, Tryd.ntmps40
    go_wp2_with (go_at_call 67; have tk := tk1; obtain ⟨g0, g1, g2⟩ := HO.out _ rfl; refine Calls.mono (areLines_any A0 n0 c0 100 200 x0 _ (HK0.out.go g1) (by decide) (by decide)) ?_; rintro e w1 ⟨rfl, hb⟩; rw [HA.out]; have HW1 : Hid (RW 40 w1 W.heap.size #[.slice A0 n0 c0, .int .i64 x1, .slice A2 n2 c2, .slice A3 n3 c3, .slice A4 n4 c4] ∧ Below W.heap.size W w1) := ⟨g0.below hb g0.lt, g1.trans (hb.mono g1.size)⟩; have y10 : w1.cell? ⟨W.heap.size, 0, none⟩ = some (.slice A0 n0 c0) := HW1.out.1.cell 0; have y11 : w1.cell? ⟨W.heap.size, 1, none⟩ = some (.int .i64 x1) := HW1.out.1.cell 1; have y12 : w1.cell? ⟨W.heap.size, 2, none⟩ = some (.slice A2 n2 c2) := HW1.out.1.cell 2; clear g0 g1 g2 hb tk tk1)
    go_ret
    exact ⟨rfl, HW1.out.2⟩
  cases b
  · skip
    have tk1 : True := trivial
    go_enter Tryd.func40, Tryd.ntmps40
    go_wp2_with (go_at_call 67; have tk := tk1; obtain ⟨g0, g1, g2⟩ := HO.out _ rfl; refine Calls.mono (areLines_any A0 n0 c0 100 200 x0 _ (HK0.out.go g1) (by decide) (by decide)) ?_; rintro e w1 ⟨rfl, hb⟩; rw [HA.out]; have HW1 : Hid (RW 40 w1 W.heap.size #[.slice A0 n0 c0, .int .i64 x1, .slice A2 n2 c2, .slice A3 n3 c3, .slice A4 n4 c4] ∧ Below W.heap.size W w1) := ⟨g0.below hb g0.lt, g1.trans (hb.mono g1.size)⟩; have y10 : w1.cell? ⟨W.heap.size, 0, none⟩ = some (.slice A0 n0 c0) := HW1.out.1.cell 0; have y11 : w1.cell? ⟨W.heap.size, 1, none⟩ = some (.int .i64 x1) := HW1.out.1.cell 1; have y12 : w1.cell? ⟨W.heap.size, 2, none⟩ = some (.slice A2 n2 c2) := HW1.out.1.cell 2; clear g0 g1 g2 hb tk tk1)
    go_wp2_with (go_at_call 32; refine Calls.mono (within_i64 x1 0 (n0 : Int) _) ?_; rintro e w9 ⟨rfl, rfl⟩; rw [HB.out])
    go_ret
    exact ⟨rfl, HW1.out.2⟩
  cases c
  · skip
    have tk1 : True := trivial
    go_enter Tryd.func40, Tryd.ntmps40
    go_wp2_with (go_at_call 67; have tk := tk1; obtain ⟨g0, g1, g2⟩ := HO.out _ rfl; refine Calls.mono (areLines_any A0 n0 c0 100 200 x0 _ (HK0.out.go g1) (by decide) (by decide)) ?_; rintro e w1 ⟨rfl, hb⟩; rw [HA.out]; have HW1 : Hid (RW 40 w1 W.heap.size #[.slice A0 n0 c0, .int .i64 x1, .slice A2 n2 c2, .slice A3 n3 c3, .slice A4 n4 c4] ∧ Below W.heap.size W w1) := ⟨g0.below hb g0.lt, g1.trans (hb.mono g1.size)⟩; have y10 : w1.cell? ⟨W.heap.size, 0, none⟩ = some (.slice A0 n0 c0) := HW1.out.1.cell 0; have y11 : w1.cell? ⟨W.heap.size, 1, none⟩ = some (.int .i64 x1) := HW1.out.1.cell 1; have y12 : w1.cell? ⟨W.heap.size, 2, none⟩ = some (.slice A2 n2 c2) := HW1.out.1.cell 2; clear g0 g1 g2 hb tk tk1)
    go_wp2_with (go_at_call 32; refine Calls.mono (within_i64 x1 0 (n0 : Int) _) ?_; rintro e w9 ⟨rfl, rfl⟩; rw [HB.out])
    have tk2 : True := trivial
    go_wp2_with (go_at_call 67; have tk := tk2; refine Calls.mono (areLines_any A2 n2 c2 100 200 x2 _ (HK2.out.go HW1.out.2) (by decide) (by decide)) ?_; rintro e w2 ⟨rfl, hb⟩; rw [HC.out]; have HW2 : Hid (RW 40 w2 W.heap.size #[.slice A0 n0 c0, .int .i64 x1, .slice A2 n2 c2, .slice A3 n3 c3, .slice A4 n4 c4] ∧ Below W.heap.size W w2) := ⟨HW1.out.1.below hb HW1.out.1.lt, HW1.out.2.trans (hb.mono HW1.out.2.size)⟩; have y24 : w2.cell? ⟨W.heap.size, 4, none⟩ = some (.slice A4 n4 c4) := HW2.out.1.cell 4; clear hb tk tk2)
    go_ret
    exact ⟨rfl, HW2.out.2⟩
  cases d
  all_goals
    have tk1 : True := trivial
    go_enter Tryd.func40, Tryd.ntmps40
    go_wp2_with (go_at_call 67; have tk := tk1; obtain ⟨g0, g1, g2⟩ := HO.out _ rfl; refine Calls.mono (areLines_any A0 n0 c0 100 200 x0 _ (HK0.out.go g1) (by decide) (by decide)) ?_; rintro e w1 ⟨rfl, hb⟩; rw [HA.out]; have HW1 : Hid (RW 40 w1 W.heap.size #[.slice A0 n0 c0, .int .i64 x1, .slice A2 n2 c2, .slice A3 n3 c3, .slice A4 n4 c4] ∧ Below W.heap.size W w1) := ⟨g0.below hb g0.lt, g1.trans (hb.mono g1.size)⟩; have y10 : w1.cell? ⟨W.heap.size, 0, none⟩ = some (.slice A0 n0 c0) := HW1.out.1.cell 0; have y11 : w1.cell? ⟨W.heap.size, 1, none⟩ = some (.int .i64 x1) := HW1.out.1.cell 1; have y12 : w1.cell? ⟨W.heap.size, 2, none⟩ = some (.slice A2 n2 c2) := HW1.out.1.cell 2; clear g0 g1 g2 hb tk tk1)
    go_wp2_with (go_at_call 32; refine Calls.mono (within_i64 x1 0 (n0 : Int) _) ?_; rintro e w9 ⟨rfl, rfl⟩; rw [HB.out])
    have tk2 : True := trivial
    go_wp2_with (go_at_call 67; have tk := tk2; refine Calls.mono (areLines_any A2 n2 c2 100 200 x2 _ (HK2.out.go HW1.out.2) (by decide) (by decide)) ?_; rintro e w2 ⟨rfl, hb⟩; rw [HC.out]; have HW2 : Hid (RW 40 w2 W.heap.size #[.slice A0 n0 c0, .int .i64 x1, .slice A2 n2 c2, .slice A3 n3 c3, .slice A4 n4 c4] ∧ Below W.heap.size W w2) := ⟨HW1.out.1.below hb HW1.out.1.lt, HW1.out.2.trans (hb.mono HW1.out.2.size)⟩; have y24 : w2.cell? ⟨W.heap.size, 4, none⟩ = some (.slice A4 n4 c4) := HW2.out.1.cell 4; clear hb tk tk2)
    have tk3 : True := trivial
    go_wp2_with (go_at_call 67; have tk := tk3; refine Calls.mono (areLines_any A4 n4 c4 200 1300 x4 _ (HK4.out.go HW2.out.2) (by decide) (by decide)) ?_; rintro e w3 ⟨rfl, hb⟩; rw [HD.out]; have HW3 : Hid (RW 40 w3 W.heap.size #[.slice A0 n0 c0, .int .i64 x1, .slice A2 n2 c2, .slice A3 n3 c3, .slice A4 n4 c4] ∧ Below W.heap.size W w3) := ⟨HW2.out.1.below hb HW2.out.1.lt, HW2.out.2.trans (hb.mono HW2.out.2.size)⟩; clear hb tk tk3)
    go_ret
    exact ⟨rfl, HW3.out.2⟩

set_option maxHeartbeats 1000000 in
set_option maxRecDepth 100000 in
theorem impl_ValidConsole_any (x : Cn) (l : CnLay) (W : World) (hx : CnV W W.heap.size x l) (hT : Classes W) :
    Calls Tryd.prog 17 #[x.ag l] W fun e w' => e = .returned (.bool (consoleB x)) ∧ Below W.heap.size W w' := by
  unfold consoleB
  have HT := Lib.hid hT
  have HQ := Lib.hid (fun (w : World) (hb : Below W.heap.size W w) => hasLines_any x l w (hx.go hb))
  obtain ⟨x0, x1, x2, x3, x4⟩ := x
  obtain ⟨A0, n0, c0, h0, A2, n2, c2, h2, A3, n3, c3, h3, A4, n4, c4, h4⟩ := l
  obtain ⟨k0, k2, k3, k4⟩ := hx
  dsimp only at k3 ⊢
  have HK3 := Lib.hid k3
  obtain ⟨a, ha⟩ : ∃ z, partsB ⟨x0, x1, x2, x3, x4⟩ = z := ⟨_, rfl⟩
  obtain ⟨b, hb⟩ : ∃ z, filesB x3 = z := ⟨_, rfl⟩
  have HA := Lib.hid ha
  have HB := Lib.hid hb
  rw [ha, hb]
  clear k0 k2 k3 k4 ha hb hT
  have HO := Lib.hid (fun X (e : X = W.alloc (.cells #[.slice A0 n0 c0, .int .i64 x1, .slice A2 n2 c2, .slice A3 n3 c3, .slice A4 n4 c4] 40)) => one_new1 W 40 #[.slice A0 n0 c0, .int .i64 x1, .slice A2 n2 c2, .slice A3 n3 c3, .slice A4 n4 c4] X e)
  show Calls Tryd.prog 17 #[.agg #[.slice A0 n0 c0, .int .i64 x1, .slice A2 n2 c2, .slice A3 n3 c3, .slice A4 n4 c4]] W _
  cases a
  · go_enter Tryd.func17, Tryd.ntmps17
    go_wp2_with (go_at_call 40; obtain ⟨g0, g1, g2⟩ := HO.out _ rfl; refine Calls.mono (HQ.out _ g1) ?_; rintro e w1 ⟨rfl, hb⟩; rw [HA.out]; have HB1 := Lib.hid (g1.trans (hb.mono g1.size)); clear g0 g1 g2 hb)
    go_ret
    exact ⟨rfl, HB1.out⟩
  · cases b
    all_goals
      go_enter Tryd.func17, Tryd.ntmps17
      go_wp2_with (go_at_call 40; obtain ⟨g0, g1, g2⟩ := HO.out _ rfl; refine Calls.mono (HQ.out _ g1) ?_; rintro e w1 ⟨rfl, hb⟩; rw [HA.out]; have HB1 := Lib.hid (g1.trans (hb.mono g1.size)); have y3 : w1.cell? ⟨W.heap.size, 3, none⟩ = some (.slice A3 n3 c3) := (g0.below hb g0.lt).cell 3; clear g0 g1 g2 hb)
      go_wp2_with (go_at_call 41; refine Calls.mono (areFiles_any A3 n3 c3 x3 _ (HK3.out.go HB1.out) (classes_go HT.out HB1.out)) ?_; rintro e w2 ⟨rfl, hb⟩; rw [HB.out]; have HB2 := Lib.hid (HB1.out.trans (hb.mono HB1.out.size)); clear hb)
      go_ret
      exact ⟨rfl, HB2.out⟩

set_option maxHeartbeats 1000000 in
set_option maxRecDepth 100000 in
theorem l21Ok_any (x : Cn) (l : CnLay) (g : Nat) (W : World) (hx : CnV W W.heap.size x l) (hg : RW 40 W g (x.vs l).toArray) :
    Calls Tryd.prog 37 #[.pointer (some ⟨g, 0, none⟩)] W fun e w' => e = .returned (.bool (consoleB x)) ∧ Below W.heap.size W w' := by
  unfold consoleB partsB filesB
  obtain ⟨x0, x1, x2, x3, x4⟩ := x
  obtain ⟨A0, n0, c0, h0, A2, n2, c2, h2, A3, n3, c3, h3, A4, n4, c4, h4⟩ := l
  obtain ⟨k0, k2, k3, k4⟩ := hx
  dsimp only at k0 k2 k3 k4 ⊢
  have HK0 := Lib.hid k0
  have HK2 := Lib.hid k2
  have HK3 := Lib.hid k3
  have HK4 := Lib.hid k4
  have hn0 := k0.2.1
  unfold maxLen at hn0
  have hn3 := k3.2.1
  unfold maxLen at hn3
  have HLL := Lib.hid k3.1
  rw [k0.1]
  have HRW : Hid (RW 40 W g #[.slice A0 n0 c0, .int .i64 x1, .slice A2 n2 c2, .slice A3 n3 c3, .slice A4 n4 c4]) := hg
  obtain ⟨a, ha⟩ : ∃ z, linesB x0 100 200 = z := ⟨_, rfl⟩
  obtain ⟨b, hb⟩ : ∃ z, decide (0 ≤ x1 ∧ x1 ≤ (n0 : Int)) = z := ⟨_, rfl⟩
  obtain ⟨c, hc⟩ : ∃ z, linesB x2 100 200 = z := ⟨_, rfl⟩
  obtain ⟨d, hd⟩ : ∃ z, linesB x4 200 1300 = z := ⟨_, rfl⟩
  have HA := Lib.hid ha
  have HB := Lib.hid hb
  have HC := Lib.hid hc
  have HD := Lib.hid hd
  rw [ha, hb, hc, hd]
  clear k0 k2 k3 k4 ha hb hc hd hg
  obtain ⟨P, hP⟩ : ∃ P, tt (ListOk fileB Fl.name_ 6 x3) = P := ⟨_, rfl⟩
  have HNO : Hid (¬ ListOk fileB Fl.name_ 6 x3 → P = false) := fun h => by rw [← hP]; exact tt_false h
  have HYES : Hid (ListOk fileB Fl.name_ 6 x3 → P = true) := fun h => by rw [← hP]; exact tt_true h
  rw [hP]
  clear hP
  cases a
  · skip
    go_enter Tryd.func37, Tryd.ntmps37
    go_wp2_with fail
    have z0 := cell_regrown (HRW.out.cell 0)
    have z1 := cell_regrown (HRW.out.cell 1)
    have z2 := cell_regrown (HRW.out.cell 2)
    have z3 := cell_regrown (HRW.out.cell 3)
    have z4 := cell_regrown (HRW.out.cell 4)
    have cA : ∀ (d' : Nat) (os : Array Obj), Calls Tryd.prog 64 #[.slice A0 n0 c0, .int .i64 100, .int .i64 200] (grow (redrawn W d') os) (fun e w'' => e = .returned (.bool false) ∧ ∃ q : Regrown, w'' = grow (redrawn W q.d) q.os) := fun (d : Nat) (os : Array Obj) => same_regrown (w := W) (d := d) (os := os) (l21Lines_any A0 n0 c0 100 200 x0 _ (HK0.out.go (below_regrown W d os)) (by decide) (by decide)) HA.out
    have cC : ∀ (d' : Nat) (os : Array Obj), Calls Tryd.prog 64 #[.slice A2 n2 c2, .int .i64 100, .int .i64 200] (grow (redrawn W d') os) (fun e w'' => e = .returned (.bool c) ∧ ∃ q : Regrown, w'' = grow (redrawn W q.d) q.os) := fun (d : Nat) (os : Array Obj) => same_regrown (w := W) (d := d) (os := os) (l21Lines_any A2 n2 c2 100 200 x2 _ (HK2.out.go (below_regrown W d os)) (by decide) (by decide)) HC.out
    have cD : ∀ (d' : Nat) (os : Array Obj), Calls Tryd.prog 64 #[.slice A4 n4 c4, .int .i64 200, .int .i64 1300] (grow (redrawn W d') os) (fun e w'' => e = .returned (.bool d) ∧ ∃ q : Regrown, w'' = grow (redrawn W q.d) q.os) := fun (d : Nat) (os : Array Obj) => same_regrown (w := W) (d := d) (os := os) (l21Lines_any A4 n4 c4 200 1300 x4 _ (HK4.out.go (below_regrown W d os)) (by decide) (by decide)) HD.out
    have cB := fun (d : Nat) (os : Array Obj) => same_regrown (w := W) (d := d) (os := os) (l00In_any x1 0 (n0 : Int) _) HB.out
    refine wp_region_quiet_below (by kernel_rfl) (by kernel_rfl) ?_
    repeat (first | go_big_quiet_step (first | with_reducible exact cA _ _ | with_reducible exact cB _ _ | with_reducible exact cC _ _ | with_reducible exact cD _ _) | quiet_step (first | with_reducible exact cA _ _ | with_reducible exact cB _ _ | with_reducible exact cC _ _ | with_reducible exact cD _ _))
    refine wpQuiet_nil ?_
    intro w1 hw'
    obtain ⟨⟨dq, osq⟩, hw''⟩ := hw'
    have hb1 : Below W.heap.size W w1 := by rw [hw'']; exact below_regrown W dq osq
    have HB1 := Lib.hid hb1
    have HR1 : Hid (RW 40 w1 g #[.slice A0 n0 c0, .int .i64 x1, .slice A2 n2 c2, .slice A3 n3 c3, .slice A4 n4 c4] ∧ Below W.heap.size W w1) := ⟨HRW.out.below hb1 HRW.out.lt, hb1⟩
    clear hw'' z0 z1 z2 z3 z4 cA cB cC cD hb1
    go_wp2_with fail
    go_ret
    exact ⟨rfl, HB1.out⟩
  cases b
  · skip
    go_enter Tryd.func37, Tryd.ntmps37
    go_wp2_with fail
    have z0 := cell_regrown (HRW.out.cell 0)
    have z1 := cell_regrown (HRW.out.cell 1)
    have z2 := cell_regrown (HRW.out.cell 2)
    have z3 := cell_regrown (HRW.out.cell 3)
    have z4 := cell_regrown (HRW.out.cell 4)
    have cA : ∀ (d' : Nat) (os : Array Obj), Calls Tryd.prog 64 #[.slice A0 n0 c0, .int .i64 100, .int .i64 200] (grow (redrawn W d') os) (fun e w'' => e = .returned (.bool true) ∧ ∃ q : Regrown, w'' = grow (redrawn W q.d) q.os) := fun (d : Nat) (os : Array Obj) => same_regrown (w := W) (d := d) (os := os) (l21Lines_any A0 n0 c0 100 200 x0 _ (HK0.out.go (below_regrown W d os)) (by decide) (by decide)) HA.out
    have cC : ∀ (d' : Nat) (os : Array Obj), Calls Tryd.prog 64 #[.slice A2 n2 c2, .int .i64 100, .int .i64 200] (grow (redrawn W d') os) (fun e w'' => e = .returned (.bool c) ∧ ∃ q : Regrown, w'' = grow (redrawn W q.d) q.os) := fun (d : Nat) (os : Array Obj) => same_regrown (w := W) (d := d) (os := os) (l21Lines_any A2 n2 c2 100 200 x2 _ (HK2.out.go (below_regrown W d os)) (by decide) (by decide)) HC.out
    have cD : ∀ (d' : Nat) (os : Array Obj), Calls Tryd.prog 64 #[.slice A4 n4 c4, .int .i64 200, .int .i64 1300] (grow (redrawn W d') os) (fun e w'' => e = .returned (.bool d) ∧ ∃ q : Regrown, w'' = grow (redrawn W q.d) q.os) := fun (d : Nat) (os : Array Obj) => same_regrown (w := W) (d := d) (os := os) (l21Lines_any A4 n4 c4 200 1300 x4 _ (HK4.out.go (below_regrown W d os)) (by decide) (by decide)) HD.out
    have cB := fun (d : Nat) (os : Array Obj) => same_regrown (w := W) (d := d) (os := os) (l00In_any x1 0 (n0 : Int) _) HB.out
    refine wp_region_quiet_below (by kernel_rfl) (by kernel_rfl) ?_
    repeat (first | go_big_quiet_step (first | with_reducible exact cA _ _ | with_reducible exact cB _ _ | with_reducible exact cC _ _ | with_reducible exact cD _ _) | quiet_step (first | with_reducible exact cA _ _ | with_reducible exact cB _ _ | with_reducible exact cC _ _ | with_reducible exact cD _ _))
    refine wpQuiet_nil ?_
    intro w1 hw'
    obtain ⟨⟨dq, osq⟩, hw''⟩ := hw'
    have hb1 : Below W.heap.size W w1 := by rw [hw'']; exact below_regrown W dq osq
    have HB1 := Lib.hid hb1
    have HR1 : Hid (RW 40 w1 g #[.slice A0 n0 c0, .int .i64 x1, .slice A2 n2 c2, .slice A3 n3 c3, .slice A4 n4 c4] ∧ Below W.heap.size W w1) := ⟨HRW.out.below hb1 HRW.out.lt, hb1⟩
    clear hw'' z0 z1 z2 z3 z4 cA cB cC cD hb1
    go_wp2_with fail
    go_ret
    exact ⟨rfl, HB1.out⟩
  cases c
  · skip
    go_enter Tryd.func37, Tryd.ntmps37
    go_wp2_with fail
    have z0 := cell_regrown (HRW.out.cell 0)
    have z1 := cell_regrown (HRW.out.cell 1)
    have z2 := cell_regrown (HRW.out.cell 2)
    have z3 := cell_regrown (HRW.out.cell 3)
    have z4 := cell_regrown (HRW.out.cell 4)
    have cA : ∀ (d' : Nat) (os : Array Obj), Calls Tryd.prog 64 #[.slice A0 n0 c0, .int .i64 100, .int .i64 200] (grow (redrawn W d') os) (fun e w'' => e = .returned (.bool true) ∧ ∃ q : Regrown, w'' = grow (redrawn W q.d) q.os) := fun (d : Nat) (os : Array Obj) => same_regrown (w := W) (d := d) (os := os) (l21Lines_any A0 n0 c0 100 200 x0 _ (HK0.out.go (below_regrown W d os)) (by decide) (by decide)) HA.out
    have cC : ∀ (d' : Nat) (os : Array Obj), Calls Tryd.prog 64 #[.slice A2 n2 c2, .int .i64 100, .int .i64 200] (grow (redrawn W d') os) (fun e w'' => e = .returned (.bool false) ∧ ∃ q : Regrown, w'' = grow (redrawn W q.d) q.os) := fun (d : Nat) (os : Array Obj) => same_regrown (w := W) (d := d) (os := os) (l21Lines_any A2 n2 c2 100 200 x2 _ (HK2.out.go (below_regrown W d os)) (by decide) (by decide)) HC.out
    have cD : ∀ (d' : Nat) (os : Array Obj), Calls Tryd.prog 64 #[.slice A4 n4 c4, .int .i64 200, .int .i64 1300] (grow (redrawn W d') os) (fun e w'' => e = .returned (.bool d) ∧ ∃ q : Regrown, w'' = grow (redrawn W q.d) q.os) := fun (d : Nat) (os : Array Obj) => same_regrown (w := W) (d := d) (os := os) (l21Lines_any A4 n4 c4 200 1300 x4 _ (HK4.out.go (below_regrown W d os)) (by decide) (by decide)) HD.out
    have cB := fun (d : Nat) (os : Array Obj) => same_regrown (w := W) (d := d) (os := os) (l00In_any x1 0 (n0 : Int) _) HB.out
    refine wp_region_quiet_below (by kernel_rfl) (by kernel_rfl) ?_
    repeat (first | go_big_quiet_step (first | with_reducible exact cA _ _ | with_reducible exact cB _ _ | with_reducible exact cC _ _ | with_reducible exact cD _ _) | quiet_step (first | with_reducible exact cA _ _ | with_reducible exact cB _ _ | with_reducible exact cC _ _ | with_reducible exact cD _ _))
    refine wpQuiet_nil ?_
    intro w1 hw'
    obtain ⟨⟨dq, osq⟩, hw''⟩ := hw'
    have hb1 : Below W.heap.size W w1 := by rw [hw'']; exact below_regrown W dq osq
    have HB1 := Lib.hid hb1
    have HR1 : Hid (RW 40 w1 g #[.slice A0 n0 c0, .int .i64 x1, .slice A2 n2 c2, .slice A3 n3 c3, .slice A4 n4 c4] ∧ Below W.heap.size W w1) := ⟨HRW.out.below hb1 HRW.out.lt, hb1⟩
    clear hw'' z0 z1 z2 z3 z4 cA cB cC cD hb1
    go_wp2_with fail
    go_ret
    exact ⟨rfl, HB1.out⟩
  by_cases hn6 : n3 ≤ 6
  case neg =>
    have HF : Hid (P = false) := HNO.out fun h => by have := h.1; have := HLL.out; omega
    have e6 : (6 : Int) < (n3 : Int) := by omega
    rw [HF.out]
    cases d
    · skip
      go_enter Tryd.func37, Tryd.ntmps37
      go_wp2_with fail
      have z0 := cell_regrown (HRW.out.cell 0)
      have z1 := cell_regrown (HRW.out.cell 1)
      have z2 := cell_regrown (HRW.out.cell 2)
      have z3 := cell_regrown (HRW.out.cell 3)
      have z4 := cell_regrown (HRW.out.cell 4)
      have cA : ∀ (d' : Nat) (os : Array Obj), Calls Tryd.prog 64 #[.slice A0 n0 c0, .int .i64 100, .int .i64 200] (grow (redrawn W d') os) (fun e w'' => e = .returned (.bool true) ∧ ∃ q : Regrown, w'' = grow (redrawn W q.d) q.os) := fun (d : Nat) (os : Array Obj) => same_regrown (w := W) (d := d) (os := os) (l21Lines_any A0 n0 c0 100 200 x0 _ (HK0.out.go (below_regrown W d os)) (by decide) (by decide)) HA.out
      have cC : ∀ (d' : Nat) (os : Array Obj), Calls Tryd.prog 64 #[.slice A2 n2 c2, .int .i64 100, .int .i64 200] (grow (redrawn W d') os) (fun e w'' => e = .returned (.bool true) ∧ ∃ q : Regrown, w'' = grow (redrawn W q.d) q.os) := fun (d : Nat) (os : Array Obj) => same_regrown (w := W) (d := d) (os := os) (l21Lines_any A2 n2 c2 100 200 x2 _ (HK2.out.go (below_regrown W d os)) (by decide) (by decide)) HC.out
      have cD : ∀ (d' : Nat) (os : Array Obj), Calls Tryd.prog 64 #[.slice A4 n4 c4, .int .i64 200, .int .i64 1300] (grow (redrawn W d') os) (fun e w'' => e = .returned (.bool false) ∧ ∃ q : Regrown, w'' = grow (redrawn W q.d) q.os) := fun (d : Nat) (os : Array Obj) => same_regrown (w := W) (d := d) (os := os) (l21Lines_any A4 n4 c4 200 1300 x4 _ (HK4.out.go (below_regrown W d os)) (by decide) (by decide)) HD.out
      have cB := fun (d : Nat) (os : Array Obj) => same_regrown (w := W) (d := d) (os := os) (l00In_any x1 0 (n0 : Int) _) HB.out
      refine wp_region_quiet_below (by kernel_rfl) (by kernel_rfl) ?_
      repeat (first | go_big_quiet_step (first | with_reducible exact cA _ _ | with_reducible exact cB _ _ | with_reducible exact cC _ _ | with_reducible exact cD _ _) | quiet_step (first | with_reducible exact cA _ _ | with_reducible exact cB _ _ | with_reducible exact cC _ _ | with_reducible exact cD _ _))
      refine wpQuiet_nil ?_
      intro w1 hw'
      obtain ⟨⟨dq, osq⟩, hw''⟩ := hw'
      have hb1 : Below W.heap.size W w1 := by rw [hw'']; exact below_regrown W dq osq
      have HB1 := Lib.hid hb1
      have HR1 : Hid (RW 40 w1 g #[.slice A0 n0 c0, .int .i64 x1, .slice A2 n2 c2, .slice A3 n3 c3, .slice A4 n4 c4] ∧ Below W.heap.size W w1) := ⟨HRW.out.below hb1 HRW.out.lt, hb1⟩
      clear hw'' z0 z1 z2 z3 z4 cA cB cC cD hb1
      go_wp2_with fail
      go_ret
      exact ⟨rfl, HB1.out⟩
    · skip
      go_enter Tryd.func37, Tryd.ntmps37
      go_wp2_with fail
      have z0 := cell_regrown (HRW.out.cell 0)
      have z1 := cell_regrown (HRW.out.cell 1)
      have z2 := cell_regrown (HRW.out.cell 2)
      have z3 := cell_regrown (HRW.out.cell 3)
      have z4 := cell_regrown (HRW.out.cell 4)
      have cA : ∀ (d' : Nat) (os : Array Obj), Calls Tryd.prog 64 #[.slice A0 n0 c0, .int .i64 100, .int .i64 200] (grow (redrawn W d') os) (fun e w'' => e = .returned (.bool true) ∧ ∃ q : Regrown, w'' = grow (redrawn W q.d) q.os) := fun (d : Nat) (os : Array Obj) => same_regrown (w := W) (d := d) (os := os) (l21Lines_any A0 n0 c0 100 200 x0 _ (HK0.out.go (below_regrown W d os)) (by decide) (by decide)) HA.out
      have cC : ∀ (d' : Nat) (os : Array Obj), Calls Tryd.prog 64 #[.slice A2 n2 c2, .int .i64 100, .int .i64 200] (grow (redrawn W d') os) (fun e w'' => e = .returned (.bool true) ∧ ∃ q : Regrown, w'' = grow (redrawn W q.d) q.os) := fun (d : Nat) (os : Array Obj) => same_regrown (w := W) (d := d) (os := os) (l21Lines_any A2 n2 c2 100 200 x2 _ (HK2.out.go (below_regrown W d os)) (by decide) (by decide)) HC.out
      have cD : ∀ (d' : Nat) (os : Array Obj), Calls Tryd.prog 64 #[.slice A4 n4 c4, .int .i64 200, .int .i64 1300] (grow (redrawn W d') os) (fun e w'' => e = .returned (.bool true) ∧ ∃ q : Regrown, w'' = grow (redrawn W q.d) q.os) := fun (d : Nat) (os : Array Obj) => same_regrown (w := W) (d := d) (os := os) (l21Lines_any A4 n4 c4 200 1300 x4 _ (HK4.out.go (below_regrown W d os)) (by decide) (by decide)) HD.out
      have cB := fun (d : Nat) (os : Array Obj) => same_regrown (w := W) (d := d) (os := os) (l00In_any x1 0 (n0 : Int) _) HB.out
      refine wp_region_quiet_below (by kernel_rfl) (by kernel_rfl) ?_
      repeat (first | go_big_quiet_step (first | with_reducible exact cA _ _ | with_reducible exact cB _ _ | with_reducible exact cC _ _ | with_reducible exact cD _ _) | quiet_step (first | with_reducible exact cA _ _ | with_reducible exact cB _ _ | with_reducible exact cC _ _ | with_reducible exact cD _ _))
      refine wpQuiet_nil ?_
      intro w1 hw'
      obtain ⟨⟨dq, osq⟩, hw''⟩ := hw'
      have hb1 : Below W.heap.size W w1 := by rw [hw'']; exact below_regrown W dq osq
      have HB1 := Lib.hid hb1
      have HR1 : Hid (RW 40 w1 g #[.slice A0 n0 c0, .int .i64 x1, .slice A2 n2 c2, .slice A3 n3 c3, .slice A4 n4 c4] ∧ Below W.heap.size W w1) := ⟨HRW.out.below hb1 HRW.out.lt, hb1⟩
      clear hw'' z0 z1 z2 z3 z4 cA cB cC cD hb1
      go_wp2_with fail
      go_ret
      exact ⟨rfl, HB1.out⟩
  have e6 : ¬ (6 : Int) < (n3 : Int) := by omega
  have HN6 := Lib.hid hn6
  clear hn6
  cases d
  · skip
    go_enter Tryd.func37, Tryd.ntmps37
    go_wp2_with fail
    have z0 := cell_regrown (HRW.out.cell 0)
    have z1 := cell_regrown (HRW.out.cell 1)
    have z2 := cell_regrown (HRW.out.cell 2)
    have z3 := cell_regrown (HRW.out.cell 3)
    have z4 := cell_regrown (HRW.out.cell 4)
    have cA : ∀ (d' : Nat) (os : Array Obj), Calls Tryd.prog 64 #[.slice A0 n0 c0, .int .i64 100, .int .i64 200] (grow (redrawn W d') os) (fun e w'' => e = .returned (.bool true) ∧ ∃ q : Regrown, w'' = grow (redrawn W q.d) q.os) := fun (d : Nat) (os : Array Obj) => same_regrown (w := W) (d := d) (os := os) (l21Lines_any A0 n0 c0 100 200 x0 _ (HK0.out.go (below_regrown W d os)) (by decide) (by decide)) HA.out
    have cC : ∀ (d' : Nat) (os : Array Obj), Calls Tryd.prog 64 #[.slice A2 n2 c2, .int .i64 100, .int .i64 200] (grow (redrawn W d') os) (fun e w'' => e = .returned (.bool true) ∧ ∃ q : Regrown, w'' = grow (redrawn W q.d) q.os) := fun (d : Nat) (os : Array Obj) => same_regrown (w := W) (d := d) (os := os) (l21Lines_any A2 n2 c2 100 200 x2 _ (HK2.out.go (below_regrown W d os)) (by decide) (by decide)) HC.out
    have cD : ∀ (d' : Nat) (os : Array Obj), Calls Tryd.prog 64 #[.slice A4 n4 c4, .int .i64 200, .int .i64 1300] (grow (redrawn W d') os) (fun e w'' => e = .returned (.bool false) ∧ ∃ q : Regrown, w'' = grow (redrawn W q.d) q.os) := fun (d : Nat) (os : Array Obj) => same_regrown (w := W) (d := d) (os := os) (l21Lines_any A4 n4 c4 200 1300 x4 _ (HK4.out.go (below_regrown W d os)) (by decide) (by decide)) HD.out
    have cB := fun (d : Nat) (os : Array Obj) => same_regrown (w := W) (d := d) (os := os) (l00In_any x1 0 (n0 : Int) _) HB.out
    refine wp_region_quiet_below (by kernel_rfl) (by kernel_rfl) ?_
    repeat (first | go_big_quiet_step (first | with_reducible exact cA _ _ | with_reducible exact cB _ _ | with_reducible exact cC _ _ | with_reducible exact cD _ _) | quiet_step (first | with_reducible exact cA _ _ | with_reducible exact cB _ _ | with_reducible exact cC _ _ | with_reducible exact cD _ _))
    refine wpQuiet_nil ?_
    intro w1 hw'
    obtain ⟨⟨dq, osq⟩, hw''⟩ := hw'
    have hb1 : Below W.heap.size W w1 := by rw [hw'']; exact below_regrown W dq osq
    have HB1 := Lib.hid hb1
    have HR1 : Hid (RW 40 w1 g #[.slice A0 n0 c0, .int .i64 x1, .slice A2 n2 c2, .slice A3 n3 c3, .slice A4 n4 c4] ∧ Below W.heap.size W w1) := ⟨HRW.out.below hb1 HRW.out.lt, hb1⟩
    clear hw'' z0 z1 z2 z3 z4 cA cB cC cD hb1
    go_wp2_with fail
    go_ret
    exact ⟨rfl, HB1.out⟩
  go_enter Tryd.func37, Tryd.ntmps37
  go_wp2_with fail
  have z0 := cell_regrown (HRW.out.cell 0)
  have z1 := cell_regrown (HRW.out.cell 1)
  have z2 := cell_regrown (HRW.out.cell 2)
  have z3 := cell_regrown (HRW.out.cell 3)
  have z4 := cell_regrown (HRW.out.cell 4)
  have cA : ∀ (d' : Nat) (os : Array Obj), Calls Tryd.prog 64 #[.slice A0 n0 c0, .int .i64 100, .int .i64 200] (grow (redrawn W d') os) (fun e w'' => e = .returned (.bool true) ∧ ∃ q : Regrown, w'' = grow (redrawn W q.d) q.os) := fun (d : Nat) (os : Array Obj) => same_regrown (w := W) (d := d) (os := os) (l21Lines_any A0 n0 c0 100 200 x0 _ (HK0.out.go (below_regrown W d os)) (by decide) (by decide)) HA.out
  have cC : ∀ (d' : Nat) (os : Array Obj), Calls Tryd.prog 64 #[.slice A2 n2 c2, .int .i64 100, .int .i64 200] (grow (redrawn W d') os) (fun e w'' => e = .returned (.bool true) ∧ ∃ q : Regrown, w'' = grow (redrawn W q.d) q.os) := fun (d : Nat) (os : Array Obj) => same_regrown (w := W) (d := d) (os := os) (l21Lines_any A2 n2 c2 100 200 x2 _ (HK2.out.go (below_regrown W d os)) (by decide) (by decide)) HC.out
  have cD : ∀ (d' : Nat) (os : Array Obj), Calls Tryd.prog 64 #[.slice A4 n4 c4, .int .i64 200, .int .i64 1300] (grow (redrawn W d') os) (fun e w'' => e = .returned (.bool true) ∧ ∃ q : Regrown, w'' = grow (redrawn W q.d) q.os) := fun (d : Nat) (os : Array Obj) => same_regrown (w := W) (d := d) (os := os) (l21Lines_any A4 n4 c4 200 1300 x4 _ (HK4.out.go (below_regrown W d os)) (by decide) (by decide)) HD.out
  have cB := fun (d : Nat) (os : Array Obj) => same_regrown (w := W) (d := d) (os := os) (l00In_any x1 0 (n0 : Int) _) HB.out
  refine wp_region_quiet_below (by kernel_rfl) (by kernel_rfl) ?_
  repeat (first | go_big_quiet_step (first | with_reducible exact cA _ _ | with_reducible exact cB _ _ | with_reducible exact cC _ _ | with_reducible exact cD _ _) | quiet_step (first | with_reducible exact cA _ _ | with_reducible exact cB _ _ | with_reducible exact cC _ _ | with_reducible exact cD _ _))
  refine wpQuiet_nil ?_
  intro w1 hw'
  obtain ⟨⟨dq, osq⟩, hw''⟩ := hw'
  have hb1 : Below W.heap.size W w1 := by rw [hw'']; exact below_regrown W dq osq
  have HB1 := Lib.hid hb1
  have HR1 : Hid (RW 40 w1 g #[.slice A0 n0 c0, .int .i64 x1, .slice A2 n2 c2, .slice A3 n3 c3, .slice A4 n4 c4] ∧ Below W.heap.size W w1) := ⟨HRW.out.below hb1 HRW.out.lt, hb1⟩
  clear hw'' z0 z1 z2 z3 z4 cA cB cC cD hb1
  have s3 : w1.cell? ⟨g, 3, none⟩ = some (.slice A3 n3 c3) := HR1.out.1.cell 3
  go_wp2_with fail
  go_loopw [3] (fun i wr => ∃ k : Nat, k ≤ n3 ∧ i = .int .i64 k ∧ wr.cell? ⟨g, 3, none⟩ = some (.slice A3 n3 c3) ∧ Hid (RW 40 wr g #[.slice A0 n0 c0, .int .i64 x1, .slice A2 n2 c2, .slice A3 n3 c3, .slice A4 n4 c4] ∧ Below W.heap.size W wr) ∧ Hid (UpOk fileB Fl.name_ x3 k)) (fun i _ => n3 - (intOf i).toNat)
  case atStart => exact ⟨0, Nat.zero_le _, rfl, s3, HR1, Lib.hid UpOk.zero⟩
  case round =>
    obtain ⟨k, hk, rfl, s3, HB, HV⟩ := hrel
    by_cases hlt : k < n3
    · have b0 : (0 : Int) ≤ (k : Int) := by omega
      have b1 : (k : Int) < (n3 : Int) := by omega
      obtain ⟨b, off, x, l, rfl, hgb, hx, ⟨q0, q1, q2, q3⟩, hv⟩ := (HK3.out.go HB.out.2).at_ hlt
      have HX := Lib.hid hx
      have HGB : Hid (b < wr.heap.size) := hgb
      have HEL := Lib.hid (fun (w : World) (hb : Below wr.heap.size wr w) => l21File_any x l w (hv.go hb))
      obtain ⟨u0, u1, u2, u3⟩ := x
      obtain ⟨a1, s1, d1', e1⟩ := l
      dsimp only at q0 q1 q2 q3
      obtain ⟨z0, hz0⟩ : ∃ z, fileB ⟨u0, u1, u2, u3⟩ = z := ⟨_, rfl⟩
      have HZ := Lib.hid hz0
      clear hx hgb hv hz0

      cases z0
      case false =>
        have HF : Hid (P = false) := HNO.out (not_ok HX.out HZ.out)
        go_wp2_with fail
        have x0' := cell_regrown q0
        have x1' := cell_regrown q1
        have x2' := cell_regrown q2
        have x3' := cell_regrown q3
        have xs := cell_regrown s3
        have cA : ∀ d os', Calls Tryd.prog 65 #[.agg #[.string u0, .slice a1 s1 d1', .int .i64 u2, .int .i64 u3]] (grow (redrawn wr d) os') (fun e w'' => e = .returned (.bool false) ∧ ∃ q : Regrown, w'' = grow (redrawn wr q.d) q.os) := fun d os' => Calls.regrown_of (by have h := HEL.out _ (below_regrown wr d os'); rw [HZ.out] at h; exact h)
        clear q0 q1 q2 q3
        refine wp_region_quiet_below (by kernel_rfl) (by kernel_rfl) ?_
        repeat (first | go_big_quiet_step (with_reducible exact cA _ _) | quiet_step (with_reducible exact cA _ _))
        refine wpQuiet_nil ?_
        intro w4 hw'
        obtain ⟨⟨dq, osq⟩, hw''⟩ := hw'
        have HB4 : Hid (RW 40 w4 g #[.slice A0 n0 c0, .int .i64 x1, .slice A2 n2 c2, .slice (some ⟨b, off, none⟩) n3 c3, .slice A4 n4 c4] ∧ Below W.heap.size W w4) := by show _ ∧ _; rw [hw'']; exact ⟨HB.out.1.below (below_regrown wr dq osq) HB.out.1.lt, HB.out.2.trans ((below_regrown wr dq osq).mono HB.out.2.size)⟩
        clear hw'' x0' x1' x2' x3' xs cA s3
        go_wp2_with fail
        go_ret
        exact ⟨by rw [HF.out]; rfl, HB4.out.2⟩
      have HOK : Hid (fileB ⟨u0, u1, u2, u3⟩ = true) := HZ.out
      by_cases hkp : k = 0
      · subst hkp
        have HV2 := Lib.hid (UpOk.first (nm := Fl.name_) HX.out HOK.out)
        simp only [Nat.zero_mul, Nat.add_zero] at q0 q1 q2 q3
        go_wp2_with fail
        have x0' := cell_regrown q0
        have x1' := cell_regrown q1
        have x2' := cell_regrown q2
        have x3' := cell_regrown q3
        have xs := cell_regrown s3
        have cA : ∀ d os', Calls Tryd.prog 65 #[.agg #[.string u0, .slice a1 s1 d1', .int .i64 u2, .int .i64 u3]] (grow (redrawn wr d) os') (fun e w'' => e = .returned (.bool true) ∧ ∃ q : Regrown, w'' = grow (redrawn wr q.d) q.os) := fun d os' => Calls.regrown_of (by have h := HEL.out _ (below_regrown wr d os'); rw [HZ.out] at h; exact h)
        clear q0 q1 q2 q3
        refine wp_region_quiet_below (by kernel_rfl) (by kernel_rfl) ?_
        repeat (first | go_big_quiet_step (with_reducible exact cA _ _) | quiet_step (with_reducible exact cA _ _))
        refine wpQuiet_nil ?_
        intro w4 hw'
        obtain ⟨⟨dq, osq⟩, hw''⟩ := hw'
        have HB4 : Hid (RW 40 w4 g #[.slice A0 n0 c0, .int .i64 x1, .slice A2 n2 c2, .slice (some ⟨b, off, none⟩) n3 c3, .slice A4 n4 c4] ∧ Below W.heap.size W w4) := by show _ ∧ _; rw [hw'']; exact ⟨HB.out.1.below (below_regrown wr dq osq) HB.out.1.lt, HB.out.2.trans ((below_regrown wr dq osq).mono HB.out.2.size)⟩
        clear hw'' x0' x1' x2' x3' xs cA s3
        go_wp2_with fail
        go_roundw
        case rel => exact ⟨0 + 1, by omega, by go_num, HB4.out.1.cell 3, HB4, HV2⟩
        case measure => simp [intOf]; omega
      obtain ⟨j, hj⟩ : ∃ j, k = j + 1 := ⟨k - 1, by omega⟩
      have hj1 : (k : Int) - 1 = (j : Int) := by omega
      have hkp2 : (0 : Int) < (k : Int) := by omega
      have hkp3 : decide ((0 : Int) < (k : Int)) = true := by simp; omega
      have hkp4 : decide (0 < k) = true := by simp; omega
      have hkp5 : 0 < k := by omega
      have e0 : (0 : Int) ≤ (j : Int) := by omega
      have e1' : (j : Int) < (n3 : Int) := by omega
      obtain ⟨b', off', y, l', hA', hg', hy, ⟨r0, r1, r2, r3⟩, _⟩ := (HK3.out.go HB.out.2).at_ (show j < n3 by omega)
      simp only [Option.some.injEq, Addr.mk.injEq, and_true] at hA'
      obtain ⟨rfl, rfl⟩ := hA'
      have HY : Hid (x3[k - 1]? = some y) := by show _ = _; rw [show k - 1 = j by omega]; exact hy
      clear hj hkp hg' hy r1 r2 r3
      obtain ⟨R, hRR⟩ : ∃ z, Op.bytesLess y.name_.toList u0.toList = z := ⟨_, rfl⟩
      have HRR := Lib.hid hRR
      cases R
      · have HF : Hid (P = false) := HNO.out (not_up hkp5 HX.out HY.out HRR.out)
        go_wp2_with fail
        have x0' := cell_regrown q0
        have x1' := cell_regrown q1
        have x2' := cell_regrown q2
        have x3' := cell_regrown q3
        have xs := cell_regrown s3
        have y0 := cell_regrown r0
        have cA : ∀ d os', Calls Tryd.prog 65 #[.agg #[.string u0, .slice a1 s1 d1', .int .i64 u2, .int .i64 u3]] (grow (redrawn wr d) os') (fun e w'' => e = .returned (.bool true) ∧ ∃ q : Regrown, w'' = grow (redrawn wr q.d) q.os) := fun d os' => Calls.regrown_of (by have h := HEL.out _ (below_regrown wr d os'); rw [HZ.out] at h; exact h)
        clear q0 q1 q2 q3 r0
        refine wp_region_quiet_below (by kernel_rfl) (by kernel_rfl) ?_
        repeat (first | go_big_quiet_step (with_reducible exact cA _ _) | quiet_step (with_reducible exact cA _ _))
        refine wpQuiet_nil ?_
        intro w4 hw'
        obtain ⟨⟨dq, osq⟩, hw''⟩ := hw'
        have HB4 : Hid (RW 40 w4 g #[.slice A0 n0 c0, .int .i64 x1, .slice A2 n2 c2, .slice (some ⟨b, off, none⟩) n3 c3, .slice A4 n4 c4] ∧ Below W.heap.size W w4) := by show _ ∧ _; rw [hw'']; exact ⟨HB.out.1.below (below_regrown wr dq osq) HB.out.1.lt, HB.out.2.trans ((below_regrown wr dq osq).mono HB.out.2.size)⟩
        clear hw'' x0' x1' x2' x3' xs cA y0 s3
        go_wp2_with fail
        go_ret
        exact ⟨by rw [HF.out]; rfl, HB4.out.2⟩
      · have HV2 := Lib.hid (UpOk.next HV.out HX.out HOK.out HY.out HRR.out)
        go_wp2_with fail
        have x0' := cell_regrown q0
        have x1' := cell_regrown q1
        have x2' := cell_regrown q2
        have x3' := cell_regrown q3
        have xs := cell_regrown s3
        have y0 := cell_regrown r0
        have cA : ∀ d os', Calls Tryd.prog 65 #[.agg #[.string u0, .slice a1 s1 d1', .int .i64 u2, .int .i64 u3]] (grow (redrawn wr d) os') (fun e w'' => e = .returned (.bool true) ∧ ∃ q : Regrown, w'' = grow (redrawn wr q.d) q.os) := fun d os' => Calls.regrown_of (by have h := HEL.out _ (below_regrown wr d os'); rw [HZ.out] at h; exact h)
        clear q0 q1 q2 q3 r0
        refine wp_region_quiet_below (by kernel_rfl) (by kernel_rfl) ?_
        repeat (first | go_big_quiet_step (with_reducible exact cA _ _) | quiet_step (with_reducible exact cA _ _))
        refine wpQuiet_nil ?_
        intro w4 hw'
        obtain ⟨⟨dq, osq⟩, hw''⟩ := hw'
        have HB4 : Hid (RW 40 w4 g #[.slice A0 n0 c0, .int .i64 x1, .slice A2 n2 c2, .slice (some ⟨b, off, none⟩) n3 c3, .slice A4 n4 c4] ∧ Below W.heap.size W w4) := by show _ ∧ _; rw [hw'']; exact ⟨HB.out.1.below (below_regrown wr dq osq) HB.out.1.lt, HB.out.2.trans ((below_regrown wr dq osq).mono HB.out.2.size)⟩
        clear hw'' x0' x1' x2' x3' xs cA y0 s3
        go_wp2_with fail
        go_roundw
        case rel => exact ⟨k + 1, by omega, by go_num, HB4.out.1.cell 3, HB4, HV2⟩
        case measure => simp [intOf]; omega
    · have hkn : k = n3 := by omega
      have HT1 : Hid (P = true) := HYES.out (by
        refine ⟨by have := HLL.out; have := HN6.out; omega, ?_⟩
        rw [HLL.out, ← hkn]
        exact HV.out)
      have hnk : ¬ (k : Int) < (n3 : Int) := by omega
      clear HV hkn
      go_wp2_with fail
      go_ret
      exact ⟨by rw [HT1.out]; rfl, HB.out.2⟩

set_option maxHeartbeats 1000000 in
set_option maxRecDepth 100000 in
theorem spec_ValidConsole_any (x : Cn) (l : CnLay) (W : World) (hx : CnV W W.heap.size x l) :
    Calls Tryd.prog 15 #[x.ag l] W fun e w' => e = .returned (.bool (consoleB x)) ∧ Below W.heap.size W w' := by
  have HQ := Lib.hid (fun X (e : X = W.alloc (.cells (x.vs l).toArray 40)) => (show Calls Tryd.prog 37 #[.pointer (some ⟨W.heap.size, 0, none⟩)] X _ ∧ Below W.heap.size W X from ⟨l21Ok_any x l W.heap.size X (hx.go (one_new1 W _ _ X e).2.1) (one_new1 W _ _ X e).1, (one_new1 W _ _ X e).2.1⟩))
  obtain ⟨b, hb⟩ : ∃ z, consoleB x = z := ⟨_, rfl⟩
  have HB := Lib.hid hb
  rw [hb]
  clear hx hb
  obtain ⟨x0, x1, x2, x3, x4⟩ := x
  obtain ⟨A0, n0, c0, h0, A2, n2, c2, h2, A3, n3, c3, h3, A4, n4, c4, h4⟩ := l
  show Calls Tryd.prog 15 #[.agg #[.slice A0 n0 c0, .int .i64 x1, .slice A2 n2 c2, .slice A3 n3 c3, .slice A4 n4 c4]] W _
  go_enter Tryd.func15, Tryd.ntmps15
  go_wp2_with (go_at_call 37; obtain ⟨hq, g1⟩ := HQ.out _ rfl; refine Calls.mono hq ?_; clear hq; rintro e w2 ⟨rfl, hb⟩; rw [HB.out]; have HB2 := Lib.hid (g1.trans (hb.mono g1.size)); clear g1 hb)
  go_ret
  exact ⟨rfl, HB2.out⟩
end Go.Proofs.YtjhemdgeafglhaaDoor
