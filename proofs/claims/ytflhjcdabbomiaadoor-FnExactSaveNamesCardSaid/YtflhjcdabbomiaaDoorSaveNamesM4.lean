/- Contract: isWithinLimit at RecordType. Condition: the table holds what the program's text lays. Contract: the program's ValidScope. Condition: the table holds what the program's text lays. Contracts: the model's l18Type, l18Function. No condition. Contract: the model's ValidScope. No condition. What a variable's value is; contracts of the model's l18Value, Lookup. No condition. Contract: Lookup (spec). No condition. Small: the ending of a string; one byte made a string. No condition. Contract: laws.markText: some text that hangs on the number alone. No condition but a bound on the number. Slices and blocks of strings. No condition. -/
import Derived.Test.YtflhjcdabbomiaaDoorSaveNamesM3
import Derived.Test.YtflhjcdabbomiaaDoorSaveNamesM1
import Derived.Deep.RegionHeld3
import Derived.Laws.ResultCell
import Derived.Test.YtflhjcdabbomiaaDoorChecked
import Derived.WalkKit
import Derived.WalkLawsBesides
import Derived.Lib.Hide
import Derived.LoopTactic
import Derived.Below
import Derived.Laws.BytesString
import Derived.Lib.Strings
import Derived.Deep.QuietTactic
import Derived.BigQuiet
namespace Go.Proofs.YtflhjcdabbomiaaDoor
open Go Go.RowKit Go.Sort

theorem method_elemRt (v0 v1 : Value) (w : World) : (method 247 83 (.agg #[v0, v1]) "loop.example/g00873/impl.isElement").run Tryd.prog w = .ok (112, .agg #[v0, v1]) w := by kernel_rfl
theorem method_keyRt (v0 v1 : Value) (w : World) : (method 247 83 (.agg #[v0, v1]) "loop.example/g00873/impl.key").run Tryd.prog w = .ok (113, .agg #[v0, v1]) w := by kernel_rfl

set_option maxHeartbeats 4000000 in
set_option maxRecDepth 100000 in
theorem withinRt_any (A : Option Addr) (n c lim : Nat) (xs : List Rt) (W : World) (hr : RtI W W.heap.size A n xs) (hlim : lim ≤ 1000) (hT : Classes W) :
    Calls Tryd.prog 58 #[.slice A n c, .int .i64 lim] W fun e w' => e = .returned (.bool (tt (ListOk rtOk Rt.name_ lim xs))) ∧ Below W.heap.size W w' := by
  have HR := Lib.hid hr
  have hn := hr.2.1
  have HN := Lib.hid hr.1
  have HTT := Lib.hid hT
  unfold maxLen at hn
  obtain ⟨P, hP⟩ : ∃ P, tt (ListOk rtOk Rt.name_ lim xs) = P := ⟨_, rfl⟩
  have HP := Lib.hid hP
  rw [hP]
  clear hP
  by_cases hbig : lim < n
  · have HF : Hid (P = false) := by
      show _ = _
      rw [← HP.out]
      exact tt_false fun h => by have := h.1; rw [hr.1] at this; omega
    have d0 : (lim : Int) < (n : Int) := by omega
    clear hr hT
    go_enter Tryd.func58, Tryd.ntmps58
    go_wp2_with fail
    go_ret
    exact ⟨by rw [HF.out]; rfl, Below.refl _ _⟩
  have d0 : ¬ ((lim : Int) < (n : Int)) := by omega
  have HLIM : Hid (n ≤ lim) := by show _ ≤ _; omega
  clear hr hT hbig
  go_enter Tryd.func58, Tryd.ntmps58
  go_wp2_with fail
  go_loopw [13] (fun i wr => ∃ k : Nat, k ≤ n ∧ i = .int .i64 k ∧ Hid (Below W.heap.size W wr) ∧ Hid (UpOk rtOk Rt.name_ xs k)) (fun i _ => n - (intOf i).toNat)
  case atStart => exact ⟨0, Nat.zero_le _, rfl, Below.refl _ _, Lib.hid UpOk.zero⟩
  case round =>
    obtain ⟨k, hk, rfl, HW, HV⟩ := hrel
    by_cases hlt : k < n
    · have b0 : (0 : Int) ≤ (k : Int) := by omega
      have b1 : (k : Int) < (n : Int) := by omega
      obtain ⟨b, off, x, l, rfl, hg, hx, ⟨q0, q1⟩, hv⟩ := (HR.out.go HW.out).at_ hlt
      have HX := Lib.hid hx
      have HGB : Hid (b < wr.heap.size) := hg
      have HEL := Lib.hid (fun (w : World) (hb : Below wr.heap.size wr w) (hT : Classes w) => elemRt_any x l w (hv.go hb) hT)
      have HC := Lib.hid (one_newS wr 83 #[.string x.name_, .slice l.A1 l.n1 l.c1])
      have HT1 : Hid (Classes wr) := HTT.out.below HW.out (heap_pos (HTT.out.at_ 0 (by decide)))
      have hme := method_elemRt (.string x.name_) (.slice l.A1 l.n1 l.c1)
      obtain ⟨Z, hZ⟩ : ∃ z, rtOk x = z := ⟨_, rfl⟩
      have HZ := Lib.hid hZ
      clear hx hg hv hZ
      cases Z
      · have HF : Hid (P = false) := by
          show _ = _
          rw [← HP.out]
          exact tt_false (not_ok HX.out HZ.out)
        go_wp2_with fail
        obtain ⟨w0, hw0⟩ : ∃ w0, wr.alloc (.cells #[.string x.name_, .slice l.A1 l.n1 l.c1] 83) = w0 := ⟨_, rfl⟩
        rw [hw0]
        obtain ⟨g0, g1, g2⟩ := HC.out w0 hw0.symm
        have HB0 := Lib.hid g1
        have x0 := cell_regrown (g0.cell 0)
        have x1 := cell_regrown (g0.cell 1)
        have cE : ∀ d os', Calls Tryd.prog 112 #[.agg #[.string x.name_, .slice l.A1 l.n1 l.c1]] (grow (redrawn w0 d) os') (fun e w'' => e = .returned (.bool false) ∧ ∃ q : Regrown, w'' = grow (redrawn w0 q.d) q.os) := fun d os' => Calls.regrown_of (by have hb := g1.trans ((below_regrown w0 d os').mono g1.size); have h := HEL.out _ hb (classes_up HT1.out hb); rw [HZ.out] at h; exact h)
        clear hw0 g0 g1 g2 q0 q1
        refine wp_region_quiet_below (by kernel_rfl) (by kernel_rfl) ?_
        repeat (first | go_big_quiet_step (with_reducible exact cE _ _) | quiet_step (with_reducible exact cE _ _))
        refine wpQuiet_nil ?_
        intro w4 hw'
        obtain ⟨⟨dq, osq⟩, hw''⟩ := hw'
        have HB4 : Hid (Below W.heap.size W w4) := by show Below _ _ _; rw [hw'']; exact HW.out.trans ((HB0.out.trans ((below_regrown w0 dq osq).mono HB0.out.size)).mono HW.out.size)
        clear hw'' x0 x1 cE
        go_wp2_with fail
        go_ret
        exact ⟨by rw [HF.out]; rfl, HB4.out⟩
      by_cases hkp : k = 0
      · subst hkp
        have HV2 := Lib.hid (UpOk.first (nm := Rt.name_) HX.out HZ.out)
        simp only [Nat.zero_mul, Nat.add_zero] at q0 q1
        go_wp2_with fail
        obtain ⟨w0, hw0⟩ : ∃ w0, wr.alloc (.cells #[.string x.name_, .slice l.A1 l.n1 l.c1] 83) = w0 := ⟨_, rfl⟩
        rw [hw0]
        obtain ⟨g0, g1, g2⟩ := HC.out w0 hw0.symm
        have HB0 := Lib.hid g1
        have x0 := cell_regrown (g0.cell 0)
        have x1 := cell_regrown (g0.cell 1)
        have cE : ∀ d os', Calls Tryd.prog 112 #[.agg #[.string x.name_, .slice l.A1 l.n1 l.c1]] (grow (redrawn w0 d) os') (fun e w'' => e = .returned (.bool true) ∧ ∃ q : Regrown, w'' = grow (redrawn w0 q.d) q.os) := fun d os' => Calls.regrown_of (by have hb := g1.trans ((below_regrown w0 d os').mono g1.size); have h := HEL.out _ hb (classes_up HT1.out hb); rw [HZ.out] at h; exact h)
        clear hw0 g0 g1 g2 q0 q1
        refine wp_region_quiet_below (by kernel_rfl) (by kernel_rfl) ?_
        repeat (first | go_big_quiet_step (with_reducible exact cE _ _) | quiet_step (with_reducible exact cE _ _))
        refine wpQuiet_nil ?_
        intro w4 hw'
        obtain ⟨⟨dq, osq⟩, hw''⟩ := hw'
        have HB4 : Hid (Below W.heap.size W w4) := by show Below _ _ _; rw [hw'']; exact HW.out.trans ((HB0.out.trans ((below_regrown w0 dq osq).mono HB0.out.size)).mono HW.out.size)
        clear hw'' x0 x1 cE
        go_wp2_with fail
        go_roundw
        case rel => exact ⟨0 + 1, by omega, by go_num, HB4, HV2⟩
        case measure => simp [intOf]; omega
      obtain ⟨j, hj⟩ : ∃ j, k = j + 1 := ⟨k - 1, by omega⟩
      have HJ := Lib.hid hj
      have hj1 : (k : Int) - 1 = (j : Int) := by omega
      have hkp2 : (0 : Int) < (k : Int) := by omega
      have hkp3 : decide ((0 : Int) < (k : Int)) = true := by simp; omega
      have hkp4 : decide (0 < k) = true := by simp; omega
      have hkp5 : 0 < k := by omega
      have c0 : (0 : Int) ≤ (j : Int) := by omega
      have c1 : (j : Int) < (n : Int) := by omega
      obtain ⟨b', off', y, l', hA, hg', hy, ⟨r0, r1⟩, _⟩ := (HR.out.go HW.out).at_ (show j < n by omega)
      simp only [Option.some.injEq, Addr.mk.injEq, and_true] at hA
      obtain ⟨rfl, rfl⟩ := hA
      have HY : Hid (xs[k - 1]? = some y) := by show _ = _; rw [show k - 1 = j by omega]; exact hy
      have hmx := method_keyRt (.string x.name_) (.slice l.A1 l.n1 l.c1)
      have hmy := method_keyRt (.string y.name_) (.slice l'.A1 l'.n1 l'.c1)
      clear hj hkp hg' hy
      obtain ⟨R, hRR⟩ : ∃ z, Op.bytesLess y.name_.toList x.name_.toList = z := ⟨_, rfl⟩
      have HRR := Lib.hid hRR
      cases R
      · have HF : Hid (P = false) := by
          show _ = _
          rw [← HP.out]
          exact tt_false (not_up hkp5 HX.out HY.out HRR.out)
        go_wp2_with fail
        obtain ⟨w0, hw0⟩ : ∃ w0, wr.alloc (.cells #[.string x.name_, .slice l.A1 l.n1 l.c1] 83) = w0 := ⟨_, rfl⟩
        rw [hw0]
        obtain ⟨g0, g1, g2⟩ := HC.out w0 hw0.symm
        have HB0 := Lib.hid g1
        have x0 := cell_regrown (g0.cell 0)
        have x1 := cell_regrown (g0.cell 1)
        have cE : ∀ d os', Calls Tryd.prog 112 #[.agg #[.string x.name_, .slice l.A1 l.n1 l.c1]] (grow (redrawn w0 d) os') (fun e w'' => e = .returned (.bool true) ∧ ∃ q : Regrown, w'' = grow (redrawn w0 q.d) q.os) := fun d os' => Calls.regrown_of (by have hb := g1.trans ((below_regrown w0 d os').mono g1.size); have h := HEL.out _ hb (classes_up HT1.out hb); rw [HZ.out] at h; exact h)
        have cX : ∀ d os', Calls Tryd.prog 113 #[.agg #[.string x.name_, .slice l.A1 l.n1 l.c1]] (grow (redrawn w0 d) os') (fun e w'' => e = .returned (.string x.name_) ∧ ∃ q : Regrown, w'' = grow (redrawn w0 q.d) q.os) := fun d os' => Calls.regrown_of (keyRt_any x l _)
        have cY : ∀ d os', Calls Tryd.prog 113 #[.agg #[.string y.name_, .slice l'.A1 l'.n1 l'.c1]] (grow (redrawn w0 d) os') (fun e w'' => e = .returned (.string y.name_) ∧ ∃ q : Regrown, w'' = grow (redrawn w0 q.d) q.os) := fun d os' => Calls.regrown_of (keyRt_any y l' _)
        have y0 := cell_regrown ((g1.cell (p := ⟨b, off + j * 2, none⟩) HGB.out).trans r0)
        have y1 := cell_regrown ((g1.cell (p := ⟨b, off + j * 2 + 1, none⟩) HGB.out).trans r1)
        clear hw0 g0 g1 g2 q0 q1 r0 r1
        refine wp_region_quiet_below (by kernel_rfl) (by kernel_rfl) ?_
        repeat (first | go_big_quiet_step (first | with_reducible exact cE _ _ | with_reducible exact cX _ _ | with_reducible exact cY _ _) | quiet_step (first | with_reducible exact cE _ _ | with_reducible exact cX _ _ | with_reducible exact cY _ _))
        refine wpQuiet_nil ?_
        intro w4 hw'
        obtain ⟨⟨dq, osq⟩, hw''⟩ := hw'
        have HB4 : Hid (Below W.heap.size W w4) := by show Below _ _ _; rw [hw'']; exact HW.out.trans ((HB0.out.trans ((below_regrown w0 dq osq).mono HB0.out.size)).mono HW.out.size)
        clear hw'' x0 x1 y0 y1 cE cX cY
        go_wp2_with fail
        go_ret
        exact ⟨by rw [HF.out]; rfl, HB4.out⟩
      · have HV2 := Lib.hid (UpOk.next HV.out HX.out HZ.out HY.out HRR.out)
        go_wp2_with fail
        obtain ⟨w0, hw0⟩ : ∃ w0, wr.alloc (.cells #[.string x.name_, .slice l.A1 l.n1 l.c1] 83) = w0 := ⟨_, rfl⟩
        rw [hw0]
        obtain ⟨g0, g1, g2⟩ := HC.out w0 hw0.symm
        have HB0 := Lib.hid g1
        have x0 := cell_regrown (g0.cell 0)
        have x1 := cell_regrown (g0.cell 1)
        have cE : ∀ d os', Calls Tryd.prog 112 #[.agg #[.string x.name_, .slice l.A1 l.n1 l.c1]] (grow (redrawn w0 d) os') (fun e w'' => e = .returned (.bool true) ∧ ∃ q : Regrown, w'' = grow (redrawn w0 q.d) q.os) := fun d os' => Calls.regrown_of (by have hb := g1.trans ((below_regrown w0 d os').mono g1.size); have h := HEL.out _ hb (classes_up HT1.out hb); rw [HZ.out] at h; exact h)
        have cX : ∀ d os', Calls Tryd.prog 113 #[.agg #[.string x.name_, .slice l.A1 l.n1 l.c1]] (grow (redrawn w0 d) os') (fun e w'' => e = .returned (.string x.name_) ∧ ∃ q : Regrown, w'' = grow (redrawn w0 q.d) q.os) := fun d os' => Calls.regrown_of (keyRt_any x l _)
        have cY : ∀ d os', Calls Tryd.prog 113 #[.agg #[.string y.name_, .slice l'.A1 l'.n1 l'.c1]] (grow (redrawn w0 d) os') (fun e w'' => e = .returned (.string y.name_) ∧ ∃ q : Regrown, w'' = grow (redrawn w0 q.d) q.os) := fun d os' => Calls.regrown_of (keyRt_any y l' _)
        have y0 := cell_regrown ((g1.cell (p := ⟨b, off + j * 2, none⟩) HGB.out).trans r0)
        have y1 := cell_regrown ((g1.cell (p := ⟨b, off + j * 2 + 1, none⟩) HGB.out).trans r1)
        clear hw0 g0 g1 g2 q0 q1 r0 r1
        refine wp_region_quiet_below (by kernel_rfl) (by kernel_rfl) ?_
        repeat (first | go_big_quiet_step (first | with_reducible exact cE _ _ | with_reducible exact cX _ _ | with_reducible exact cY _ _) | quiet_step (first | with_reducible exact cE _ _ | with_reducible exact cX _ _ | with_reducible exact cY _ _))
        refine wpQuiet_nil ?_
        intro w4 hw'
        obtain ⟨⟨dq, osq⟩, hw''⟩ := hw'
        have HB4 : Hid (Below W.heap.size W w4) := by show Below _ _ _; rw [hw'']; exact HW.out.trans ((HB0.out.trans ((below_regrown w0 dq osq).mono HB0.out.size)).mono HW.out.size)
        clear hw'' x0 x1 y0 y1 cE cX cY
        go_wp2_with fail
        go_roundw
        case rel => exact ⟨k + 1, by omega, by go_num, HB4, HV2⟩
        case measure => simp [intOf]; omega
    · have HE : Hid (P = true) := by
        show _ = _
        rw [← HP.out]
        have hkn : k = n := by omega
        refine tt_true ⟨by rw [HN.out]; exact HLIM.out, ?_⟩
        rw [HN.out, ← hkn]
        exact HV.out
      go_wp2_with fail
      go_ret
      exact ⟨by rw [HE.out]; rfl, HW.out⟩
end Go.Proofs.YtflhjcdabbomiaaDoor

namespace Go.Proofs.YtflhjcdabbomiaaDoor
open Go Go.RowKit

theorem vars_any (A0 A1 A2 : Option Addr) (n0 c0 n1 c1 n2 c2 : Nat) (W : World) : Calls Tryd.prog 53 #[.agg #[.slice A0 n0 c0, .slice A1 n1 c1, .slice A2 n2 c2]] W fun e w' => e = .returned (.slice A0 n0 c0) ∧ Below W.heap.size W w' := by
  go_enter Tryd.func53, Tryd.ntmps53
  go_wp2_with fail
  go_ret
  exact ⟨rfl, below_alloc _ _⟩
theorem functions_any (A0 A1 A2 : Option Addr) (n0 c0 n1 c1 n2 c2 : Nat) (W : World) : Calls Tryd.prog 55 #[.agg #[.slice A0 n0 c0, .slice A1 n1 c1, .slice A2 n2 c2]] W fun e w' => e = .returned (.slice A1 n1 c1) ∧ Below W.heap.size W w' := by
  go_enter Tryd.func55, Tryd.ntmps55
  go_wp2_with fail
  go_ret
  exact ⟨rfl, below_alloc _ _⟩
theorem types_any (A0 A1 A2 : Option Addr) (n0 c0 n1 c1 n2 c2 : Nat) (W : World) : Calls Tryd.prog 57 #[.agg #[.slice A0 n0 c0, .slice A1 n1 c1, .slice A2 n2 c2]] W fun e w' => e = .returned (.slice A2 n2 c2) ∧ Below W.heap.size W w' := by
  go_enter Tryd.func57, Tryd.ntmps57
  go_wp2_with fail
  go_ret
  exact ⟨rfl, below_alloc _ _⟩

theorem scOk_bool (x : Sc) : tt (ScOk x) = (tt (ListOk bdOk Bd.name_ 40 x.vars_) && (tt (ListOk fnOk Fn.name_ 12 x.functions_) && tt (ListOk rtOk Rt.name_ 8 x.types_))) := by
  rw [Bool.eq_iff_iff]
  simp only [Bool.and_eq_true, tt_iff]
  rfl
set_option maxHeartbeats 4000000 in
set_option maxRecDepth 100000 in
theorem impl_ValidScope_any (x : Sc) (l : ScLay) (W : World) (hv : ScV W W.heap.size x l) (hT : Classes W) :
    Calls Tryd.prog 30 #[x.ag l] W fun e w' => e = .returned (.bool (tt (ScOk x))) ∧ Below W.heap.size W w' := by
  rw [scOk_bool]
  obtain ⟨x0, x1, x2⟩ := x
  obtain ⟨A0, n0, c0, h0, A1, n1, c1, h1, A2, n2, c2, h2⟩ := l
  obtain ⟨k0, k1, k2⟩ := hv
  dsimp only at k0 k1 k2 ⊢
  show Calls Tryd.prog 30 #[.agg #[.slice A0 n0 c0, .slice A1 n1 c1, .slice A2 n2 c2]] W _
  have HX0 := Lib.hid k0
  have HX1 := Lib.hid k1
  have HX2 := Lib.hid k2
  have HC := Lib.hid (one_newS W 36 #[.slice A0 n0 c0, .slice A1 n1 c1, .slice A2 n2 c2])
  have HT := Lib.hid (fun (w : World) (hb : Below W.heap.size W w) => classes_up hT hb)
  obtain ⟨z0, hz0⟩ : ∃ z, tt (ListOk bdOk Bd.name_ 40 x0) = z := ⟨_, rfl⟩
  obtain ⟨z1, hz1⟩ : ∃ z, tt (ListOk fnOk Fn.name_ 12 x1) = z := ⟨_, rfl⟩
  obtain ⟨z2, hz2⟩ : ∃ z, tt (ListOk rtOk Rt.name_ 8 x2) = z := ⟨_, rfl⟩
  rw [hz0, hz1, hz2]
  have HZ0 := Lib.hid hz0
  have HZ1 := Lib.hid hz1
  have HZ2 := Lib.hid hz2
  clear hz0 hz1 hz2 k0 k1 k2 hT
  cases z0
  · go_enter Tryd.func30, Tryd.ntmps30
    go_wp2_with (first | (go_at_call 53; obtain ⟨g0, g1, g2⟩ := HC.out _ rfl; refine (vars_any A0 A1 A2 n0 c0 n1 c1 n2 c2 _).mono ?_; rintro e w1 ⟨rfl, hb⟩; have HB1 := Lib.hid (g1.trans (hb.mono g1.size)); have HA1 := Lib.hid (g0.below hb g2); clear g0 g1 g2 hb) | (go_at_call 54; have HQ := withinBd_any A0 n0 c0 40 x0 w1 (HX0.out.go HB1.out) (by decide) (HT.out _ HB1.out); refine Calls.mono HQ ?_; clear HQ; rintro e w2 ⟨rfl, hb⟩; rw [HZ0.out]; have HB2 := Lib.hid (HB1.out.trans (hb.mono HB1.out.size)); have HA2 := Lib.hid (HA1.out.below hb HA1.out.lt); have q0 : w2.cell? ⟨W.heap.size, 0, none⟩ = some (.slice A0 n0 c0) := HA2.out.cell 0; have q1 : w2.cell? ⟨W.heap.size, 1, none⟩ = some (.slice A1 n1 c1) := HA2.out.cell 1; have q2 : w2.cell? ⟨W.heap.size, 2, none⟩ = some (.slice A2 n2 c2) := HA2.out.cell 2; clear hb))
    go_ret
    exact ⟨rfl, HB2.out⟩
  cases z1
  · go_enter Tryd.func30, Tryd.ntmps30
    go_wp2_with (first | (go_at_call 53; obtain ⟨g0, g1, g2⟩ := HC.out _ rfl; refine (vars_any A0 A1 A2 n0 c0 n1 c1 n2 c2 _).mono ?_; rintro e w1 ⟨rfl, hb⟩; have HB1 := Lib.hid (g1.trans (hb.mono g1.size)); have HA1 := Lib.hid (g0.below hb g2); clear g0 g1 g2 hb) | (go_at_call 54; have HQ := withinBd_any A0 n0 c0 40 x0 w1 (HX0.out.go HB1.out) (by decide) (HT.out _ HB1.out); refine Calls.mono HQ ?_; clear HQ; rintro e w2 ⟨rfl, hb⟩; rw [HZ0.out]; have HB2 := Lib.hid (HB1.out.trans (hb.mono HB1.out.size)); have HA2 := Lib.hid (HA1.out.below hb HA1.out.lt); have q0 : w2.cell? ⟨W.heap.size, 0, none⟩ = some (.slice A0 n0 c0) := HA2.out.cell 0; have q1 : w2.cell? ⟨W.heap.size, 1, none⟩ = some (.slice A1 n1 c1) := HA2.out.cell 1; have q2 : w2.cell? ⟨W.heap.size, 2, none⟩ = some (.slice A2 n2 c2) := HA2.out.cell 2; clear hb) | (go_at_call 55; refine (functions_any A0 A1 A2 n0 c0 n1 c1 n2 c2 _).mono ?_; rintro e w3 ⟨rfl, hb⟩; have HB3 := Lib.hid (HB2.out.trans (hb.mono HB2.out.size)); have HA3 := Lib.hid (HA2.out.below hb HA2.out.lt); clear hb q0 q1 q2) | (go_at_call 56; have HQ := withinFn_any A1 n1 c1 12 x1 w3 (HX1.out.go HB3.out) (by decide) (HT.out _ HB3.out); refine Calls.mono HQ ?_; clear HQ; rintro e w4 ⟨rfl, hb⟩; rw [HZ1.out]; have HB4 := Lib.hid (HB3.out.trans (hb.mono HB3.out.size)); have HA4 := Lib.hid (HA3.out.below hb HA3.out.lt); have q0 : w4.cell? ⟨W.heap.size, 0, none⟩ = some (.slice A0 n0 c0) := HA4.out.cell 0; have q1 : w4.cell? ⟨W.heap.size, 1, none⟩ = some (.slice A1 n1 c1) := HA4.out.cell 1; have q2 : w4.cell? ⟨W.heap.size, 2, none⟩ = some (.slice A2 n2 c2) := HA4.out.cell 2; clear hb))
    go_ret
    exact ⟨rfl, HB4.out⟩
  cases z2
  all_goals
    go_enter Tryd.func30, Tryd.ntmps30
    go_wp2_with (first | (go_at_call 53; obtain ⟨g0, g1, g2⟩ := HC.out _ rfl; refine (vars_any A0 A1 A2 n0 c0 n1 c1 n2 c2 _).mono ?_; rintro e w1 ⟨rfl, hb⟩; have HB1 := Lib.hid (g1.trans (hb.mono g1.size)); have HA1 := Lib.hid (g0.below hb g2); clear g0 g1 g2 hb) | (go_at_call 54; have HQ := withinBd_any A0 n0 c0 40 x0 w1 (HX0.out.go HB1.out) (by decide) (HT.out _ HB1.out); refine Calls.mono HQ ?_; clear HQ; rintro e w2 ⟨rfl, hb⟩; rw [HZ0.out]; have HB2 := Lib.hid (HB1.out.trans (hb.mono HB1.out.size)); have HA2 := Lib.hid (HA1.out.below hb HA1.out.lt); have q0 : w2.cell? ⟨W.heap.size, 0, none⟩ = some (.slice A0 n0 c0) := HA2.out.cell 0; have q1 : w2.cell? ⟨W.heap.size, 1, none⟩ = some (.slice A1 n1 c1) := HA2.out.cell 1; have q2 : w2.cell? ⟨W.heap.size, 2, none⟩ = some (.slice A2 n2 c2) := HA2.out.cell 2; clear hb) | (go_at_call 55; refine (functions_any A0 A1 A2 n0 c0 n1 c1 n2 c2 _).mono ?_; rintro e w3 ⟨rfl, hb⟩; have HB3 := Lib.hid (HB2.out.trans (hb.mono HB2.out.size)); have HA3 := Lib.hid (HA2.out.below hb HA2.out.lt); clear hb q0 q1 q2) | (go_at_call 56; have HQ := withinFn_any A1 n1 c1 12 x1 w3 (HX1.out.go HB3.out) (by decide) (HT.out _ HB3.out); refine Calls.mono HQ ?_; clear HQ; rintro e w4 ⟨rfl, hb⟩; rw [HZ1.out]; have HB4 := Lib.hid (HB3.out.trans (hb.mono HB3.out.size)); have HA4 := Lib.hid (HA3.out.below hb HA3.out.lt); have q0 : w4.cell? ⟨W.heap.size, 0, none⟩ = some (.slice A0 n0 c0) := HA4.out.cell 0; have q1 : w4.cell? ⟨W.heap.size, 1, none⟩ = some (.slice A1 n1 c1) := HA4.out.cell 1; have q2 : w4.cell? ⟨W.heap.size, 2, none⟩ = some (.slice A2 n2 c2) := HA4.out.cell 2; clear hb) | (go_at_call 57; refine (types_any A0 A1 A2 n0 c0 n1 c1 n2 c2 _).mono ?_; rintro e w5 ⟨rfl, hb⟩; have HB5 := Lib.hid (HB4.out.trans (hb.mono HB4.out.size)); have HA5 := Lib.hid (HA4.out.below hb HA4.out.lt); clear hb q0 q1 q2) | (go_at_call 58; have HQ := withinRt_any A2 n2 c2 8 x2 w5 (HX2.out.go HB5.out) (by decide) (HT.out _ HB5.out); refine Calls.mono HQ ?_; clear HQ; rintro e w6 ⟨rfl, hb⟩; rw [HZ2.out]; have HB6 := Lib.hid (HB5.out.trans (hb.mono HB5.out.size)); have HA6 := Lib.hid (HA5.out.below hb HA5.out.lt); have q0 : w6.cell? ⟨W.heap.size, 0, none⟩ = some (.slice A0 n0 c0) := HA6.out.cell 0; have q1 : w6.cell? ⟨W.heap.size, 1, none⟩ = some (.slice A1 n1 c1) := HA6.out.cell 1; have q2 : w6.cell? ⟨W.heap.size, 2, none⟩ = some (.slice A2 n2 c2) := HA6.out.cell 2; clear hb))
    go_ret
    exact ⟨rfl, HB6.out⟩
end Go.Proofs.YtflhjcdabbomiaaDoor

namespace Go.Proofs.YtflhjcdabbomiaaDoor
open Go Go.RowKit

set_option maxHeartbeats 2000000 in
set_option maxRecDepth 100000 in
theorem l18Type_any (x : Rt) (l : RtLay) (W : World) (hv : RtV W W.heap.size x l) :
    Calls Tryd.prog 47 #[x.ag l] W fun e w' => e = .returned (.bool (rtOk x)) ∧ Below W.heap.size W w' := by
  obtain ⟨x0, x1⟩ := x
  obtain ⟨A1, n1, c1, h1⟩ := l
  obtain ⟨hx, hm0⟩ := hv
  dsimp only at hx hm0
  show Calls Tryd.prog 47 #[.agg #[.string x0, .slice A1 n1 c1]] W _
  have HC := Lib.hid (one_newS W 83 #[.string x0, .slice A1 n1 c1])
  have HM0 := Lib.hid hm0
  have HX := Lib.hid hx
  have hnn1 := hx.2.1
  unfold maxLen at hnn1
  have hnw : IntKind.i64.wrap (n1 : Int) = n1 := by rw [IntKind.wrap_i64]; omega
  unfold rtOk
  dsimp only
  obtain ⟨z0, hz0⟩ : ∃ z, isNameB x0 = z := ⟨_, rfl⟩
  obtain ⟨z1, hz1⟩ : ∃ z, decide (1 ≤ x1.length ∧ x1.length ≤ 6) = z := ⟨_, rfl⟩
  obtain ⟨z2, hz2⟩ : ∃ z, tt (OkNames x1) = z := ⟨_, rfl⟩
  have HZ1 : Hid (decide ((1 : Int) ≤ (n1 : Int) ∧ (n1 : Int) ≤ 6) = z1) := by
    show _ = _
    rw [← hz1, hx.1]
    exact decide_eq_decide.2 ⟨fun h => ⟨by omega, by omega⟩, fun h => ⟨by omega, by omega⟩⟩
  rw [hz0, hz1, hz2]
  have HZ0 := Lib.hid hz0
  have HZ2 := Lib.hid hz2
  clear hz0 hz1 hz2 hx hm0
  cases z0
  · go_enter Tryd.func47, Tryd.ntmps47
    go_wp2_with (go_at_call 25; obtain ⟨g0, g1, g2⟩ := HC.out _ rfl; refine (spec_IsName_any x0 _ HM0.out).mono ?_; rintro e w1 ⟨rfl, rfl⟩; rw [HZ0.out]; clear g0 g1 g2)
    go_ret
    exact ⟨rfl, below_alloc _ _⟩
  cases z1
  · go_enter Tryd.func47, Tryd.ntmps47
    go_wp2_with (first | (go_at_call 25; obtain ⟨g0, g1, g2⟩ := HC.out _ rfl; refine (spec_IsName_any x0 _ HM0.out).mono ?_; rintro e w1 ⟨rfl, rfl⟩; rw [HZ0.out]; clear g0 g1 g2) | (go_at_call 67; refine (l00In_any n1 1 6 _).mono ?_; rintro e w2 ⟨rfl, rfl⟩; rw [HZ1.out]))
    go_ret
    exact ⟨rfl, below_alloc _ _⟩
  cases z2
  all_goals
    go_enter Tryd.func47, Tryd.ntmps47
    go_wp2_with (first | (go_at_call 25; obtain ⟨g0, g1, g2⟩ := HC.out _ rfl; refine (spec_IsName_any x0 _ HM0.out).mono ?_; rintro e w1 ⟨rfl, rfl⟩; rw [HZ0.out]; clear g0 g1 g2) | (go_at_call 67; refine (l00In_any n1 1 6 _).mono ?_; rintro e w2 ⟨rfl, rfl⟩; rw [HZ1.out]) | (go_at_call 68; refine (l18Names_any A1 n1 c1 x1 _ (HX.out.alloc _)).mono ?_; rintro e w3 ⟨rfl, hb⟩; rw [HZ2.out]; have HB3 : Hid (Below W.heap.size W w3) := (below_alloc _ _).trans (hb.mono (by simp)); clear hb))
    go_ret
    exact ⟨rfl, HB3.out⟩

theorem SXY (xs ys : List St) (h : ∀ (j : Nat) (x : St), xs[j]? = some x → ByteArray.size x ≤ maxLen) (h' : ∀ (j : Nat) (x : St), ys[j]? = some x → ByteArray.size x ≤ maxLen) : ∀ (j : Nat) (x : St), (xs ++ ys)[j]? = some x → ByteArray.size x ≤ maxLen := by
  intro j x hx
  rcases Nat.lt_or_ge j xs.length with q | q
  · rw [List.getElem?_append_left q] at hx; exact h j x hx
  · rw [List.getElem?_append_right q] at hx; exact h' _ x hx
theorem ownNew (W : World) : (W.alloc (.cells #[] 9)).ownsRow W.heap.size 9 1 (.slice (some ⟨W.heap.size, 0, none⟩) 0 0) 0 [] := World.ownsRow_lit W #[] 0 (Nat.le_refl _) (Nat.zero_le _) rfl

set_option maxHeartbeats 4000000 in
set_option maxRecDepth 100000 in
theorem l18Function_any (x : Fn) (l : FnLay) (W : World) (hv : FnV W W.heap.size x l) :
    Calls Tryd.prog 46 #[x.ag l] W fun e w' => e = .returned (.bool (fnOk x)) ∧ Below W.heap.size W w' := by
  obtain ⟨i0, hi0, hz0', hz1', hz2'⟩ := stInfo
  obtain ⟨x0, x1, x2, x3⟩ := x
  obtain ⟨A1, n1, c1, h1, A2, n2, c2, h2⟩ := l
  obtain ⟨hx1, hx2, hm0, hm3⟩ := hv
  dsimp only at hx1 hx2 hm0 hm3
  show Calls Tryd.prog 46 #[.agg #[.string x0, .slice A1 n1 c1, .slice A2 n2 c2, .string x3]] W _
  have HC := Lib.hid (one_newS W 81 #[.string x0, .slice A1 n1 c1, .slice A2 n2 c2, .string x3])
  have HM0 := Lib.hid hm0
  have HM3 := Lib.hid hm3
  have HX1 := Lib.hid hx1
  have HX2 := Lib.hid hx2
  have HL1 := Lib.hid hx1.1
  have HL2 := Lib.hid hx2.1
  have S1 := Lib.hid (stI_sizes hx1)
  have S2 := Lib.hid (stI_sizes hx2)
  have hnn1 := hx1.2.1
  have hnn2 := hx2.2.1
  unfold maxLen at hnn1 hnn2
  unfold fnOk
  dsimp only
  obtain ⟨z0, hz0⟩ : ∃ z, isNameB x0 = z := ⟨_, rfl⟩
  obtain ⟨z3, hz3⟩ : ∃ z, isNameB x3 = z := ⟨_, rfl⟩
  obtain ⟨z1, hz1⟩ : ∃ z, decide (x1.length ≤ 6) = z := ⟨_, rfl⟩
  obtain ⟨z2, hz2⟩ : ∃ z, decide (x2.length ≤ 6) = z := ⟨_, rfl⟩
  obtain ⟨z4, hz4⟩ : ∃ z, tt (OkNames (x1 ++ x2)) = z := ⟨_, rfl⟩
  have d1 : decide ((6 : Int) < (n1 : Int)) = !z1 := by
    rw [← hz1, hx1.1, ← decide_not]
    exact decide_eq_decide.2 ⟨fun h => by omega, fun h => by omega⟩
  have d2 : decide ((6 : Int) < (n2 : Int)) = !z2 := by
    rw [← hz2, hx2.1, ← decide_not]
    exact decide_eq_decide.2 ⟨fun h => by omega, fun h => by omega⟩
  rw [hz0, hz3, hz1, hz2, hz4]
  have HZ0 := Lib.hid hz0
  have HZ3 := Lib.hid hz3
  have HZ4 := Lib.hid hz4
  have tk1 : True := trivial
  have tk2 : True := trivial
  clear hz0 hz3 hz1 hz2 hz4 hx1 hx2 hm0 hm3
  cases z0
  · go_enter Tryd.func46, Tryd.ntmps46
    go_wp2_with (go_at_call 25; have tk := tk1; refine (spec_IsName_any x0 _ HM0.out).mono ?_; rintro e w1 ⟨rfl, rfl⟩; rw [HZ0.out]; clear tk tk1)
    go_ret
    exact ⟨rfl, below_alloc _ _⟩
  cases z3
  · go_enter Tryd.func46, Tryd.ntmps46
    go_wp2_with (first | (go_at_call 25; have tk := tk1; refine (spec_IsName_any x0 _ HM0.out).mono ?_; rintro e w1 ⟨rfl, rfl⟩; rw [HZ0.out]; clear tk tk1) | (go_at_call 25; have tk := tk2; refine (spec_IsName_any x3 _ HM3.out).mono ?_; rintro e w2 ⟨rfl, rfl⟩; rw [HZ3.out]; clear tk tk2))
    go_ret
    exact ⟨rfl, below_alloc _ _⟩
  cases z1
  · have e1 : (6 : Int) < (n1 : Int) := by simpa using d1
    go_enter Tryd.func46, Tryd.ntmps46
    go_wp2_with (first | (go_at_call 25; have tk := tk1; refine (spec_IsName_any x0 _ HM0.out).mono ?_; rintro e w1 ⟨rfl, rfl⟩; rw [HZ0.out]; clear tk tk1) | (go_at_call 25; have tk := tk2; refine (spec_IsName_any x3 _ HM3.out).mono ?_; rintro e w2 ⟨rfl, rfl⟩; rw [HZ3.out]; clear tk tk2))
    go_ret
    exact ⟨rfl, below_alloc _ _⟩
  have e1 : ¬ ((6 : Int) < (n1 : Int)) := by simpa using d1
  cases z2
  · have e2 : (6 : Int) < (n2 : Int) := by simpa using d2
    go_enter Tryd.func46, Tryd.ntmps46
    go_wp2_with (first | (go_at_call 25; have tk := tk1; refine (spec_IsName_any x0 _ HM0.out).mono ?_; rintro e w1 ⟨rfl, rfl⟩; rw [HZ0.out]; clear tk tk1) | (go_at_call 25; have tk := tk2; refine (spec_IsName_any x3 _ HM3.out).mono ?_; rintro e w2 ⟨rfl, rfl⟩; rw [HZ3.out]; clear tk tk2))
    go_ret
    exact ⟨rfl, below_alloc _ _⟩
  have e2 : ¬ ((6 : Int) < (n2 : Int)) := by simpa using d2
  have L1 : n1 ≤ 6 := by omega
  have L2 : n2 ≤ 6 := by omega
  go_enter Tryd.func46, Tryd.ntmps46
  go_wp2_with (first | (go_at_call 25; have tk := tk1; refine (spec_IsName_any x0 _ HM0.out).mono ?_; rintro e w1 ⟨rfl, rfl⟩; rw [HZ0.out]; clear tk tk1) | (go_at_call 25; have tk := tk2; refine (spec_IsName_any x3 _ HM3.out).mono ?_; rintro e w2 ⟨rfl, rfl⟩; rw [HZ3.out]; clear tk tk2))
  obtain ⟨w0, hw0⟩ : ∃ w0, W.alloc (.cells #[.string x0, .slice A1 n1 c1, .slice A2 n2 c2, .string x3] 81) = w0 := ⟨_, rfl⟩
  rw [hw0]
  obtain ⟨g0, g1, g2⟩ := HC.out w0 hw0.symm
  have H0 := Lib.hid (show RW 81 w0.drew W.heap.size #[.string x0, .slice A1 n1 c1, .slice A2 n2 c2, .string x3] ∧ Below W.heap.size W w0.drew ∧ w0.drew.heap.size = W.heap.size + 1 from ⟨g0.below (Below.refl _ _).drew g2, g1.drew, by subst hw0; simp⟩)
  have HS : Hid (w0.heap.size = W.heap.size + 1) := by subst hw0; show _ = _; simp
  clear hw0 g0 g1 g2
  have HN : Hid ((w0.drew.alloc (.cells #[] 9)).ownsRow w0.heap.size 9 1 (.slice (some ⟨w0.heap.size, 0, none⟩) 0 0) 0 []) := ownNew w0.drew
  have HBN : Hid (Below w0.heap.size w0.drew (w0.drew.alloc (.cells #[] 9))) := below_alloc w0.drew _
  have HRB : Hid (∀ w, Below w0.heap.size w0.drew w → w.cell? ⟨W.heap.size, 1, none⟩ = some (.slice A1 n1 c1) ∧ w.cell? ⟨W.heap.size, 2, none⟩ = some (.slice A2 n2 c2)) := by
    show ∀ _, _ → _
    intro w hb
    have hr := H0.out.1.below hb (by have := HS.out; omega)
    exact ⟨hr.cell 1, hr.cell 2⟩
  have HXB1 := Lib.hid (fun w (hb : Below w0.heap.size w0.drew w) => ((HX1.out.go H0.out.2.1).below hb).src)
  have HXB2 := Lib.hid (fun w (hb : Below w0.heap.size w0.drew w) => ((HX2.out.go H0.out.2.1).below hb).src)
  have TKA : True := trivial
  have TKB : True := trivial
  go_region_held3 (fun w => w.cell? ⟨W.heap.size, 1, none⟩ = some (.slice A1 n1 c1) ∧ w.cell? ⟨W.heap.size, 2, none⟩ = some (.slice A2 n2 c2))
    (first | exact HRB.out _ (Below.refl _ _) | exact HRB.out _ HBN.out | exact HRB.out _ HB7.out | exact HRB.out _ HB8.out | exact HRB.out _ HB9.out | go_keep)
    ((first
      | (go_at_call 68; have HQ := l18Names_any A9 (n1 + n2) c9 (x1 ++ x2) w8 HI9.out; refine Calls.mono HQ ?_; clear HQ; rintro e w9 ⟨rfl, hb⟩; rw [HZ4.out]; have HB9 : Hid (Below w0.heap.size w0.drew w9) := HB8.out.trans (hb.mono HB8.out.size); clear hb)
      | (have tk := TKA; refine step_append_src _ (by rfl) _ _ 41 (by rfl) w0.heap.size 9 i0 (.string ⟨#[]⟩) 1 16 Tryd.underlying41 hi0 hz0' hz1' hz2' (by rfl) (by decide) (.slice (some ⟨w0.heap.size, 0, none⟩) 0 0) 0 [] (by rfl) HN.out A1 n1 c1 (valsSt x1) (by rfl) (by rw [valsSt_len, HL1.out]; omega) (HXB1.out _ HBN.out) (valsSt_one _) (by unfold maxLen; omega) (by omega) HBN.out.size ?_; intro v2 w7 hown hgr; rw [Nat.zero_add, List.nil_append] at hown; have HO7 := Lib.hid hown; have HB7 : Hid (Below w0.heap.size w0.drew w7) := HBN.out.grown hgr HBN.out.size (fun b hb => own_ge HN.out b hb); clear hown hgr tk TKA)
      | (have tk := TKB; refine step_append_src _ (by rfl) _ _ 41 (by rfl) w0.heap.size 9 i0 (.string ⟨#[]⟩) 1 16 Tryd.underlying41 hi0 hz0' hz1' hz2' (by rfl) (by decide) v2 n1 (valsSt x1) (by rfl) HO7.out A2 n2 c2 (valsSt x2) (by rfl) (by rw [valsSt_len, HL2.out]; omega) (HXB2.out _ HB7.out) (valsSt_one _) (by unfold maxLen; omega) (by omega) HB7.out.size ?_; intro v3 w8 hown hgr; rw [valsSt_append] at hown; have HB8 : Hid (Below w0.heap.size w0.drew w8) := HB7.out.grown hgr HB7.out.size (fun b hb => own_ge HO7.out b hb); obtain ⟨A9, c9, rfl, _, hi9⟩ := own_StI hown (SXY x1 x2 S1.out S2.out); have HI9 := Lib.hid hi9; clear hown hgr hi9 tk TKB)))
  go_split_ands
  go_wp2_with fail
  go_ret
  exact ⟨rfl, H0.out.2.1.trans (HB9.out.mono (by have := HS.out; omega))⟩
end Go.Proofs.YtflhjcdabbomiaaDoor

namespace Go.Proofs.YtflhjcdabbomiaaDoor
open Go Go.RowKit Go.Sort

theorem c5 (s : ByteArray) (hs : s.size ≤ maxLen) (W : World) : Calls Tryd.prog 25 #[.string s] W fun e w' => e = .returned (.bool (isNameB s)) ∧ Below W.heap.size W w' :=
  (spec_IsName_any s W hs).mono fun e w' ⟨h1, h2⟩ => ⟨h1, by rw [← h2]; exact Below.refl _ _⟩
set_option maxHeartbeats 16000000 in
set_option maxRecDepth 100000 in
theorem spec_ValidScope_any (x : Sc) (l : ScLay) (W : World) (hv : ScV W W.heap.size x l) :
    Calls Tryd.prog 24 #[x.ag l] W fun e w' => e = .returned (.bool (tt (ScOk x))) ∧ Below W.heap.size W w' := by
  obtain ⟨P, hP⟩ : ∃ P, tt (ScOk x) = P := ⟨_, rfl⟩
  rw [hP]
  obtain ⟨x0, x1, x2⟩ := x
  obtain ⟨A0, n0, c0, h0, A1, n1, c1, h1, A2, n2, c2, h2⟩ := l
  obtain ⟨k0, k1, k2⟩ := hv
  dsimp only at k0 k1 k2
  show Calls Tryd.prog 24 #[.agg #[.slice A0 n0 c0, .slice A1 n1 c1, .slice A2 n2 c2]] W _
  have HX0 := Lib.hid k0
  have HX1 := Lib.hid k1
  have HX2 := Lib.hid k2
  have hn0 := k0.2.1
  have hn1 := k1.2.1
  have hn2 := k2.2.1
  unfold maxLen at hn0 hn1 hn2
  have HC := Lib.hid (one_newS W 36 #[.slice A0 n0 c0, .slice A1 n1 c1, .slice A2 n2 c2])
  have HP := Lib.hid hP
  have HNO : Hid ((¬ ListOk bdOk Bd.name_ 40 x0 ∨ ¬ ListOk fnOk Fn.name_ 12 x1 ∨ ¬ ListOk rtOk Rt.name_ 8 x2) → P = false) := by
    show _ → _
    intro h
    rw [← HP.out]
    refine tt_false fun ⟨e0, e1, e2⟩ => ?_
    rcases h with h | h | h
    · exact h e0
    · exact h e1
    · exact h e2
  have HYES : Hid (ListOk bdOk Bd.name_ 40 x0 → ListOk fnOk Fn.name_ 12 x1 → ListOk rtOk Rt.name_ 8 x2 → P = true) := by
    show _ → _ → _ → _
    intro e0 e1 e2
    rw [← HP.out]
    exact tt_true ⟨e0, e1, e2⟩
  clear hP HP k0 k1 k2 h0 h1 h2
  by_cases hl0 : 40 < n0
  · have HF : Hid (P = false) := HNO.out (.inl fun h => by have := h.1; have := HX0.out.1; omega)
    have d0 : (40 : Int) < (n0 : Int) := by omega
    go_enter Tryd.func24, Tryd.ntmps24
    go_wp2_with fail
    go_ret
    exact ⟨by rw [HF.out]; rfl, below_alloc _ _⟩
  have d0 : ¬ ((40 : Int) < (n0 : Int)) := by omega
  by_cases hl1 : 12 < n1
  · have HF : Hid (P = false) := HNO.out (.inr (.inl fun h => by have := h.1; have := HX1.out.1; omega))
    have d0 : (12 : Int) < (n1 : Int) := by omega
    go_enter Tryd.func24, Tryd.ntmps24
    go_wp2_with fail
    go_ret
    exact ⟨by rw [HF.out]; rfl, below_alloc _ _⟩
  have d1 : ¬ ((12 : Int) < (n1 : Int)) := by omega
  by_cases hl2 : 8 < n2
  · have HF : Hid (P = false) := HNO.out (.inr (.inr fun h => by have := h.1; have := HX2.out.1; omega))
    have d0 : (8 : Int) < (n2 : Int) := by omega
    go_enter Tryd.func24, Tryd.ntmps24
    go_wp2_with fail
    go_ret
    exact ⟨by rw [HF.out]; rfl, below_alloc _ _⟩
  have d2 : ¬ ((8 : Int) < (n2 : Int)) := by omega
  go_enter Tryd.func24, Tryd.ntmps24
  go_wp2_with fail
  obtain ⟨wb, hwb⟩ : ∃ wb, W.alloc (.cells #[.slice A0 n0 c0, .slice A1 n1 c1, .slice A2 n2 c2] 36) = wb := ⟨_, rfl⟩
  rw [hwb]
  obtain ⟨g0, g1, g2⟩ := HC.out wb hwb.symm
  have HB := Lib.hid (show RW 36 wb W.heap.size #[.slice A0 n0 c0, .slice A1 n1 c1, .slice A2 n2 c2] ∧ Below W.heap.size W wb from ⟨g0, g1⟩)
  have s0 := g0.cell 0
  have s1 := g0.cell 1
  have s2 := g0.cell 2
  clear hwb g0 g1 g2 HC
  go_loopw [3] (fun i wr => ∃ k : Nat, k ≤ n0 ∧ i = .int .i64 k ∧ (wr.cell? ⟨W.heap.size, 0, none⟩ = some (.slice A0 n0 c0) ∧ wr.cell? ⟨W.heap.size, 1, none⟩ = some (.slice A1 n1 c1) ∧ wr.cell? ⟨W.heap.size, 2, none⟩ = some (.slice A2 n2 c2)) ∧ Hid (RW 36 wr W.heap.size #[.slice A0 n0 c0, .slice A1 n1 c1, .slice A2 n2 c2] ∧ Below W.heap.size W wr) ∧ Hid (UpOk bdOk Bd.name_ x0 k)) (fun i _ => n0 - (intOf i).toNat)
  case atStart => exact ⟨0, Nat.zero_le _, rfl, ⟨s0, s1, s2⟩, HB, Lib.hid UpOk.zero⟩
  case round =>
    clear s0 s1 s2 HB
    obtain ⟨k, hk, rfl, ⟨s0, s1, s2⟩, HB, HV⟩ := hrel
    by_cases hlt : k < n0
    · have b0 : (0 : Int) ≤ (k : Int) := by omega
      have b1 : (k : Int) < (n0 : Int) := by omega
      obtain ⟨b, off, x, rfl, hg, hx, ⟨q0, q1, q2, q3, q4⟩, hm0, hm3⟩ := (HX0.out.go HB.out.2).at_ hlt
      have HX := Lib.hid hx
      have HGB : Hid (b < wr.heap.size) := hg
      have HM0 := Lib.hid hm0
      have HM3 := Lib.hid hm3
      have HCX := Lib.hid (one_newS wr 63 #[.string x.name_, .int .i64 x.kind_, .int .i64 x.num_, .string x.text_, .int .i64 x.ref_])
      obtain ⟨z0, hz0⟩ : ∃ z, isNameB x.name_ = z := ⟨_, rfl⟩
      obtain ⟨z1, hz1⟩ : ∃ z, validV x.kind_ x.num_ x.text_ x.ref_ = z := ⟨_, rfl⟩
      obtain ⟨z2, hz2⟩ : ∃ z, isNullV x.kind_ x.num_ x.text_ x.ref_ = z := ⟨_, rfl⟩
      have HZ0 := Lib.hid hz0
      have HZ1 := Lib.hid hz1
      have HZ2 := Lib.hid hz2
      have HZ : Hid (bdOk x = (z0 && (z1 && !z2))) := by show bdOk x = _; unfold bdOk; rw [hz0, hz1, hz2]
      clear hx hg hm0 hm3 hz0 hz1 hz2
      cases z0
      case false =>
        have HF : Hid (P = false) := HNO.out (.inl (not_ok HX.out (by rw [HZ.out]; simp)))
        go_wp2_with fail
        obtain ⟨w0, hw0⟩ : ∃ w0, wr.alloc (.cells #[.string x.name_, .int .i64 x.kind_, .int .i64 x.num_, .string x.text_, .int .i64 x.ref_] 63) = w0 := ⟨_, rfl⟩
        rw [hw0]
        obtain ⟨g0, g1, g2⟩ := HCX.out w0 hw0.symm
        have HB0 : Hid (RW 36 w0 W.heap.size #[.slice (some ⟨b, off, none⟩) n0 c0, .slice A1 n1 c1, .slice A2 n2 c2] ∧ Below W.heap.size W w0) := ⟨HB.out.1.below g1 HB.out.1.lt, HB.out.2.trans (g1.mono HB.out.2.size)⟩
        have x0 := cell_regrown (g0.cell 0)
        have x1 := cell_regrown (g0.cell 1)
        have x2 := cell_regrown (g0.cell 2)
        have x3 := cell_regrown (g0.cell 3)
        have x4 := cell_regrown (g0.cell 4)
        have xs0 := cell_regrown (HB0.out.1.cell 0)
        have cA : ∀ d os', Calls Tryd.prog 25 #[.string x.name_] (grow (redrawn w0 d) os') (fun e w'' => e = .returned (.bool false) ∧ ∃ q : Regrown, w'' = grow (redrawn w0 q.d) q.os) := fun d os' => by have h := Calls.regrown_of (w := w0) (d := d) (os := os') (c5 x.name_ HM0.out _); rw [HZ0.out] at h; exact h
        clear hw0 g0 g1 g2 q0 q1 q2 q3 q4 s0 s1 s2
        refine wp_region_quiet_below (by kernel_rfl) (by kernel_rfl) ?_
        repeat (first | go_big_quiet_step (with_reducible exact cA _ _) | quiet_step (with_reducible exact cA _ _))
        refine wpQuiet_nil ?_
        intro w4 hw'
        obtain ⟨⟨dq, osq⟩, hw''⟩ := hw'
        have HB4 : Hid (RW 36 w4 W.heap.size #[.slice (some ⟨b, off, none⟩) n0 c0, .slice A1 n1 c1, .slice A2 n2 c2] ∧ Below W.heap.size W w4) := by show _ ∧ _; rw [hw'']; exact ⟨HB0.out.1.below (below_regrown w0 dq osq) HB0.out.1.lt, HB0.out.2.trans ((below_regrown w0 dq osq).mono HB0.out.2.size)⟩
        clear hw'' x0 x1 x2 x3 x4 xs0 cA
        go_wp2_with fail
        go_ret
        exact ⟨by rw [HF.out]; rfl, HB4.out.2⟩
      cases z1
      case false =>
        have HF : Hid (P = false) := HNO.out (.inl (not_ok HX.out (by rw [HZ.out]; simp)))
        go_wp2_with fail
        obtain ⟨w0, hw0⟩ : ∃ w0, wr.alloc (.cells #[.string x.name_, .int .i64 x.kind_, .int .i64 x.num_, .string x.text_, .int .i64 x.ref_] 63) = w0 := ⟨_, rfl⟩
        rw [hw0]
        obtain ⟨g0, g1, g2⟩ := HCX.out w0 hw0.symm
        have HB0 : Hid (RW 36 w0 W.heap.size #[.slice (some ⟨b, off, none⟩) n0 c0, .slice A1 n1 c1, .slice A2 n2 c2] ∧ Below W.heap.size W w0) := ⟨HB.out.1.below g1 HB.out.1.lt, HB.out.2.trans (g1.mono HB.out.2.size)⟩
        have x0 := cell_regrown (g0.cell 0)
        have x1 := cell_regrown (g0.cell 1)
        have x2 := cell_regrown (g0.cell 2)
        have x3 := cell_regrown (g0.cell 3)
        have x4 := cell_regrown (g0.cell 4)
        have xs0 := cell_regrown (HB0.out.1.cell 0)
        have cA : ∀ d os', Calls Tryd.prog 25 #[.string x.name_] (grow (redrawn w0 d) os') (fun e w'' => e = .returned (.bool true) ∧ ∃ q : Regrown, w'' = grow (redrawn w0 q.d) q.os) := fun d os' => by have h := Calls.regrown_of (w := w0) (d := d) (os := os') (c5 x.name_ HM0.out _); rw [HZ0.out] at h; exact h
        have cB : ∀ d os', Calls Tryd.prog 44 #[.agg #[.int .i64 x.kind_, .int .i64 x.num_, .string x.text_, .int .i64 x.ref_]] (grow (redrawn w0 d) os') (fun e w'' => e = .returned (.bool false) ∧ ∃ q : Regrown, w'' = grow (redrawn w0 q.d) q.os) := fun d os' => by have h := Calls.regrown_of (w := w0) (d := d) (os := os') (spec_ValidValue_any x.kind_ x.num_ x.text_ x.ref_ _ HM3.out); rw [HZ1.out] at h; exact h
        clear hw0 g0 g1 g2 q0 q1 q2 q3 q4 s0 s1 s2
        refine wp_region_quiet_below (by kernel_rfl) (by kernel_rfl) ?_
        repeat (first | go_big_quiet_step (first | with_reducible exact cA _ _ | with_reducible exact cB _ _) | quiet_step (first | with_reducible exact cA _ _ | with_reducible exact cB _ _))
        refine wpQuiet_nil ?_
        intro w4 hw'
        obtain ⟨⟨dq, osq⟩, hw''⟩ := hw'
        have HB4 : Hid (RW 36 w4 W.heap.size #[.slice (some ⟨b, off, none⟩) n0 c0, .slice A1 n1 c1, .slice A2 n2 c2] ∧ Below W.heap.size W w4) := by show _ ∧ _; rw [hw'']; exact ⟨HB0.out.1.below (below_regrown w0 dq osq) HB0.out.1.lt, HB0.out.2.trans ((below_regrown w0 dq osq).mono HB0.out.2.size)⟩
        clear hw'' x0 x1 x2 x3 x4 xs0 cA cB
        go_wp2_with fail
        go_ret
        exact ⟨by rw [HF.out]; rfl, HB4.out.2⟩
      cases z2
      case true =>
        have HF : Hid (P = false) := HNO.out (.inl (not_ok HX.out (by rw [HZ.out]; simp)))
        go_wp2_with fail
        obtain ⟨w0, hw0⟩ : ∃ w0, wr.alloc (.cells #[.string x.name_, .int .i64 x.kind_, .int .i64 x.num_, .string x.text_, .int .i64 x.ref_] 63) = w0 := ⟨_, rfl⟩
        rw [hw0]
        obtain ⟨g0, g1, g2⟩ := HCX.out w0 hw0.symm
        have HB0 : Hid (RW 36 w0 W.heap.size #[.slice (some ⟨b, off, none⟩) n0 c0, .slice A1 n1 c1, .slice A2 n2 c2] ∧ Below W.heap.size W w0) := ⟨HB.out.1.below g1 HB.out.1.lt, HB.out.2.trans (g1.mono HB.out.2.size)⟩
        have x0 := cell_regrown (g0.cell 0)
        have x1 := cell_regrown (g0.cell 1)
        have x2 := cell_regrown (g0.cell 2)
        have x3 := cell_regrown (g0.cell 3)
        have x4 := cell_regrown (g0.cell 4)
        have xs0 := cell_regrown (HB0.out.1.cell 0)
        have cA : ∀ d os', Calls Tryd.prog 25 #[.string x.name_] (grow (redrawn w0 d) os') (fun e w'' => e = .returned (.bool true) ∧ ∃ q : Regrown, w'' = grow (redrawn w0 q.d) q.os) := fun d os' => by have h := Calls.regrown_of (w := w0) (d := d) (os := os') (c5 x.name_ HM0.out _); rw [HZ0.out] at h; exact h
        have cB : ∀ d os', Calls Tryd.prog 44 #[.agg #[.int .i64 x.kind_, .int .i64 x.num_, .string x.text_, .int .i64 x.ref_]] (grow (redrawn w0 d) os') (fun e w'' => e = .returned (.bool true) ∧ ∃ q : Regrown, w'' = grow (redrawn w0 q.d) q.os) := fun d os' => by have h := Calls.regrown_of (w := w0) (d := d) (os := os') (spec_ValidValue_any x.kind_ x.num_ x.text_ x.ref_ _ HM3.out); rw [HZ1.out] at h; exact h
        have cC : ∀ d os', Calls Tryd.prog 45 #[.agg #[.int .i64 x.kind_, .int .i64 x.num_, .string x.text_, .int .i64 x.ref_]] (grow (redrawn w0 d) os') (fun e w'' => e = .returned (.bool true) ∧ ∃ q : Regrown, w'' = grow (redrawn w0 q.d) q.os) := fun d os' => by have h := Calls.regrown_of (w := w0) (d := d) (os := os') (spec_IsNull_any x.kind_ x.num_ x.text_ x.ref_ _); rw [HZ2.out] at h; exact h
        clear hw0 g0 g1 g2 q0 q1 q2 q3 q4 s0 s1 s2
        refine wp_region_quiet_below (by kernel_rfl) (by kernel_rfl) ?_
        repeat (first | go_big_quiet_step (first | with_reducible exact cA _ _ | with_reducible exact cB _ _ | with_reducible exact cC _ _) | quiet_step (first | with_reducible exact cA _ _ | with_reducible exact cB _ _ | with_reducible exact cC _ _))
        refine wpQuiet_nil ?_
        intro w4 hw'
        obtain ⟨⟨dq, osq⟩, hw''⟩ := hw'
        have HB4 : Hid (RW 36 w4 W.heap.size #[.slice (some ⟨b, off, none⟩) n0 c0, .slice A1 n1 c1, .slice A2 n2 c2] ∧ Below W.heap.size W w4) := by show _ ∧ _; rw [hw'']; exact ⟨HB0.out.1.below (below_regrown w0 dq osq) HB0.out.1.lt, HB0.out.2.trans ((below_regrown w0 dq osq).mono HB0.out.2.size)⟩
        clear hw'' x0 x1 x2 x3 x4 xs0 cA cB cC
        go_wp2_with fail
        go_ret
        exact ⟨by rw [HF.out]; rfl, HB4.out.2⟩
      have HOK : Hid (bdOk x = true) := by show _ = _; rw [HZ.out]; rfl
      by_cases hkp : k = 0
      · subst hkp
        have HV2 := Lib.hid (UpOk.first (nm := Bd.name_) HX.out HOK.out)
        simp only [Nat.zero_mul, Nat.add_zero] at q0 q1 q2 q3 q4
        go_wp2_with fail
        obtain ⟨w0, hw0⟩ : ∃ w0, wr.alloc (.cells #[.string x.name_, .int .i64 x.kind_, .int .i64 x.num_, .string x.text_, .int .i64 x.ref_] 63) = w0 := ⟨_, rfl⟩
        rw [hw0]
        obtain ⟨g0, g1, g2⟩ := HCX.out w0 hw0.symm
        have HB0 : Hid (RW 36 w0 W.heap.size #[.slice (some ⟨b, off, none⟩) n0 c0, .slice A1 n1 c1, .slice A2 n2 c2] ∧ Below W.heap.size W w0) := ⟨HB.out.1.below g1 HB.out.1.lt, HB.out.2.trans (g1.mono HB.out.2.size)⟩
        have x0 := cell_regrown (g0.cell 0)
        have x1 := cell_regrown (g0.cell 1)
        have x2 := cell_regrown (g0.cell 2)
        have x3 := cell_regrown (g0.cell 3)
        have x4 := cell_regrown (g0.cell 4)
        have xs0 := cell_regrown (HB0.out.1.cell 0)
        have cA : ∀ d os', Calls Tryd.prog 25 #[.string x.name_] (grow (redrawn w0 d) os') (fun e w'' => e = .returned (.bool true) ∧ ∃ q : Regrown, w'' = grow (redrawn w0 q.d) q.os) := fun d os' => by have h := Calls.regrown_of (w := w0) (d := d) (os := os') (c5 x.name_ HM0.out _); rw [HZ0.out] at h; exact h
        have cB : ∀ d os', Calls Tryd.prog 44 #[.agg #[.int .i64 x.kind_, .int .i64 x.num_, .string x.text_, .int .i64 x.ref_]] (grow (redrawn w0 d) os') (fun e w'' => e = .returned (.bool true) ∧ ∃ q : Regrown, w'' = grow (redrawn w0 q.d) q.os) := fun d os' => by have h := Calls.regrown_of (w := w0) (d := d) (os := os') (spec_ValidValue_any x.kind_ x.num_ x.text_ x.ref_ _ HM3.out); rw [HZ1.out] at h; exact h
        have cC : ∀ d os', Calls Tryd.prog 45 #[.agg #[.int .i64 x.kind_, .int .i64 x.num_, .string x.text_, .int .i64 x.ref_]] (grow (redrawn w0 d) os') (fun e w'' => e = .returned (.bool false) ∧ ∃ q : Regrown, w'' = grow (redrawn w0 q.d) q.os) := fun d os' => by have h := Calls.regrown_of (w := w0) (d := d) (os := os') (spec_IsNull_any x.kind_ x.num_ x.text_ x.ref_ _); rw [HZ2.out] at h; exact h
        clear hw0 g0 g1 g2 q0 q1 q2 q3 q4 s0 s1 s2
        refine wp_region_quiet_below (by kernel_rfl) (by kernel_rfl) ?_
        repeat (first | go_big_quiet_step (first | with_reducible exact cA _ _ | with_reducible exact cB _ _ | with_reducible exact cC _ _) | quiet_step (first | with_reducible exact cA _ _ | with_reducible exact cB _ _ | with_reducible exact cC _ _))
        refine wpQuiet_nil ?_
        intro w4 hw'
        obtain ⟨⟨dq, osq⟩, hw''⟩ := hw'
        have HB4 : Hid (RW 36 w4 W.heap.size #[.slice (some ⟨b, off, none⟩) n0 c0, .slice A1 n1 c1, .slice A2 n2 c2] ∧ Below W.heap.size W w4) := by show _ ∧ _; rw [hw'']; exact ⟨HB0.out.1.below (below_regrown w0 dq osq) HB0.out.1.lt, HB0.out.2.trans ((below_regrown w0 dq osq).mono HB0.out.2.size)⟩
        clear hw'' x0 x1 x2 x3 x4 xs0 cA cB cC
        go_wp2_with fail
        go_roundw
        case rel => exact ⟨0 + 1, by omega, by go_num, ⟨HB4.out.1.cell 0, HB4.out.1.cell 1, HB4.out.1.cell 2⟩, HB4, HV2⟩
        case measure => simp [intOf]; omega
      obtain ⟨j, hj⟩ : ∃ j, k = j + 1 := ⟨k - 1, by omega⟩
      have hj1 : (k : Int) - 1 = (j : Int) := by omega
      have hkp2 : (0 : Int) < (k : Int) := by omega
      have hkp3 : decide ((0 : Int) < (k : Int)) = true := by simp; omega
      have hkp4 : decide (0 < k) = true := by simp; omega
      have hkp5 : 0 < k := by omega
      have e0 : (0 : Int) ≤ (j : Int) := by omega
      have e1 : (j : Int) < (n0 : Int) := by omega
      obtain ⟨b', off', y, hA, hg', hy, ⟨r0, r1, r2, r3, r4⟩, _⟩ := (HX0.out.go HB.out.2).at_ (show j < n0 by omega)
      simp only [Option.some.injEq, Addr.mk.injEq, and_true] at hA
      obtain ⟨rfl, rfl⟩ := hA
      have HY : Hid (x0[k - 1]? = some y) := by show _ = _; rw [show k - 1 = j by omega]; exact hy
      clear hj hkp hg' hy
      obtain ⟨R, hRR⟩ : ∃ z, Op.bytesLess y.name_.toList x.name_.toList = z := ⟨_, rfl⟩
      have HRR := Lib.hid hRR
      cases R
      · have HF : Hid (P = false) := HNO.out (.inl (not_up hkp5 HX.out HY.out HRR.out))
        go_wp2_with fail
        obtain ⟨w0, hw0⟩ : ∃ w0, wr.alloc (.cells #[.string x.name_, .int .i64 x.kind_, .int .i64 x.num_, .string x.text_, .int .i64 x.ref_] 63) = w0 := ⟨_, rfl⟩
        rw [hw0]
        obtain ⟨g0, g1, g2⟩ := HCX.out w0 hw0.symm
        have HB0 : Hid (RW 36 w0 W.heap.size #[.slice (some ⟨b, off, none⟩) n0 c0, .slice A1 n1 c1, .slice A2 n2 c2] ∧ Below W.heap.size W w0) := ⟨HB.out.1.below g1 HB.out.1.lt, HB.out.2.trans (g1.mono HB.out.2.size)⟩
        have x0 := cell_regrown (g0.cell 0)
        have x1 := cell_regrown (g0.cell 1)
        have x2 := cell_regrown (g0.cell 2)
        have x3 := cell_regrown (g0.cell 3)
        have x4 := cell_regrown (g0.cell 4)
        have xs0 := cell_regrown (HB0.out.1.cell 0)
        have y0 := cell_regrown ((g1.cell (p := ⟨b, off + j * 5, none⟩) HGB.out).trans r0)
        have y1 := cell_regrown ((g1.cell (p := ⟨b, off + j * 5 + 1, none⟩) HGB.out).trans r1)
        have y2 := cell_regrown ((g1.cell (p := ⟨b, off + j * 5 + 2, none⟩) HGB.out).trans r2)
        have y3 := cell_regrown ((g1.cell (p := ⟨b, off + j * 5 + 3, none⟩) HGB.out).trans r3)
        have y4 := cell_regrown ((g1.cell (p := ⟨b, off + j * 5 + 4, none⟩) HGB.out).trans r4)
        have cA : ∀ d os', Calls Tryd.prog 25 #[.string x.name_] (grow (redrawn w0 d) os') (fun e w'' => e = .returned (.bool true) ∧ ∃ q : Regrown, w'' = grow (redrawn w0 q.d) q.os) := fun d os' => by have h := Calls.regrown_of (w := w0) (d := d) (os := os') (c5 x.name_ HM0.out _); rw [HZ0.out] at h; exact h
        have cB : ∀ d os', Calls Tryd.prog 44 #[.agg #[.int .i64 x.kind_, .int .i64 x.num_, .string x.text_, .int .i64 x.ref_]] (grow (redrawn w0 d) os') (fun e w'' => e = .returned (.bool true) ∧ ∃ q : Regrown, w'' = grow (redrawn w0 q.d) q.os) := fun d os' => by have h := Calls.regrown_of (w := w0) (d := d) (os := os') (spec_ValidValue_any x.kind_ x.num_ x.text_ x.ref_ _ HM3.out); rw [HZ1.out] at h; exact h
        have cC : ∀ d os', Calls Tryd.prog 45 #[.agg #[.int .i64 x.kind_, .int .i64 x.num_, .string x.text_, .int .i64 x.ref_]] (grow (redrawn w0 d) os') (fun e w'' => e = .returned (.bool false) ∧ ∃ q : Regrown, w'' = grow (redrawn w0 q.d) q.os) := fun d os' => by have h := Calls.regrown_of (w := w0) (d := d) (os := os') (spec_IsNull_any x.kind_ x.num_ x.text_ x.ref_ _); rw [HZ2.out] at h; exact h
        clear hw0 g0 g1 g2 q0 q1 q2 q3 q4 r0 r1 r2 r3 r4 s0 s1 s2
        refine wp_region_quiet_below (by kernel_rfl) (by kernel_rfl) ?_
        repeat (first | go_big_quiet_step (first | with_reducible exact cA _ _ | with_reducible exact cB _ _ | with_reducible exact cC _ _) | quiet_step (first | with_reducible exact cA _ _ | with_reducible exact cB _ _ | with_reducible exact cC _ _))
        refine wpQuiet_nil ?_
        intro w4 hw'
        obtain ⟨⟨dq, osq⟩, hw''⟩ := hw'
        have HB4 : Hid (RW 36 w4 W.heap.size #[.slice (some ⟨b, off, none⟩) n0 c0, .slice A1 n1 c1, .slice A2 n2 c2] ∧ Below W.heap.size W w4) := by show _ ∧ _; rw [hw'']; exact ⟨HB0.out.1.below (below_regrown w0 dq osq) HB0.out.1.lt, HB0.out.2.trans ((below_regrown w0 dq osq).mono HB0.out.2.size)⟩
        clear hw'' x0 x1 x2 x3 x4 xs0 y0 y1 y2 y3 y4 cA cB cC
        go_wp2_with fail
        go_ret
        exact ⟨by rw [HF.out]; rfl, HB4.out.2⟩
      · have HV2 := Lib.hid (UpOk.next HV.out HX.out HOK.out HY.out HRR.out)
        go_wp2_with fail
        obtain ⟨w0, hw0⟩ : ∃ w0, wr.alloc (.cells #[.string x.name_, .int .i64 x.kind_, .int .i64 x.num_, .string x.text_, .int .i64 x.ref_] 63) = w0 := ⟨_, rfl⟩
        rw [hw0]
        obtain ⟨g0, g1, g2⟩ := HCX.out w0 hw0.symm
        have HB0 : Hid (RW 36 w0 W.heap.size #[.slice (some ⟨b, off, none⟩) n0 c0, .slice A1 n1 c1, .slice A2 n2 c2] ∧ Below W.heap.size W w0) := ⟨HB.out.1.below g1 HB.out.1.lt, HB.out.2.trans (g1.mono HB.out.2.size)⟩
        have x0 := cell_regrown (g0.cell 0)
        have x1 := cell_regrown (g0.cell 1)
        have x2 := cell_regrown (g0.cell 2)
        have x3 := cell_regrown (g0.cell 3)
        have x4 := cell_regrown (g0.cell 4)
        have xs0 := cell_regrown (HB0.out.1.cell 0)
        have y0 := cell_regrown ((g1.cell (p := ⟨b, off + j * 5, none⟩) HGB.out).trans r0)
        have y1 := cell_regrown ((g1.cell (p := ⟨b, off + j * 5 + 1, none⟩) HGB.out).trans r1)
        have y2 := cell_regrown ((g1.cell (p := ⟨b, off + j * 5 + 2, none⟩) HGB.out).trans r2)
        have y3 := cell_regrown ((g1.cell (p := ⟨b, off + j * 5 + 3, none⟩) HGB.out).trans r3)
        have y4 := cell_regrown ((g1.cell (p := ⟨b, off + j * 5 + 4, none⟩) HGB.out).trans r4)
        have cA : ∀ d os', Calls Tryd.prog 25 #[.string x.name_] (grow (redrawn w0 d) os') (fun e w'' => e = .returned (.bool true) ∧ ∃ q : Regrown, w'' = grow (redrawn w0 q.d) q.os) := fun d os' => by have h := Calls.regrown_of (w := w0) (d := d) (os := os') (c5 x.name_ HM0.out _); rw [HZ0.out] at h; exact h
        have cB : ∀ d os', Calls Tryd.prog 44 #[.agg #[.int .i64 x.kind_, .int .i64 x.num_, .string x.text_, .int .i64 x.ref_]] (grow (redrawn w0 d) os') (fun e w'' => e = .returned (.bool true) ∧ ∃ q : Regrown, w'' = grow (redrawn w0 q.d) q.os) := fun d os' => by have h := Calls.regrown_of (w := w0) (d := d) (os := os') (spec_ValidValue_any x.kind_ x.num_ x.text_ x.ref_ _ HM3.out); rw [HZ1.out] at h; exact h
        have cC : ∀ d os', Calls Tryd.prog 45 #[.agg #[.int .i64 x.kind_, .int .i64 x.num_, .string x.text_, .int .i64 x.ref_]] (grow (redrawn w0 d) os') (fun e w'' => e = .returned (.bool false) ∧ ∃ q : Regrown, w'' = grow (redrawn w0 q.d) q.os) := fun d os' => by have h := Calls.regrown_of (w := w0) (d := d) (os := os') (spec_IsNull_any x.kind_ x.num_ x.text_ x.ref_ _); rw [HZ2.out] at h; exact h
        clear hw0 g0 g1 g2 q0 q1 q2 q3 q4 r0 r1 r2 r3 r4 s0 s1 s2
        refine wp_region_quiet_below (by kernel_rfl) (by kernel_rfl) ?_
        repeat (first | go_big_quiet_step (first | with_reducible exact cA _ _ | with_reducible exact cB _ _ | with_reducible exact cC _ _) | quiet_step (first | with_reducible exact cA _ _ | with_reducible exact cB _ _ | with_reducible exact cC _ _))
        refine wpQuiet_nil ?_
        intro w4 hw'
        obtain ⟨⟨dq, osq⟩, hw''⟩ := hw'
        have HB4 : Hid (RW 36 w4 W.heap.size #[.slice (some ⟨b, off, none⟩) n0 c0, .slice A1 n1 c1, .slice A2 n2 c2] ∧ Below W.heap.size W w4) := by show _ ∧ _; rw [hw'']; exact ⟨HB0.out.1.below (below_regrown w0 dq osq) HB0.out.1.lt, HB0.out.2.trans ((below_regrown w0 dq osq).mono HB0.out.2.size)⟩
        clear hw'' x0 x1 x2 x3 x4 xs0 y0 y1 y2 y3 y4 cA cB cC
        go_wp2_with fail
        go_roundw
        case rel => exact ⟨k + 1, by omega, by go_num, ⟨HB4.out.1.cell 0, HB4.out.1.cell 1, HB4.out.1.cell 2⟩, HB4, HV2⟩
        case measure => simp [intOf]; omega
    · have hkn : k = n0 := by omega
      have HL0 : Hid (ListOk bdOk Bd.name_ 40 x0) := by
        refine ⟨by have := HX0.out.1; omega, ?_⟩
        rw [HX0.out.1, ← hkn]
        exact HV.out
      have hnk : ¬ (k : Int) < (n0 : Int) := by omega
      clear HV hkn
      go_wp2_with fail
      go_loopw [5] (fun i wr => ∃ k : Nat, k ≤ n1 ∧ i = .int .i64 k ∧ (wr.cell? ⟨W.heap.size, 0, none⟩ = some (.slice A0 n0 c0) ∧ wr.cell? ⟨W.heap.size, 1, none⟩ = some (.slice A1 n1 c1) ∧ wr.cell? ⟨W.heap.size, 2, none⟩ = some (.slice A2 n2 c2)) ∧ Hid (RW 36 wr W.heap.size #[.slice A0 n0 c0, .slice A1 n1 c1, .slice A2 n2 c2] ∧ Below W.heap.size W wr) ∧ Hid (UpOk fnOk Fn.name_ x1 k)) (fun i _ => n1 - (intOf i).toNat)
      case atStart => exact ⟨0, Nat.zero_le _, rfl, ⟨s0, s1, s2⟩, HB, Lib.hid UpOk.zero⟩
      case round =>
        clear s0 s1 s2 HB
        obtain ⟨k, hk, rfl, ⟨s0, s1, s2⟩, HB, HV⟩ := hrel
        by_cases hlt : k < n1
        · have b0 : (0 : Int) ≤ (k : Int) := by omega
          have b1 : (k : Int) < (n1 : Int) := by omega
          obtain ⟨b, off, x, l, rfl, hg, hx, ⟨q0, q1, q2, q3⟩, hv⟩ := (HX1.out.go HB.out.2).at_ hlt
          have HX := Lib.hid hx
          have HGB : Hid (b < wr.heap.size) := hg
          have HEL := Lib.hid (fun (w : World) (hb : Below wr.heap.size wr w) => l18Function_any x l w (hv.go hb))
          obtain ⟨z0, hz0⟩ : ∃ z, fnOk x = z := ⟨_, rfl⟩
          have HZ := Lib.hid hz0
          clear hx hg hv hz0
          cases z0
          case false =>
            have HF : Hid (P = false) := HNO.out (.inr (.inl (not_ok HX.out HZ.out)))
            go_wp2_with fail
            obtain ⟨w0, hw0⟩ : ∃ w0, wr = w0 := ⟨_, rfl⟩
            have g1 : Below wr.heap.size wr w0 := by rw [← hw0]; exact Below.refl _ _
            have HB0 : Hid (RW 36 w0 W.heap.size #[.slice A0 n0 c0, .slice (some ⟨b, off, none⟩) n1 c1, .slice A2 n2 c2] ∧ Below W.heap.size W w0) := ⟨HB.out.1.below g1 HB.out.1.lt, HB.out.2.trans (g1.mono HB.out.2.size)⟩
            have x0 := cell_regrown ((g1.cell (p := ⟨b, off + k * 4, none⟩) HGB.out).trans q0)
            have x1 := cell_regrown ((g1.cell (p := ⟨b, off + k * 4 + 1, none⟩) HGB.out).trans q1)
            have x2 := cell_regrown ((g1.cell (p := ⟨b, off + k * 4 + 2, none⟩) HGB.out).trans q2)
            have x3 := cell_regrown ((g1.cell (p := ⟨b, off + k * 4 + 3, none⟩) HGB.out).trans q3)
            rw [hw0]
            have xs1 := cell_regrown (HB0.out.1.cell 1)
            have cA : ∀ d os', Calls Tryd.prog 46 #[.agg #[.string x.name_, .slice l.A1 l.n1 l.c1, .slice l.A2 l.n2 l.c2, .string x.label_]] (grow (redrawn w0 d) os') (fun e w'' => e = .returned (.bool false) ∧ ∃ q : Regrown, w'' = grow (redrawn w0 q.d) q.os) := fun d os' => Calls.regrown_of (by have hb := g1.trans ((below_regrown w0 d os').mono g1.size); have h := HEL.out _ hb; rw [HZ.out] at h; exact h)
            clear hw0 g1 q0 q1 q2 q3 s0 s1 s2
            refine wp_region_quiet_below (by kernel_rfl) (by kernel_rfl) ?_
            repeat (first | go_big_quiet_step (with_reducible exact cA _ _) | quiet_step (with_reducible exact cA _ _))
            refine wpQuiet_nil ?_
            intro w4 hw'
            obtain ⟨⟨dq, osq⟩, hw''⟩ := hw'
            have HB4 : Hid (RW 36 w4 W.heap.size #[.slice A0 n0 c0, .slice (some ⟨b, off, none⟩) n1 c1, .slice A2 n2 c2] ∧ Below W.heap.size W w4) := by show _ ∧ _; rw [hw'']; exact ⟨HB0.out.1.below (below_regrown w0 dq osq) HB0.out.1.lt, HB0.out.2.trans ((below_regrown w0 dq osq).mono HB0.out.2.size)⟩
            clear hw'' x0 x1 x2 x3 xs1 cA
            go_wp2_with fail
            go_ret
            exact ⟨by rw [HF.out]; rfl, HB4.out.2⟩
          have HOK : Hid (fnOk x = true) := HZ.out
          by_cases hkp : k = 0
          · subst hkp
            have HV2 := Lib.hid (UpOk.first (nm := Fn.name_) HX.out HOK.out)
            simp only [Nat.zero_mul, Nat.add_zero] at q0 q1 q2 q3
            go_wp2_with fail
            obtain ⟨w0, hw0⟩ : ∃ w0, wr = w0 := ⟨_, rfl⟩
            have g1 : Below wr.heap.size wr w0 := by rw [← hw0]; exact Below.refl _ _
            have HB0 : Hid (RW 36 w0 W.heap.size #[.slice A0 n0 c0, .slice (some ⟨b, off, none⟩) n1 c1, .slice A2 n2 c2] ∧ Below W.heap.size W w0) := ⟨HB.out.1.below g1 HB.out.1.lt, HB.out.2.trans (g1.mono HB.out.2.size)⟩
            have x0 := cell_regrown ((g1.cell (p := ⟨b, off, none⟩) HGB.out).trans q0)
            have x1 := cell_regrown ((g1.cell (p := ⟨b, off + 1, none⟩) HGB.out).trans q1)
            have x2 := cell_regrown ((g1.cell (p := ⟨b, off + 2, none⟩) HGB.out).trans q2)
            have x3 := cell_regrown ((g1.cell (p := ⟨b, off + 3, none⟩) HGB.out).trans q3)
            rw [hw0]
            have xs1 := cell_regrown (HB0.out.1.cell 1)
            have cA : ∀ d os', Calls Tryd.prog 46 #[.agg #[.string x.name_, .slice l.A1 l.n1 l.c1, .slice l.A2 l.n2 l.c2, .string x.label_]] (grow (redrawn w0 d) os') (fun e w'' => e = .returned (.bool true) ∧ ∃ q : Regrown, w'' = grow (redrawn w0 q.d) q.os) := fun d os' => Calls.regrown_of (by have hb := g1.trans ((below_regrown w0 d os').mono g1.size); have h := HEL.out _ hb; rw [HZ.out] at h; exact h)
            clear hw0 g1 q0 q1 q2 q3 s0 s1 s2
            refine wp_region_quiet_below (by kernel_rfl) (by kernel_rfl) ?_
            repeat (first | go_big_quiet_step (with_reducible exact cA _ _) | quiet_step (with_reducible exact cA _ _))
            refine wpQuiet_nil ?_
            intro w4 hw'
            obtain ⟨⟨dq, osq⟩, hw''⟩ := hw'
            have HB4 : Hid (RW 36 w4 W.heap.size #[.slice A0 n0 c0, .slice (some ⟨b, off, none⟩) n1 c1, .slice A2 n2 c2] ∧ Below W.heap.size W w4) := by show _ ∧ _; rw [hw'']; exact ⟨HB0.out.1.below (below_regrown w0 dq osq) HB0.out.1.lt, HB0.out.2.trans ((below_regrown w0 dq osq).mono HB0.out.2.size)⟩
            clear hw'' x0 x1 x2 x3 xs1 cA
            go_wp2_with fail
            go_roundw
            case rel => exact ⟨0 + 1, by omega, by go_num, ⟨HB4.out.1.cell 0, HB4.out.1.cell 1, HB4.out.1.cell 2⟩, HB4, HV2⟩
            case measure => simp [intOf]; omega
          obtain ⟨j, hj⟩ : ∃ j, k = j + 1 := ⟨k - 1, by omega⟩
          have hj1 : (k : Int) - 1 = (j : Int) := by omega
          have hkp2 : (0 : Int) < (k : Int) := by omega
          have hkp3 : decide ((0 : Int) < (k : Int)) = true := by simp; omega
          have hkp4 : decide (0 < k) = true := by simp; omega
          have hkp5 : 0 < k := by omega
          have e0 : (0 : Int) ≤ (j : Int) := by omega
          have e1 : (j : Int) < (n1 : Int) := by omega
          obtain ⟨b', off', y, l', hA, hg', hy, ⟨r0, r1, r2, r3⟩, _⟩ := (HX1.out.go HB.out.2).at_ (show j < n1 by omega)
          simp only [Option.some.injEq, Addr.mk.injEq, and_true] at hA
          obtain ⟨rfl, rfl⟩ := hA
          have HY : Hid (x1[k - 1]? = some y) := by show _ = _; rw [show k - 1 = j by omega]; exact hy
          clear hj hkp hg' hy
          obtain ⟨R, hRR⟩ : ∃ z, Op.bytesLess y.name_.toList x.name_.toList = z := ⟨_, rfl⟩
          have HRR := Lib.hid hRR
          cases R
          · have HF : Hid (P = false) := HNO.out (.inr (.inl (not_up hkp5 HX.out HY.out HRR.out)))
            go_wp2_with fail
            obtain ⟨w0, hw0⟩ : ∃ w0, wr = w0 := ⟨_, rfl⟩
            have g1 : Below wr.heap.size wr w0 := by rw [← hw0]; exact Below.refl _ _
            have HB0 : Hid (RW 36 w0 W.heap.size #[.slice A0 n0 c0, .slice (some ⟨b, off, none⟩) n1 c1, .slice A2 n2 c2] ∧ Below W.heap.size W w0) := ⟨HB.out.1.below g1 HB.out.1.lt, HB.out.2.trans (g1.mono HB.out.2.size)⟩
            have x0 := cell_regrown ((g1.cell (p := ⟨b, off + k * 4, none⟩) HGB.out).trans q0)
            have x1 := cell_regrown ((g1.cell (p := ⟨b, off + k * 4 + 1, none⟩) HGB.out).trans q1)
            have x2 := cell_regrown ((g1.cell (p := ⟨b, off + k * 4 + 2, none⟩) HGB.out).trans q2)
            have x3 := cell_regrown ((g1.cell (p := ⟨b, off + k * 4 + 3, none⟩) HGB.out).trans q3)
            rw [hw0]
            have xs1 := cell_regrown (HB0.out.1.cell 1)
            have y0 := cell_regrown ((g1.cell (p := ⟨b, off + j * 4, none⟩) HGB.out).trans r0)
            have y1 := cell_regrown ((g1.cell (p := ⟨b, off + j * 4 + 1, none⟩) HGB.out).trans r1)
            have y2 := cell_regrown ((g1.cell (p := ⟨b, off + j * 4 + 2, none⟩) HGB.out).trans r2)
            have y3 := cell_regrown ((g1.cell (p := ⟨b, off + j * 4 + 3, none⟩) HGB.out).trans r3)
            have cA : ∀ d os', Calls Tryd.prog 46 #[.agg #[.string x.name_, .slice l.A1 l.n1 l.c1, .slice l.A2 l.n2 l.c2, .string x.label_]] (grow (redrawn w0 d) os') (fun e w'' => e = .returned (.bool true) ∧ ∃ q : Regrown, w'' = grow (redrawn w0 q.d) q.os) := fun d os' => Calls.regrown_of (by have hb := g1.trans ((below_regrown w0 d os').mono g1.size); have h := HEL.out _ hb; rw [HZ.out] at h; exact h)
            clear hw0 g1 q0 q1 q2 q3 r0 r1 r2 r3 s0 s1 s2
            refine wp_region_quiet_below (by kernel_rfl) (by kernel_rfl) ?_
            repeat (first | go_big_quiet_step (with_reducible exact cA _ _) | quiet_step (with_reducible exact cA _ _))
            refine wpQuiet_nil ?_
            intro w4 hw'
            obtain ⟨⟨dq, osq⟩, hw''⟩ := hw'
            have HB4 : Hid (RW 36 w4 W.heap.size #[.slice A0 n0 c0, .slice (some ⟨b, off, none⟩) n1 c1, .slice A2 n2 c2] ∧ Below W.heap.size W w4) := by show _ ∧ _; rw [hw'']; exact ⟨HB0.out.1.below (below_regrown w0 dq osq) HB0.out.1.lt, HB0.out.2.trans ((below_regrown w0 dq osq).mono HB0.out.2.size)⟩
            clear hw'' x0 x1 x2 x3 xs1 y0 y1 y2 y3 cA
            go_wp2_with fail
            go_ret
            exact ⟨by rw [HF.out]; rfl, HB4.out.2⟩
          · have HV2 := Lib.hid (UpOk.next HV.out HX.out HOK.out HY.out HRR.out)
            go_wp2_with fail
            obtain ⟨w0, hw0⟩ : ∃ w0, wr = w0 := ⟨_, rfl⟩
            have g1 : Below wr.heap.size wr w0 := by rw [← hw0]; exact Below.refl _ _
            have HB0 : Hid (RW 36 w0 W.heap.size #[.slice A0 n0 c0, .slice (some ⟨b, off, none⟩) n1 c1, .slice A2 n2 c2] ∧ Below W.heap.size W w0) := ⟨HB.out.1.below g1 HB.out.1.lt, HB.out.2.trans (g1.mono HB.out.2.size)⟩
            have x0 := cell_regrown ((g1.cell (p := ⟨b, off + k * 4, none⟩) HGB.out).trans q0)
            have x1 := cell_regrown ((g1.cell (p := ⟨b, off + k * 4 + 1, none⟩) HGB.out).trans q1)
            have x2 := cell_regrown ((g1.cell (p := ⟨b, off + k * 4 + 2, none⟩) HGB.out).trans q2)
            have x3 := cell_regrown ((g1.cell (p := ⟨b, off + k * 4 + 3, none⟩) HGB.out).trans q3)
            rw [hw0]
            have xs1 := cell_regrown (HB0.out.1.cell 1)
            have y0 := cell_regrown ((g1.cell (p := ⟨b, off + j * 4, none⟩) HGB.out).trans r0)
            have y1 := cell_regrown ((g1.cell (p := ⟨b, off + j * 4 + 1, none⟩) HGB.out).trans r1)
            have y2 := cell_regrown ((g1.cell (p := ⟨b, off + j * 4 + 2, none⟩) HGB.out).trans r2)
            have y3 := cell_regrown ((g1.cell (p := ⟨b, off + j * 4 + 3, none⟩) HGB.out).trans r3)
            have cA : ∀ d os', Calls Tryd.prog 46 #[.agg #[.string x.name_, .slice l.A1 l.n1 l.c1, .slice l.A2 l.n2 l.c2, .string x.label_]] (grow (redrawn w0 d) os') (fun e w'' => e = .returned (.bool true) ∧ ∃ q : Regrown, w'' = grow (redrawn w0 q.d) q.os) := fun d os' => Calls.regrown_of (by have hb := g1.trans ((below_regrown w0 d os').mono g1.size); have h := HEL.out _ hb; rw [HZ.out] at h; exact h)
            clear hw0 g1 q0 q1 q2 q3 r0 r1 r2 r3 s0 s1 s2
            refine wp_region_quiet_below (by kernel_rfl) (by kernel_rfl) ?_
            repeat (first | go_big_quiet_step (with_reducible exact cA _ _) | quiet_step (with_reducible exact cA _ _))
            refine wpQuiet_nil ?_
            intro w4 hw'
            obtain ⟨⟨dq, osq⟩, hw''⟩ := hw'
            have HB4 : Hid (RW 36 w4 W.heap.size #[.slice A0 n0 c0, .slice (some ⟨b, off, none⟩) n1 c1, .slice A2 n2 c2] ∧ Below W.heap.size W w4) := by show _ ∧ _; rw [hw'']; exact ⟨HB0.out.1.below (below_regrown w0 dq osq) HB0.out.1.lt, HB0.out.2.trans ((below_regrown w0 dq osq).mono HB0.out.2.size)⟩
            clear hw'' x0 x1 x2 x3 xs1 y0 y1 y2 y3 cA
            go_wp2_with fail
            go_roundw
            case rel => exact ⟨k + 1, by omega, by go_num, ⟨HB4.out.1.cell 0, HB4.out.1.cell 1, HB4.out.1.cell 2⟩, HB4, HV2⟩
            case measure => simp [intOf]; omega
        · have hkn : k = n1 := by omega
          have HL1 : Hid (ListOk fnOk Fn.name_ 12 x1) := by
            refine ⟨by have := HX1.out.1; omega, ?_⟩
            rw [HX1.out.1, ← hkn]
            exact HV.out
          have hnk : ¬ (k : Int) < (n1 : Int) := by omega
          clear HV hkn
          go_wp2_with fail
          go_loopw [6] (fun i wr => ∃ k : Nat, k ≤ n2 ∧ i = .int .i64 k ∧ (wr.cell? ⟨W.heap.size, 0, none⟩ = some (.slice A0 n0 c0) ∧ wr.cell? ⟨W.heap.size, 1, none⟩ = some (.slice A1 n1 c1) ∧ wr.cell? ⟨W.heap.size, 2, none⟩ = some (.slice A2 n2 c2)) ∧ Hid (RW 36 wr W.heap.size #[.slice A0 n0 c0, .slice A1 n1 c1, .slice A2 n2 c2] ∧ Below W.heap.size W wr) ∧ Hid (UpOk rtOk Rt.name_ x2 k)) (fun i _ => n2 - (intOf i).toNat)
          case atStart => exact ⟨0, Nat.zero_le _, rfl, ⟨s0, s1, s2⟩, HB, Lib.hid UpOk.zero⟩
          case round =>
            clear s0 s1 s2 HB
            obtain ⟨k, hk, rfl, ⟨s0, s1, s2⟩, HB, HV⟩ := hrel
            by_cases hlt : k < n2
            · have b0 : (0 : Int) ≤ (k : Int) := by omega
              have b1 : (k : Int) < (n2 : Int) := by omega
              obtain ⟨b, off, x, l, rfl, hg, hx, ⟨q0, q1⟩, hv⟩ := (HX2.out.go HB.out.2).at_ hlt
              have HX := Lib.hid hx
              have HGB : Hid (b < wr.heap.size) := hg
              have HEL := Lib.hid (fun (w : World) (hb : Below wr.heap.size wr w) => l18Type_any x l w (hv.go hb))
              obtain ⟨z0, hz0⟩ : ∃ z, rtOk x = z := ⟨_, rfl⟩
              have HZ := Lib.hid hz0
              clear hx hg hv hz0
              cases z0
              case false =>
                have HF : Hid (P = false) := HNO.out (.inr (.inr (not_ok HX.out HZ.out)))
                go_wp2_with fail
                obtain ⟨w0, hw0⟩ : ∃ w0, wr = w0 := ⟨_, rfl⟩
                have g1 : Below wr.heap.size wr w0 := by rw [← hw0]; exact Below.refl _ _
                have HB0 : Hid (RW 36 w0 W.heap.size #[.slice A0 n0 c0, .slice A1 n1 c1, .slice (some ⟨b, off, none⟩) n2 c2] ∧ Below W.heap.size W w0) := ⟨HB.out.1.below g1 HB.out.1.lt, HB.out.2.trans (g1.mono HB.out.2.size)⟩
                have x0 := cell_regrown ((g1.cell (p := ⟨b, off + k * 2, none⟩) HGB.out).trans q0)
                have x1 := cell_regrown ((g1.cell (p := ⟨b, off + k * 2 + 1, none⟩) HGB.out).trans q1)
                rw [hw0]
                have xs2 := cell_regrown (HB0.out.1.cell 2)
                have cA : ∀ d os', Calls Tryd.prog 47 #[.agg #[.string x.name_, .slice l.A1 l.n1 l.c1]] (grow (redrawn w0 d) os') (fun e w'' => e = .returned (.bool false) ∧ ∃ q : Regrown, w'' = grow (redrawn w0 q.d) q.os) := fun d os' => Calls.regrown_of (by have hb := g1.trans ((below_regrown w0 d os').mono g1.size); have h := HEL.out _ hb; rw [HZ.out] at h; exact h)
                clear hw0 g1 q0 q1 s0 s1 s2
                refine wp_region_quiet_below (by kernel_rfl) (by kernel_rfl) ?_
                repeat (first | go_big_quiet_step (with_reducible exact cA _ _) | quiet_step (with_reducible exact cA _ _))
                refine wpQuiet_nil ?_
                intro w4 hw'
                obtain ⟨⟨dq, osq⟩, hw''⟩ := hw'
                have HB4 : Hid (RW 36 w4 W.heap.size #[.slice A0 n0 c0, .slice A1 n1 c1, .slice (some ⟨b, off, none⟩) n2 c2] ∧ Below W.heap.size W w4) := by show _ ∧ _; rw [hw'']; exact ⟨HB0.out.1.below (below_regrown w0 dq osq) HB0.out.1.lt, HB0.out.2.trans ((below_regrown w0 dq osq).mono HB0.out.2.size)⟩
                clear hw'' x0 x1 xs2 cA
                go_wp2_with fail
                go_ret
                exact ⟨by rw [HF.out]; rfl, HB4.out.2⟩
              have HOK : Hid (rtOk x = true) := HZ.out
              by_cases hkp : k = 0
              · subst hkp
                have HV2 := Lib.hid (UpOk.first (nm := Rt.name_) HX.out HOK.out)
                simp only [Nat.zero_mul, Nat.add_zero] at q0 q1
                go_wp2_with fail
                obtain ⟨w0, hw0⟩ : ∃ w0, wr = w0 := ⟨_, rfl⟩
                have g1 : Below wr.heap.size wr w0 := by rw [← hw0]; exact Below.refl _ _
                have HB0 : Hid (RW 36 w0 W.heap.size #[.slice A0 n0 c0, .slice A1 n1 c1, .slice (some ⟨b, off, none⟩) n2 c2] ∧ Below W.heap.size W w0) := ⟨HB.out.1.below g1 HB.out.1.lt, HB.out.2.trans (g1.mono HB.out.2.size)⟩
                have x0 := cell_regrown ((g1.cell (p := ⟨b, off, none⟩) HGB.out).trans q0)
                have x1 := cell_regrown ((g1.cell (p := ⟨b, off + 1, none⟩) HGB.out).trans q1)
                rw [hw0]
                have xs2 := cell_regrown (HB0.out.1.cell 2)
                have cA : ∀ d os', Calls Tryd.prog 47 #[.agg #[.string x.name_, .slice l.A1 l.n1 l.c1]] (grow (redrawn w0 d) os') (fun e w'' => e = .returned (.bool true) ∧ ∃ q : Regrown, w'' = grow (redrawn w0 q.d) q.os) := fun d os' => Calls.regrown_of (by have hb := g1.trans ((below_regrown w0 d os').mono g1.size); have h := HEL.out _ hb; rw [HZ.out] at h; exact h)
                clear hw0 g1 q0 q1 s0 s1 s2
                refine wp_region_quiet_below (by kernel_rfl) (by kernel_rfl) ?_
                repeat (first | go_big_quiet_step (with_reducible exact cA _ _) | quiet_step (with_reducible exact cA _ _))
                refine wpQuiet_nil ?_
                intro w4 hw'
                obtain ⟨⟨dq, osq⟩, hw''⟩ := hw'
                have HB4 : Hid (RW 36 w4 W.heap.size #[.slice A0 n0 c0, .slice A1 n1 c1, .slice (some ⟨b, off, none⟩) n2 c2] ∧ Below W.heap.size W w4) := by show _ ∧ _; rw [hw'']; exact ⟨HB0.out.1.below (below_regrown w0 dq osq) HB0.out.1.lt, HB0.out.2.trans ((below_regrown w0 dq osq).mono HB0.out.2.size)⟩
                clear hw'' x0 x1 xs2 cA
                go_wp2_with fail
                go_roundw
                case rel => exact ⟨0 + 1, by omega, by go_num, ⟨HB4.out.1.cell 0, HB4.out.1.cell 1, HB4.out.1.cell 2⟩, HB4, HV2⟩
                case measure => simp [intOf]; omega
              obtain ⟨j, hj⟩ : ∃ j, k = j + 1 := ⟨k - 1, by omega⟩
              have hj1 : (k : Int) - 1 = (j : Int) := by omega
              have hkp2 : (0 : Int) < (k : Int) := by omega
              have hkp3 : decide ((0 : Int) < (k : Int)) = true := by simp; omega
              have hkp4 : decide (0 < k) = true := by simp; omega
              have hkp5 : 0 < k := by omega
              have e0 : (0 : Int) ≤ (j : Int) := by omega
              have e1 : (j : Int) < (n2 : Int) := by omega
              obtain ⟨b', off', y, l', hA, hg', hy, ⟨r0, r1⟩, _⟩ := (HX2.out.go HB.out.2).at_ (show j < n2 by omega)
              simp only [Option.some.injEq, Addr.mk.injEq, and_true] at hA
              obtain ⟨rfl, rfl⟩ := hA
              have HY : Hid (x2[k - 1]? = some y) := by show _ = _; rw [show k - 1 = j by omega]; exact hy
              clear hj hkp hg' hy
              obtain ⟨R, hRR⟩ : ∃ z, Op.bytesLess y.name_.toList x.name_.toList = z := ⟨_, rfl⟩
              have HRR := Lib.hid hRR
              cases R
              · have HF : Hid (P = false) := HNO.out (.inr (.inr (not_up hkp5 HX.out HY.out HRR.out)))
                go_wp2_with fail
                obtain ⟨w0, hw0⟩ : ∃ w0, wr = w0 := ⟨_, rfl⟩
                have g1 : Below wr.heap.size wr w0 := by rw [← hw0]; exact Below.refl _ _
                have HB0 : Hid (RW 36 w0 W.heap.size #[.slice A0 n0 c0, .slice A1 n1 c1, .slice (some ⟨b, off, none⟩) n2 c2] ∧ Below W.heap.size W w0) := ⟨HB.out.1.below g1 HB.out.1.lt, HB.out.2.trans (g1.mono HB.out.2.size)⟩
                have x0 := cell_regrown ((g1.cell (p := ⟨b, off + k * 2, none⟩) HGB.out).trans q0)
                have x1 := cell_regrown ((g1.cell (p := ⟨b, off + k * 2 + 1, none⟩) HGB.out).trans q1)
                rw [hw0]
                have xs2 := cell_regrown (HB0.out.1.cell 2)
                have y0 := cell_regrown ((g1.cell (p := ⟨b, off + j * 2, none⟩) HGB.out).trans r0)
                have y1 := cell_regrown ((g1.cell (p := ⟨b, off + j * 2 + 1, none⟩) HGB.out).trans r1)
                have cA : ∀ d os', Calls Tryd.prog 47 #[.agg #[.string x.name_, .slice l.A1 l.n1 l.c1]] (grow (redrawn w0 d) os') (fun e w'' => e = .returned (.bool true) ∧ ∃ q : Regrown, w'' = grow (redrawn w0 q.d) q.os) := fun d os' => Calls.regrown_of (by have hb := g1.trans ((below_regrown w0 d os').mono g1.size); have h := HEL.out _ hb; rw [HZ.out] at h; exact h)
                clear hw0 g1 q0 q1 r0 r1 s0 s1 s2
                refine wp_region_quiet_below (by kernel_rfl) (by kernel_rfl) ?_
                repeat (first | go_big_quiet_step (with_reducible exact cA _ _) | quiet_step (with_reducible exact cA _ _))
                refine wpQuiet_nil ?_
                intro w4 hw'
                obtain ⟨⟨dq, osq⟩, hw''⟩ := hw'
                have HB4 : Hid (RW 36 w4 W.heap.size #[.slice A0 n0 c0, .slice A1 n1 c1, .slice (some ⟨b, off, none⟩) n2 c2] ∧ Below W.heap.size W w4) := by show _ ∧ _; rw [hw'']; exact ⟨HB0.out.1.below (below_regrown w0 dq osq) HB0.out.1.lt, HB0.out.2.trans ((below_regrown w0 dq osq).mono HB0.out.2.size)⟩
                clear hw'' x0 x1 xs2 y0 y1 cA
                go_wp2_with fail
                go_ret
                exact ⟨by rw [HF.out]; rfl, HB4.out.2⟩
              · have HV2 := Lib.hid (UpOk.next HV.out HX.out HOK.out HY.out HRR.out)
                go_wp2_with fail
                obtain ⟨w0, hw0⟩ : ∃ w0, wr = w0 := ⟨_, rfl⟩
                have g1 : Below wr.heap.size wr w0 := by rw [← hw0]; exact Below.refl _ _
                have HB0 : Hid (RW 36 w0 W.heap.size #[.slice A0 n0 c0, .slice A1 n1 c1, .slice (some ⟨b, off, none⟩) n2 c2] ∧ Below W.heap.size W w0) := ⟨HB.out.1.below g1 HB.out.1.lt, HB.out.2.trans (g1.mono HB.out.2.size)⟩
                have x0 := cell_regrown ((g1.cell (p := ⟨b, off + k * 2, none⟩) HGB.out).trans q0)
                have x1 := cell_regrown ((g1.cell (p := ⟨b, off + k * 2 + 1, none⟩) HGB.out).trans q1)
                rw [hw0]
                have xs2 := cell_regrown (HB0.out.1.cell 2)
                have y0 := cell_regrown ((g1.cell (p := ⟨b, off + j * 2, none⟩) HGB.out).trans r0)
                have y1 := cell_regrown ((g1.cell (p := ⟨b, off + j * 2 + 1, none⟩) HGB.out).trans r1)
                have cA : ∀ d os', Calls Tryd.prog 47 #[.agg #[.string x.name_, .slice l.A1 l.n1 l.c1]] (grow (redrawn w0 d) os') (fun e w'' => e = .returned (.bool true) ∧ ∃ q : Regrown, w'' = grow (redrawn w0 q.d) q.os) := fun d os' => Calls.regrown_of (by have hb := g1.trans ((below_regrown w0 d os').mono g1.size); have h := HEL.out _ hb; rw [HZ.out] at h; exact h)
                clear hw0 g1 q0 q1 r0 r1 s0 s1 s2
                refine wp_region_quiet_below (by kernel_rfl) (by kernel_rfl) ?_
                repeat (first | go_big_quiet_step (with_reducible exact cA _ _) | quiet_step (with_reducible exact cA _ _))
                refine wpQuiet_nil ?_
                intro w4 hw'
                obtain ⟨⟨dq, osq⟩, hw''⟩ := hw'
                have HB4 : Hid (RW 36 w4 W.heap.size #[.slice A0 n0 c0, .slice A1 n1 c1, .slice (some ⟨b, off, none⟩) n2 c2] ∧ Below W.heap.size W w4) := by show _ ∧ _; rw [hw'']; exact ⟨HB0.out.1.below (below_regrown w0 dq osq) HB0.out.1.lt, HB0.out.2.trans ((below_regrown w0 dq osq).mono HB0.out.2.size)⟩
                clear hw'' x0 x1 xs2 y0 y1 cA
                go_wp2_with fail
                go_roundw
                case rel => exact ⟨k + 1, by omega, by go_num, ⟨HB4.out.1.cell 0, HB4.out.1.cell 1, HB4.out.1.cell 2⟩, HB4, HV2⟩
                case measure => simp [intOf]; omega
            · have hkn : k = n2 := by omega
              have HL2 : Hid (ListOk rtOk Rt.name_ 8 x2) := by
                refine ⟨by have := HX2.out.1; omega, ?_⟩
                rw [HX2.out.1, ← hkn]
                exact HV.out
              have hnk : ¬ (k : Int) < (n2 : Int) := by omega
              clear HV hkn
              go_wp2_with fail
              have HE : Hid (P = true) := HYES.out HL0.out HL1.out HL2.out
              go_ret
              exact ⟨by rw [HE.out]; rfl, HB.out.2⟩
end Go.Proofs.YtflhjcdabbomiaaDoor

namespace Go.Proofs.YtflhjcdabbomiaaDoor
open Go Go.RowKit

/-- The value of the first element of that name, or the null value. -/
def LookP (xs : List Bd) (s : ByteArray) (k n : Int) (t : ByteArray) (r : Int) : Prop :=
  (∃ (i : Nat) (b : Bd), xs[i]? = some b ∧ b.name_ = s ∧ (∀ j, j < i → ∀ c : Bd, xs[j]? = some c → c.name_ ≠ s) ∧ k = b.kind_ ∧ n = b.num_ ∧ t = b.text_ ∧ r = b.ref_) ∨
  ((∀ (j : Nat) (c : Bd), xs[j]? = some c → c.name_ ≠ s) ∧ k = 1 ∧ n = 0 ∧ t = ⟨#[]⟩ ∧ r = 0)
theorem LookP.uniq {xs : List Bd} {s : ByteArray} {k n : Int} {t : ByteArray} {r : Int} {k' n' : Int} {t' : ByteArray} {r' : Int} (h : LookP xs s k n t r) (h' : LookP xs s k' n' t' r') : k = k' ∧ n = n' ∧ t = t' ∧ r = r' := by
  rcases h with ⟨i, b, h1, h2, h3, rfl, rfl, rfl, rfl⟩ | ⟨h1, rfl, rfl, rfl, rfl⟩
  · rcases h' with ⟨i', b', h1', h2', h3', rfl, rfl, rfl, rfl⟩ | ⟨h1', _⟩
    · rcases Nat.lt_trichotomy i i' with h | h | h
      · exact absurd h2 (h3' i h b h1)
      · subst h
        rw [h1, Option.some.injEq] at h1'
        subst h1'
        exact ⟨rfl, rfl, rfl, rfl⟩
      · exact absurd h2' (h3 i' h b' h1')
    · exact absurd h2 (h1' i b h1)
  · rcases h' with ⟨i', b', h1', h2', _⟩ | ⟨_, rfl, rfl, rfl, rfl⟩
    · exact absurd h2' (h1 i' b' h1')
    · exact ⟨rfl, rfl, rfl, rfl⟩
theorem LookP.ex (xs : List Bd) (s : ByteArray) : ∃ k n t r, LookP xs s k n t r := by
  by_cases h : ∃ (i : Nat) (b : Bd), xs[i]? = some b ∧ b.name_ = s
  · have : ∀ n (i : Nat), i ≤ n → (∃ b : Bd, xs[i]? = some b ∧ b.name_ = s) → ∃ (m : Nat) (b : Bd), xs[m]? = some b ∧ b.name_ = s ∧ ∀ j, j < m → ∀ c : Bd, xs[j]? = some c → c.name_ ≠ s := by
      intro n
      induction n with
      | zero => rintro i hi ⟨b, hb, hs⟩; exact ⟨i, b, hb, hs, fun j hj => by omega⟩
      | succ n ih =>
        rintro i hi ⟨b, hb, hs⟩
        by_cases hh : ∃ j, j < i ∧ ∃ c : Bd, xs[j]? = some c ∧ c.name_ = s
        · obtain ⟨j, hj, hc⟩ := hh
          exact ih j (by omega) hc
        · exact ⟨i, b, hb, hs, fun j hj c hc e => hh ⟨j, hj, c, hc, e⟩⟩
    obtain ⟨i, b, hb, hs⟩ := h
    obtain ⟨m, c, h1, h2, h3⟩ := this i i (Nat.le_refl _) ⟨b, hb, hs⟩
    exact ⟨_, _, _, _, .inl ⟨m, c, h1, h2, h3, rfl, rfl, rfl, rfl⟩⟩
  · exact ⟨_, _, _, _, .inr ⟨fun j c hc e => h ⟨j, c, hc, e⟩, rfl, rfl, rfl, rfl⟩⟩
theorem LookP.size {w : World} {B m : Nat} {A : Option Addr} {xs : List Bd} {s : ByteArray} {k n : Int} {t : ByteArray} {r : Int} (hx : BdI w B A m xs) (h : LookP xs s k n t r) : t.size ≤ maxLen := by
  rcases h with ⟨i, b, h1, _, _, _, _, rfl, _⟩ | ⟨_, _, _, rfl, _⟩
  · have hl := (List.getElem?_eq_some_iff.1 h1).1
    obtain ⟨_, _, _, _, hc⟩ := hx.2.2 (by have := hx.1; omega)
    exact (hc i b h1).2.2
  · exact Nat.zero_le _

theorem l17Null_any (W : World) : Calls Tryd.prog 49 #[] W fun e w' => e = .returned (.agg #[.int .i64 1, .int .i64 0, .string ⟨#[]⟩, .int .i64 0]) ∧ Below W.heap.size W w' := by
  go_enter Tryd.func49, Tryd.ntmps49
  go_wp2
  exact bodyPost_ret (v := .agg #[.int .i64 1, .int .i64 0, .string ⟨#[]⟩, .int .i64 0]) (by simp [results, Tryd.results49, go_sem]) rfl
    ⟨rfl, by repeat (first | exact Below.refl _ _ | refine Below.setCell ?_ (by first | (simp; done) | (simp; omega)) _ | refine Below.alloc ?_ (by first | (simp; done) | (simp; omega)) _)⟩

set_option maxHeartbeats 4000000 in
set_option maxRecDepth 100000 in
theorem l18Value_any (A0 A1 A2 : Option Addr) (n0 c0 n1 c1 n2 c2 : Nat) (xs : List Bd) (s : ByteArray) (k n : Int) (t : ByteArray) (r : Int) (W : World) (hx : BdI W W.heap.size A0 n0 xs) (hl : LookP xs s k n t r) :
    Calls Tryd.prog 26 #[.agg #[.slice A0 n0 c0, .slice A1 n1 c1, .slice A2 n2 c2], .string s] W fun e w' => e = .returned (.agg #[.int .i64 k, .int .i64 n, .string t, .int .i64 r]) ∧ Below W.heap.size W w' := by
  have HX := Lib.hid hx
  have HL := Lib.hid hl
  have hn := hx.2.1
  unfold maxLen at hn
  have HC := Lib.hid (fun X (e : X = (W.alloc (.cells #[.slice A0 n0 c0, .slice A1 n1 c1, .slice A2 n2 c2] 36)).alloc (.cells #[.int .i64 0, .int .i64 0, .string ⟨#[]⟩, .int .i64 0] 29)) => (show RW 36 X W.heap.size #[.slice A0 n0 c0, .slice A1 n1 c1, .slice A2 n2 c2] ∧ RW 29 X (W.heap.size + 1) #[.int .i64 0, .int .i64 0, .string ⟨#[]⟩, .int .i64 0] ∧ Below W.heap.size W X from by
    subst e
    refine ⟨(RW.new W _ _).alloc _, ?_, (below_alloc _ _).alloc (by simp) _⟩
    have := RW.new (W.alloc (.cells #[.slice A0 n0 c0, .slice A1 n1 c1, .slice A2 n2 c2] 36)) #[.int .i64 0, .int .i64 0, .string ⟨#[]⟩, .int .i64 0] 29
    simpa using this))
  clear hx hl
  go_enter Tryd.func26, Tryd.ntmps26
  go_wp2_with fail
  go_loopw [5] (fun i wr => ∃ q : Nat, q ≤ n0 ∧ i = .int .i64 q ∧ wr.cell? ⟨W.heap.size, 0, none⟩ = some (.slice A0 n0 c0) ∧ Hid (RW 36 wr W.heap.size #[.slice A0 n0 c0, .slice A1 n1 c1, .slice A2 n2 c2] ∧ RW 29 wr (W.heap.size + 1) #[.int .i64 0, .int .i64 0, .string ⟨#[]⟩, .int .i64 0] ∧ Below W.heap.size W wr) ∧ Hid (∀ j, j < q → ∀ c : Bd, xs[j]? = some c → c.name_ ≠ s)) (fun i _ => n0 - (intOf i).toNat)
  case atStart => exact ⟨0, Nat.zero_le _, rfl, (HC.out _ rfl).1.cell 0, Lib.hid (HC.out _ rfl), Lib.hid (fun j hj => absurd hj (by omega))⟩
  case round =>
    obtain ⟨q, hq, rfl, r0, HB, HV⟩ := hrel
    by_cases hlt : q < n0
    · have b0 : (0 : Int) ≤ (q : Int) := by omega
      have b1 : (q : Int) < (n0 : Int) := by omega
      obtain ⟨b, off, x, rfl, hg, hxx, ⟨p0, p1, p2, p3, p4⟩, hm0, hm3⟩ := (HX.out.go HB.out.2.2).at_ hlt
      have HXX := Lib.hid hxx
      have HS := Lib.hid (@beq_bytes x.name_ s)
      clear hxx hg
      obtain ⟨z, hz⟩ : ∃ z, (x.name_.toList == s.toList) = z := ⟨_, rfl⟩
      have HZ := Lib.hid hz
      cases z
      · have HV2 : Hid (∀ j, j < q + 1 → ∀ c : Bd, xs[j]? = some c → c.name_ ≠ s) := by
          show ∀ _, _
          intro j hj c hc
          by_cases e : j = q
          · subst e
            rw [HXX.out, Option.some.injEq] at hc
            subst hc
            intro e2
            have h := HS.out.2 e2
            rw [HZ.out] at h
            cases h
          · exact HV.out j (by omega) c hc
        go_wp2_with fail
        go_roundw
        case rel => exact ⟨q + 1, by omega, by go_num, r0, HB, HV2⟩
        case measure => simp [intOf]; omega
      · have HE : Hid (k = x.kind_ ∧ n = x.num_ ∧ t = x.text_ ∧ r = x.ref_) := LookP.uniq HL.out (.inl ⟨q, x, HXX.out, HS.out.1 HZ.out, HV.out, rfl, rfl, rfl, rfl⟩)
        have z0 := HB.out.2.1.cell 0
        have z1 := HB.out.2.1.cell 1
        have z2 := HB.out.2.1.cell 2
        have z3 := HB.out.2.1.cell 3
        have f0 := HB.out.2.1.frozen 0
        have f1 := HB.out.2.1.frozen 1
        have f2 := HB.out.2.1.frozen 2
        have f3 := HB.out.2.1.frozen 3
        go_wp2_with fail
        refine bodyPost_ret (v := .agg #[.int .i64 x.kind_, .int .i64 x.num_, .string x.text_, .int .i64 x.ref_]) (results_cell_row Tryd.results26 _ _ (W.heap.size + 1) 29 _ (0, 0) _ rfl ((((HB.out.2.1.set_ 0 _).set_ 1 _).set_ 2 _).set_ 3 _) Tryd.underlying29 rfl (by kernel_rfl)) rfl ⟨?_, ?_⟩
        · rw [HE.out.1, HE.out.2.1, HE.out.2.2.1, HE.out.2.2.2]
        · exact (((HB.out.2.2.setCell (p := ⟨W.heap.size + 1, 0, none⟩) (by simp) _).setCell (p := ⟨W.heap.size + 1, 1, none⟩) (by simp) _).setCell (p := ⟨W.heap.size + 1, 2, none⟩) (by simp) _).setCell (p := ⟨W.heap.size + 1, 3, none⟩) (by simp) _
    · have HE : Hid (k = 1 ∧ n = 0 ∧ t = ⟨#[]⟩ ∧ r = 0) := LookP.uniq HL.out (.inr ⟨fun j c hc => HV.out j (by have := (List.getElem?_eq_some_iff.1 hc).1; have := HX.out.1; omega) c hc, rfl, rfl, rfl, rfl⟩)
      go_wp2_with (go_at_call 49; refine (l17Null_any _).mono ?_; rintro e w2 ⟨rfl, hb⟩; have HR2 := Lib.hid (HB.out.2.1.below hb HB.out.2.1.lt); have HB2 := Lib.hid (HB.out.2.2.trans (hb.mono HB.out.2.2.size)); have z0 := HR2.out.cell 0; have z1 := HR2.out.cell 1; have z2 := HR2.out.cell 2; have z3 := HR2.out.cell 3; have f0 := HR2.out.frozen 0; have f1 := HR2.out.frozen 1; have f2 := HR2.out.frozen 2; have f3 := HR2.out.frozen 3; clear hb)
      refine bodyPost_ret (v := .agg #[.int .i64 1, .int .i64 0, .string ⟨#[]⟩, .int .i64 0]) (results_cell_row Tryd.results26 _ _ (W.heap.size + 1) 29 _ (0, 0) _ rfl ((((HR2.out.set_ 0 _).set_ 1 _).set_ 2 _).set_ 3 _) Tryd.underlying29 rfl (by kernel_rfl)) rfl ⟨?_, ?_⟩
      · rw [HE.out.1, HE.out.2.1, HE.out.2.2.1, HE.out.2.2.2]
      · exact (((HB2.out.setCell (p := ⟨W.heap.size + 1, 0, none⟩) (by simp) _).setCell (p := ⟨W.heap.size + 1, 1, none⟩) (by simp) _).setCell (p := ⟨W.heap.size + 1, 2, none⟩) (by simp) _).setCell (p := ⟨W.heap.size + 1, 3, none⟩) (by simp) _
end Go.Proofs.YtflhjcdabbomiaaDoor

namespace Go.Proofs.YtflhjcdabbomiaaDoor
open Go Go.RowKit

theorem two_cells (W : World) (T T' : TypeId) (c c' : Array Value) (X : World) (e : X = (W.alloc (.cells c T)).alloc (.cells c' T')) : RW T X W.heap.size c ∧ RW T' X (W.heap.size + 1) c' ∧ Below W.heap.size W X := by
  subst e
  refine ⟨(RW.new W c T).alloc _, ?_, (below_alloc _ _).alloc (by simp) _⟩
  have := RW.new (W.alloc (.cells c T)) c' T'
  simpa using this

set_option maxHeartbeats 4000000 in
set_option maxRecDepth 100000 in
theorem spec_Lookup_no (x : Sc) (l : ScLay) (s : ByteArray) (W : World) (hv : ScV W W.heap.size x l) (hs : s.size ≤ maxLen) (hno : tt (ScOk x) = false ∨ isNameB s = false) :
    Calls Tryd.prog 6 #[x.ag l, .string s] W fun e w' => e = .returned (.tuple #[.agg #[.int .i64 0, .int .i64 0, .string ⟨#[]⟩, .int .i64 0], .int .i64 1]) ∧ Below W.heap.size W w' := by
  obtain ⟨x0, x1, x2⟩ := x
  obtain ⟨A0, n0, c0, h0, A1, n1, c1, h1, A2, n2, c2, h2⟩ := l
  show Calls Tryd.prog 6 #[.agg #[.slice A0 n0 c0, .slice A1 n1 c1, .slice A2 n2 c2], .string s] W _
  have HV := Lib.hid hv
  have HS := Lib.hid hs
  have HC := Lib.hid (two_cells W 36 29 #[.slice A0 n0 c0, .slice A1 n1 c1, .slice A2 n2 c2] #[.int .i64 0, .int .i64 0, .string ⟨#[]⟩, .int .i64 0])
  obtain ⟨z1, hz1⟩ : ∃ z, tt (ScOk (⟨x0, x1, x2⟩ : Sc)) = z := ⟨_, rfl⟩
  obtain ⟨z2, hz2⟩ : ∃ z, isNameB s = z := ⟨_, rfl⟩
  rw [hz1, hz2] at hno
  have HZ1 := Lib.hid hz1
  have HZ2 := Lib.hid hz2
  clear hv hs hz1 hz2
  cases z1
  · clear hno
    go_enter Tryd.func6, Tryd.ntmps6
    go_wp2_with (go_at_call 24; obtain ⟨g0, g1, g2⟩ := HC.out _ rfl; have HQ := spec_ValidScope_any ⟨x0, x1, x2⟩ ⟨A0, n0, c0, h0, A1, n1, c1, h1, A2, n2, c2, h2⟩ _ (HV.out.go g2); refine Calls.mono HQ ?_; clear HQ; rintro e w1 ⟨rfl, hb⟩; rw [HZ1.out]; have HB1 := Lib.hid (g2.trans (hb.mono g2.size)); have HA1 := Lib.hid (g0.below hb g0.lt); have HR1 := Lib.hid (g1.below hb g1.lt); have z0 := HR1.out.cell 0; have f0 := HR1.out.frozen 0; have z1 := HR1.out.cell 1; have f1 := HR1.out.frozen 1; have z2 := HR1.out.cell 2; have f2 := HR1.out.frozen 2; have z3 := HR1.out.cell 3; have f3 := HR1.out.frozen 3; clear g0 g1 g2 hb)
    exact bodyPost_ret (v := .tuple #[.agg #[.int .i64 0, .int .i64 0, .string ⟨#[]⟩, .int .i64 0], .int .i64 1]) (by rw [results_cell_tmp rfl]; go_simp) rfl ⟨rfl, (((HB1.out.setCell (p := ⟨W.heap.size + 1, 0, none⟩) (by simp) _).setCell (p := ⟨W.heap.size + 1, 1, none⟩) (by simp) _).setCell (p := ⟨W.heap.size + 1, 2, none⟩) (by simp) _).setCell (p := ⟨W.heap.size + 1, 3, none⟩) (by simp) _⟩
  obtain rfl : z2 = false := by rcases hno with h | h <;> first | (cases h; done) | exact h
  go_enter Tryd.func6, Tryd.ntmps6
  go_wp2_with (first | (go_at_call 24; obtain ⟨g0, g1, g2⟩ := HC.out _ rfl; have HQ := spec_ValidScope_any ⟨x0, x1, x2⟩ ⟨A0, n0, c0, h0, A1, n1, c1, h1, A2, n2, c2, h2⟩ _ (HV.out.go g2); refine Calls.mono HQ ?_; clear HQ; rintro e w1 ⟨rfl, hb⟩; rw [HZ1.out]; have HB1 := Lib.hid (g2.trans (hb.mono g2.size)); have HA1 := Lib.hid (g0.below hb g0.lt); have HR1 := Lib.hid (g1.below hb g1.lt); clear g0 g1 g2 hb) | (go_at_call 25; refine (spec_IsName_any s _ HS.out).mono ?_; rintro e w2 ⟨rfl, h⟩; obtain rfl := h; rw [HZ2.out]; have HB2 := HB1; have HA2 := HA1; have HR2 := HR1; have z0 := HR2.out.cell 0; have f0 := HR2.out.frozen 0; have z1 := HR2.out.cell 1; have f1 := HR2.out.frozen 1; have z2 := HR2.out.cell 2; have f2 := HR2.out.frozen 2; have z3 := HR2.out.cell 3; have f3 := HR2.out.frozen 3))
  exact bodyPost_ret (v := .tuple #[.agg #[.int .i64 0, .int .i64 0, .string ⟨#[]⟩, .int .i64 0], .int .i64 1]) (by rw [results_cell_tmp rfl]; go_simp) rfl ⟨rfl, (((HB2.out.setCell (p := ⟨W.heap.size + 1, 0, none⟩) (by simp) _).setCell (p := ⟨W.heap.size + 1, 1, none⟩) (by simp) _).setCell (p := ⟨W.heap.size + 1, 2, none⟩) (by simp) _).setCell (p := ⟨W.heap.size + 1, 3, none⟩) (by simp) _⟩

set_option maxHeartbeats 4000000 in
set_option maxRecDepth 100000 in
theorem spec_Lookup_yes (x : Sc) (l : ScLay) (s : ByteArray) (k n : Int) (t : ByteArray) (r : Int) (W : World) (hv : ScV W W.heap.size x l) (hs : s.size ≤ maxLen) (h1 : tt (ScOk x) = true) (h2 : isNameB s = true) (hl : LookP x.vars_ s k n t r) :
    Calls Tryd.prog 6 #[x.ag l, .string s] W fun e w' => e = .returned (.tuple #[.agg #[.int .i64 k, .int .i64 n, .string t, .int .i64 r], .int .i64 0]) ∧ Below W.heap.size W w' := by
  have HZ2 := Lib.hid h2
  have HZ1 := Lib.hid h1
  have HL := Lib.hid hl
  clear h1 h2 hl
  obtain ⟨x0, x1, x2⟩ := x
  obtain ⟨A0, n0, c0, h0, A1, n1, c1, h1, A2, n2, c2, h2⟩ := l
  show Calls Tryd.prog 6 #[.agg #[.slice A0 n0 c0, .slice A1 n1 c1, .slice A2 n2 c2], .string s] W _
  have HV := Lib.hid hv
  have HS := Lib.hid hs
  have HC := Lib.hid (two_cells W 36 29 #[.slice A0 n0 c0, .slice A1 n1 c1, .slice A2 n2 c2] #[.int .i64 0, .int .i64 0, .string ⟨#[]⟩, .int .i64 0])
  clear hv hs
  go_enter Tryd.func6, Tryd.ntmps6
  go_wp2_with (first | (go_at_call 24; obtain ⟨g0, g1, g2⟩ := HC.out _ rfl; have HQ := spec_ValidScope_any ⟨x0, x1, x2⟩ ⟨A0, n0, c0, h0, A1, n1, c1, h1, A2, n2, c2, h2⟩ _ (HV.out.go g2); refine Calls.mono HQ ?_; clear HQ; rintro e w1 ⟨rfl, hb⟩; rw [HZ1.out]; have HB1 := Lib.hid (g2.trans (hb.mono g2.size)); have HA1 := Lib.hid (g0.below hb g0.lt); have HR1 := Lib.hid (g1.below hb g1.lt); clear g0 g1 g2 hb) | (go_at_call 25; refine (spec_IsName_any s _ HS.out).mono ?_; rintro e w2 ⟨rfl, h⟩; obtain rfl := h; rw [HZ2.out]; have HB2 := HB1; have HA2 := HA1; have HR2 := HR1; have q0 : w1.cell? ⟨W.heap.size, 0, none⟩ = some (.slice A0 n0 c0) := HA2.out.cell 0; have q1 : w1.cell? ⟨W.heap.size, 1, none⟩ = some (.slice A1 n1 c1) := HA2.out.cell 1; have q2 : w1.cell? ⟨W.heap.size, 2, none⟩ = some (.slice A2 n2 c2) := HA2.out.cell 2) | (go_at_call 26; have HQ := l18Value_any A0 A1 A2 n0 c0 n1 c1 n2 c2 x0 s k n t r _ (HV.out.1.go HB2.out) HL.out; refine Calls.mono HQ ?_; clear HQ; rintro e w3 ⟨rfl, hb⟩; have HB3 := Lib.hid (HB2.out.trans (hb.mono HB2.out.size)); have HR3 := Lib.hid (HR2.out.below hb HR2.out.lt); have z0 := HR3.out.cell 0; have f0 := HR3.out.frozen 0; have z1 := HR3.out.cell 1; have f1 := HR3.out.frozen 1; have z2 := HR3.out.cell 2; have f2 := HR3.out.frozen 2; have z3 := HR3.out.cell 3; have f3 := HR3.out.frozen 3; clear hb q0 q1 q2))
  exact bodyPost_ret (v := .tuple #[.agg #[.int .i64 k, .int .i64 n, .string t, .int .i64 r], .int .i64 0]) (by rw [results_cell_tmp rfl]; go_simp) rfl ⟨rfl, (((HB3.out.setCell (p := ⟨W.heap.size + 1, 0, none⟩) (by simp) _).setCell (p := ⟨W.heap.size + 1, 1, none⟩) (by simp) _).setCell (p := ⟨W.heap.size + 1, 2, none⟩) (by simp) _).setCell (p := ⟨W.heap.size + 1, 3, none⟩) (by simp) _⟩
end Go.Proofs.YtflhjcdabbomiaaDoor

namespace Go.Proofs.YtflhjcdabbomiaaDoor
open Go Go.RowKit

theorem str_ret {a b : ByteArray} (h : a = b) : Ending.returned (.string a) = .returned (.string b) := by rw [h]
theorem conv_one (W : World) (x : Int) :
    (convert 102 9 (.slice (some ⟨W.heap.size, 0, none⟩) 1 1)).run Tryd.prog (W.alloc (.cells #[.int .u8 x] 5)) = .ok (.string ⟨#[UInt8.ofNat x.toNat]⟩) (W.alloc (.cells #[.int .u8 x] 5)) := by
  rw [run_convert_bytes_string _ _ _ 5 _ _ _ Tryd.underlying102 Tryd.underlying5 Tryd.underlying9]
  have hl : (loadCells ⟨W.heap.size, 0, none⟩ 1).run Tryd.prog (W.alloc (.cells #[.int .u8 x] 5)) = .ok (([x] : List Int).map (Value.int .u8)).toArray (W.alloc (.cells #[.int .u8 x] 5)) := by
    refine run_loadCells_list (P := Tryd.prog) _ ⟨W.heap.size, 0, none⟩ [Value.int .u8 x] fun j v hv => ?_
    match j, hv with
    | 0, hv => simp at hv; subst hv; simp [Addr.add]
  exact run_bytesToString (P := Tryd.prog) _ ⟨W.heap.size, 0, none⟩ 1 1 [x] hl
end Go.Proofs.YtflhjcdabbomiaaDoor

namespace Go.Proofs.YtflhjcdabbomiaaDoor
open Go Go.RowKit

/-- The digits of k ahead of acc. -/
def digitsOf (k : Nat) (acc : ByteArray) : ByteArray := if _h : k = 0 then acc else digitsOf (k / 10) (⟨#[48 + UInt8.ofNat (k % 10)]⟩ ++ acc)
termination_by k
decreasing_by omega
theorem digitsOf_zero (acc : ByteArray) : digitsOf 0 acc = acc := by rw [digitsOf, dif_pos rfl]
theorem digitsOf_step {k : Nat} (h : 0 < k) (acc : ByteArray) : digitsOf k acc = digitsOf (k / 10) (⟨#[48 + UInt8.ofNat (k % 10)]⟩ ++ acc) := by rw [digitsOf, dif_neg (by omega)]
/-- What markText answers at a number from 1 on. -/
def markT (k : Nat) : ByteArray := ⟨#[109]⟩ ++ digitsOf k ⟨#[]⟩

set_option maxRecDepth 100000 in
theorem markText_any (k : Nat) (W : World) (h0 : 0 < k) (h1 : k ≤ 16777216) :
    Calls Tryd.prog 40 #[.int .i64 k] W fun e w' => e = .returned (.string (markT k)) ∧ Below W.heap.size W w' := by
  have hk0 : decide ((k : Int) ≤ 0) = false := by simp; omega
  go_enter Tryd.func40, Tryd.ntmps40
  go_wp2
  go_loopw [0, 3] (fun i s wr => ∃ (j : Nat) (acc : ByteArray), i = .int .i64 j ∧ s = .string acc ∧ Below W.heap.size W wr ∧ acc.size + j ≤ 16777216 ∧ Hid (digitsOf k ⟨#[]⟩ = digitsOf j acc)) (fun i _ _ => (intOf i).toNat)
  case atStart => exact ⟨k, _, rfl, rfl, Below.refl _ _, by simp [ByteArray.size]; omega, rfl⟩
  case round =>
    obtain ⟨j, acc, rfl, rfl, hb, hsz, hE⟩ := hrel
    by_cases hj : 0 < j
    · have hd : decide (0 < (j : Int)) = true := by simp; omega
      have b0 : 0 ≤ (j : Int) % 10 := by omega
      have b1 : (j : Int) % 10 ≤ 9 := by omega
      have hcv := conv_one wr (48 + (j : Int) % 10)
      have HB := Lib.hid hb
      have HS : Hid (digitsOf j acc = digitsOf (j / 10) (⟨#[48 + UInt8.ofNat (j % 10)]⟩ ++ acc)) := digitsOf_step hj acc
      have hs' : acc.size ≤ 16777215 := by omega
      clear hb
      go_wp2_with fail
      go_roundw
      case rel =>
        refine ⟨j / 10, _, by go_num, rfl, HB.out.alloc HB.out.size _, ?_, hE.out.trans HS.out⟩
        rw [ByteArray.size_append]
        show 1 + acc.size + j / 10 ≤ _
        omega
      case measure => simp [intOf]; omega
    · have HZ : Hid (digitsOf j acc = acc) := by rw [show j = 0 by omega]; exact digitsOf_zero acc
      have hd : decide (0 < (j : Int)) = false := by simp; omega
      have HB := Lib.hid hb
      have hs' : acc.size ≤ 16777216 := by omega
      clear hb hsz
      go_wp2
      go_ret
      exact ⟨str_ret (by unfold markT; rw [hE.out, HZ.out]), HB.out⟩
end Go.Proofs.YtflhjcdabbomiaaDoor

namespace Go.Proofs.YtflhjcdabbomiaaDoor
open Go Go.RowKit

/-- A slice of strings that begins at the head of a block below B, and reads as xs. -/
def SR (w : World) (B : Nat) (A : Option Addr) (n : Nat) (xs : List ByteArray) : Prop :=
  xs.length = n ∧ (0 < n → ∃ g, A = some ⟨g, 0, none⟩ ∧ g < B ∧ ∀ j x, xs[j]? = some x → w.cell? ⟨g, j, none⟩ = some (.string x))
theorem SR.at_ {w : World} {B n k : Nat} {A : Option Addr} {xs : List ByteArray} (h : SR w B A n xs) (hk : k < n) (hl : k < xs.length) : ∃ g, A = some ⟨g, 0, none⟩ ∧ g < B ∧ w.cell? ⟨g, k, none⟩ = some (.string xs[k]) := by
  obtain ⟨g, rfl, hg, hc⟩ := h.2 (by omega)
  exact ⟨g, rfl, hg, hc k _ (List.getElem?_eq_getElem hl)⟩
theorem SR.below {w w' : World} {B n : Nat} {A : Option Addr} {xs : List ByteArray} (h : SR w B A n xs) (hb : Below B w w') : SR w' B A n xs :=
  ⟨h.1, fun hn => by
    obtain ⟨g, e, hg, hc⟩ := h.2 hn
    exact ⟨g, e, hg, fun j x hx => (hb.cell (p := ⟨g, j, none⟩) hg).trans (hc j x hx)⟩⟩
theorem SR.more {w : World} {B B' n : Nat} {A : Option Addr} {xs : List ByteArray} (h : SR w B A n xs) (hB : B ≤ B') : SR w B' A n xs :=
  ⟨h.1, fun hn => by
    obtain ⟨g, e, hg, hc⟩ := h.2 hn
    exact ⟨g, e, by omega, hc⟩⟩

theorem i64_ret {a b : Nat} (h : a = b) : Ending.returned (.int .i64 (a : Int)) = .returned (.int .i64 (b : Int)) := by rw [h]
/-- Block g of strings is known: its cells, none frozen. -/
def SB (w : World) (g : Nat) (cs : Array Value) : Prop := w.heap[g]? = some (.cells cs 9 (0, 0))
theorem SB.lt {w : World} {g : Nat} {cs : Array Value} (h : SB w g cs) : g < w.heap.size := by
  rcases Nat.lt_or_ge g w.heap.size with hlt | hge
  · exact hlt
  · unfold SB at h; rw [Array.getElem?_eq_none hge] at h; cases h
theorem SB.cell {w : World} {g : Nat} {cs : Array Value} (h : SB w g cs) (i : Nat) : w.cell? ⟨g, i, none⟩ = cs[i]? := cell_of_row w g i cs _ (0, 0) h
theorem SB.frozen {w : World} {g : Nat} {cs : Array Value} (h : SB w g cs) (i : Nat) : w.frozen? ⟨g, i, none⟩ = false := by
  unfold SB at h
  simp [World.frozen?, h]
theorem SB.set_ {w : World} {g : Nat} {cs : Array Value} (h : SB w g cs) (i : Nat) (u : Value) : SB (w.setCell ⟨g, i, none⟩ u) g (cs.setIfInBounds i u) := by
  unfold SB at h ⊢
  simp [World.setCell, Array.getElem?_modify, h]
theorem SB.below {w w' : World} {g B : Nat} {cs : Array Value} (h : SB w g cs) (hb : Below B w w') (hg : g < B) : SB w' g cs := (hb.block g hg).trans h
end Go.Proofs.YtflhjcdabbomiaaDoor
