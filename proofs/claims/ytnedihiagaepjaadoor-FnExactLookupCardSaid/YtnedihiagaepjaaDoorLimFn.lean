/- Contract: isWithinLimit at Function. Condition: the table holds what the program's text lays. -/
import Derived.Test.YtnedihiagaepjaaDoorLim
namespace Go.Proofs.YtnedihiagaepjaaDoor
open Go Go.RowKit Go.Sort

theorem method_elemFn (v0 v1 v2 v3 : Value) (w : World) : (method 247 81 (.agg #[v0, v1, v2, v3]) "loop.example/g00873/impl.isElement").run Tryd.prog w = .ok (102, .agg #[v0, v1, v2, v3]) w := by kernel_rfl
theorem method_keyFn (v0 v1 v2 v3 : Value) (w : World) : (method 247 81 (.agg #[v0, v1, v2, v3]) "loop.example/g00873/impl.key").run Tryd.prog w = .ok (103, .agg #[v0, v1, v2, v3]) w := by kernel_rfl

set_option maxHeartbeats 4000000 in
set_option maxRecDepth 100000 in
theorem withinFn_any (A : Option Addr) (n c lim : Nat) (xs : List Fn) (W : World) (hr : FnI W W.heap.size A n xs) (hlim : lim ≤ 1000) (hT : Classes W) :
    Calls Tryd.prog 56 #[.slice A n c, .int .i64 lim] W fun e w' => e = .returned (.bool (tt (ListOk fnOk Fn.name_ lim xs))) ∧ Below W.heap.size W w' := by
  have HR := Lib.hid hr
  have hn := hr.2.1
  have HN := Lib.hid hr.1
  have HTT := Lib.hid hT
  unfold maxLen at hn
  obtain ⟨P, hP⟩ : ∃ P, tt (ListOk fnOk Fn.name_ lim xs) = P := ⟨_, rfl⟩
  have HP := Lib.hid hP
  rw [hP]
  clear hP
  by_cases hbig : lim < n
  · have HF : Hid (P = false) := by
      show _ = _
      rw [← HP.out]
      exact tt_false fun h => by have := h.1; rw [hr.1] at this; omega
    have d0 : (lim : Int) < (n : Int) := by omega
    clear hr hT
    go_enter Tryd.func56, Tryd.ntmps56
    go_wp2_with fail
    go_ret
    exact ⟨by rw [HF.out]; rfl, Below.refl _ _⟩
  have d0 : ¬ ((lim : Int) < (n : Int)) := by omega
  have HLIM : Hid (n ≤ lim) := by show _ ≤ _; omega
  clear hr hT hbig
  go_enter Tryd.func56, Tryd.ntmps56
  go_wp2_with fail
  go_loopw [13] (fun i wr => ∃ k : Nat, k ≤ n ∧ i = .int .i64 k ∧ Hid (Below W.heap.size W wr) ∧ Hid (UpOk fnOk Fn.name_ xs k)) (fun i _ => n - (intOf i).toNat)
  case atStart => exact ⟨0, Nat.zero_le _, rfl, Below.refl _ _, Lib.hid UpOk.zero⟩
  case round =>
    obtain ⟨k, hk, rfl, HW, HV⟩ := hrel
    by_cases hlt : k < n
    · have b0 : (0 : Int) ≤ (k : Int) := by omega
      have b1 : (k : Int) < (n : Int) := by omega
      obtain ⟨b, off, x, l, rfl, hg, hx, ⟨q0, q1, q2, q3⟩, hv⟩ := (HR.out.go HW.out).at_ hlt
      have HX := Lib.hid hx
      have HGB : Hid (b < wr.heap.size) := hg
      have HEL := Lib.hid (fun (w : World) (hb : Below wr.heap.size wr w) (hT : Classes w) => elemFn_any x l w (hv.go hb) hT)
      have HC := Lib.hid (one_newS wr 81 #[.string x.name_, .slice l.A1 l.n1 l.c1, .slice l.A2 l.n2 l.c2, .string x.label_])
      have HT1 : Hid (Classes wr) := HTT.out.below HW.out (heap_pos (HTT.out.at_ 0 (by decide)))
      have hme := method_elemFn (.string x.name_) (.slice l.A1 l.n1 l.c1) (.slice l.A2 l.n2 l.c2) (.string x.label_)
      obtain ⟨Z, hZ⟩ : ∃ z, fnOk x = z := ⟨_, rfl⟩
      have HZ := Lib.hid hZ
      clear hx hg hv hZ
      cases Z
      · have HF : Hid (P = false) := by
          show _ = _
          rw [← HP.out]
          exact tt_false (not_ok HX.out HZ.out)
        go_wp2_with fail
        obtain ⟨w0, hw0⟩ : ∃ w0, wr.alloc (.cells #[.string x.name_, .slice l.A1 l.n1 l.c1, .slice l.A2 l.n2 l.c2, .string x.label_] 81) = w0 := ⟨_, rfl⟩
        rw [hw0]
        obtain ⟨g0, g1, g2⟩ := HC.out w0 hw0.symm
        have HB0 := Lib.hid g1
        have x0 := cell_regrown (g0.cell 0)
        have x1 := cell_regrown (g0.cell 1)
        have x2 := cell_regrown (g0.cell 2)
        have x3 := cell_regrown (g0.cell 3)
        have cE : ∀ d os', Calls Tryd.prog 102 #[.agg #[.string x.name_, .slice l.A1 l.n1 l.c1, .slice l.A2 l.n2 l.c2, .string x.label_]] (grow (redrawn w0 d) os') (fun e w'' => e = .returned (.bool false) ∧ ∃ q : Regrown, w'' = grow (redrawn w0 q.d) q.os) := fun d os' => Calls.regrown_of (by have hb := g1.trans ((below_regrown w0 d os').mono g1.size); have h := HEL.out _ hb (classes_up HT1.out hb); rw [HZ.out] at h; exact h)
        clear hw0 g0 g1 g2 q0 q1 q2 q3
        refine wp_region_quiet_below (by kernel_rfl) (by kernel_rfl) ?_
        repeat (first | go_big_quiet_step (with_reducible exact cE _ _) | quiet_step (with_reducible exact cE _ _))
        refine wpQuiet_nil ?_
        intro w4 hw'
        obtain ⟨⟨dq, osq⟩, hw''⟩ := hw'
        have HB4 : Hid (Below W.heap.size W w4) := by show Below _ _ _; rw [hw'']; exact HW.out.trans ((HB0.out.trans ((below_regrown w0 dq osq).mono HB0.out.size)).mono HW.out.size)
        clear hw'' x0 x1 x2 x3 cE
        go_wp2_with fail
        go_ret
        exact ⟨by rw [HF.out]; rfl, HB4.out⟩
      by_cases hkp : k = 0
      · subst hkp
        have HV2 := Lib.hid (UpOk.first (nm := Fn.name_) HX.out HZ.out)
        simp only [Nat.zero_mul, Nat.add_zero] at q0 q1 q2 q3
        go_wp2_with fail
        obtain ⟨w0, hw0⟩ : ∃ w0, wr.alloc (.cells #[.string x.name_, .slice l.A1 l.n1 l.c1, .slice l.A2 l.n2 l.c2, .string x.label_] 81) = w0 := ⟨_, rfl⟩
        rw [hw0]
        obtain ⟨g0, g1, g2⟩ := HC.out w0 hw0.symm
        have HB0 := Lib.hid g1
        have x0 := cell_regrown (g0.cell 0)
        have x1 := cell_regrown (g0.cell 1)
        have x2 := cell_regrown (g0.cell 2)
        have x3 := cell_regrown (g0.cell 3)
        have cE : ∀ d os', Calls Tryd.prog 102 #[.agg #[.string x.name_, .slice l.A1 l.n1 l.c1, .slice l.A2 l.n2 l.c2, .string x.label_]] (grow (redrawn w0 d) os') (fun e w'' => e = .returned (.bool true) ∧ ∃ q : Regrown, w'' = grow (redrawn w0 q.d) q.os) := fun d os' => Calls.regrown_of (by have hb := g1.trans ((below_regrown w0 d os').mono g1.size); have h := HEL.out _ hb (classes_up HT1.out hb); rw [HZ.out] at h; exact h)
        clear hw0 g0 g1 g2 q0 q1 q2 q3
        refine wp_region_quiet_below (by kernel_rfl) (by kernel_rfl) ?_
        repeat (first | go_big_quiet_step (with_reducible exact cE _ _) | quiet_step (with_reducible exact cE _ _))
        refine wpQuiet_nil ?_
        intro w4 hw'
        obtain ⟨⟨dq, osq⟩, hw''⟩ := hw'
        have HB4 : Hid (Below W.heap.size W w4) := by show Below _ _ _; rw [hw'']; exact HW.out.trans ((HB0.out.trans ((below_regrown w0 dq osq).mono HB0.out.size)).mono HW.out.size)
        clear hw'' x0 x1 x2 x3 cE
        go_wp2_with fail
        go_roundw
        case rel => exact ⟨0 + 1, by omega, by go_num, HB4, HV2⟩
        case measure => simp [intOf]; omega
      obtain ⟨j, hj⟩ : ∃ j, k = j + 1 := ⟨k - 1, by omega⟩
      have HJ := Lib.hid hj
      have hj1 : (k : Int) - 1 = (j : Int) := by omega
      have hkp2 : (0 : Int) < (k : Int) := by omega
      have hkp3 : decide ((0 : Int) < (k : Int)) = true := by simp; omega
      have hkp4 : decide (0 < k) = true := by simp; omega
      have hkp5 : 0 < k := by omega
      have c0 : (0 : Int) ≤ (j : Int) := by omega
      have c1 : (j : Int) < (n : Int) := by omega
      obtain ⟨b', off', y, l', hA, hg', hy, ⟨r0, r1, r2, r3⟩, _⟩ := (HR.out.go HW.out).at_ (show j < n by omega)
      simp only [Option.some.injEq, Addr.mk.injEq, and_true] at hA
      obtain ⟨rfl, rfl⟩ := hA
      have HY : Hid (xs[k - 1]? = some y) := by show _ = _; rw [show k - 1 = j by omega]; exact hy
      have hmx := method_keyFn (.string x.name_) (.slice l.A1 l.n1 l.c1) (.slice l.A2 l.n2 l.c2) (.string x.label_)
      have hmy := method_keyFn (.string y.name_) (.slice l'.A1 l'.n1 l'.c1) (.slice l'.A2 l'.n2 l'.c2) (.string y.label_)
      clear hj hkp hg' hy
      obtain ⟨R, hRR⟩ : ∃ z, Op.bytesLess y.name_.toList x.name_.toList = z := ⟨_, rfl⟩
      have HRR := Lib.hid hRR
      cases R
      · have HF : Hid (P = false) := by
          show _ = _
          rw [← HP.out]
          exact tt_false (not_up hkp5 HX.out HY.out HRR.out)
        go_wp2_with fail
        obtain ⟨w0, hw0⟩ : ∃ w0, wr.alloc (.cells #[.string x.name_, .slice l.A1 l.n1 l.c1, .slice l.A2 l.n2 l.c2, .string x.label_] 81) = w0 := ⟨_, rfl⟩
        rw [hw0]
        obtain ⟨g0, g1, g2⟩ := HC.out w0 hw0.symm
        have HB0 := Lib.hid g1
        have x0 := cell_regrown (g0.cell 0)
        have x1 := cell_regrown (g0.cell 1)
        have x2 := cell_regrown (g0.cell 2)
        have x3 := cell_regrown (g0.cell 3)
        have cE : ∀ d os', Calls Tryd.prog 102 #[.agg #[.string x.name_, .slice l.A1 l.n1 l.c1, .slice l.A2 l.n2 l.c2, .string x.label_]] (grow (redrawn w0 d) os') (fun e w'' => e = .returned (.bool true) ∧ ∃ q : Regrown, w'' = grow (redrawn w0 q.d) q.os) := fun d os' => Calls.regrown_of (by have hb := g1.trans ((below_regrown w0 d os').mono g1.size); have h := HEL.out _ hb (classes_up HT1.out hb); rw [HZ.out] at h; exact h)
        have cX : ∀ d os', Calls Tryd.prog 103 #[.agg #[.string x.name_, .slice l.A1 l.n1 l.c1, .slice l.A2 l.n2 l.c2, .string x.label_]] (grow (redrawn w0 d) os') (fun e w'' => e = .returned (.string x.name_) ∧ ∃ q : Regrown, w'' = grow (redrawn w0 q.d) q.os) := fun d os' => Calls.regrown_of (keyFn_any x l _)
        have cY : ∀ d os', Calls Tryd.prog 103 #[.agg #[.string y.name_, .slice l'.A1 l'.n1 l'.c1, .slice l'.A2 l'.n2 l'.c2, .string y.label_]] (grow (redrawn w0 d) os') (fun e w'' => e = .returned (.string y.name_) ∧ ∃ q : Regrown, w'' = grow (redrawn w0 q.d) q.os) := fun d os' => Calls.regrown_of (keyFn_any y l' _)
        have y0 := cell_regrown ((g1.cell (p := ⟨b, off + j * 4, none⟩) HGB.out).trans r0)
        have y1 := cell_regrown ((g1.cell (p := ⟨b, off + j * 4 + 1, none⟩) HGB.out).trans r1)
        have y2 := cell_regrown ((g1.cell (p := ⟨b, off + j * 4 + 2, none⟩) HGB.out).trans r2)
        have y3 := cell_regrown ((g1.cell (p := ⟨b, off + j * 4 + 3, none⟩) HGB.out).trans r3)
        clear hw0 g0 g1 g2 q0 q1 q2 q3 r0 r1 r2 r3
        refine wp_region_quiet_below (by kernel_rfl) (by kernel_rfl) ?_
        repeat (first | go_big_quiet_step (first | with_reducible exact cE _ _ | with_reducible exact cX _ _ | with_reducible exact cY _ _) | quiet_step (first | with_reducible exact cE _ _ | with_reducible exact cX _ _ | with_reducible exact cY _ _))
        refine wpQuiet_nil ?_
        intro w4 hw'
        obtain ⟨⟨dq, osq⟩, hw''⟩ := hw'
        have HB4 : Hid (Below W.heap.size W w4) := by show Below _ _ _; rw [hw'']; exact HW.out.trans ((HB0.out.trans ((below_regrown w0 dq osq).mono HB0.out.size)).mono HW.out.size)
        clear hw'' x0 x1 x2 x3 y0 y1 y2 y3 cE cX cY
        go_wp2_with fail
        go_ret
        exact ⟨by rw [HF.out]; rfl, HB4.out⟩
      · have HV2 := Lib.hid (UpOk.next HV.out HX.out HZ.out HY.out HRR.out)
        go_wp2_with fail
        obtain ⟨w0, hw0⟩ : ∃ w0, wr.alloc (.cells #[.string x.name_, .slice l.A1 l.n1 l.c1, .slice l.A2 l.n2 l.c2, .string x.label_] 81) = w0 := ⟨_, rfl⟩
        rw [hw0]
        obtain ⟨g0, g1, g2⟩ := HC.out w0 hw0.symm
        have HB0 := Lib.hid g1
        have x0 := cell_regrown (g0.cell 0)
        have x1 := cell_regrown (g0.cell 1)
        have x2 := cell_regrown (g0.cell 2)
        have x3 := cell_regrown (g0.cell 3)
        have cE : ∀ d os', Calls Tryd.prog 102 #[.agg #[.string x.name_, .slice l.A1 l.n1 l.c1, .slice l.A2 l.n2 l.c2, .string x.label_]] (grow (redrawn w0 d) os') (fun e w'' => e = .returned (.bool true) ∧ ∃ q : Regrown, w'' = grow (redrawn w0 q.d) q.os) := fun d os' => Calls.regrown_of (by have hb := g1.trans ((below_regrown w0 d os').mono g1.size); have h := HEL.out _ hb (classes_up HT1.out hb); rw [HZ.out] at h; exact h)
        have cX : ∀ d os', Calls Tryd.prog 103 #[.agg #[.string x.name_, .slice l.A1 l.n1 l.c1, .slice l.A2 l.n2 l.c2, .string x.label_]] (grow (redrawn w0 d) os') (fun e w'' => e = .returned (.string x.name_) ∧ ∃ q : Regrown, w'' = grow (redrawn w0 q.d) q.os) := fun d os' => Calls.regrown_of (keyFn_any x l _)
        have cY : ∀ d os', Calls Tryd.prog 103 #[.agg #[.string y.name_, .slice l'.A1 l'.n1 l'.c1, .slice l'.A2 l'.n2 l'.c2, .string y.label_]] (grow (redrawn w0 d) os') (fun e w'' => e = .returned (.string y.name_) ∧ ∃ q : Regrown, w'' = grow (redrawn w0 q.d) q.os) := fun d os' => Calls.regrown_of (keyFn_any y l' _)
        have y0 := cell_regrown ((g1.cell (p := ⟨b, off + j * 4, none⟩) HGB.out).trans r0)
        have y1 := cell_regrown ((g1.cell (p := ⟨b, off + j * 4 + 1, none⟩) HGB.out).trans r1)
        have y2 := cell_regrown ((g1.cell (p := ⟨b, off + j * 4 + 2, none⟩) HGB.out).trans r2)
        have y3 := cell_regrown ((g1.cell (p := ⟨b, off + j * 4 + 3, none⟩) HGB.out).trans r3)
        clear hw0 g0 g1 g2 q0 q1 q2 q3 r0 r1 r2 r3
        refine wp_region_quiet_below (by kernel_rfl) (by kernel_rfl) ?_
        repeat (first | go_big_quiet_step (first | with_reducible exact cE _ _ | with_reducible exact cX _ _ | with_reducible exact cY _ _) | quiet_step (first | with_reducible exact cE _ _ | with_reducible exact cX _ _ | with_reducible exact cY _ _))
        refine wpQuiet_nil ?_
        intro w4 hw'
        obtain ⟨⟨dq, osq⟩, hw''⟩ := hw'
        have HB4 : Hid (Below W.heap.size W w4) := by show Below _ _ _; rw [hw'']; exact HW.out.trans ((HB0.out.trans ((below_regrown w0 dq osq).mono HB0.out.size)).mono HW.out.size)
        clear hw'' x0 x1 x2 x3 y0 y1 y2 y3 cE cX cY
        go_wp2_with fail
        go_roundw
        case rel => exact ⟨k + 1, by omega, by go_num, HB4, HV2⟩
        case measure => simp [intOf]; omega
    · have HE : Hid (P = true) := by
        show _ = _
        rw [← HP.out]
        have hkn : k = n := by omega
        refine tt_true ⟨by rw [HN.out]; exact HLIM.out, ?_⟩
        rw [HN.out, ← hkn]
        exact HV.out
      go_wp2_with fail
      go_ret
      exact ⟨by rw [HE.out]; rfl, HW.out⟩
end Go.Proofs.YtnedihiagaepjaaDoor
