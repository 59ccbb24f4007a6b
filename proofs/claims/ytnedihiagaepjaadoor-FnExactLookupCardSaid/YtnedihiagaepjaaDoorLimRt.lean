/- Contract: isWithinLimit at RecordType. Condition: the table holds what the program's text lays. -/
import Derived.Test.YtnedihiagaepjaaDoorLim
namespace Go.Proofs.YtnedihiagaepjaaDoor
open Go Go.RowKit Go.Sort

theorem method_elemRt (v0 v1 : Value) (w : World) : (method 247 83 (.agg #[v0, v1]) "loop.example/g00873/impl.isElement").run Tryd.prog w = .ok (111, .agg #[v0, v1]) w := by kernel_rfl
theorem method_keyRt (v0 v1 : Value) (w : World) : (method 247 83 (.agg #[v0, v1]) "loop.example/g00873/impl.key").run Tryd.prog w = .ok (112, .agg #[v0, v1]) w := by kernel_rfl

set_option maxHeartbeats 4000000 in
set_option maxRecDepth 100000 in
theorem withinRt_any (A : Option Addr) (n c lim : Nat) (xs : List Rt) (W : World) (hr : RtI W W.heap.size A n xs) (hlim : lim ≤ 1000) (hT : Classes W) :
    Calls Tryd.prog 58 #[.slice A n c, .int .i64 lim] W fun e w' => e = .returned (.bool (tt (ListOk rtOk Rt.name_ lim xs))) ∧ Below W.heap.size W w' := by
  have HR := Lib.hid hr
  have hn := hr.2.1
  have HN := Lib.hid hr.1
  have HTT := Lib.hid hT
  unfold maxLen at hn
  obtain ⟨P, hP⟩ : ∃ P, tt (ListOk rtOk Rt.name_ lim xs) = P := ⟨_, rfl⟩
  have HP := Lib.hid hP
  rw [hP]
  clear hP
  by_cases hbig : lim < n
  · have HF : Hid (P = false) := by
      show _ = _
      rw [← HP.out]
      exact tt_false fun h => by have := h.1; rw [hr.1] at this; omega
    have d0 : (lim : Int) < (n : Int) := by omega
    clear hr hT
    go_enter Tryd.func58, Tryd.ntmps58
    go_wp2_with fail
    go_ret
    exact ⟨by rw [HF.out]; rfl, Below.refl _ _⟩
  have d0 : ¬ ((lim : Int) < (n : Int)) := by omega
  have HLIM : Hid (n ≤ lim) := by show _ ≤ _; omega
  clear hr hT hbig
  go_enter Tryd.func58, Tryd.ntmps58
  go_wp2_with fail
  go_loopw [13] (fun i wr => ∃ k : Nat, k ≤ n ∧ i = .int .i64 k ∧ Hid (Below W.heap.size W wr) ∧ Hid (UpOk rtOk Rt.name_ xs k)) (fun i _ => n - (intOf i).toNat)
  case atStart => exact ⟨0, Nat.zero_le _, rfl, Below.refl _ _, Lib.hid UpOk.zero⟩
  case round =>
    obtain ⟨k, hk, rfl, HW, HV⟩ := hrel
    by_cases hlt : k < n
    · have b0 : (0 : Int) ≤ (k : Int) := by omega
      have b1 : (k : Int) < (n : Int) := by omega
      obtain ⟨b, off, x, l, rfl, hg, hx, ⟨q0, q1⟩, hv⟩ := (HR.out.go HW.out).at_ hlt
      have HX := Lib.hid hx
      have HGB : Hid (b < wr.heap.size) := hg
      have HEL := Lib.hid (fun (w : World) (hb : Below wr.heap.size wr w) (hT : Classes w) => elemRt_any x l w (hv.go hb) hT)
      have HC := Lib.hid (one_newS wr 83 #[.string x.name_, .slice l.A1 l.n1 l.c1])
      have HT1 : Hid (Classes wr) := HTT.out.below HW.out (heap_pos (HTT.out.at_ 0 (by decide)))
      have hme := method_elemRt (.string x.name_) (.slice l.A1 l.n1 l.c1)
      obtain ⟨Z, hZ⟩ : ∃ z, rtOk x = z := ⟨_, rfl⟩
      have HZ := Lib.hid hZ
      clear hx hg hv hZ
      cases Z
      · have HF : Hid (P = false) := by
          show _ = _
          rw [← HP.out]
          exact tt_false (not_ok HX.out HZ.out)
        go_wp2_with fail
        obtain ⟨w0, hw0⟩ : ∃ w0, wr.alloc (.cells #[.string x.name_, .slice l.A1 l.n1 l.c1] 83) = w0 := ⟨_, rfl⟩
        rw [hw0]
        obtain ⟨g0, g1, g2⟩ := HC.out w0 hw0.symm
        have HB0 := Lib.hid g1
        have x0 := cell_regrown (g0.cell 0)
        have x1 := cell_regrown (g0.cell 1)
        have cE : ∀ d os', Calls Tryd.prog 111 #[.agg #[.string x.name_, .slice l.A1 l.n1 l.c1]] (grow (redrawn w0 d) os') (fun e w'' => e = .returned (.bool false) ∧ ∃ q : Regrown, w'' = grow (redrawn w0 q.d) q.os) := fun d os' => Calls.regrown_of (by have hb := g1.trans ((below_regrown w0 d os').mono g1.size); have h := HEL.out _ hb (classes_up HT1.out hb); rw [HZ.out] at h; exact h)
        clear hw0 g0 g1 g2 q0 q1
        refine wp_region_quiet_below (by kernel_rfl) (by kernel_rfl) ?_
        repeat (first | go_big_quiet_step (with_reducible exact cE _ _) | quiet_step (with_reducible exact cE _ _))
        refine wpQuiet_nil ?_
        intro w4 hw'
        obtain ⟨⟨dq, osq⟩, hw''⟩ := hw'
        have HB4 : Hid (Below W.heap.size W w4) := by show Below _ _ _; rw [hw'']; exact HW.out.trans ((HB0.out.trans ((below_regrown w0 dq osq).mono HB0.out.size)).mono HW.out.size)
        clear hw'' x0 x1 cE
        go_wp2_with fail
        go_ret
        exact ⟨by rw [HF.out]; rfl, HB4.out⟩
      by_cases hkp : k = 0
      · subst hkp
        have HV2 := Lib.hid (UpOk.first (nm := Rt.name_) HX.out HZ.out)
        simp only [Nat.zero_mul, Nat.add_zero] at q0 q1
        go_wp2_with fail
        obtain ⟨w0, hw0⟩ : ∃ w0, wr.alloc (.cells #[.string x.name_, .slice l.A1 l.n1 l.c1] 83) = w0 := ⟨_, rfl⟩
        rw [hw0]
        obtain ⟨g0, g1, g2⟩ := HC.out w0 hw0.symm
        have HB0 := Lib.hid g1
        have x0 := cell_regrown (g0.cell 0)
        have x1 := cell_regrown (g0.cell 1)
        have cE : ∀ d os', Calls Tryd.prog 111 #[.agg #[.string x.name_, .slice l.A1 l.n1 l.c1]] (grow (redrawn w0 d) os') (fun e w'' => e = .returned (.bool true) ∧ ∃ q : Regrown, w'' = grow (redrawn w0 q.d) q.os) := fun d os' => Calls.regrown_of (by have hb := g1.trans ((below_regrown w0 d os').mono g1.size); have h := HEL.out _ hb (classes_up HT1.out hb); rw [HZ.out] at h; exact h)
        clear hw0 g0 g1 g2 q0 q1
        refine wp_region_quiet_below (by kernel_rfl) (by kernel_rfl) ?_
        repeat (first | go_big_quiet_step (with_reducible exact cE _ _) | quiet_step (with_reducible exact cE _ _))
        refine wpQuiet_nil ?_
        intro w4 hw'
        obtain ⟨⟨dq, osq⟩, hw''⟩ := hw'
        have HB4 : Hid (Below W.heap.size W w4) := by show Below _ _ _; rw [hw'']; exact HW.out.trans ((HB0.out.trans ((below_regrown w0 dq osq).mono HB0.out.size)).mono HW.out.size)
        clear hw'' x0 x1 cE
        go_wp2_with fail
        go_roundw
        case rel => exact ⟨0 + 1, by omega, by go_num, HB4, HV2⟩
        case measure => simp [intOf]; omega
      obtain ⟨j, hj⟩ : ∃ j, k = j + 1 := ⟨k - 1, by omega⟩
      have HJ := Lib.hid hj
      have hj1 : (k : Int) - 1 = (j : Int) := by omega
      have hkp2 : (0 : Int) < (k : Int) := by omega
      have hkp3 : decide ((0 : Int) < (k : Int)) = true := by simp; omega
      have hkp4 : decide (0 < k) = true := by simp; omega
      have hkp5 : 0 < k := by omega
      have c0 : (0 : Int) ≤ (j : Int) := by omega
      have c1 : (j : Int) < (n : Int) := by omega
      obtain ⟨b', off', y, l', hA, hg', hy, ⟨r0, r1⟩, _⟩ := (HR.out.go HW.out).at_ (show j < n by omega)
      simp only [Option.some.injEq, Addr.mk.injEq, and_true] at hA
      obtain ⟨rfl, rfl⟩ := hA
      have HY : Hid (xs[k - 1]? = some y) := by show _ = _; rw [show k - 1 = j by omega]; exact hy
      have hmx := method_keyRt (.string x.name_) (.slice l.A1 l.n1 l.c1)
      have hmy := method_keyRt (.string y.name_) (.slice l'.A1 l'.n1 l'.c1)
      clear hj hkp hg' hy
      obtain ⟨R, hRR⟩ : ∃ z, Op.bytesLess y.name_.toList x.name_.toList = z := ⟨_, rfl⟩
      have HRR := Lib.hid hRR
      cases R
      · have HF : Hid (P = false) := by
          show _ = _
          rw [← HP.out]
          exact tt_false (not_up hkp5 HX.out HY.out HRR.out)
        go_wp2_with fail
        obtain ⟨w0, hw0⟩ : ∃ w0, wr.alloc (.cells #[.string x.name_, .slice l.A1 l.n1 l.c1] 83) = w0 := ⟨_, rfl⟩
        rw [hw0]
        obtain ⟨g0, g1, g2⟩ := HC.out w0 hw0.symm
        have HB0 := Lib.hid g1
        have x0 := cell_regrown (g0.cell 0)
        have x1 := cell_regrown (g0.cell 1)
        have cE : ∀ d os', Calls Tryd.prog 111 #[.agg #[.string x.name_, .slice l.A1 l.n1 l.c1]] (grow (redrawn w0 d) os') (fun e w'' => e = .returned (.bool true) ∧ ∃ q : Regrown, w'' = grow (redrawn w0 q.d) q.os) := fun d os' => Calls.regrown_of (by have hb := g1.trans ((below_regrown w0 d os').mono g1.size); have h := HEL.out _ hb (classes_up HT1.out hb); rw [HZ.out] at h; exact h)
        have cX : ∀ d os', Calls Tryd.prog 112 #[.agg #[.string x.name_, .slice l.A1 l.n1 l.c1]] (grow (redrawn w0 d) os') (fun e w'' => e = .returned (.string x.name_) ∧ ∃ q : Regrown, w'' = grow (redrawn w0 q.d) q.os) := fun d os' => Calls.regrown_of (keyRt_any x l _)
        have cY : ∀ d os', Calls Tryd.prog 112 #[.agg #[.string y.name_, .slice l'.A1 l'.n1 l'.c1]] (grow (redrawn w0 d) os') (fun e w'' => e = .returned (.string y.name_) ∧ ∃ q : Regrown, w'' = grow (redrawn w0 q.d) q.os) := fun d os' => Calls.regrown_of (keyRt_any y l' _)
        have y0 := cell_regrown ((g1.cell (p := ⟨b, off + j * 2, none⟩) HGB.out).trans r0)
        have y1 := cell_regrown ((g1.cell (p := ⟨b, off + j * 2 + 1, none⟩) HGB.out).trans r1)
        clear hw0 g0 g1 g2 q0 q1 r0 r1
        refine wp_region_quiet_below (by kernel_rfl) (by kernel_rfl) ?_
        repeat (first | go_big_quiet_step (first | with_reducible exact cE _ _ | with_reducible exact cX _ _ | with_reducible exact cY _ _) | quiet_step (first | with_reducible exact cE _ _ | with_reducible exact cX _ _ | with_reducible exact cY _ _))
        refine wpQuiet_nil ?_
        intro w4 hw'
        obtain ⟨⟨dq, osq⟩, hw''⟩ := hw'
        have HB4 : Hid (Below W.heap.size W w4) := by show Below _ _ _; rw [hw'']; exact HW.out.trans ((HB0.out.trans ((below_regrown w0 dq osq).mono HB0.out.size)).mono HW.out.size)
        clear hw'' x0 x1 y0 y1 cE cX cY
        go_wp2_with fail
        go_ret
        exact ⟨by rw [HF.out]; rfl, HB4.out⟩
      · have HV2 := Lib.hid (UpOk.next HV.out HX.out HZ.out HY.out HRR.out)
        go_wp2_with fail
        obtain ⟨w0, hw0⟩ : ∃ w0, wr.alloc (.cells #[.string x.name_, .slice l.A1 l.n1 l.c1] 83) = w0 := ⟨_, rfl⟩
        rw [hw0]
        obtain ⟨g0, g1, g2⟩ := HC.out w0 hw0.symm
        have HB0 := Lib.hid g1
        have x0 := cell_regrown (g0.cell 0)
        have x1 := cell_regrown (g0.cell 1)
        have cE : ∀ d os', Calls Tryd.prog 111 #[.agg #[.string x.name_, .slice l.A1 l.n1 l.c1]] (grow (redrawn w0 d) os') (fun e w'' => e = .returned (.bool true) ∧ ∃ q : Regrown, w'' = grow (redrawn w0 q.d) q.os) := fun d os' => Calls.regrown_of (by have hb := g1.trans ((below_regrown w0 d os').mono g1.size); have h := HEL.out _ hb (classes_up HT1.out hb); rw [HZ.out] at h; exact h)
        have cX : ∀ d os', Calls Tryd.prog 112 #[.agg #[.string x.name_, .slice l.A1 l.n1 l.c1]] (grow (redrawn w0 d) os') (fun e w'' => e = .returned (.string x.name_) ∧ ∃ q : Regrown, w'' = grow (redrawn w0 q.d) q.os) := fun d os' => Calls.regrown_of (keyRt_any x l _)
        have cY : ∀ d os', Calls Tryd.prog 112 #[.agg #[.string y.name_, .slice l'.A1 l'.n1 l'.c1]] (grow (redrawn w0 d) os') (fun e w'' => e = .returned (.string y.name_) ∧ ∃ q : Regrown, w'' = grow (redrawn w0 q.d) q.os) := fun d os' => Calls.regrown_of (keyRt_any y l' _)
        have y0 := cell_regrown ((g1.cell (p := ⟨b, off + j * 2, none⟩) HGB.out).trans r0)
        have y1 := cell_regrown ((g1.cell (p := ⟨b, off + j * 2 + 1, none⟩) HGB.out).trans r1)
        clear hw0 g0 g1 g2 q0 q1 r0 r1
        refine wp_region_quiet_below (by kernel_rfl) (by kernel_rfl) ?_
        repeat (first | go_big_quiet_step (first | with_reducible exact cE _ _ | with_reducible exact cX _ _ | with_reducible exact cY _ _) | quiet_step (first | with_reducible exact cE _ _ | with_reducible exact cX _ _ | with_reducible exact cY _ _))
        refine wpQuiet_nil ?_
        intro w4 hw'
        obtain ⟨⟨dq, osq⟩, hw''⟩ := hw'
        have HB4 : Hid (Below W.heap.size W w4) := by show Below _ _ _; rw [hw'']; exact HW.out.trans ((HB0.out.trans ((below_regrown w0 dq osq).mono HB0.out.size)).mono HW.out.size)
        clear hw'' x0 x1 y0 y1 cE cX cY
        go_wp2_with fail
        go_roundw
        case rel => exact ⟨k + 1, by omega, by go_num, HB4, HV2⟩
        case measure => simp [intOf]; omega
    · have HE : Hid (P = true) := by
        show _ = _
        rw [← HP.out]
        have hkn : k = n := by omega
        refine tt_true ⟨by rw [HN.out]; exact HLIM.out, ?_⟩
        rw [HN.out, ← hkn]
        exact HV.out
      go_wp2_with fail
      go_ret
      exact ⟨by rw [HE.out]; rfl, HW.out⟩
end Go.Proofs.YtnedihiagaepjaaDoor
