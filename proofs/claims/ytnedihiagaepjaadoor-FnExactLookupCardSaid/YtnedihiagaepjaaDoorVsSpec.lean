/- Contract: the model's ValidScope. No condition. -/
import Derived.Test.YtnedihiagaepjaaDoorVsImpl
import Derived.Test.YtnedihiagaepjaaDoorVsEl
namespace Go.Proofs.YtnedihiagaepjaaDoor
open Go Go.RowKit Go.Sort

theorem c5 (s : ByteArray) (hs : s.size ≤ maxLen) (W : World) : Calls Tryd.prog 25 #[.string s] W fun e w' => e = .returned (.bool (isNameB s)) ∧ Below W.heap.size W w' :=
  (spec_IsName_any s W hs).mono fun e w' ⟨h1, h2⟩ => ⟨h1, by rw [← h2]; exact Below.refl _ _⟩
set_option maxHeartbeats 16000000 in
set_option maxRecDepth 100000 in
theorem spec_ValidScope_any (x : Sc) (l : ScLay) (W : World) (hv : ScV W W.heap.size x l) :
    Calls Tryd.prog 24 #[x.ag l] W fun e w' => e = .returned (.bool (tt (ScOk x))) ∧ Below W.heap.size W w' := by
  obtain ⟨P, hP⟩ : ∃ P, tt (ScOk x) = P := ⟨_, rfl⟩
  rw [hP]
  obtain ⟨x0, x1, x2⟩ := x
  obtain ⟨A0, n0, c0, h0, A1, n1, c1, h1, A2, n2, c2, h2⟩ := l
  obtain ⟨k0, k1, k2⟩ := hv
  dsimp only at k0 k1 k2
  show Calls Tryd.prog 24 #[.agg #[.slice A0 n0 c0, .slice A1 n1 c1, .slice A2 n2 c2]] W _
  have HX0 := Lib.hid k0
  have HX1 := Lib.hid k1
  have HX2 := Lib.hid k2
  have hn0 := k0.2.1
  have hn1 := k1.2.1
  have hn2 := k2.2.1
  unfold maxLen at hn0 hn1 hn2
  have HC := Lib.hid (one_newS W 36 #[.slice A0 n0 c0, .slice A1 n1 c1, .slice A2 n2 c2])
  have HP := Lib.hid hP
  have HNO : Hid ((¬ ListOk bdOk Bd.name_ 40 x0 ∨ ¬ ListOk fnOk Fn.name_ 12 x1 ∨ ¬ ListOk rtOk Rt.name_ 8 x2) → P = false) := by
    show _ → _
    intro h
    rw [← HP.out]
    refine tt_false fun ⟨e0, e1, e2⟩ => ?_
    rcases h with h | h | h
    · exact h e0
    · exact h e1
    · exact h e2
  have HYES : Hid (ListOk bdOk Bd.name_ 40 x0 → ListOk fnOk Fn.name_ 12 x1 → ListOk rtOk Rt.name_ 8 x2 → P = true) := by
    show _ → _ → _ → _
    intro e0 e1 e2
    rw [← HP.out]
    exact tt_true ⟨e0, e1, e2⟩
  clear hP HP k0 k1 k2 h0 h1 h2
  by_cases hl0 : 40 < n0
  · have HF : Hid (P = false) := HNO.out (.inl fun h => by have := h.1; have := HX0.out.1; omega)
    have d0 : (40 : Int) < (n0 : Int) := by omega
    go_enter Tryd.func24, Tryd.ntmps24
    go_wp2_with fail
    go_ret
    exact ⟨by rw [HF.out]; rfl, below_alloc _ _⟩
  have d0 : ¬ ((40 : Int) < (n0 : Int)) := by omega
  by_cases hl1 : 12 < n1
  · have HF : Hid (P = false) := HNO.out (.inr (.inl fun h => by have := h.1; have := HX1.out.1; omega))
    have d0 : (12 : Int) < (n1 : Int) := by omega
    go_enter Tryd.func24, Tryd.ntmps24
    go_wp2_with fail
    go_ret
    exact ⟨by rw [HF.out]; rfl, below_alloc _ _⟩
  have d1 : ¬ ((12 : Int) < (n1 : Int)) := by omega
  by_cases hl2 : 8 < n2
  · have HF : Hid (P = false) := HNO.out (.inr (.inr fun h => by have := h.1; have := HX2.out.1; omega))
    have d0 : (8 : Int) < (n2 : Int) := by omega
    go_enter Tryd.func24, Tryd.ntmps24
    go_wp2_with fail
    go_ret
    exact ⟨by rw [HF.out]; rfl, below_alloc _ _⟩
  have d2 : ¬ ((8 : Int) < (n2 : Int)) := by omega
  go_enter Tryd.func24, Tryd.ntmps24
  go_wp2_with fail
  obtain ⟨wb, hwb⟩ : ∃ wb, W.alloc (.cells #[.slice A0 n0 c0, .slice A1 n1 c1, .slice A2 n2 c2] 36) = wb := ⟨_, rfl⟩
  rw [hwb]
  obtain ⟨g0, g1, g2⟩ := HC.out wb hwb.symm
  have HB := Lib.hid (show RW 36 wb W.heap.size #[.slice A0 n0 c0, .slice A1 n1 c1, .slice A2 n2 c2] ∧ Below W.heap.size W wb from ⟨g0, g1⟩)
  have s0 := g0.cell 0
  have s1 := g0.cell 1
  have s2 := g0.cell 2
  clear hwb g0 g1 g2 HC
  go_loopw [3] (fun i wr => ∃ k : Nat, k ≤ n0 ∧ i = .int .i64 k ∧ (wr.cell? ⟨W.heap.size, 0, none⟩ = some (.slice A0 n0 c0) ∧ wr.cell? ⟨W.heap.size, 1, none⟩ = some (.slice A1 n1 c1) ∧ wr.cell? ⟨W.heap.size, 2, none⟩ = some (.slice A2 n2 c2)) ∧ Hid (RW 36 wr W.heap.size #[.slice A0 n0 c0, .slice A1 n1 c1, .slice A2 n2 c2] ∧ Below W.heap.size W wr) ∧ Hid (UpOk bdOk Bd.name_ x0 k)) (fun i _ => n0 - (intOf i).toNat)
  case atStart => exact ⟨0, Nat.zero_le _, rfl, ⟨s0, s1, s2⟩, HB, Lib.hid UpOk.zero⟩
  case round =>
    clear s0 s1 s2 HB
    obtain ⟨k, hk, rfl, ⟨s0, s1, s2⟩, HB, HV⟩ := hrel
    by_cases hlt : k < n0
    · have b0 : (0 : Int) ≤ (k : Int) := by omega
      have b1 : (k : Int) < (n0 : Int) := by omega
      obtain ⟨b, off, x, rfl, hg, hx, ⟨q0, q1, q2, q3, q4⟩, hm0, hm3⟩ := (HX0.out.go HB.out.2).at_ hlt
      have HX := Lib.hid hx
      have HGB : Hid (b < wr.heap.size) := hg
      have HM0 := Lib.hid hm0
      have HM3 := Lib.hid hm3
      have HCX := Lib.hid (one_newS wr 63 #[.string x.name_, .int .i64 x.kind_, .int .i64 x.num_, .string x.text_, .int .i64 x.ref_])
      obtain ⟨z0, hz0⟩ : ∃ z, isNameB x.name_ = z := ⟨_, rfl⟩
      obtain ⟨z1, hz1⟩ : ∃ z, validV x.kind_ x.num_ x.text_ x.ref_ = z := ⟨_, rfl⟩
      obtain ⟨z2, hz2⟩ : ∃ z, isNullV x.kind_ x.num_ x.text_ x.ref_ = z := ⟨_, rfl⟩
      have HZ0 := Lib.hid hz0
      have HZ1 := Lib.hid hz1
      have HZ2 := Lib.hid hz2
      have HZ : Hid (bdOk x = (z0 && (z1 && !z2))) := by show bdOk x = _; unfold bdOk; rw [hz0, hz1, hz2]
      clear hx hg hm0 hm3 hz0 hz1 hz2
      cases z0
      case false =>
        have HF : Hid (P = false) := HNO.out (.inl (not_ok HX.out (by rw [HZ.out]; simp)))
        go_wp2_with fail
        obtain ⟨w0, hw0⟩ : ∃ w0, wr.alloc (.cells #[.string x.name_, .int .i64 x.kind_, .int .i64 x.num_, .string x.text_, .int .i64 x.ref_] 63) = w0 := ⟨_, rfl⟩
        rw [hw0]
        obtain ⟨g0, g1, g2⟩ := HCX.out w0 hw0.symm
        have HB0 : Hid (RW 36 w0 W.heap.size #[.slice (some ⟨b, off, none⟩) n0 c0, .slice A1 n1 c1, .slice A2 n2 c2] ∧ Below W.heap.size W w0) := ⟨HB.out.1.below g1 HB.out.1.lt, HB.out.2.trans (g1.mono HB.out.2.size)⟩
        have x0 := cell_regrown (g0.cell 0)
        have x1 := cell_regrown (g0.cell 1)
        have x2 := cell_regrown (g0.cell 2)
        have x3 := cell_regrown (g0.cell 3)
        have x4 := cell_regrown (g0.cell 4)
        have xs0 := cell_regrown (HB0.out.1.cell 0)
        have cA : ∀ d os', Calls Tryd.prog 25 #[.string x.name_] (grow (redrawn w0 d) os') (fun e w'' => e = .returned (.bool false) ∧ ∃ q : Regrown, w'' = grow (redrawn w0 q.d) q.os) := fun d os' => by have h := Calls.regrown_of (w := w0) (d := d) (os := os') (c5 x.name_ HM0.out _); rw [HZ0.out] at h; exact h
        clear hw0 g0 g1 g2 q0 q1 q2 q3 q4 s0 s1 s2
        refine wp_region_quiet_below (by kernel_rfl) (by kernel_rfl) ?_
        repeat (first | go_big_quiet_step (with_reducible exact cA _ _) | quiet_step (with_reducible exact cA _ _))
        refine wpQuiet_nil ?_
        intro w4 hw'
        obtain ⟨⟨dq, osq⟩, hw''⟩ := hw'
        have HB4 : Hid (RW 36 w4 W.heap.size #[.slice (some ⟨b, off, none⟩) n0 c0, .slice A1 n1 c1, .slice A2 n2 c2] ∧ Below W.heap.size W w4) := by show _ ∧ _; rw [hw'']; exact ⟨HB0.out.1.below (below_regrown w0 dq osq) HB0.out.1.lt, HB0.out.2.trans ((below_regrown w0 dq osq).mono HB0.out.2.size)⟩
        clear hw'' x0 x1 x2 x3 x4 xs0 cA
        go_wp2_with fail
        go_ret
        exact ⟨by rw [HF.out]; rfl, HB4.out.2⟩
      cases z1
      case false =>
        have HF : Hid (P = false) := HNO.out (.inl (not_ok HX.out (by rw [HZ.out]; simp)))
        go_wp2_with fail
        obtain ⟨w0, hw0⟩ : ∃ w0, wr.alloc (.cells #[.string x.name_, .int .i64 x.kind_, .int .i64 x.num_, .string x.text_, .int .i64 x.ref_] 63) = w0 := ⟨_, rfl⟩
        rw [hw0]
        obtain ⟨g0, g1, g2⟩ := HCX.out w0 hw0.symm
        have HB0 : Hid (RW 36 w0 W.heap.size #[.slice (some ⟨b, off, none⟩) n0 c0, .slice A1 n1 c1, .slice A2 n2 c2] ∧ Below W.heap.size W w0) := ⟨HB.out.1.below g1 HB.out.1.lt, HB.out.2.trans (g1.mono HB.out.2.size)⟩
        have x0 := cell_regrown (g0.cell 0)
        have x1 := cell_regrown (g0.cell 1)
        have x2 := cell_regrown (g0.cell 2)
        have x3 := cell_regrown (g0.cell 3)
        have x4 := cell_regrown (g0.cell 4)
        have xs0 := cell_regrown (HB0.out.1.cell 0)
        have cA : ∀ d os', Calls Tryd.prog 25 #[.string x.name_] (grow (redrawn w0 d) os') (fun e w'' => e = .returned (.bool true) ∧ ∃ q : Regrown, w'' = grow (redrawn w0 q.d) q.os) := fun d os' => by have h := Calls.regrown_of (w := w0) (d := d) (os := os') (c5 x.name_ HM0.out _); rw [HZ0.out] at h; exact h
        have cB : ∀ d os', Calls Tryd.prog 44 #[.agg #[.int .i64 x.kind_, .int .i64 x.num_, .string x.text_, .int .i64 x.ref_]] (grow (redrawn w0 d) os') (fun e w'' => e = .returned (.bool false) ∧ ∃ q : Regrown, w'' = grow (redrawn w0 q.d) q.os) := fun d os' => by have h := Calls.regrown_of (w := w0) (d := d) (os := os') (spec_ValidValue_any x.kind_ x.num_ x.text_ x.ref_ _ HM3.out); rw [HZ1.out] at h; exact h
        clear hw0 g0 g1 g2 q0 q1 q2 q3 q4 s0 s1 s2
        refine wp_region_quiet_below (by kernel_rfl) (by kernel_rfl) ?_
        repeat (first | go_big_quiet_step (first | with_reducible exact cA _ _ | with_reducible exact cB _ _) | quiet_step (first | with_reducible exact cA _ _ | with_reducible exact cB _ _))
        refine wpQuiet_nil ?_
        intro w4 hw'
        obtain ⟨⟨dq, osq⟩, hw''⟩ := hw'
        have HB4 : Hid (RW 36 w4 W.heap.size #[.slice (some ⟨b, off, none⟩) n0 c0, .slice A1 n1 c1, .slice A2 n2 c2] ∧ Below W.heap.size W w4) := by show _ ∧ _; rw [hw'']; exact ⟨HB0.out.1.below (below_regrown w0 dq osq) HB0.out.1.lt, HB0.out.2.trans ((below_regrown w0 dq osq).mono HB0.out.2.size)⟩
        clear hw'' x0 x1 x2 x3 x4 xs0 cA cB
        go_wp2_with fail
        go_ret
        exact ⟨by rw [HF.out]; rfl, HB4.out.2⟩
      cases z2
      case true =>
        have HF : Hid (P = false) := HNO.out (.inl (not_ok HX.out (by rw [HZ.out]; simp)))
        go_wp2_with fail
        obtain ⟨w0, hw0⟩ : ∃ w0, wr.alloc (.cells #[.string x.name_, .int .i64 x.kind_, .int .i64 x.num_, .string x.text_, .int .i64 x.ref_] 63) = w0 := ⟨_, rfl⟩
        rw [hw0]
        obtain ⟨g0, g1, g2⟩ := HCX.out w0 hw0.symm
        have HB0 : Hid (RW 36 w0 W.heap.size #[.slice (some ⟨b, off, none⟩) n0 c0, .slice A1 n1 c1, .slice A2 n2 c2] ∧ Below W.heap.size W w0) := ⟨HB.out.1.below g1 HB.out.1.lt, HB.out.2.trans (g1.mono HB.out.2.size)⟩
        have x0 := cell_regrown (g0.cell 0)
        have x1 := cell_regrown (g0.cell 1)
        have x2 := cell_regrown (g0.cell 2)
        have x3 := cell_regrown (g0.cell 3)
        have x4 := cell_regrown (g0.cell 4)
        have xs0 := cell_regrown (HB0.out.1.cell 0)
        have cA : ∀ d os', Calls Tryd.prog 25 #[.string x.name_] (grow (redrawn w0 d) os') (fun e w'' => e = .returned (.bool true) ∧ ∃ q : Regrown, w'' = grow (redrawn w0 q.d) q.os) := fun d os' => by have h := Calls.regrown_of (w := w0) (d := d) (os := os') (c5 x.name_ HM0.out _); rw [HZ0.out] at h; exact h
        have cB : ∀ d os', Calls Tryd.prog 44 #[.agg #[.int .i64 x.kind_, .int .i64 x.num_, .string x.text_, .int .i64 x.ref_]] (grow (redrawn w0 d) os') (fun e w'' => e = .returned (.bool true) ∧ ∃ q : Regrown, w'' = grow (redrawn w0 q.d) q.os) := fun d os' => by have h := Calls.regrown_of (w := w0) (d := d) (os := os') (spec_ValidValue_any x.kind_ x.num_ x.text_ x.ref_ _ HM3.out); rw [HZ1.out] at h; exact h
        have cC : ∀ d os', Calls Tryd.prog 45 #[.agg #[.int .i64 x.kind_, .int .i64 x.num_, .string x.text_, .int .i64 x.ref_]] (grow (redrawn w0 d) os') (fun e w'' => e = .returned (.bool true) ∧ ∃ q : Regrown, w'' = grow (redrawn w0 q.d) q.os) := fun d os' => by have h := Calls.regrown_of (w := w0) (d := d) (os := os') (spec_IsNull_any x.kind_ x.num_ x.text_ x.ref_ _); rw [HZ2.out] at h; exact h
        clear hw0 g0 g1 g2 q0 q1 q2 q3 q4 s0 s1 s2
        refine wp_region_quiet_below (by kernel_rfl) (by kernel_rfl) ?_
        repeat (first | go_big_quiet_step (first | with_reducible exact cA _ _ | with_reducible exact cB _ _ | with_reducible exact cC _ _) | quiet_step (first | with_reducible exact cA _ _ | with_reducible exact cB _ _ | with_reducible exact cC _ _))
        refine wpQuiet_nil ?_
        intro w4 hw'
        obtain ⟨⟨dq, osq⟩, hw''⟩ := hw'
        have HB4 : Hid (RW 36 w4 W.heap.size #[.slice (some ⟨b, off, none⟩) n0 c0, .slice A1 n1 c1, .slice A2 n2 c2] ∧ Below W.heap.size W w4) := by show _ ∧ _; rw [hw'']; exact ⟨HB0.out.1.below (below_regrown w0 dq osq) HB0.out.1.lt, HB0.out.2.trans ((below_regrown w0 dq osq).mono HB0.out.2.size)⟩
        clear hw'' x0 x1 x2 x3 x4 xs0 cA cB cC
        go_wp2_with fail
        go_ret
        exact ⟨by rw [HF.out]; rfl, HB4.out.2⟩
      have HOK : Hid (bdOk x = true) := by show _ = _; rw [HZ.out]; rfl
      by_cases hkp : k = 0
      · subst hkp
        have HV2 := Lib.hid (UpOk.first (nm := Bd.name_) HX.out HOK.out)
        simp only [Nat.zero_mul, Nat.add_zero] at q0 q1 q2 q3 q4
        go_wp2_with fail
        obtain ⟨w0, hw0⟩ : ∃ w0, wr.alloc (.cells #[.string x.name_, .int .i64 x.kind_, .int .i64 x.num_, .string x.text_, .int .i64 x.ref_] 63) = w0 := ⟨_, rfl⟩
        rw [hw0]
        obtain ⟨g0, g1, g2⟩ := HCX.out w0 hw0.symm
        have HB0 : Hid (RW 36 w0 W.heap.size #[.slice (some ⟨b, off, none⟩) n0 c0, .slice A1 n1 c1, .slice A2 n2 c2] ∧ Below W.heap.size W w0) := ⟨HB.out.1.below g1 HB.out.1.lt, HB.out.2.trans (g1.mono HB.out.2.size)⟩
        have x0 := cell_regrown (g0.cell 0)
        have x1 := cell_regrown (g0.cell 1)
        have x2 := cell_regrown (g0.cell 2)
        have x3 := cell_regrown (g0.cell 3)
        have x4 := cell_regrown (g0.cell 4)
        have xs0 := cell_regrown (HB0.out.1.cell 0)
        have cA : ∀ d os', Calls Tryd.prog 25 #[.string x.name_] (grow (redrawn w0 d) os') (fun e w'' => e = .returned (.bool true) ∧ ∃ q : Regrown, w'' = grow (redrawn w0 q.d) q.os) := fun d os' => by have h := Calls.regrown_of (w := w0) (d := d) (os := os') (c5 x.name_ HM0.out _); rw [HZ0.out] at h; exact h
        have cB : ∀ d os', Calls Tryd.prog 44 #[.agg #[.int .i64 x.kind_, .int .i64 x.num_, .string x.text_, .int .i64 x.ref_]] (grow (redrawn w0 d) os') (fun e w'' => e = .returned (.bool true) ∧ ∃ q : Regrown, w'' = grow (redrawn w0 q.d) q.os) := fun d os' => by have h := Calls.regrown_of (w := w0) (d := d) (os := os') (spec_ValidValue_any x.kind_ x.num_ x.text_ x.ref_ _ HM3.out); rw [HZ1.out] at h; exact h
        have cC : ∀ d os', Calls Tryd.prog 45 #[.agg #[.int .i64 x.kind_, .int .i64 x.num_, .string x.text_, .int .i64 x.ref_]] (grow (redrawn w0 d) os') (fun e w'' => e = .returned (.bool false) ∧ ∃ q : Regrown, w'' = grow (redrawn w0 q.d) q.os) := fun d os' => by have h := Calls.regrown_of (w := w0) (d := d) (os := os') (spec_IsNull_any x.kind_ x.num_ x.text_ x.ref_ _); rw [HZ2.out] at h; exact h
        clear hw0 g0 g1 g2 q0 q1 q2 q3 q4 s0 s1 s2
        refine wp_region_quiet_below (by kernel_rfl) (by kernel_rfl) ?_
        repeat (first | go_big_quiet_step (first | with_reducible exact cA _ _ | with_reducible exact cB _ _ | with_reducible exact cC _ _) | quiet_step (first | with_reducible exact cA _ _ | with_reducible exact cB _ _ | with_reducible exact cC _ _))
        refine wpQuiet_nil ?_
        intro w4 hw'
        obtain ⟨⟨dq, osq⟩, hw''⟩ := hw'
        have HB4 : Hid (RW 36 w4 W.heap.size #[.slice (some ⟨b, off, none⟩) n0 c0, .slice A1 n1 c1, .slice A2 n2 c2] ∧ Below W.heap.size W w4) := by show _ ∧ _; rw [hw'']; exact ⟨HB0.out.1.below (below_regrown w0 dq osq) HB0.out.1.lt, HB0.out.2.trans ((below_regrown w0 dq osq).mono HB0.out.2.size)⟩
        clear hw'' x0 x1 x2 x3 x4 xs0 cA cB cC
        go_wp2_with fail
        go_roundw
        case rel => exact ⟨0 + 1, by omega, by go_num, ⟨HB4.out.1.cell 0, HB4.out.1.cell 1, HB4.out.1.cell 2⟩, HB4, HV2⟩
        case measure => simp [intOf]; omega
      obtain ⟨j, hj⟩ : ∃ j, k = j + 1 := ⟨k - 1, by omega⟩
      have hj1 : (k : Int) - 1 = (j : Int) := by omega
      have hkp2 : (0 : Int) < (k : Int) := by omega
      have hkp3 : decide ((0 : Int) < (k : Int)) = true := by simp; omega
      have hkp4 : decide (0 < k) = true := by simp; omega
      have hkp5 : 0 < k := by omega
      have e0 : (0 : Int) ≤ (j : Int) := by omega
      have e1 : (j : Int) < (n0 : Int) := by omega
      obtain ⟨b', off', y, hA, hg', hy, ⟨r0, r1, r2, r3, r4⟩, _⟩ := (HX0.out.go HB.out.2).at_ (show j < n0 by omega)
      simp only [Option.some.injEq, Addr.mk.injEq, and_true] at hA
      obtain ⟨rfl, rfl⟩ := hA
      have HY : Hid (x0[k - 1]? = some y) := by show _ = _; rw [show k - 1 = j by omega]; exact hy
      clear hj hkp hg' hy
      obtain ⟨R, hRR⟩ : ∃ z, Op.bytesLess y.name_.toList x.name_.toList = z := ⟨_, rfl⟩
      have HRR := Lib.hid hRR
      cases R
      · have HF : Hid (P = false) := HNO.out (.inl (not_up hkp5 HX.out HY.out HRR.out))
        go_wp2_with fail
        obtain ⟨w0, hw0⟩ : ∃ w0, wr.alloc (.cells #[.string x.name_, .int .i64 x.kind_, .int .i64 x.num_, .string x.text_, .int .i64 x.ref_] 63) = w0 := ⟨_, rfl⟩
        rw [hw0]
        obtain ⟨g0, g1, g2⟩ := HCX.out w0 hw0.symm
        have HB0 : Hid (RW 36 w0 W.heap.size #[.slice (some ⟨b, off, none⟩) n0 c0, .slice A1 n1 c1, .slice A2 n2 c2] ∧ Below W.heap.size W w0) := ⟨HB.out.1.below g1 HB.out.1.lt, HB.out.2.trans (g1.mono HB.out.2.size)⟩
        have x0 := cell_regrown (g0.cell 0)
        have x1 := cell_regrown (g0.cell 1)
        have x2 := cell_regrown (g0.cell 2)
        have x3 := cell_regrown (g0.cell 3)
        have x4 := cell_regrown (g0.cell 4)
        have xs0 := cell_regrown (HB0.out.1.cell 0)
        have y0 := cell_regrown ((g1.cell (p := ⟨b, off + j * 5, none⟩) HGB.out).trans r0)
        have y1 := cell_regrown ((g1.cell (p := ⟨b, off + j * 5 + 1, none⟩) HGB.out).trans r1)
        have y2 := cell_regrown ((g1.cell (p := ⟨b, off + j * 5 + 2, none⟩) HGB.out).trans r2)
        have y3 := cell_regrown ((g1.cell (p := ⟨b, off + j * 5 + 3, none⟩) HGB.out).trans r3)
        have y4 := cell_regrown ((g1.cell (p := ⟨b, off + j * 5 + 4, none⟩) HGB.out).trans r4)
        have cA : ∀ d os', Calls Tryd.prog 25 #[.string x.name_] (grow (redrawn w0 d) os') (fun e w'' => e = .returned (.bool true) ∧ ∃ q : Regrown, w'' = grow (redrawn w0 q.d) q.os) := fun d os' => by have h := Calls.regrown_of (w := w0) (d := d) (os := os') (c5 x.name_ HM0.out _); rw [HZ0.out] at h; exact h
        have cB : ∀ d os', Calls Tryd.prog 44 #[.agg #[.int .i64 x.kind_, .int .i64 x.num_, .string x.text_, .int .i64 x.ref_]] (grow (redrawn w0 d) os') (fun e w'' => e = .returned (.bool true) ∧ ∃ q : Regrown, w'' = grow (redrawn w0 q.d) q.os) := fun d os' => by have h := Calls.regrown_of (w := w0) (d := d) (os := os') (spec_ValidValue_any x.kind_ x.num_ x.text_ x.ref_ _ HM3.out); rw [HZ1.out] at h; exact h
        have cC : ∀ d os', Calls Tryd.prog 45 #[.agg #[.int .i64 x.kind_, .int .i64 x.num_, .string x.text_, .int .i64 x.ref_]] (grow (redrawn w0 d) os') (fun e w'' => e = .returned (.bool false) ∧ ∃ q : Regrown, w'' = grow (redrawn w0 q.d) q.os) := fun d os' => by have h := Calls.regrown_of (w := w0) (d := d) (os := os') (spec_IsNull_any x.kind_ x.num_ x.text_ x.ref_ _); rw [HZ2.out] at h; exact h
        clear hw0 g0 g1 g2 q0 q1 q2 q3 q4 r0 r1 r2 r3 r4 s0 s1 s2
        refine wp_region_quiet_below (by kernel_rfl) (by kernel_rfl) ?_
        repeat (first | go_big_quiet_step (first | with_reducible exact cA _ _ | with_reducible exact cB _ _ | with_reducible exact cC _ _) | quiet_step (first | with_reducible exact cA _ _ | with_reducible exact cB _ _ | with_reducible exact cC _ _))
        refine wpQuiet_nil ?_
        intro w4 hw'
        obtain ⟨⟨dq, osq⟩, hw''⟩ := hw'
        have HB4 : Hid (RW 36 w4 W.heap.size #[.slice (some ⟨b, off, none⟩) n0 c0, .slice A1 n1 c1, .slice A2 n2 c2] ∧ Below W.heap.size W w4) := by show _ ∧ _; rw [hw'']; exact ⟨HB0.out.1.below (below_regrown w0 dq osq) HB0.out.1.lt, HB0.out.2.trans ((below_regrown w0 dq osq).mono HB0.out.2.size)⟩
        clear hw'' x0 x1 x2 x3 x4 xs0 y0 y1 y2 y3 y4 cA cB cC
        go_wp2_with fail
        go_ret
        exact ⟨by rw [HF.out]; rfl, HB4.out.2⟩
      · have HV2 := Lib.hid (UpOk.next HV.out HX.out HOK.out HY.out HRR.out)
        go_wp2_with fail
        obtain ⟨w0, hw0⟩ : ∃ w0, wr.alloc (.cells #[.string x.name_, .int .i64 x.kind_, .int .i64 x.num_, .string x.text_, .int .i64 x.ref_] 63) = w0 := ⟨_, rfl⟩
        rw [hw0]
        obtain ⟨g0, g1, g2⟩ := HCX.out w0 hw0.symm
        have HB0 : Hid (RW 36 w0 W.heap.size #[.slice (some ⟨b, off, none⟩) n0 c0, .slice A1 n1 c1, .slice A2 n2 c2] ∧ Below W.heap.size W w0) := ⟨HB.out.1.below g1 HB.out.1.lt, HB.out.2.trans (g1.mono HB.out.2.size)⟩
        have x0 := cell_regrown (g0.cell 0)
        have x1 := cell_regrown (g0.cell 1)
        have x2 := cell_regrown (g0.cell 2)
        have x3 := cell_regrown (g0.cell 3)
        have x4 := cell_regrown (g0.cell 4)
        have xs0 := cell_regrown (HB0.out.1.cell 0)
        have y0 := cell_regrown ((g1.cell (p := ⟨b, off + j * 5, none⟩) HGB.out).trans r0)
        have y1 := cell_regrown ((g1.cell (p := ⟨b, off + j * 5 + 1, none⟩) HGB.out).trans r1)
        have y2 := cell_regrown ((g1.cell (p := ⟨b, off + j * 5 + 2, none⟩) HGB.out).trans r2)
        have y3 := cell_regrown ((g1.cell (p := ⟨b, off + j * 5 + 3, none⟩) HGB.out).trans r3)
        have y4 := cell_regrown ((g1.cell (p := ⟨b, off + j * 5 + 4, none⟩) HGB.out).trans r4)
        have cA : ∀ d os', Calls Tryd.prog 25 #[.string x.name_] (grow (redrawn w0 d) os') (fun e w'' => e = .returned (.bool true) ∧ ∃ q : Regrown, w'' = grow (redrawn w0 q.d) q.os) := fun d os' => by have h := Calls.regrown_of (w := w0) (d := d) (os := os') (c5 x.name_ HM0.out _); rw [HZ0.out] at h; exact h
        have cB : ∀ d os', Calls Tryd.prog 44 #[.agg #[.int .i64 x.kind_, .int .i64 x.num_, .string x.text_, .int .i64 x.ref_]] (grow (redrawn w0 d) os') (fun e w'' => e = .returned (.bool true) ∧ ∃ q : Regrown, w'' = grow (redrawn w0 q.d) q.os) := fun d os' => by have h := Calls.regrown_of (w := w0) (d := d) (os := os') (spec_ValidValue_any x.kind_ x.num_ x.text_ x.ref_ _ HM3.out); rw [HZ1.out] at h; exact h
        have cC : ∀ d os', Calls Tryd.prog 45 #[.agg #[.int .i64 x.kind_, .int .i64 x.num_, .string x.text_, .int .i64 x.ref_]] (grow (redrawn w0 d) os') (fun e w'' => e = .returned (.bool false) ∧ ∃ q : Regrown, w'' = grow (redrawn w0 q.d) q.os) := fun d os' => by have h := Calls.regrown_of (w := w0) (d := d) (os := os') (spec_IsNull_any x.kind_ x.num_ x.text_ x.ref_ _); rw [HZ2.out] at h; exact h
        clear hw0 g0 g1 g2 q0 q1 q2 q3 q4 r0 r1 r2 r3 r4 s0 s1 s2
        refine wp_region_quiet_below (by kernel_rfl) (by kernel_rfl) ?_
        repeat (first | go_big_quiet_step (first | with_reducible exact cA _ _ | with_reducible exact cB _ _ | with_reducible exact cC _ _) | quiet_step (first | with_reducible exact cA _ _ | with_reducible exact cB _ _ | with_reducible exact cC _ _))
        refine wpQuiet_nil ?_
        intro w4 hw'
        obtain ⟨⟨dq, osq⟩, hw''⟩ := hw'
        have HB4 : Hid (RW 36 w4 W.heap.size #[.slice (some ⟨b, off, none⟩) n0 c0, .slice A1 n1 c1, .slice A2 n2 c2] ∧ Below W.heap.size W w4) := by show _ ∧ _; rw [hw'']; exact ⟨HB0.out.1.below (below_regrown w0 dq osq) HB0.out.1.lt, HB0.out.2.trans ((below_regrown w0 dq osq).mono HB0.out.2.size)⟩
        clear hw'' x0 x1 x2 x3 x4 xs0 y0 y1 y2 y3 y4 cA cB cC
        go_wp2_with fail
        go_roundw
        case rel => exact ⟨k + 1, by omega, by go_num, ⟨HB4.out.1.cell 0, HB4.out.1.cell 1, HB4.out.1.cell 2⟩, HB4, HV2⟩
        case measure => simp [intOf]; omega
    · have hkn : k = n0 := by omega
      have HL0 : Hid (ListOk bdOk Bd.name_ 40 x0) := by
        refine ⟨by have := HX0.out.1; omega, ?_⟩
        rw [HX0.out.1, ← hkn]
        exact HV.out
      have hnk : ¬ (k : Int) < (n0 : Int) := by omega
      clear HV hkn
      go_wp2_with fail
      go_loopw [5] (fun i wr => ∃ k : Nat, k ≤ n1 ∧ i = .int .i64 k ∧ (wr.cell? ⟨W.heap.size, 0, none⟩ = some (.slice A0 n0 c0) ∧ wr.cell? ⟨W.heap.size, 1, none⟩ = some (.slice A1 n1 c1) ∧ wr.cell? ⟨W.heap.size, 2, none⟩ = some (.slice A2 n2 c2)) ∧ Hid (RW 36 wr W.heap.size #[.slice A0 n0 c0, .slice A1 n1 c1, .slice A2 n2 c2] ∧ Below W.heap.size W wr) ∧ Hid (UpOk fnOk Fn.name_ x1 k)) (fun i _ => n1 - (intOf i).toNat)
      case atStart => exact ⟨0, Nat.zero_le _, rfl, ⟨s0, s1, s2⟩, HB, Lib.hid UpOk.zero⟩
      case round =>
        clear s0 s1 s2 HB
        obtain ⟨k, hk, rfl, ⟨s0, s1, s2⟩, HB, HV⟩ := hrel
        by_cases hlt : k < n1
        · have b0 : (0 : Int) ≤ (k : Int) := by omega
          have b1 : (k : Int) < (n1 : Int) := by omega
          obtain ⟨b, off, x, l, rfl, hg, hx, ⟨q0, q1, q2, q3⟩, hv⟩ := (HX1.out.go HB.out.2).at_ hlt
          have HX := Lib.hid hx
          have HGB : Hid (b < wr.heap.size) := hg
          have HEL := Lib.hid (fun (w : World) (hb : Below wr.heap.size wr w) => l18Function_any x l w (hv.go hb))
          obtain ⟨z0, hz0⟩ : ∃ z, fnOk x = z := ⟨_, rfl⟩
          have HZ := Lib.hid hz0
          clear hx hg hv hz0
          cases z0
          case false =>
            have HF : Hid (P = false) := HNO.out (.inr (.inl (not_ok HX.out HZ.out)))
            go_wp2_with fail
            obtain ⟨w0, hw0⟩ : ∃ w0, wr = w0 := ⟨_, rfl⟩
            have g1 : Below wr.heap.size wr w0 := by rw [← hw0]; exact Below.refl _ _
            have HB0 : Hid (RW 36 w0 W.heap.size #[.slice A0 n0 c0, .slice (some ⟨b, off, none⟩) n1 c1, .slice A2 n2 c2] ∧ Below W.heap.size W w0) := ⟨HB.out.1.below g1 HB.out.1.lt, HB.out.2.trans (g1.mono HB.out.2.size)⟩
            have x0 := cell_regrown ((g1.cell (p := ⟨b, off + k * 4, none⟩) HGB.out).trans q0)
            have x1 := cell_regrown ((g1.cell (p := ⟨b, off + k * 4 + 1, none⟩) HGB.out).trans q1)
            have x2 := cell_regrown ((g1.cell (p := ⟨b, off + k * 4 + 2, none⟩) HGB.out).trans q2)
            have x3 := cell_regrown ((g1.cell (p := ⟨b, off + k * 4 + 3, none⟩) HGB.out).trans q3)
            rw [hw0]
            have xs1 := cell_regrown (HB0.out.1.cell 1)
            have cA : ∀ d os', Calls Tryd.prog 46 #[.agg #[.string x.name_, .slice l.A1 l.n1 l.c1, .slice l.A2 l.n2 l.c2, .string x.label_]] (grow (redrawn w0 d) os') (fun e w'' => e = .returned (.bool false) ∧ ∃ q : Regrown, w'' = grow (redrawn w0 q.d) q.os) := fun d os' => Calls.regrown_of (by have hb := g1.trans ((below_regrown w0 d os').mono g1.size); have h := HEL.out _ hb; rw [HZ.out] at h; exact h)
            clear hw0 g1 q0 q1 q2 q3 s0 s1 s2
            refine wp_region_quiet_below (by kernel_rfl) (by kernel_rfl) ?_
            repeat (first | go_big_quiet_step (with_reducible exact cA _ _) | quiet_step (with_reducible exact cA _ _))
            refine wpQuiet_nil ?_
            intro w4 hw'
            obtain ⟨⟨dq, osq⟩, hw''⟩ := hw'
            have HB4 : Hid (RW 36 w4 W.heap.size #[.slice A0 n0 c0, .slice (some ⟨b, off, none⟩) n1 c1, .slice A2 n2 c2] ∧ Below W.heap.size W w4) := by show _ ∧ _; rw [hw'']; exact ⟨HB0.out.1.below (below_regrown w0 dq osq) HB0.out.1.lt, HB0.out.2.trans ((below_regrown w0 dq osq).mono HB0.out.2.size)⟩
            clear hw'' x0 x1 x2 x3 xs1 cA
            go_wp2_with fail
            go_ret
            exact ⟨by rw [HF.out]; rfl, HB4.out.2⟩
          have HOK : Hid (fnOk x = true) := HZ.out
          by_cases hkp : k = 0
          · subst hkp
            have HV2 := Lib.hid (UpOk.first (nm := Fn.name_) HX.out HOK.out)
            simp only [Nat.zero_mul, Nat.add_zero] at q0 q1 q2 q3
            go_wp2_with fail
            obtain ⟨w0, hw0⟩ : ∃ w0, wr = w0 := ⟨_, rfl⟩
            have g1 : Below wr.heap.size wr w0 := by rw [← hw0]; exact Below.refl _ _
            have HB0 : Hid (RW 36 w0 W.heap.size #[.slice A0 n0 c0, .slice (some ⟨b, off, none⟩) n1 c1, .slice A2 n2 c2] ∧ Below W.heap.size W w0) := ⟨HB.out.1.below g1 HB.out.1.lt, HB.out.2.trans (g1.mono HB.out.2.size)⟩
            have x0 := cell_regrown ((g1.cell (p := ⟨b, off, none⟩) HGB.out).trans q0)
            have x1 := cell_regrown ((g1.cell (p := ⟨b, off + 1, none⟩) HGB.out).trans q1)
            have x2 := cell_regrown ((g1.cell (p := ⟨b, off + 2, none⟩) HGB.out).trans q2)
            have x3 := cell_regrown ((g1.cell (p := ⟨b, off + 3, none⟩) HGB.out).trans q3)
            rw [hw0]
            have xs1 := cell_regrown (HB0.out.1.cell 1)
            have cA : ∀ d os', Calls Tryd.prog 46 #[.agg #[.string x.name_, .slice l.A1 l.n1 l.c1, .slice l.A2 l.n2 l.c2, .string x.label_]] (grow (redrawn w0 d) os') (fun e w'' => e = .returned (.bool true) ∧ ∃ q : Regrown, w'' = grow (redrawn w0 q.d) q.os) := fun d os' => Calls.regrown_of (by have hb := g1.trans ((below_regrown w0 d os').mono g1.size); have h := HEL.out _ hb; rw [HZ.out] at h; exact h)
            clear hw0 g1 q0 q1 q2 q3 s0 s1 s2
            refine wp_region_quiet_below (by kernel_rfl) (by kernel_rfl) ?_
            repeat (first | go_big_quiet_step (with_reducible exact cA _ _) | quiet_step (with_reducible exact cA _ _))
            refine wpQuiet_nil ?_
            intro w4 hw'
            obtain ⟨⟨dq, osq⟩, hw''⟩ := hw'
            have HB4 : Hid (RW 36 w4 W.heap.size #[.slice A0 n0 c0, .slice (some ⟨b, off, none⟩) n1 c1, .slice A2 n2 c2] ∧ Below W.heap.size W w4) := by show _ ∧ _; rw [hw'']; exact ⟨HB0.out.1.below (below_regrown w0 dq osq) HB0.out.1.lt, HB0.out.2.trans ((below_regrown w0 dq osq).mono HB0.out.2.size)⟩
            clear hw'' x0 x1 x2 x3 xs1 cA
            go_wp2_with fail
            go_roundw
            case rel => exact ⟨0 + 1, by omega, by go_num, ⟨HB4.out.1.cell 0, HB4.out.1.cell 1, HB4.out.1.cell 2⟩, HB4, HV2⟩
            case measure => simp [intOf]; omega
          obtain ⟨j, hj⟩ : ∃ j, k = j + 1 := ⟨k - 1, by omega⟩
          have hj1 : (k : Int) - 1 = (j : Int) := by omega
          have hkp2 : (0 : Int) < (k : Int) := by omega
          have hkp3 : decide ((0 : Int) < (k : Int)) = true := by simp; omega
          have hkp4 : decide (0 < k) = true := by simp; omega
          have hkp5 : 0 < k := by omega
          have e0 : (0 : Int) ≤ (j : Int) := by omega
          have e1 : (j : Int) < (n1 : Int) := by omega
          obtain ⟨b', off', y, l', hA, hg', hy, ⟨r0, r1, r2, r3⟩, _⟩ := (HX1.out.go HB.out.2).at_ (show j < n1 by omega)
          simp only [Option.some.injEq, Addr.mk.injEq, and_true] at hA
          obtain ⟨rfl, rfl⟩ := hA
          have HY : Hid (x1[k - 1]? = some y) := by show _ = _; rw [show k - 1 = j by omega]; exact hy
          clear hj hkp hg' hy
          obtain ⟨R, hRR⟩ : ∃ z, Op.bytesLess y.name_.toList x.name_.toList = z := ⟨_, rfl⟩
          have HRR := Lib.hid hRR
          cases R
          · have HF : Hid (P = false) := HNO.out (.inr (.inl (not_up hkp5 HX.out HY.out HRR.out)))
            go_wp2_with fail
            obtain ⟨w0, hw0⟩ : ∃ w0, wr = w0 := ⟨_, rfl⟩
            have g1 : Below wr.heap.size wr w0 := by rw [← hw0]; exact Below.refl _ _
            have HB0 : Hid (RW 36 w0 W.heap.size #[.slice A0 n0 c0, .slice (some ⟨b, off, none⟩) n1 c1, .slice A2 n2 c2] ∧ Below W.heap.size W w0) := ⟨HB.out.1.below g1 HB.out.1.lt, HB.out.2.trans (g1.mono HB.out.2.size)⟩
            have x0 := cell_regrown ((g1.cell (p := ⟨b, off + k * 4, none⟩) HGB.out).trans q0)
            have x1 := cell_regrown ((g1.cell (p := ⟨b, off + k * 4 + 1, none⟩) HGB.out).trans q1)
            have x2 := cell_regrown ((g1.cell (p := ⟨b, off + k * 4 + 2, none⟩) HGB.out).trans q2)
            have x3 := cell_regrown ((g1.cell (p := ⟨b, off + k * 4 + 3, none⟩) HGB.out).trans q3)
            rw [hw0]
            have xs1 := cell_regrown (HB0.out.1.cell 1)
            have y0 := cell_regrown ((g1.cell (p := ⟨b, off + j * 4, none⟩) HGB.out).trans r0)
            have y1 := cell_regrown ((g1.cell (p := ⟨b, off + j * 4 + 1, none⟩) HGB.out).trans r1)
            have y2 := cell_regrown ((g1.cell (p := ⟨b, off + j * 4 + 2, none⟩) HGB.out).trans r2)
            have y3 := cell_regrown ((g1.cell (p := ⟨b, off + j * 4 + 3, none⟩) HGB.out).trans r3)
            have cA : ∀ d os', Calls Tryd.prog 46 #[.agg #[.string x.name_, .slice l.A1 l.n1 l.c1, .slice l.A2 l.n2 l.c2, .string x.label_]] (grow (redrawn w0 d) os') (fun e w'' => e = .returned (.bool true) ∧ ∃ q : Regrown, w'' = grow (redrawn w0 q.d) q.os) := fun d os' => Calls.regrown_of (by have hb := g1.trans ((below_regrown w0 d os').mono g1.size); have h := HEL.out _ hb; rw [HZ.out] at h; exact h)
            clear hw0 g1 q0 q1 q2 q3 r0 r1 r2 r3 s0 s1 s2
            refine wp_region_quiet_below (by kernel_rfl) (by kernel_rfl) ?_
            repeat (first | go_big_quiet_step (with_reducible exact cA _ _) | quiet_step (with_reducible exact cA _ _))
            refine wpQuiet_nil ?_
            intro w4 hw'
            obtain ⟨⟨dq, osq⟩, hw''⟩ := hw'
            have HB4 : Hid (RW 36 w4 W.heap.size #[.slice A0 n0 c0, .slice (some ⟨b, off, none⟩) n1 c1, .slice A2 n2 c2] ∧ Below W.heap.size W w4) := by show _ ∧ _; rw [hw'']; exact ⟨HB0.out.1.below (below_regrown w0 dq osq) HB0.out.1.lt, HB0.out.2.trans ((below_regrown w0 dq osq).mono HB0.out.2.size)⟩
            clear hw'' x0 x1 x2 x3 xs1 y0 y1 y2 y3 cA
            go_wp2_with fail
            go_ret
            exact ⟨by rw [HF.out]; rfl, HB4.out.2⟩
          · have HV2 := Lib.hid (UpOk.next HV.out HX.out HOK.out HY.out HRR.out)
            go_wp2_with fail
            obtain ⟨w0, hw0⟩ : ∃ w0, wr = w0 := ⟨_, rfl⟩
            have g1 : Below wr.heap.size wr w0 := by rw [← hw0]; exact Below.refl _ _
            have HB0 : Hid (RW 36 w0 W.heap.size #[.slice A0 n0 c0, .slice (some ⟨b, off, none⟩) n1 c1, .slice A2 n2 c2] ∧ Below W.heap.size W w0) := ⟨HB.out.1.below g1 HB.out.1.lt, HB.out.2.trans (g1.mono HB.out.2.size)⟩
            have x0 := cell_regrown ((g1.cell (p := ⟨b, off + k * 4, none⟩) HGB.out).trans q0)
            have x1 := cell_regrown ((g1.cell (p := ⟨b, off + k * 4 + 1, none⟩) HGB.out).trans q1)
            have x2 := cell_regrown ((g1.cell (p := ⟨b, off + k * 4 + 2, none⟩) HGB.out).trans q2)
            have x3 := cell_regrown ((g1.cell (p := ⟨b, off + k * 4 + 3, none⟩) HGB.out).trans q3)
            rw [hw0]
            have xs1 := cell_regrown (HB0.out.1.cell 1)
            have y0 := cell_regrown ((g1.cell (p := ⟨b, off + j * 4, none⟩) HGB.out).trans r0)
            have y1 := cell_regrown ((g1.cell (p := ⟨b, off + j * 4 + 1, none⟩) HGB.out).trans r1)
            have y2 := cell_regrown ((g1.cell (p := ⟨b, off + j * 4 + 2, none⟩) HGB.out).trans r2)
            have y3 := cell_regrown ((g1.cell (p := ⟨b, off + j * 4 + 3, none⟩) HGB.out).trans r3)
            have cA : ∀ d os', Calls Tryd.prog 46 #[.agg #[.string x.name_, .slice l.A1 l.n1 l.c1, .slice l.A2 l.n2 l.c2, .string x.label_]] (grow (redrawn w0 d) os') (fun e w'' => e = .returned (.bool true) ∧ ∃ q : Regrown, w'' = grow (redrawn w0 q.d) q.os) := fun d os' => Calls.regrown_of (by have hb := g1.trans ((below_regrown w0 d os').mono g1.size); have h := HEL.out _ hb; rw [HZ.out] at h; exact h)
            clear hw0 g1 q0 q1 q2 q3 r0 r1 r2 r3 s0 s1 s2
            refine wp_region_quiet_below (by kernel_rfl) (by kernel_rfl) ?_
            repeat (first | go_big_quiet_step (with_reducible exact cA _ _) | quiet_step (with_reducible exact cA _ _))
            refine wpQuiet_nil ?_
            intro w4 hw'
            obtain ⟨⟨dq, osq⟩, hw''⟩ := hw'
            have HB4 : Hid (RW 36 w4 W.heap.size #[.slice A0 n0 c0, .slice (some ⟨b, off, none⟩) n1 c1, .slice A2 n2 c2] ∧ Below W.heap.size W w4) := by show _ ∧ _; rw [hw'']; exact ⟨HB0.out.1.below (below_regrown w0 dq osq) HB0.out.1.lt, HB0.out.2.trans ((below_regrown w0 dq osq).mono HB0.out.2.size)⟩
            clear hw'' x0 x1 x2 x3 xs1 y0 y1 y2 y3 cA
            go_wp2_with fail
            go_roundw
            case rel => exact ⟨k + 1, by omega, by go_num, ⟨HB4.out.1.cell 0, HB4.out.1.cell 1, HB4.out.1.cell 2⟩, HB4, HV2⟩
            case measure => simp [intOf]; omega
        · have hkn : k = n1 := by omega
          have HL1 : Hid (ListOk fnOk Fn.name_ 12 x1) := by
            refine ⟨by have := HX1.out.1; omega, ?_⟩
            rw [HX1.out.1, ← hkn]
            exact HV.out
          have hnk : ¬ (k : Int) < (n1 : Int) := by omega
          clear HV hkn
          go_wp2_with fail
          go_loopw [6] (fun i wr => ∃ k : Nat, k ≤ n2 ∧ i = .int .i64 k ∧ (wr.cell? ⟨W.heap.size, 0, none⟩ = some (.slice A0 n0 c0) ∧ wr.cell? ⟨W.heap.size, 1, none⟩ = some (.slice A1 n1 c1) ∧ wr.cell? ⟨W.heap.size, 2, none⟩ = some (.slice A2 n2 c2)) ∧ Hid (RW 36 wr W.heap.size #[.slice A0 n0 c0, .slice A1 n1 c1, .slice A2 n2 c2] ∧ Below W.heap.size W wr) ∧ Hid (UpOk rtOk Rt.name_ x2 k)) (fun i _ => n2 - (intOf i).toNat)
          case atStart => exact ⟨0, Nat.zero_le _, rfl, ⟨s0, s1, s2⟩, HB, Lib.hid UpOk.zero⟩
          case round =>
            clear s0 s1 s2 HB
            obtain ⟨k, hk, rfl, ⟨s0, s1, s2⟩, HB, HV⟩ := hrel
            by_cases hlt : k < n2
            · have b0 : (0 : Int) ≤ (k : Int) := by omega
              have b1 : (k : Int) < (n2 : Int) := by omega
              obtain ⟨b, off, x, l, rfl, hg, hx, ⟨q0, q1⟩, hv⟩ := (HX2.out.go HB.out.2).at_ hlt
              have HX := Lib.hid hx
              have HGB : Hid (b < wr.heap.size) := hg
              have HEL := Lib.hid (fun (w : World) (hb : Below wr.heap.size wr w) => l18Type_any x l w (hv.go hb))
              obtain ⟨z0, hz0⟩ : ∃ z, rtOk x = z := ⟨_, rfl⟩
              have HZ := Lib.hid hz0
              clear hx hg hv hz0
              cases z0
              case false =>
                have HF : Hid (P = false) := HNO.out (.inr (.inr (not_ok HX.out HZ.out)))
                go_wp2_with fail
                obtain ⟨w0, hw0⟩ : ∃ w0, wr = w0 := ⟨_, rfl⟩
                have g1 : Below wr.heap.size wr w0 := by rw [← hw0]; exact Below.refl _ _
                have HB0 : Hid (RW 36 w0 W.heap.size #[.slice A0 n0 c0, .slice A1 n1 c1, .slice (some ⟨b, off, none⟩) n2 c2] ∧ Below W.heap.size W w0) := ⟨HB.out.1.below g1 HB.out.1.lt, HB.out.2.trans (g1.mono HB.out.2.size)⟩
                have x0 := cell_regrown ((g1.cell (p := ⟨b, off + k * 2, none⟩) HGB.out).trans q0)
                have x1 := cell_regrown ((g1.cell (p := ⟨b, off + k * 2 + 1, none⟩) HGB.out).trans q1)
                rw [hw0]
                have xs2 := cell_regrown (HB0.out.1.cell 2)
                have cA : ∀ d os', Calls Tryd.prog 47 #[.agg #[.string x.name_, .slice l.A1 l.n1 l.c1]] (grow (redrawn w0 d) os') (fun e w'' => e = .returned (.bool false) ∧ ∃ q : Regrown, w'' = grow (redrawn w0 q.d) q.os) := fun d os' => Calls.regrown_of (by have hb := g1.trans ((below_regrown w0 d os').mono g1.size); have h := HEL.out _ hb; rw [HZ.out] at h; exact h)
                clear hw0 g1 q0 q1 s0 s1 s2
                refine wp_region_quiet_below (by kernel_rfl) (by kernel_rfl) ?_
                repeat (first | go_big_quiet_step (with_reducible exact cA _ _) | quiet_step (with_reducible exact cA _ _))
                refine wpQuiet_nil ?_
                intro w4 hw'
                obtain ⟨⟨dq, osq⟩, hw''⟩ := hw'
                have HB4 : Hid (RW 36 w4 W.heap.size #[.slice A0 n0 c0, .slice A1 n1 c1, .slice (some ⟨b, off, none⟩) n2 c2] ∧ Below W.heap.size W w4) := by show _ ∧ _; rw [hw'']; exact ⟨HB0.out.1.below (below_regrown w0 dq osq) HB0.out.1.lt, HB0.out.2.trans ((below_regrown w0 dq osq).mono HB0.out.2.size)⟩
                clear hw'' x0 x1 xs2 cA
                go_wp2_with fail
                go_ret
                exact ⟨by rw [HF.out]; rfl, HB4.out.2⟩
              have HOK : Hid (rtOk x = true) := HZ.out
              by_cases hkp : k = 0
              · subst hkp
                have HV2 := Lib.hid (UpOk.first (nm := Rt.name_) HX.out HOK.out)
                simp only [Nat.zero_mul, Nat.add_zero] at q0 q1
                go_wp2_with fail
                obtain ⟨w0, hw0⟩ : ∃ w0, wr = w0 := ⟨_, rfl⟩
                have g1 : Below wr.heap.size wr w0 := by rw [← hw0]; exact Below.refl _ _
                have HB0 : Hid (RW 36 w0 W.heap.size #[.slice A0 n0 c0, .slice A1 n1 c1, .slice (some ⟨b, off, none⟩) n2 c2] ∧ Below W.heap.size W w0) := ⟨HB.out.1.below g1 HB.out.1.lt, HB.out.2.trans (g1.mono HB.out.2.size)⟩
                have x0 := cell_regrown ((g1.cell (p := ⟨b, off, none⟩) HGB.out).trans q0)
                have x1 := cell_regrown ((g1.cell (p := ⟨b, off + 1, none⟩) HGB.out).trans q1)
                rw [hw0]
                have xs2 := cell_regrown (HB0.out.1.cell 2)
                have cA : ∀ d os', Calls Tryd.prog 47 #[.agg #[.string x.name_, .slice l.A1 l.n1 l.c1]] (grow (redrawn w0 d) os') (fun e w'' => e = .returned (.bool true) ∧ ∃ q : Regrown, w'' = grow (redrawn w0 q.d) q.os) := fun d os' => Calls.regrown_of (by have hb := g1.trans ((below_regrown w0 d os').mono g1.size); have h := HEL.out _ hb; rw [HZ.out] at h; exact h)
                clear hw0 g1 q0 q1 s0 s1 s2
                refine wp_region_quiet_below (by kernel_rfl) (by kernel_rfl) ?_
                repeat (first | go_big_quiet_step (with_reducible exact cA _ _) | quiet_step (with_reducible exact cA _ _))
                refine wpQuiet_nil ?_
                intro w4 hw'
                obtain ⟨⟨dq, osq⟩, hw''⟩ := hw'
                have HB4 : Hid (RW 36 w4 W.heap.size #[.slice A0 n0 c0, .slice A1 n1 c1, .slice (some ⟨b, off, none⟩) n2 c2] ∧ Below W.heap.size W w4) := by show _ ∧ _; rw [hw'']; exact ⟨HB0.out.1.below (below_regrown w0 dq osq) HB0.out.1.lt, HB0.out.2.trans ((below_regrown w0 dq osq).mono HB0.out.2.size)⟩
                clear hw'' x0 x1 xs2 cA
                go_wp2_with fail
                go_roundw
                case rel => exact ⟨0 + 1, by omega, by go_num, ⟨HB4.out.1.cell 0, HB4.out.1.cell 1, HB4.out.1.cell 2⟩, HB4, HV2⟩
                case measure => simp [intOf]; omega
              obtain ⟨j, hj⟩ : ∃ j, k = j + 1 := ⟨k - 1, by omega⟩
              have hj1 : (k : Int) - 1 = (j : Int) := by omega
              have hkp2 : (0 : Int) < (k : Int) := by omega
              have hkp3 : decide ((0 : Int) < (k : Int)) = true := by simp; omega
              have hkp4 : decide (0 < k) = true := by simp; omega
              have hkp5 : 0 < k := by omega
              have e0 : (0 : Int) ≤ (j : Int) := by omega
              have e1 : (j : Int) < (n2 : Int) := by omega
              obtain ⟨b', off', y, l', hA, hg', hy, ⟨r0, r1⟩, _⟩ := (HX2.out.go HB.out.2).at_ (show j < n2 by omega)
              simp only [Option.some.injEq, Addr.mk.injEq, and_true] at hA
              obtain ⟨rfl, rfl⟩ := hA
              have HY : Hid (x2[k - 1]? = some y) := by show _ = _; rw [show k - 1 = j by omega]; exact hy
              clear hj hkp hg' hy
              obtain ⟨R, hRR⟩ : ∃ z, Op.bytesLess y.name_.toList x.name_.toList = z := ⟨_, rfl⟩
              have HRR := Lib.hid hRR
              cases R
              · have HF : Hid (P = false) := HNO.out (.inr (.inr (not_up hkp5 HX.out HY.out HRR.out)))
                go_wp2_with fail
                obtain ⟨w0, hw0⟩ : ∃ w0, wr = w0 := ⟨_, rfl⟩
                have g1 : Below wr.heap.size wr w0 := by rw [← hw0]; exact Below.refl _ _
                have HB0 : Hid (RW 36 w0 W.heap.size #[.slice A0 n0 c0, .slice A1 n1 c1, .slice (some ⟨b, off, none⟩) n2 c2] ∧ Below W.heap.size W w0) := ⟨HB.out.1.below g1 HB.out.1.lt, HB.out.2.trans (g1.mono HB.out.2.size)⟩
                have x0 := cell_regrown ((g1.cell (p := ⟨b, off + k * 2, none⟩) HGB.out).trans q0)
                have x1 := cell_regrown ((g1.cell (p := ⟨b, off + k * 2 + 1, none⟩) HGB.out).trans q1)
                rw [hw0]
                have xs2 := cell_regrown (HB0.out.1.cell 2)
                have y0 := cell_regrown ((g1.cell (p := ⟨b, off + j * 2, none⟩) HGB.out).trans r0)
                have y1 := cell_regrown ((g1.cell (p := ⟨b, off + j * 2 + 1, none⟩) HGB.out).trans r1)
                have cA : ∀ d os', Calls Tryd.prog 47 #[.agg #[.string x.name_, .slice l.A1 l.n1 l.c1]] (grow (redrawn w0 d) os') (fun e w'' => e = .returned (.bool true) ∧ ∃ q : Regrown, w'' = grow (redrawn w0 q.d) q.os) := fun d os' => Calls.regrown_of (by have hb := g1.trans ((below_regrown w0 d os').mono g1.size); have h := HEL.out _ hb; rw [HZ.out] at h; exact h)
                clear hw0 g1 q0 q1 r0 r1 s0 s1 s2
                refine wp_region_quiet_below (by kernel_rfl) (by kernel_rfl) ?_
                repeat (first | go_big_quiet_step (with_reducible exact cA _ _) | quiet_step (with_reducible exact cA _ _))
                refine wpQuiet_nil ?_
                intro w4 hw'
                obtain ⟨⟨dq, osq⟩, hw''⟩ := hw'
                have HB4 : Hid (RW 36 w4 W.heap.size #[.slice A0 n0 c0, .slice A1 n1 c1, .slice (some ⟨b, off, none⟩) n2 c2] ∧ Below W.heap.size W w4) := by show _ ∧ _; rw [hw'']; exact ⟨HB0.out.1.below (below_regrown w0 dq osq) HB0.out.1.lt, HB0.out.2.trans ((below_regrown w0 dq osq).mono HB0.out.2.size)⟩
                clear hw'' x0 x1 xs2 y0 y1 cA
                go_wp2_with fail
                go_ret
                exact ⟨by rw [HF.out]; rfl, HB4.out.2⟩
              · have HV2 := Lib.hid (UpOk.next HV.out HX.out HOK.out HY.out HRR.out)
                go_wp2_with fail
                obtain ⟨w0, hw0⟩ : ∃ w0, wr = w0 := ⟨_, rfl⟩
                have g1 : Below wr.heap.size wr w0 := by rw [← hw0]; exact Below.refl _ _
                have HB0 : Hid (RW 36 w0 W.heap.size #[.slice A0 n0 c0, .slice A1 n1 c1, .slice (some ⟨b, off, none⟩) n2 c2] ∧ Below W.heap.size W w0) := ⟨HB.out.1.below g1 HB.out.1.lt, HB.out.2.trans (g1.mono HB.out.2.size)⟩
                have x0 := cell_regrown ((g1.cell (p := ⟨b, off + k * 2, none⟩) HGB.out).trans q0)
                have x1 := cell_regrown ((g1.cell (p := ⟨b, off + k * 2 + 1, none⟩) HGB.out).trans q1)
                rw [hw0]
                have xs2 := cell_regrown (HB0.out.1.cell 2)
                have y0 := cell_regrown ((g1.cell (p := ⟨b, off + j * 2, none⟩) HGB.out).trans r0)
                have y1 := cell_regrown ((g1.cell (p := ⟨b, off + j * 2 + 1, none⟩) HGB.out).trans r1)
                have cA : ∀ d os', Calls Tryd.prog 47 #[.agg #[.string x.name_, .slice l.A1 l.n1 l.c1]] (grow (redrawn w0 d) os') (fun e w'' => e = .returned (.bool true) ∧ ∃ q : Regrown, w'' = grow (redrawn w0 q.d) q.os) := fun d os' => Calls.regrown_of (by have hb := g1.trans ((below_regrown w0 d os').mono g1.size); have h := HEL.out _ hb; rw [HZ.out] at h; exact h)
                clear hw0 g1 q0 q1 r0 r1 s0 s1 s2
                refine wp_region_quiet_below (by kernel_rfl) (by kernel_rfl) ?_
                repeat (first | go_big_quiet_step (with_reducible exact cA _ _) | quiet_step (with_reducible exact cA _ _))
                refine wpQuiet_nil ?_
                intro w4 hw'
                obtain ⟨⟨dq, osq⟩, hw''⟩ := hw'
                have HB4 : Hid (RW 36 w4 W.heap.size #[.slice A0 n0 c0, .slice A1 n1 c1, .slice (some ⟨b, off, none⟩) n2 c2] ∧ Below W.heap.size W w4) := by show _ ∧ _; rw [hw'']; exact ⟨HB0.out.1.below (below_regrown w0 dq osq) HB0.out.1.lt, HB0.out.2.trans ((below_regrown w0 dq osq).mono HB0.out.2.size)⟩
                clear hw'' x0 x1 xs2 y0 y1 cA
                go_wp2_with fail
                go_roundw
                case rel => exact ⟨k + 1, by omega, by go_num, ⟨HB4.out.1.cell 0, HB4.out.1.cell 1, HB4.out.1.cell 2⟩, HB4, HV2⟩
                case measure => simp [intOf]; omega
            · have hkn : k = n2 := by omega
              have HL2 : Hid (ListOk rtOk Rt.name_ 8 x2) := by
                refine ⟨by have := HX2.out.1; omega, ?_⟩
                rw [HX2.out.1, ← hkn]
                exact HV.out
              have hnk : ¬ (k : Int) < (n2 : Int) := by omega
              clear HV hkn
              go_wp2_with fail
              have HE : Hid (P = true) := HYES.out HL0.out HL1.out HL2.out
              go_ret
              exact ⟨by rw [HE.out]; rfl, HB.out.2⟩
end Go.Proofs.YtnedihiagaepjaaDoor
