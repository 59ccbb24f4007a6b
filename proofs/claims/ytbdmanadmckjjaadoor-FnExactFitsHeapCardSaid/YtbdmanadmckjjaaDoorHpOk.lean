/- Contracts of the model: l07Ok, ValidHeap. No condition. -/
import Derived.Test.YtbdmanadmckjjaaDoorHpRefs
import Derived.Test.YtbdmanadmckjjaaDoorObOk
namespace Go.Proofs.YtbdmanadmckjjaaDoor
open Go Go.RowKit Go.Sort

set_option maxHeartbeats 8000000 in
set_option maxRecDepth 100000 in
theorem l07Ok_any (g : Nat) (nx : Int) (A : Option Addr) (n c : Nat) (os : List Ob) (W : World) (h : HPt W g nx A n c os) :
    Calls Tryd.prog 40 #[.pointer (some ⟨g, 0, none⟩)] W fun e w' => e = .returned (.bool (tt (ValidH nx os))) ∧ Below W.heap.size W w' := by
  have H := Lib.hid h
  have hn := h.2.2.1.2.1
  have HN := Lib.hid h.2.2.1.1
  have k0 := h.1
  have k1 := h.2.1
  unfold maxLen at hn
  clear h
  obtain ⟨P, hP⟩ : ∃ P, tt (ValidH nx os) = P := ⟨_, rfl⟩
  have HP := Lib.hid hP
  rw [hP]
  clear hP
  obtain ⟨I, hI⟩ : ∃ z, decide (0 ≤ nx ∧ nx ≤ 1000000) = z := ⟨_, rfl⟩
  have HI := Lib.hid hI
  clear hI
  cases I
  · have HF : Hid (P = false) := by
      show _ = _
      rw [← HP.out]
      exact tt_false fun h => by have h1 := HI.out; rw [decide_eq_false_iff_not] at h1; exact h1 h.1
    go_enter Tryd.func40, Tryd.ntmps40
    go_wp2_with (go_at_call 65; refine (l00In_any _ _ _ _).mono ?_; rintro e w' ⟨rfl, rfl⟩; rw [HI.out])
    go_ret
    exact ⟨by rw [HF.out]; rfl, Below.refl _ _⟩
  by_cases hl : ¬ n ≤ 40
  · have HF : Hid (P = false) := by
      show _ = _
      rw [← HP.out]
      exact tt_false fun h => hl (by have := h.2.1; rw [HN.out] at this; exact this)
    have hl2 : (40 : Int) < (n : Int) := by omega
    go_enter Tryd.func40, Tryd.ntmps40
    go_wp2_with (go_at_call 65; refine (l00In_any _ _ _ _).mono ?_; rintro e w' ⟨rfl, rfl⟩; rw [HI.out])
    go_ret
    exact ⟨by rw [HF.out]; rfl, Below.refl _ _⟩
  have hl2 : ¬ (40 : Int) < (n : Int) := by omega
  have HL : Hid (n ≤ 40) := by show _ ≤ _; omega
  clear hl
  go_enter Tryd.func40, Tryd.ntmps40
  go_wp2_with (go_at_call 65; refine (l00In_any _ _ _ _).mono ?_; rintro e w' ⟨rfl, rfl⟩; rw [HI.out])
  clear k0 k1
  go_loopw [3] (fun i wr => ∃ k : Nat, k ≤ n ∧ i = .int .i64 k ∧ Hid (Below W.heap.size W wr) ∧ Hid ((∀ (j : Nat) (o : Ob), j < k → os[j]? = some o → ValidO o ∧ o.id ≤ nx) ∧ (∀ (j : Nat) (a b : Ob), j + 1 < k → os[j]? = some a → os[j + 1]? = some b → a.id < b.id))) (fun i _ => n - (intOf i).toNat)
  case atStart => exact ⟨0, Nat.zero_le _, rfl, Below.refl _ _, fun j o hj => absurd hj (by omega), fun j a b hj => absurd hj (by omega)⟩
  case round =>
    obtain ⟨k, hk, rfl, HW, HV⟩ := hrel
    have HH := Lib.hid (H.out.go HW.out)
    have s0 := HH.out.1
    have s1 := HH.out.2.1
    by_cases hlt : k < n
    · obtain ⟨b, off, o, l, rfl, hg, hx, ⟨q0, q1, q2, q3, q4, q5, q6, q7, q8, q9⟩, hov⟩ := HH.out.2.2.1.at_ hlt
      have HX := Lib.hid hx
      have HOV := Lib.hid hov
      have b0 : (0 : Int) ≤ (k : Int) := by omega
      have b1 : (k : Int) < (n : Int) := by omega
      have HC := Lib.hid (one_new wr 49 #[.int .i64 o.id, .int .i64 o.kind, .string o.name, .int .i64 o.low, .slice l.Ak l.nk l.ck, .slice l.Av l.nv l.cv, .int .i64 o.d.k, .int .i64 o.d.n, .string o.d.t, .int .i64 o.d.r])
      obtain ⟨VO, hVO⟩ : ∃ z, tt (ValidO o) = z := ⟨_, rfl⟩
      have HVO := Lib.hid hVO
      obtain ⟨G, hG⟩ : ∃ z, decide (nx < o.id) = z := ⟨_, rfl⟩
      have HG := Lib.hid hG
      clear hx hov hVO hg
      cases VO
      · have HF : Hid (P = false) := by
          show _ = _
          rw [← HP.out]
          exact tt_false fun h => of_tt_false HVO.out (h.2.2.1 _ o HX.out).1
        go_wp2_with fail
        obtain ⟨w0, hw0⟩ : ∃ w0, wr.alloc (.cells #[.int .i64 o.id, .int .i64 o.kind, .string o.name, .int .i64 o.low, .slice l.Ak l.nk l.ck, .slice l.Av l.nv l.cv, .int .i64 o.d.k, .int .i64 o.d.n, .string o.d.t, .int .i64 o.d.r] 49) = w0 := ⟨_, rfl⟩
        rw [hw0]
        obtain ⟨g0, g1, g2⟩ := HC.out w0 hw0.symm
        have HB0 := Lib.hid g1
        have x0 := cell_regrown (g0.cell 0)
        have x1 := cell_regrown (g0.cell 1)
        have x2 := cell_regrown (g0.cell 2)
        have x3 := cell_regrown (g0.cell 3)
        have x4 := cell_regrown (g0.cell 4)
        have x5 := cell_regrown (g0.cell 5)
        have x6 := cell_regrown (g0.cell 6)
        have x7 := cell_regrown (g0.cell 7)
        have x8 := cell_regrown (g0.cell 8)
        have x9 := cell_regrown (g0.cell 9)
        have hp0 := HH.out.go g1
        have y0 := cell_regrown hp0.1
        have y1 := cell_regrown hp0.2.1
        have cO : ∀ d os', Calls Tryd.prog 56 #[.agg #[.int .i64 o.id, .int .i64 o.kind, .string o.name, .int .i64 o.low, .slice l.Ak l.nk l.ck, .slice l.Av l.nv l.cv, .int .i64 o.d.k, .int .i64 o.d.n, .string o.d.t, .int .i64 o.d.r]] (grow (redrawn w0 d) os') (fun e w'' => e = .returned (.bool false) ∧ ∃ q : Regrown, w'' = grow (redrawn w0 q.d) q.os) := fun d os' => Calls.regrown_of (by have h := l07Object_any o l (grow (redrawn w0 d) os') ((HOV.out.go HB0.out).go (below_regrown w0 d os')); rw [HVO.out] at h; exact h)
        clear hw0 g0 g1 g2 hp0 q0 q1 q2 q3 q4 q5 q6 q7 q8 q9 s0 s1
        refine wp_region_quiet_below (by kernel_rfl) (by kernel_rfl) ?_
        repeat (first | go_big_quiet_step (exact cO _ _) | quiet_step (exact cO _ _))
        refine wpQuiet_nil ?_
        intro w4 hw'
        obtain ⟨⟨dq, osq⟩, hw''⟩ := hw'
        have HB4 : Hid (Below W.heap.size W w4) := by show Below _ _ _; rw [hw'']; exact HW.out.trans ((HB0.out.trans ((below_regrown w0 dq osq).mono HB0.out.size)).mono HW.out.size)
        clear hw'' x0 x1 x2 x3 x4 x5 x6 x7 x8 x9 y0 y1 cO
        go_wp2_with fail
        go_ret
        exact ⟨by rw [HF.out]; rfl, HB4.out⟩
      by_cases hGG : G = true
      · subst hGG
        have HF : Hid (P = false) := by
          show _ = _
          rw [← HP.out]
          refine tt_false fun h => ?_
          have h1 := (h.2.2.1 _ o HX.out).2
          have h2 := of_decide_eq_true HG.out
          omega
        go_wp2_with fail
        obtain ⟨w0, hw0⟩ : ∃ w0, wr.alloc (.cells #[.int .i64 o.id, .int .i64 o.kind, .string o.name, .int .i64 o.low, .slice l.Ak l.nk l.ck, .slice l.Av l.nv l.cv, .int .i64 o.d.k, .int .i64 o.d.n, .string o.d.t, .int .i64 o.d.r] 49) = w0 := ⟨_, rfl⟩
        rw [hw0]
        obtain ⟨g0, g1, g2⟩ := HC.out w0 hw0.symm
        have HB0 := Lib.hid g1
        have x0 := cell_regrown (g0.cell 0)
        have x1 := cell_regrown (g0.cell 1)
        have x2 := cell_regrown (g0.cell 2)
        have x3 := cell_regrown (g0.cell 3)
        have x4 := cell_regrown (g0.cell 4)
        have x5 := cell_regrown (g0.cell 5)
        have x6 := cell_regrown (g0.cell 6)
        have x7 := cell_regrown (g0.cell 7)
        have x8 := cell_regrown (g0.cell 8)
        have x9 := cell_regrown (g0.cell 9)
        have hp0 := HH.out.go g1
        have y0 := cell_regrown hp0.1
        have y1 := cell_regrown hp0.2.1
        have cO : ∀ d os', Calls Tryd.prog 56 #[.agg #[.int .i64 o.id, .int .i64 o.kind, .string o.name, .int .i64 o.low, .slice l.Ak l.nk l.ck, .slice l.Av l.nv l.cv, .int .i64 o.d.k, .int .i64 o.d.n, .string o.d.t, .int .i64 o.d.r]] (grow (redrawn w0 d) os') (fun e w'' => e = .returned (.bool true) ∧ ∃ q : Regrown, w'' = grow (redrawn w0 q.d) q.os) := fun d os' => Calls.regrown_of (by have h := l07Object_any o l (grow (redrawn w0 d) os') ((HOV.out.go HB0.out).go (below_regrown w0 d os')); rw [HVO.out] at h; exact h)
        clear hw0 g0 g1 g2 hp0 q0 q1 q2 q3 q4 q5 q6 q7 q8 q9 s0 s1
        refine wp_region_quiet_below (by kernel_rfl) (by kernel_rfl) ?_
        repeat (first | go_big_quiet_step (exact cO _ _) | quiet_step (exact cO _ _))
        refine wpQuiet_nil ?_
        intro w4 hw'
        obtain ⟨⟨dq, osq⟩, hw''⟩ := hw'
        have HB4 : Hid (Below W.heap.size W w4) := by show Below _ _ _; rw [hw'']; exact HW.out.trans ((HB0.out.trans ((below_regrown w0 dq osq).mono HB0.out.size)).mono HW.out.size)
        clear hw'' x0 x1 x2 x3 x4 x5 x6 x7 x8 x9 y0 y1 cO
        go_wp2_with fail
        go_ret
        exact ⟨by rw [HF.out]; rfl, HB4.out⟩
      obtain rfl : G = false := by simpa using hGG
      clear hGG
      rcases Nat.eq_zero_or_pos k with hk0 | hkp
      · subst hk0
        have HNX : Hid ((∀ (j : Nat) (o : Ob), j < 0 + 1 → os[j]? = some o → ValidO o ∧ o.id ≤ nx) ∧ (∀ (j : Nat) (a b : Ob), j + 1 < 0 + 1 → os[j]? = some a → os[j + 1]? = some b → a.id < b.id)) := by
          refine ⟨fun j x hj hx => ?_, fun j a b hj => absurd hj (by omega)⟩
          obtain rfl : j = 0 := by omega
          rw [HX.out, Option.some.injEq] at hx
          subst hx
          have h2 := of_decide_eq_false HG.out
          exact ⟨of_tt HVO.out, by omega⟩
        simp only [Nat.zero_mul, Nat.add_zero] at q0 q1 q2 q3 q4 q5 q6 q7 q8 q9
        go_wp2_with fail
        obtain ⟨w0, hw0⟩ : ∃ w0, wr.alloc (.cells #[.int .i64 o.id, .int .i64 o.kind, .string o.name, .int .i64 o.low, .slice l.Ak l.nk l.ck, .slice l.Av l.nv l.cv, .int .i64 o.d.k, .int .i64 o.d.n, .string o.d.t, .int .i64 o.d.r] 49) = w0 := ⟨_, rfl⟩
        rw [hw0]
        obtain ⟨g0, g1, g2⟩ := HC.out w0 hw0.symm
        have HB0 := Lib.hid g1
        have x0 := cell_regrown (g0.cell 0)
        have x1 := cell_regrown (g0.cell 1)
        have x2 := cell_regrown (g0.cell 2)
        have x3 := cell_regrown (g0.cell 3)
        have x4 := cell_regrown (g0.cell 4)
        have x5 := cell_regrown (g0.cell 5)
        have x6 := cell_regrown (g0.cell 6)
        have x7 := cell_regrown (g0.cell 7)
        have x8 := cell_regrown (g0.cell 8)
        have x9 := cell_regrown (g0.cell 9)
        have hp0 := HH.out.go g1
        have y0 := cell_regrown hp0.1
        have y1 := cell_regrown hp0.2.1
        have cO : ∀ d os', Calls Tryd.prog 56 #[.agg #[.int .i64 o.id, .int .i64 o.kind, .string o.name, .int .i64 o.low, .slice l.Ak l.nk l.ck, .slice l.Av l.nv l.cv, .int .i64 o.d.k, .int .i64 o.d.n, .string o.d.t, .int .i64 o.d.r]] (grow (redrawn w0 d) os') (fun e w'' => e = .returned (.bool true) ∧ ∃ q : Regrown, w'' = grow (redrawn w0 q.d) q.os) := fun d os' => Calls.regrown_of (by have h := l07Object_any o l (grow (redrawn w0 d) os') ((HOV.out.go HB0.out).go (below_regrown w0 d os')); rw [HVO.out] at h; exact h)
        clear hw0 g0 g1 g2 hp0 q0 q1 q2 q3 q4 q5 q6 q7 q8 q9 s0 s1
        refine wp_region_quiet_below (by kernel_rfl) (by kernel_rfl) ?_
        repeat (first | go_big_quiet_step (exact cO _ _) | quiet_step (exact cO _ _))
        refine wpQuiet_nil ?_
        intro w4 hw'
        obtain ⟨⟨dq, osq⟩, hw''⟩ := hw'
        have HB4 : Hid (Below W.heap.size W w4) := by show Below _ _ _; rw [hw'']; exact HW.out.trans ((HB0.out.trans ((below_regrown w0 dq osq).mono HB0.out.size)).mono HW.out.size)
        clear hw'' x0 x1 x2 x3 x4 x5 x6 x7 x8 x9 y0 y1 cO
        go_wp2_with fail
        go_roundw
        case rel => exact ⟨0 + 1, by omega, by go_num, HB4, HNX⟩
        case measure => simp [intOf]; omega
      · obtain ⟨j, hj⟩ : ∃ j, k = j + 1 := ⟨k - 1, by omega⟩
        have HJ := Lib.hid hj
        have hj1 : (k : Int) - 1 = (j : Int) := by omega
        have hkp2 : (0 : Int) < (k : Int) := by omega
        have hkp3 : decide ((0 : Int) < (k : Int)) = true := by simp; omega
        have hkp4 : decide (0 < k) = true := by simp; omega
        have hkp5 : 0 < k := hkp
        have c0 : (0 : Int) ≤ (j : Int) := by omega
        have c1 : (j : Int) < (n : Int) := by omega
        obtain ⟨b', off', p, l', hA, hg', hx', ⟨r0, _⟩, _⟩ := HH.out.2.2.1.at_ (show j < n by omega)
        simp only [Option.some.injEq, Addr.mk.injEq, and_true] at hA
        obtain ⟨rfl, rfl⟩ := hA
        have HGB := Lib.hid hg'
        have HX' := Lib.hid hx'
        clear hj hkp hx' hg'
        obtain ⟨R, hR⟩ : ∃ z, decide (o.id ≤ p.id) = z := ⟨_, rfl⟩
        have HRR := Lib.hid hR
        cases R
        · have HNX : Hid ((∀ (j : Nat) (o : Ob), j < k + 1 → os[j]? = some o → ValidO o ∧ o.id ≤ nx) ∧ (∀ (j : Nat) (a b : Ob), j + 1 < k + 1 → os[j]? = some a → os[j + 1]? = some b → a.id < b.id)) := by
            refine ⟨fun i x hi hx => ?_, fun i u v hi hu hv => ?_⟩
            · by_cases e : i = k
              · rw [e, HX.out, Option.some.injEq] at hx
                subst hx
                have h2 := of_decide_eq_false HG.out
                exact ⟨of_tt HVO.out, by omega⟩
              · exact HV.out.1 i x (by omega) hx
            · by_cases e : i + 1 = k
              · have e2 : i = j := by have := HJ.out; omega
                rw [e, HX.out, Option.some.injEq] at hv
                rw [e2, HX'.out, Option.some.injEq] at hu
                subst hu hv
                have h2 := of_decide_eq_false HRR.out
                omega
              · exact HV.out.2 i u v (by omega) hu hv
          go_wp2_with fail
          obtain ⟨w0, hw0⟩ : ∃ w0, wr.alloc (.cells #[.int .i64 o.id, .int .i64 o.kind, .string o.name, .int .i64 o.low, .slice l.Ak l.nk l.ck, .slice l.Av l.nv l.cv, .int .i64 o.d.k, .int .i64 o.d.n, .string o.d.t, .int .i64 o.d.r] 49) = w0 := ⟨_, rfl⟩
          rw [hw0]
          obtain ⟨g0, g1, g2⟩ := HC.out w0 hw0.symm
          have HB0 := Lib.hid g1
          have x0 := cell_regrown (g0.cell 0)
          have x1 := cell_regrown (g0.cell 1)
          have x2 := cell_regrown (g0.cell 2)
          have x3 := cell_regrown (g0.cell 3)
          have x4 := cell_regrown (g0.cell 4)
          have x5 := cell_regrown (g0.cell 5)
          have x6 := cell_regrown (g0.cell 6)
          have x7 := cell_regrown (g0.cell 7)
          have x8 := cell_regrown (g0.cell 8)
          have x9 := cell_regrown (g0.cell 9)
          have hp0 := HH.out.go g1
          have y0 := cell_regrown hp0.1
          have y1 := cell_regrown hp0.2.1
          have y2 := cell_regrown ((g1.cell (p := ⟨b, off + j * 10, none⟩) HGB.out).trans r0)
          have cO : ∀ d os', Calls Tryd.prog 56 #[.agg #[.int .i64 o.id, .int .i64 o.kind, .string o.name, .int .i64 o.low, .slice l.Ak l.nk l.ck, .slice l.Av l.nv l.cv, .int .i64 o.d.k, .int .i64 o.d.n, .string o.d.t, .int .i64 o.d.r]] (grow (redrawn w0 d) os') (fun e w'' => e = .returned (.bool true) ∧ ∃ q : Regrown, w'' = grow (redrawn w0 q.d) q.os) := fun d os' => Calls.regrown_of (by have h := l07Object_any o l (grow (redrawn w0 d) os') ((HOV.out.go HB0.out).go (below_regrown w0 d os')); rw [HVO.out] at h; exact h)
          clear hw0 g0 g1 g2 hp0 q0 q1 q2 q3 q4 q5 q6 q7 q8 q9 s0 s1 r0
          refine wp_region_quiet_below (by kernel_rfl) (by kernel_rfl) ?_
          repeat (first | go_big_quiet_step (exact cO _ _) | quiet_step (exact cO _ _))
          refine wpQuiet_nil ?_
          intro w4 hw'
          obtain ⟨⟨dq, osq⟩, hw''⟩ := hw'
          have HB4 : Hid (Below W.heap.size W w4) := by show Below _ _ _; rw [hw'']; exact HW.out.trans ((HB0.out.trans ((below_regrown w0 dq osq).mono HB0.out.size)).mono HW.out.size)
          clear hw'' x0 x1 x2 x3 x4 x5 x6 x7 x8 x9 y0 y1 y2 cO
          go_wp2_with fail
          go_roundw
          case rel => exact ⟨k + 1, by omega, by go_num, HB4, HNX⟩
          case measure => simp [intOf]; omega
        · have HF : Hid (P = false) := by
            show _ = _
            rw [← HP.out]
            refine tt_false fun h => ?_
            have h1 := h.2.2.2.1 j p o HX'.out (by rw [← HJ.out]; exact HX.out)
            have h2 := of_decide_eq_true HRR.out
            omega
          go_wp2_with fail
          obtain ⟨w0, hw0⟩ : ∃ w0, wr.alloc (.cells #[.int .i64 o.id, .int .i64 o.kind, .string o.name, .int .i64 o.low, .slice l.Ak l.nk l.ck, .slice l.Av l.nv l.cv, .int .i64 o.d.k, .int .i64 o.d.n, .string o.d.t, .int .i64 o.d.r] 49) = w0 := ⟨_, rfl⟩
          rw [hw0]
          obtain ⟨g0, g1, g2⟩ := HC.out w0 hw0.symm
          have HB0 := Lib.hid g1
          have x0 := cell_regrown (g0.cell 0)
          have x1 := cell_regrown (g0.cell 1)
          have x2 := cell_regrown (g0.cell 2)
          have x3 := cell_regrown (g0.cell 3)
          have x4 := cell_regrown (g0.cell 4)
          have x5 := cell_regrown (g0.cell 5)
          have x6 := cell_regrown (g0.cell 6)
          have x7 := cell_regrown (g0.cell 7)
          have x8 := cell_regrown (g0.cell 8)
          have x9 := cell_regrown (g0.cell 9)
          have hp0 := HH.out.go g1
          have y0 := cell_regrown hp0.1
          have y1 := cell_regrown hp0.2.1
          have y2 := cell_regrown ((g1.cell (p := ⟨b, off + j * 10, none⟩) HGB.out).trans r0)
          have cO : ∀ d os', Calls Tryd.prog 56 #[.agg #[.int .i64 o.id, .int .i64 o.kind, .string o.name, .int .i64 o.low, .slice l.Ak l.nk l.ck, .slice l.Av l.nv l.cv, .int .i64 o.d.k, .int .i64 o.d.n, .string o.d.t, .int .i64 o.d.r]] (grow (redrawn w0 d) os') (fun e w'' => e = .returned (.bool true) ∧ ∃ q : Regrown, w'' = grow (redrawn w0 q.d) q.os) := fun d os' => Calls.regrown_of (by have h := l07Object_any o l (grow (redrawn w0 d) os') ((HOV.out.go HB0.out).go (below_regrown w0 d os')); rw [HVO.out] at h; exact h)
          clear hw0 g0 g1 g2 hp0 q0 q1 q2 q3 q4 q5 q6 q7 q8 q9 s0 s1 r0
          refine wp_region_quiet_below (by kernel_rfl) (by kernel_rfl) ?_
          repeat (first | go_big_quiet_step (exact cO _ _) | quiet_step (exact cO _ _))
          refine wpQuiet_nil ?_
          intro w4 hw'
          obtain ⟨⟨dq, osq⟩, hw''⟩ := hw'
          have HB4 : Hid (Below W.heap.size W w4) := by show Below _ _ _; rw [hw'']; exact HW.out.trans ((HB0.out.trans ((below_regrown w0 dq osq).mono HB0.out.size)).mono HW.out.size)
          clear hw'' x0 x1 x2 x3 x4 x5 x6 x7 x8 x9 y0 y1 y2 cO
          go_wp2_with fail
          go_ret
          exact ⟨by rw [HF.out]; rfl, HB4.out⟩
    · have hkn : k = n := by omega
      have HVA : Hid ((∀ (j : Nat) (o : Ob), os[j]? = some o → ValidO o ∧ o.id ≤ nx) ∧ Rising os) := by
        refine ⟨fun j x hx => HV.out.1 j x ?_ hx, fun j u v hu hv => HV.out.2 j u v ?_ hu hv⟩
        · have := (List.getElem?_eq_some_iff.1 hx).1
          have := HN.out
          omega
        · have := (List.getElem?_eq_some_iff.1 hv).1
          have := HN.out
          omega
      clear HV hkn
      go_wp2_with fail
      go_loopw [5] (fun i wq => ∃ k : Nat, k ≤ n ∧ i = .int .i64 k ∧ Hid (Below W.heap.size W wq) ∧ Hid (∀ (j : Nat) (o : Ob), j < k → os[j]? = some o → RefsFit os o)) (fun i _ => n - (intOf i).toNat)
      case atStart => exact ⟨0, Nat.zero_le _, rfl, HW, fun j o hj => absurd hj (by omega)⟩
      case round =>
        obtain ⟨m, hm, rfl, HW2, HV2⟩ := hrel
        have HH2 := Lib.hid (H.out.go HW2.out)
        have t1 := HH2.out.2.1
        by_cases hlm : m < n
        · obtain ⟨b, off, o, l, rfl, hg, hx, ho, hov⟩ := HH2.out.2.2.1.at_ hlm
          have HX := Lib.hid hx
          have HO := Lib.hid ho
          have HOV := Lib.hid hov
          have HGB := Lib.hid hg
          have m0 : (0 : Int) ≤ (m : Int) := by omega
          have m1 : (m : Int) < (n : Int) := by omega
          obtain ⟨RF, hRF⟩ : ∃ z, tt (RefsFit os o) = z := ⟨_, rfl⟩
          have HRF := Lib.hid hRF
          clear hx ho hov hg hRF
          cases RF
          · have HF : Hid (P = false) := by
              show _ = _
              rw [← HP.out]
              exact tt_false fun h => of_tt_false HRF.out (h.2.2.2.2 m o HX.out)
            go_wp2_with (go_at_call 57; have HQ := l07Refs_any g nx _ n c os b (off + m * 10) o l _ HH2.out HVA.out.2 HO.out HOV.out HGB.out; refine Calls.mono HQ ?_; clear HQ; rintro e w5 ⟨rfl, hb⟩; rw [HRF.out]; have HW5 := Lib.hid (HW2.out.trans (hb.mono HW2.out.size)); clear hb)
            go_ret
            exact ⟨by rw [HF.out]; rfl, HW5.out⟩
          · go_wp2_with (go_at_call 57; have HQ := l07Refs_any g nx _ n c os b (off + m * 10) o l _ HH2.out HVA.out.2 HO.out HOV.out HGB.out; refine Calls.mono HQ ?_; clear HQ; rintro e w5 ⟨rfl, hb⟩; rw [HRF.out]; have HW5 := Lib.hid (HW2.out.trans (hb.mono HW2.out.size)); clear hb)
            have HNX : Hid (∀ (j : Nat) (o : Ob), j < m + 1 → os[j]? = some o → RefsFit os o) := by
              intro j y hj hy
              by_cases e : j = m
              · rw [e, HX.out, Option.some.injEq] at hy
                subst hy
                exact of_tt HRF.out
              · exact HV2.out j y (by omega) hy
            go_roundw
            case rel => exact ⟨m + 1, by omega, by go_num, HW5, HNX⟩
            case measure => simp [intOf]; omega
        · have hmn : m = n := by omega
          have HT : Hid (P = true) := by
            show _ = _
            rw [← HP.out]
            refine tt_true ⟨of_decide_eq_true HI.out, by rw [HN.out]; exact HL.out, HVA.out.1, HVA.out.2, fun j y hy => HV2.out j y ?_ hy⟩
            have := (List.getElem?_eq_some_iff.1 hy).1
            have := HN.out
            omega
          go_wp2_with fail
          go_ret
          exact ⟨by rw [HT.out]; rfl, HW2.out⟩

set_option maxRecDepth 100000 in
theorem spec_ValidHeap_any (nx : Int) (A : Option Addr) (n c : Nat) (os : List Ob) (W : World) (ha : OI W W.heap.size A n os) :
    Calls Tryd.prog 11 #[.agg #[.int .i64 nx, .slice A n c]] W fun e w' => e = .returned (.bool (tt (ValidH nx os))) ∧ Below W.heap.size W w' := by
  have HA := Lib.hid ha
  have HC := Lib.hid (one_new W 29 #[.int .i64 nx, .slice A n c])
  clear ha
  go_enter Tryd.func11, Tryd.ntmps11
  go_wp2_with (go_at_call 40; obtain ⟨g0, g1, g2⟩ := HC.out _ rfl; have HQ := l07Ok_any W.heap.size nx A n c os _ ⟨g0.cell 0, g0.cell 1, HA.out.go g1, g2⟩; refine Calls.mono HQ ?_; clear HQ; rintro e w1 ⟨rfl, hb⟩; have HB1 := Lib.hid (g1.trans (hb.mono g1.size)); clear g0 g1 g2 hb HA)
  all_goals go_ret
  all_goals exact ⟨rfl, HB1.out⟩
end Go.Proofs.YtbdmanadmckjjaaDoor
