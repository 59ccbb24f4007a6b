/- Contracts of the model: l07Ok, ValidHeap. No condition. Contracts: slices.Index, slices.Contains at values; areDifferent of the program. No condition. Contract: areDifferent of the program. Condition: the slice's length is at most its capacity. Contracts: textValue, numberValue, objectValue, isWithin, ValidValue of the program. Condition of the last: the table holds what the program's text lays. Contract: IsReference of the program. Condition: the table holds what the program's text lays. Contracts: areValid, areFieldNames, arePairs of the program. Condition: the table holds what the program's text lays. Contract: areFieldNames of the program. Condition: the table holds what the program's text lays. Contracts: hasValidFields of the program's three kinds. Condition: the table holds what the program's text lays. Contracts: ofKind, ValidObject of the program. Condition of the second: the table holds what the program's text lays. Contract: referenceKind of the program. No condition. Contract: areObjectsUpTo of the program. Condition: the table holds what the program's text lays. -/
import Derived.Test.YtfcpdjfckeoniaaGreatDoorValidMemoryM4
import Derived.Test.YtfcpdjfckeoniaaGreatDoorValidMemoryM5
import Derived.Test.YtfcpdjfckeoniaaGreatDoorValidMemoryM1
import Derived.Lib.QuietBelow
import Derived.Deep.QuietTactic
import Derived.BigQuiet
import Derived.Laws.StructEq
import Derived.Deep.RegionHeld3
namespace Go.Proofs.YtfcpdjfckeoniaaGreatDoor
open Go Go.RowKit Go.Sort

set_option maxHeartbeats 8000000 in
set_option maxRecDepth 100000 in
theorem l07Ok_any (g : Nat) (nx : Int) (A : Option Addr) (n c : Nat) (os : List Ob) (W : World) (h : HPt W g nx A n c os) :
    Calls Tryz.prog 74 #[.pointer (some ⟨g, 0, none⟩)] W fun e w' => e = .returned (.bool (tt (ValidH nx os))) ∧ Below W.heap.size W w' := by
  have H := Lib.hid h
  have hn := h.2.2.1.2.1
  have HN := Lib.hid h.2.2.1.1
  have k0 := h.1
  have k1 := h.2.1
  unfold maxLen at hn
  clear h
  obtain ⟨P, hP⟩ : ∃ P, tt (ValidH nx os) = P := ⟨_, rfl⟩
  have HP := Lib.hid hP
  rw [hP]
  clear hP
  obtain ⟨I, hI⟩ : ∃ z, decide (0 ≤ nx ∧ nx ≤ 1000000) = z := ⟨_, rfl⟩
  have HI := Lib.hid hI
  clear hI
  cases I
  · have HF : Hid (P = false) := by
      show _ = _
      rw [← HP.out]
      exact tt_false fun h => by have h1 := HI.out; rw [decide_eq_false_iff_not] at h1; exact h1 h.1
    go_enter Tryz.func74, Tryz.ntmps74
    go_wp2_with (go_at_call 50; refine (l00In_any _ _ _ _).mono ?_; rintro e w' ⟨rfl, rfl⟩; rw [HI.out])
    go_ret
    exact ⟨by rw [HF.out]; rfl, Below.refl _ _⟩
  by_cases hl : ¬ n ≤ 40
  · have HF : Hid (P = false) := by
      show _ = _
      rw [← HP.out]
      exact tt_false fun h => hl (by have := h.2.1; rw [HN.out] at this; exact this)
    have hl2 : (40 : Int) < (n : Int) := by omega
    go_enter Tryz.func74, Tryz.ntmps74
    go_wp2_with (go_at_call 50; refine (l00In_any _ _ _ _).mono ?_; rintro e w' ⟨rfl, rfl⟩; rw [HI.out])
    go_ret
    exact ⟨by rw [HF.out]; rfl, Below.refl _ _⟩
  have hl2 : ¬ (40 : Int) < (n : Int) := by omega
  have HL : Hid (n ≤ 40) := by show _ ≤ _; omega
  clear hl
  go_enter Tryz.func74, Tryz.ntmps74
  go_wp2_with (go_at_call 50; refine (l00In_any _ _ _ _).mono ?_; rintro e w' ⟨rfl, rfl⟩; rw [HI.out])
  clear k0 k1
  go_loopw [3] (fun i wr => ∃ k : Nat, k ≤ n ∧ i = .int .i64 k ∧ Hid (Below W.heap.size W wr) ∧ Hid ((∀ (j : Nat) (o : Ob), j < k → os[j]? = some o → ValidO o ∧ o.id ≤ nx) ∧ (∀ (j : Nat) (a b : Ob), j + 1 < k → os[j]? = some a → os[j + 1]? = some b → a.id < b.id))) (fun i _ => n - (intOf i).toNat)
  case atStart => exact ⟨0, Nat.zero_le _, rfl, Below.refl _ _, fun j o hj => absurd hj (by omega), fun j a b hj => absurd hj (by omega)⟩
  case round =>
    obtain ⟨k, hk, rfl, HW, HV⟩ := hrel
    have HH := Lib.hid (H.out.go HW.out)
    have s0 := HH.out.1
    have s1 := HH.out.2.1
    by_cases hlt : k < n
    · obtain ⟨b, off, o, l, rfl, hg, hx, ⟨q0, q1, q2, q3, q4, q5, q6, q7, q8, q9⟩, hov⟩ := HH.out.2.2.1.at_ hlt
      have HX := Lib.hid hx
      have HOV := Lib.hid hov
      have b0 : (0 : Int) ≤ (k : Int) := by omega
      have b1 : (k : Int) < (n : Int) := by omega
      have HC := Lib.hid (one_new wr 170 #[.int .i64 o.id, .int .i64 o.kind, .string o.name, .int .i64 o.low, .slice l.Ak l.nk l.ck, .slice l.Av l.nv l.cv, .int .i64 o.d.k, .int .i64 o.d.n, .string o.d.t, .int .i64 o.d.r])
      obtain ⟨VO, hVO⟩ : ∃ z, tt (ValidO o) = z := ⟨_, rfl⟩
      have HVO := Lib.hid hVO
      obtain ⟨G, hG⟩ : ∃ z, decide (nx < o.id) = z := ⟨_, rfl⟩
      have HG := Lib.hid hG
      clear hx hov hVO hg
      cases VO
      · have HF : Hid (P = false) := by
          show _ = _
          rw [← HP.out]
          exact tt_false fun h => of_tt_false HVO.out (h.2.2.1 _ o HX.out).1
        go_wp2_with fail
        obtain ⟨w0, hw0⟩ : ∃ w0, wr.alloc (.cells #[.int .i64 o.id, .int .i64 o.kind, .string o.name, .int .i64 o.low, .slice l.Ak l.nk l.ck, .slice l.Av l.nv l.cv, .int .i64 o.d.k, .int .i64 o.d.n, .string o.d.t, .int .i64 o.d.r] 170) = w0 := ⟨_, rfl⟩
        rw [hw0]
        obtain ⟨g0, g1, g2⟩ := HC.out w0 hw0.symm
        have HB0 := Lib.hid g1
        have x0 := cell_regrown (g0.cell 0)
        have x1 := cell_regrown (g0.cell 1)
        have x2 := cell_regrown (g0.cell 2)
        have x3 := cell_regrown (g0.cell 3)
        have x4 := cell_regrown (g0.cell 4)
        have x5 := cell_regrown (g0.cell 5)
        have x6 := cell_regrown (g0.cell 6)
        have x7 := cell_regrown (g0.cell 7)
        have x8 := cell_regrown (g0.cell 8)
        have x9 := cell_regrown (g0.cell 9)
        have hp0 := HH.out.go g1
        have y0 := cell_regrown hp0.1
        have y1 := cell_regrown hp0.2.1
        have cO : ∀ d os', Calls Tryz.prog 114 #[.agg #[.int .i64 o.id, .int .i64 o.kind, .string o.name, .int .i64 o.low, .slice l.Ak l.nk l.ck, .slice l.Av l.nv l.cv, .int .i64 o.d.k, .int .i64 o.d.n, .string o.d.t, .int .i64 o.d.r]] (grow (redrawn w0 d) os') (fun e w'' => e = .returned (.bool false) ∧ ∃ q : Regrown, w'' = grow (redrawn w0 q.d) q.os) := fun d os' => Calls.regrown_of (by have h := l07Object_any o l (grow (redrawn w0 d) os') ((HOV.out.go HB0.out).go (below_regrown w0 d os')); rw [HVO.out] at h; exact h)
        clear hw0 g0 g1 g2 hp0 q0 q1 q2 q3 q4 q5 q6 q7 q8 q9 s0 s1
        refine wp_region_quiet_below (by kernel_rfl) (by kernel_rfl) ?_
        repeat (first | go_big_quiet_step (exact cO _ _) | quiet_step (exact cO _ _))
        refine wpQuiet_nil ?_
        intro w4 hw'
        obtain ⟨⟨dq, osq⟩, hw''⟩ := hw'
        have HB4 : Hid (Below W.heap.size W w4) := by show Below _ _ _; rw [hw'']; exact HW.out.trans ((HB0.out.trans ((below_regrown w0 dq osq).mono HB0.out.size)).mono HW.out.size)
        clear hw'' x0 x1 x2 x3 x4 x5 x6 x7 x8 x9 y0 y1 cO
        go_wp2_with fail
        go_ret
        exact ⟨by rw [HF.out]; rfl, HB4.out⟩
      by_cases hGG : G = true
      · subst hGG
        have HF : Hid (P = false) := by
          show _ = _
          rw [← HP.out]
          refine tt_false fun h => ?_
          have h1 := (h.2.2.1 _ o HX.out).2
          have h2 := of_decide_eq_true HG.out
          omega
        go_wp2_with fail
        obtain ⟨w0, hw0⟩ : ∃ w0, wr.alloc (.cells #[.int .i64 o.id, .int .i64 o.kind, .string o.name, .int .i64 o.low, .slice l.Ak l.nk l.ck, .slice l.Av l.nv l.cv, .int .i64 o.d.k, .int .i64 o.d.n, .string o.d.t, .int .i64 o.d.r] 170) = w0 := ⟨_, rfl⟩
        rw [hw0]
        obtain ⟨g0, g1, g2⟩ := HC.out w0 hw0.symm
        have HB0 := Lib.hid g1
        have x0 := cell_regrown (g0.cell 0)
        have x1 := cell_regrown (g0.cell 1)
        have x2 := cell_regrown (g0.cell 2)
        have x3 := cell_regrown (g0.cell 3)
        have x4 := cell_regrown (g0.cell 4)
        have x5 := cell_regrown (g0.cell 5)
        have x6 := cell_regrown (g0.cell 6)
        have x7 := cell_regrown (g0.cell 7)
        have x8 := cell_regrown (g0.cell 8)
        have x9 := cell_regrown (g0.cell 9)
        have hp0 := HH.out.go g1
        have y0 := cell_regrown hp0.1
        have y1 := cell_regrown hp0.2.1
        have cO : ∀ d os', Calls Tryz.prog 114 #[.agg #[.int .i64 o.id, .int .i64 o.kind, .string o.name, .int .i64 o.low, .slice l.Ak l.nk l.ck, .slice l.Av l.nv l.cv, .int .i64 o.d.k, .int .i64 o.d.n, .string o.d.t, .int .i64 o.d.r]] (grow (redrawn w0 d) os') (fun e w'' => e = .returned (.bool true) ∧ ∃ q : Regrown, w'' = grow (redrawn w0 q.d) q.os) := fun d os' => Calls.regrown_of (by have h := l07Object_any o l (grow (redrawn w0 d) os') ((HOV.out.go HB0.out).go (below_regrown w0 d os')); rw [HVO.out] at h; exact h)
        clear hw0 g0 g1 g2 hp0 q0 q1 q2 q3 q4 q5 q6 q7 q8 q9 s0 s1
        refine wp_region_quiet_below (by kernel_rfl) (by kernel_rfl) ?_
        repeat (first | go_big_quiet_step (exact cO _ _) | quiet_step (exact cO _ _))
        refine wpQuiet_nil ?_
        intro w4 hw'
        obtain ⟨⟨dq, osq⟩, hw''⟩ := hw'
        have HB4 : Hid (Below W.heap.size W w4) := by show Below _ _ _; rw [hw'']; exact HW.out.trans ((HB0.out.trans ((below_regrown w0 dq osq).mono HB0.out.size)).mono HW.out.size)
        clear hw'' x0 x1 x2 x3 x4 x5 x6 x7 x8 x9 y0 y1 cO
        go_wp2_with fail
        go_ret
        exact ⟨by rw [HF.out]; rfl, HB4.out⟩
      obtain rfl : G = false := by simpa using hGG
      clear hGG
      rcases Nat.eq_zero_or_pos k with hk0 | hkp
      · subst hk0
        have HNX : Hid ((∀ (j : Nat) (o : Ob), j < 0 + 1 → os[j]? = some o → ValidO o ∧ o.id ≤ nx) ∧ (∀ (j : Nat) (a b : Ob), j + 1 < 0 + 1 → os[j]? = some a → os[j + 1]? = some b → a.id < b.id)) := by
          refine ⟨fun j x hj hx => ?_, fun j a b hj => absurd hj (by omega)⟩
          obtain rfl : j = 0 := by omega
          rw [HX.out, Option.some.injEq] at hx
          subst hx
          have h2 := of_decide_eq_false HG.out
          exact ⟨of_tt HVO.out, by omega⟩
        simp only [Nat.zero_mul, Nat.add_zero] at q0 q1 q2 q3 q4 q5 q6 q7 q8 q9
        go_wp2_with fail
        obtain ⟨w0, hw0⟩ : ∃ w0, wr.alloc (.cells #[.int .i64 o.id, .int .i64 o.kind, .string o.name, .int .i64 o.low, .slice l.Ak l.nk l.ck, .slice l.Av l.nv l.cv, .int .i64 o.d.k, .int .i64 o.d.n, .string o.d.t, .int .i64 o.d.r] 170) = w0 := ⟨_, rfl⟩
        rw [hw0]
        obtain ⟨g0, g1, g2⟩ := HC.out w0 hw0.symm
        have HB0 := Lib.hid g1
        have x0 := cell_regrown (g0.cell 0)
        have x1 := cell_regrown (g0.cell 1)
        have x2 := cell_regrown (g0.cell 2)
        have x3 := cell_regrown (g0.cell 3)
        have x4 := cell_regrown (g0.cell 4)
        have x5 := cell_regrown (g0.cell 5)
        have x6 := cell_regrown (g0.cell 6)
        have x7 := cell_regrown (g0.cell 7)
        have x8 := cell_regrown (g0.cell 8)
        have x9 := cell_regrown (g0.cell 9)
        have hp0 := HH.out.go g1
        have y0 := cell_regrown hp0.1
        have y1 := cell_regrown hp0.2.1
        have cO : ∀ d os', Calls Tryz.prog 114 #[.agg #[.int .i64 o.id, .int .i64 o.kind, .string o.name, .int .i64 o.low, .slice l.Ak l.nk l.ck, .slice l.Av l.nv l.cv, .int .i64 o.d.k, .int .i64 o.d.n, .string o.d.t, .int .i64 o.d.r]] (grow (redrawn w0 d) os') (fun e w'' => e = .returned (.bool true) ∧ ∃ q : Regrown, w'' = grow (redrawn w0 q.d) q.os) := fun d os' => Calls.regrown_of (by have h := l07Object_any o l (grow (redrawn w0 d) os') ((HOV.out.go HB0.out).go (below_regrown w0 d os')); rw [HVO.out] at h; exact h)
        clear hw0 g0 g1 g2 hp0 q0 q1 q2 q3 q4 q5 q6 q7 q8 q9 s0 s1
        refine wp_region_quiet_below (by kernel_rfl) (by kernel_rfl) ?_
        repeat (first | go_big_quiet_step (exact cO _ _) | quiet_step (exact cO _ _))
        refine wpQuiet_nil ?_
        intro w4 hw'
        obtain ⟨⟨dq, osq⟩, hw''⟩ := hw'
        have HB4 : Hid (Below W.heap.size W w4) := by show Below _ _ _; rw [hw'']; exact HW.out.trans ((HB0.out.trans ((below_regrown w0 dq osq).mono HB0.out.size)).mono HW.out.size)
        clear hw'' x0 x1 x2 x3 x4 x5 x6 x7 x8 x9 y0 y1 cO
        go_wp2_with fail
        go_roundw
        case rel => exact ⟨0 + 1, by omega, by go_num, HB4, HNX⟩
        case measure => simp [intOf]; omega
      · obtain ⟨j, hj⟩ : ∃ j, k = j + 1 := ⟨k - 1, by omega⟩
        have HJ := Lib.hid hj
        have hj1 : (k : Int) - 1 = (j : Int) := by omega
        have hkp2 : (0 : Int) < (k : Int) := by omega
        have hkp3 : decide ((0 : Int) < (k : Int)) = true := by simp; omega
        have hkp4 : decide (0 < k) = true := by simp; omega
        have hkp5 : 0 < k := hkp
        have c0 : (0 : Int) ≤ (j : Int) := by omega
        have c1 : (j : Int) < (n : Int) := by omega
        obtain ⟨b', off', p, l', hA, hg', hx', ⟨r0, _⟩, _⟩ := HH.out.2.2.1.at_ (show j < n by omega)
        simp only [Option.some.injEq, Addr.mk.injEq, and_true] at hA
        obtain ⟨rfl, rfl⟩ := hA
        have HGB := Lib.hid hg'
        have HX' := Lib.hid hx'
        clear hj hkp hx' hg'
        obtain ⟨R, hR⟩ : ∃ z, decide (o.id ≤ p.id) = z := ⟨_, rfl⟩
        have HRR := Lib.hid hR
        cases R
        · have HNX : Hid ((∀ (j : Nat) (o : Ob), j < k + 1 → os[j]? = some o → ValidO o ∧ o.id ≤ nx) ∧ (∀ (j : Nat) (a b : Ob), j + 1 < k + 1 → os[j]? = some a → os[j + 1]? = some b → a.id < b.id)) := by
            refine ⟨fun i x hi hx => ?_, fun i u v hi hu hv => ?_⟩
            · by_cases e : i = k
              · rw [e, HX.out, Option.some.injEq] at hx
                subst hx
                have h2 := of_decide_eq_false HG.out
                exact ⟨of_tt HVO.out, by omega⟩
              · exact HV.out.1 i x (by omega) hx
            · by_cases e : i + 1 = k
              · have e2 : i = j := by have := HJ.out; omega
                rw [e, HX.out, Option.some.injEq] at hv
                rw [e2, HX'.out, Option.some.injEq] at hu
                subst hu hv
                have h2 := of_decide_eq_false HRR.out
                omega
              · exact HV.out.2 i u v (by omega) hu hv
          go_wp2_with fail
          obtain ⟨w0, hw0⟩ : ∃ w0, wr.alloc (.cells #[.int .i64 o.id, .int .i64 o.kind, .string o.name, .int .i64 o.low, .slice l.Ak l.nk l.ck, .slice l.Av l.nv l.cv, .int .i64 o.d.k, .int .i64 o.d.n, .string o.d.t, .int .i64 o.d.r] 170) = w0 := ⟨_, rfl⟩
          rw [hw0]
          obtain ⟨g0, g1, g2⟩ := HC.out w0 hw0.symm
          have HB0 := Lib.hid g1
          have x0 := cell_regrown (g0.cell 0)
          have x1 := cell_regrown (g0.cell 1)
          have x2 := cell_regrown (g0.cell 2)
          have x3 := cell_regrown (g0.cell 3)
          have x4 := cell_regrown (g0.cell 4)
          have x5 := cell_regrown (g0.cell 5)
          have x6 := cell_regrown (g0.cell 6)
          have x7 := cell_regrown (g0.cell 7)
          have x8 := cell_regrown (g0.cell 8)
          have x9 := cell_regrown (g0.cell 9)
          have hp0 := HH.out.go g1
          have y0 := cell_regrown hp0.1
          have y1 := cell_regrown hp0.2.1
          have y2 := cell_regrown ((g1.cell (p := ⟨b, off + j * 10, none⟩) HGB.out).trans r0)
          have cO : ∀ d os', Calls Tryz.prog 114 #[.agg #[.int .i64 o.id, .int .i64 o.kind, .string o.name, .int .i64 o.low, .slice l.Ak l.nk l.ck, .slice l.Av l.nv l.cv, .int .i64 o.d.k, .int .i64 o.d.n, .string o.d.t, .int .i64 o.d.r]] (grow (redrawn w0 d) os') (fun e w'' => e = .returned (.bool true) ∧ ∃ q : Regrown, w'' = grow (redrawn w0 q.d) q.os) := fun d os' => Calls.regrown_of (by have h := l07Object_any o l (grow (redrawn w0 d) os') ((HOV.out.go HB0.out).go (below_regrown w0 d os')); rw [HVO.out] at h; exact h)
          clear hw0 g0 g1 g2 hp0 q0 q1 q2 q3 q4 q5 q6 q7 q8 q9 s0 s1 r0
          refine wp_region_quiet_below (by kernel_rfl) (by kernel_rfl) ?_
          repeat (first | go_big_quiet_step (exact cO _ _) | quiet_step (exact cO _ _))
          refine wpQuiet_nil ?_
          intro w4 hw'
          obtain ⟨⟨dq, osq⟩, hw''⟩ := hw'
          have HB4 : Hid (Below W.heap.size W w4) := by show Below _ _ _; rw [hw'']; exact HW.out.trans ((HB0.out.trans ((below_regrown w0 dq osq).mono HB0.out.size)).mono HW.out.size)
          clear hw'' x0 x1 x2 x3 x4 x5 x6 x7 x8 x9 y0 y1 y2 cO
          go_wp2_with fail
          go_roundw
          case rel => exact ⟨k + 1, by omega, by go_num, HB4, HNX⟩
          case measure => simp [intOf]; omega
        · have HF : Hid (P = false) := by
            show _ = _
            rw [← HP.out]
            refine tt_false fun h => ?_
            have h1 := h.2.2.2.1 j p o HX'.out (by rw [← HJ.out]; exact HX.out)
            have h2 := of_decide_eq_true HRR.out
            omega
          go_wp2_with fail
          obtain ⟨w0, hw0⟩ : ∃ w0, wr.alloc (.cells #[.int .i64 o.id, .int .i64 o.kind, .string o.name, .int .i64 o.low, .slice l.Ak l.nk l.ck, .slice l.Av l.nv l.cv, .int .i64 o.d.k, .int .i64 o.d.n, .string o.d.t, .int .i64 o.d.r] 170) = w0 := ⟨_, rfl⟩
          rw [hw0]
          obtain ⟨g0, g1, g2⟩ := HC.out w0 hw0.symm
          have HB0 := Lib.hid g1
          have x0 := cell_regrown (g0.cell 0)
          have x1 := cell_regrown (g0.cell 1)
          have x2 := cell_regrown (g0.cell 2)
          have x3 := cell_regrown (g0.cell 3)
          have x4 := cell_regrown (g0.cell 4)
          have x5 := cell_regrown (g0.cell 5)
          have x6 := cell_regrown (g0.cell 6)
          have x7 := cell_regrown (g0.cell 7)
          have x8 := cell_regrown (g0.cell 8)
          have x9 := cell_regrown (g0.cell 9)
          have hp0 := HH.out.go g1
          have y0 := cell_regrown hp0.1
          have y1 := cell_regrown hp0.2.1
          have y2 := cell_regrown ((g1.cell (p := ⟨b, off + j * 10, none⟩) HGB.out).trans r0)
          have cO : ∀ d os', Calls Tryz.prog 114 #[.agg #[.int .i64 o.id, .int .i64 o.kind, .string o.name, .int .i64 o.low, .slice l.Ak l.nk l.ck, .slice l.Av l.nv l.cv, .int .i64 o.d.k, .int .i64 o.d.n, .string o.d.t, .int .i64 o.d.r]] (grow (redrawn w0 d) os') (fun e w'' => e = .returned (.bool true) ∧ ∃ q : Regrown, w'' = grow (redrawn w0 q.d) q.os) := fun d os' => Calls.regrown_of (by have h := l07Object_any o l (grow (redrawn w0 d) os') ((HOV.out.go HB0.out).go (below_regrown w0 d os')); rw [HVO.out] at h; exact h)
          clear hw0 g0 g1 g2 hp0 q0 q1 q2 q3 q4 q5 q6 q7 q8 q9 s0 s1 r0
          refine wp_region_quiet_below (by kernel_rfl) (by kernel_rfl) ?_
          repeat (first | go_big_quiet_step (exact cO _ _) | quiet_step (exact cO _ _))
          refine wpQuiet_nil ?_
          intro w4 hw'
          obtain ⟨⟨dq, osq⟩, hw''⟩ := hw'
          have HB4 : Hid (Below W.heap.size W w4) := by show Below _ _ _; rw [hw'']; exact HW.out.trans ((HB0.out.trans ((below_regrown w0 dq osq).mono HB0.out.size)).mono HW.out.size)
          clear hw'' x0 x1 x2 x3 x4 x5 x6 x7 x8 x9 y0 y1 y2 cO
          go_wp2_with fail
          go_ret
          exact ⟨by rw [HF.out]; rfl, HB4.out⟩
    · have hkn : k = n := by omega
      have HVA : Hid ((∀ (j : Nat) (o : Ob), os[j]? = some o → ValidO o ∧ o.id ≤ nx) ∧ Rising os) := by
        refine ⟨fun j x hx => HV.out.1 j x ?_ hx, fun j u v hu hv => HV.out.2 j u v ?_ hu hv⟩
        · have := (List.getElem?_eq_some_iff.1 hx).1
          have := HN.out
          omega
        · have := (List.getElem?_eq_some_iff.1 hv).1
          have := HN.out
          omega
      clear HV hkn
      go_wp2_with fail
      go_loopw [5] (fun i wq => ∃ k : Nat, k ≤ n ∧ i = .int .i64 k ∧ Hid (Below W.heap.size W wq) ∧ Hid (∀ (j : Nat) (o : Ob), j < k → os[j]? = some o → RefsFit os o)) (fun i _ => n - (intOf i).toNat)
      case atStart => exact ⟨0, Nat.zero_le _, rfl, HW, fun j o hj => absurd hj (by omega)⟩
      case round =>
        obtain ⟨m, hm, rfl, HW2, HV2⟩ := hrel
        have HH2 := Lib.hid (H.out.go HW2.out)
        have t1 := HH2.out.2.1
        by_cases hlm : m < n
        · obtain ⟨b, off, o, l, rfl, hg, hx, ho, hov⟩ := HH2.out.2.2.1.at_ hlm
          have HX := Lib.hid hx
          have HO := Lib.hid ho
          have HOV := Lib.hid hov
          have HGB := Lib.hid hg
          have m0 : (0 : Int) ≤ (m : Int) := by omega
          have m1 : (m : Int) < (n : Int) := by omega
          obtain ⟨RF, hRF⟩ : ∃ z, tt (RefsFit os o) = z := ⟨_, rfl⟩
          have HRF := Lib.hid hRF
          clear hx ho hov hg hRF
          cases RF
          · have HF : Hid (P = false) := by
              show _ = _
              rw [← HP.out]
              exact tt_false fun h => of_tt_false HRF.out (h.2.2.2.2 m o HX.out)
            go_wp2_with (go_at_call 115; have HQ := l07Refs_any g nx _ n c os b (off + m * 10) o l _ HH2.out HVA.out.2 HO.out HOV.out HGB.out; refine Calls.mono HQ ?_; clear HQ; rintro e w5 ⟨rfl, hb⟩; rw [HRF.out]; have HW5 := Lib.hid (HW2.out.trans (hb.mono HW2.out.size)); clear hb)
            go_ret
            exact ⟨by rw [HF.out]; rfl, HW5.out⟩
          · go_wp2_with (go_at_call 115; have HQ := l07Refs_any g nx _ n c os b (off + m * 10) o l _ HH2.out HVA.out.2 HO.out HOV.out HGB.out; refine Calls.mono HQ ?_; clear HQ; rintro e w5 ⟨rfl, hb⟩; rw [HRF.out]; have HW5 := Lib.hid (HW2.out.trans (hb.mono HW2.out.size)); clear hb)
            have HNX : Hid (∀ (j : Nat) (o : Ob), j < m + 1 → os[j]? = some o → RefsFit os o) := by
              intro j y hj hy
              by_cases e : j = m
              · rw [e, HX.out, Option.some.injEq] at hy
                subst hy
                exact of_tt HRF.out
              · exact HV2.out j y (by omega) hy
            go_roundw
            case rel => exact ⟨m + 1, by omega, by go_num, HW5, HNX⟩
            case measure => simp [intOf]; omega
        · have hmn : m = n := by omega
          have HT : Hid (P = true) := by
            show _ = _
            rw [← HP.out]
            refine tt_true ⟨of_decide_eq_true HI.out, by rw [HN.out]; exact HL.out, HVA.out.1, HVA.out.2, fun j y hy => HV2.out j y ?_ hy⟩
            have := (List.getElem?_eq_some_iff.1 hy).1
            have := HN.out
            omega
          go_wp2_with fail
          go_ret
          exact ⟨by rw [HT.out]; rfl, HW2.out⟩

set_option maxRecDepth 100000 in
theorem spec_ValidHeap_any (nx : Int) (A : Option Addr) (n c : Nat) (os : List Ob) (W : World) (ha : OI W W.heap.size A n os) :
    Calls Tryz.prog 37 #[.agg #[.int .i64 nx, .slice A n c]] W fun e w' => e = .returned (.bool (tt (ValidH nx os))) ∧ Below W.heap.size W w' := by
  have HA := Lib.hid ha
  have HC := Lib.hid (one_new W 55 #[.int .i64 nx, .slice A n c])
  clear ha
  go_enter Tryz.func37, Tryz.ntmps37
  go_wp2_with (go_at_call 74; obtain ⟨g0, g1, g2⟩ := HC.out _ rfl; have HQ := l07Ok_any W.heap.size nx A n c os _ ⟨g0.cell 0, g0.cell 1, HA.out.go g1, g2⟩; refine Calls.mono HQ ?_; clear HQ; rintro e w1 ⟨rfl, hb⟩; have HB1 := Lib.hid (g1.trans (hb.mono g1.size)); clear g0 g1 g2 hb HA)
  all_goals go_ret
  all_goals exact ⟨rfl, HB1.out⟩
end Go.Proofs.YtfcpdjfckeoniaaGreatDoor

namespace Go.Proofs.YtfcpdjfckeoniaaGreatDoor
open Go Go.RowKit Go.Sort

/-- What slices.Index answers of a value. -/
def IndexOf (xs : List Vl) (v : Vl) (f : Int) : Prop := (∃ k : Nat, xs[k]? = some v ∧ f = (k : Int)) ∨ ((∀ (j : Nat) (x : Vl), xs[j]? = some x → x ≠ v) ∧ f = -1)

set_option maxHeartbeats 2000000 in
set_option maxRecDepth 100000 in
theorem slicesIndex_any (A : Option Addr) (n c : Nat) (xs : List Vl) (v : Vl) (W : World) (ha : VI W W.heap.size A n xs) :
    Calls Tryz.prog 220 #[.slice A n c, v.ag] W fun e w' => ∃ f, e = .returned (.int .i64 f) ∧ Hid (IndexOf xs v f ∧ f < 9223372036854775807) ∧ Below W.heap.size W w' := by
  have HA := Lib.hid ha
  have hn := ha.2.1
  have HN := Lib.hid ha.1
  unfold maxLen at hn
  clear ha
  obtain ⟨vk, vn, vt, vr⟩ := v
  show Calls Tryz.prog 220 #[.slice A n c, .agg #[.int .i64 vk, .int .i64 vn, .string vt, .int .i64 vr]] W _
  have HC := Lib.hid (one_new W 36 #[.int .i64 vk, .int .i64 vn, .string vt, .int .i64 vr])
  go_enter Tryz.func220, Tryz.ntmps220
  go_wp2_with fail
  obtain ⟨w0, hw0⟩ : ∃ w0, W.alloc (.cells #[.int .i64 vk, .int .i64 vn, .string vt, .int .i64 vr] 36) = w0 := ⟨_, rfl⟩
  rw [hw0]
  obtain ⟨g0, g1, g2⟩ := HC.out w0 hw0.symm
  have HR0 := Lib.hid g0
  have HB0 := Lib.hid g1
  have HG0 := Lib.hid g2
  clear hw0 g0 g1 g2 HC
  go_loopw [8] (fun i wr => ∃ k : Nat, k ≤ n ∧ i = .int .i64 k ∧ Hid (Below w0.heap.size w0 wr) ∧ Hid (∀ (j : Nat) (x : Vl), j < k → xs[j]? = some x → x ≠ ⟨vk, vn, vt, vr⟩)) (fun i _ => n - (intOf i).toNat)
  case atStart => exact ⟨0, Nat.zero_le _, rfl, Below.refl _ _, fun j x hj => absurd hj (by omega)⟩
  case round =>
    obtain ⟨k, hk, rfl, HW, HV⟩ := hrel
    have HWW := Lib.hid (HB0.out.trans (HW.out.mono HB0.out.size))
    by_cases hlt : k < n
    · have b0 : (0 : Int) ≤ (k : Int) := by omega
      have b1 : (k : Int) < (n : Int) := by omega
      obtain ⟨b, off, x, rfl, hg, hx, ⟨q0, q1, q2, q3⟩, _⟩ := (HA.out.go HWW.out).at_ hlt
      have HX := Lib.hid hx
      have HG := Lib.hid hg
      have HRR := Lib.hid (HR0.out.below HW.out HG0.out)
      have HGV : Hid (W.heap.size < wr.heap.size) := Nat.lt_of_lt_of_le HG0.out HW.out.size
      have p0 : wr.cell? ⟨W.heap.size, 0, none⟩ = some (.int .i64 vk) := HRR.out.cell 0
      have p1 : wr.cell? ⟨W.heap.size, 1, none⟩ = some (.int .i64 vn) := HRR.out.cell 1
      have p2 : wr.cell? ⟨W.heap.size, 2, none⟩ = some (.string vt) := HRR.out.cell 2
      have p3 : wr.cell? ⟨W.heap.size, 3, none⟩ = some (.int .i64 vr) := HRR.out.cell 3
      obtain ⟨xk, xn, xt, xr⟩ := x
      dsimp only at q0 q1 q2 q3
      have HS := Lib.hid (sameV_iff ⟨vk, vn, vt, vr⟩ ⟨xk, xn, xt, xr⟩)
      clear hx hg
      have HF : Hid (sameV vk vn vt vr xk xn xt xr = false → ∀ (j : Nat) (x : Vl), j < k + 1 → xs[j]? = some x → x ≠ ⟨vk, vn, vt, vr⟩) := by
        show _ → _
        intro h j x hj hx
        by_cases e : j = k
        · rw [e, HX.out, Option.some.injEq] at hx
          subst hx
          intro e2
          rw [HS.out.2 e2.symm] at h
          cases h
        · exact HV.out j x (by omega) hx
      have HT : Hid (sameV vk vn vt vr xk xn xt xr = true → xs[k]? = some ⟨vk, vn, vt, vr⟩) := by
        show _ → _
        intro h
        rw [HX.out, HS.out.1 h]
      unfold sameV at HF HT
      clear HS HX
      obtain ⟨z1, h1⟩ : ∃ z, (vk == xk) = z := ⟨_, rfl⟩
      obtain ⟨z2, h2⟩ : ∃ z, (vn == xn) = z := ⟨_, rfl⟩
      obtain ⟨z3, h3⟩ : ∃ z, (vt.toList == xt.toList) = z := ⟨_, rfl⟩
      obtain ⟨z4, h4⟩ : ∃ z, (vr == xr) = z := ⟨_, rfl⟩
      rw [h1, h2, h3, h4] at HF HT
      cases z1
      · have HF1 := Lib.hid (HF.out (by simp))
        clear HF HT
        go_wp2_with fail
        go_region_held3 (fun w' => Two4 w' W.heap.size b 0 (off + k * 4) vk vn vt vr xk xn xt xr ∧ Below wr.heap.size wr w')
          (first | (exact ⟨⟨⟨p0, p1, p2, p3⟩, ⟨q0, q1, q2, q3⟩⟩, (Below.refl _ _).drew⟩) | (go_split_ands; exact two4_keep HGV.out HG.out ⟨⟨⟨by assumption, by assumption, by assumption, by assumption⟩, ⟨by assumption, by assumption, by assumption, by assumption⟩⟩, by assumption⟩ hb) | go_keep)
          (fail)
        go_wp2_with fail
        go_split_ands
        go_roundw
        case rel => exact ⟨k + 1, by omega, by go_num, HW.out.trans (Below.mono (by assumption) HW.out.size), HF1⟩
        case measure => simp [intOf]; omega
      cases z2
      · have HF1 := Lib.hid (HF.out (by simp))
        clear HF HT
        go_wp2_with fail
        go_region_held3 (fun w' => Two4 w' W.heap.size b 0 (off + k * 4) vk vn vt vr xk xn xt xr ∧ Below wr.heap.size wr w')
          (first | (exact ⟨⟨⟨p0, p1, p2, p3⟩, ⟨q0, q1, q2, q3⟩⟩, (Below.refl _ _).drew⟩) | (go_split_ands; exact two4_keep HGV.out HG.out ⟨⟨⟨by assumption, by assumption, by assumption, by assumption⟩, ⟨by assumption, by assumption, by assumption, by assumption⟩⟩, by assumption⟩ hb) | go_keep)
          (fail)
        go_wp2_with fail
        go_split_ands
        go_roundw
        case rel => exact ⟨k + 1, by omega, by go_num, HW.out.trans (Below.mono (by assumption) HW.out.size), HF1⟩
        case measure => simp [intOf]; omega
      cases z3
      · have HF1 := Lib.hid (HF.out (by simp))
        clear HF HT
        go_wp2_with fail
        go_region_held3 (fun w' => Two4 w' W.heap.size b 0 (off + k * 4) vk vn vt vr xk xn xt xr ∧ Below wr.heap.size wr w')
          (first | (exact ⟨⟨⟨p0, p1, p2, p3⟩, ⟨q0, q1, q2, q3⟩⟩, (Below.refl _ _).drew⟩) | (go_split_ands; exact two4_keep HGV.out HG.out ⟨⟨⟨by assumption, by assumption, by assumption, by assumption⟩, ⟨by assumption, by assumption, by assumption, by assumption⟩⟩, by assumption⟩ hb) | go_keep)
          (fail)
        go_wp2_with fail
        go_split_ands
        go_roundw
        case rel => exact ⟨k + 1, by omega, by go_num, HW.out.trans (Below.mono (by assumption) HW.out.size), HF1⟩
        case measure => simp [intOf]; omega
      cases z4
      · have HF1 := Lib.hid (HF.out (by simp))
        clear HF HT
        go_wp2_with fail
        go_region_held3 (fun w' => Two4 w' W.heap.size b 0 (off + k * 4) vk vn vt vr xk xn xt xr ∧ Below wr.heap.size wr w')
          (first | (exact ⟨⟨⟨p0, p1, p2, p3⟩, ⟨q0, q1, q2, q3⟩⟩, (Below.refl _ _).drew⟩) | (go_split_ands; exact two4_keep HGV.out HG.out ⟨⟨⟨by assumption, by assumption, by assumption, by assumption⟩, ⟨by assumption, by assumption, by assumption, by assumption⟩⟩, by assumption⟩ hb) | go_keep)
          (fail)
        go_wp2_with fail
        go_split_ands
        go_roundw
        case rel => exact ⟨k + 1, by omega, by go_num, HW.out.trans (Below.mono (by assumption) HW.out.size), HF1⟩
        case measure => simp [intOf]; omega
      have HT1 := Lib.hid (HT.out (by simp))
      have HL1 : Hid ((k : Int) < 9223372036854775807) := by show _ < _; omega
      clear HF HT
      go_wp2_with fail
      go_region_held3 (fun w' => Two4 w' W.heap.size b 0 (off + k * 4) vk vn vt vr xk xn xt xr ∧ Below wr.heap.size wr w')
        (first | (exact ⟨⟨⟨p0, p1, p2, p3⟩, ⟨q0, q1, q2, q3⟩⟩, (Below.refl _ _).drew⟩) | (go_split_ands; exact two4_keep HGV.out HG.out ⟨⟨⟨by assumption, by assumption, by assumption, by assumption⟩, ⟨by assumption, by assumption, by assumption, by assumption⟩⟩, by assumption⟩ hb) | go_keep)
        (fail)
      go_wp2_with fail
      go_split_ands
      go_ret
      exact ⟨_, rfl, Lib.hid ⟨.inl ⟨k, HT1.out, rfl⟩, HL1.out⟩, HWW.out.trans (Below.mono (by assumption) HWW.out.size)⟩
    · have hkn : k = n := by omega
      have HNO : Hid (∀ (j : Nat) (x : Vl), xs[j]? = some x → x ≠ ⟨vk, vn, vt, vr⟩) := by
        intro j x hx
        refine HV.out j x ?_ hx
        have := (List.getElem?_eq_some_iff.1 hx).1
        have := HN.out
        omega
      go_wp2_with fail
      go_ret
      exact ⟨_, rfl, Lib.hid ⟨.inr ⟨HNO.out, rfl⟩, by decide⟩, HWW.out⟩

set_option maxRecDepth 100000 in
theorem slicesContains_any (A : Option Addr) (n c : Nat) (xs : List Vl) (v : Vl) (W : World) (ha : VI W W.heap.size A n xs) :
    Calls Tryz.prog 219 #[.slice A n c, v.ag] W fun e w' => e = .returned (.bool (tt (v ∈ xs))) ∧ Below W.heap.size W w' := by
  have HA := Lib.hid ha
  clear ha
  obtain ⟨P, hP⟩ : ∃ P, tt (v ∈ xs) = P := ⟨_, rfl⟩
  have HP := Lib.hid hP
  rw [hP]
  clear hP
  obtain ⟨vk, vn, vt, vr⟩ := v
  show Calls Tryz.prog 219 #[.slice A n c, .agg #[.int .i64 vk, .int .i64 vn, .string vt, .int .i64 vr]] W _
  have HC := Lib.hid (one_new W 36 #[.int .i64 vk, .int .i64 vn, .string vt, .int .i64 vr])
  go_enter Tryz.func219, Tryz.ntmps219
  go_wp2_with (go_at_call 220; obtain ⟨g0, g1, g2⟩ := HC.out _ rfl; have HQ := slicesIndex_any A n c xs ⟨vk, vn, vt, vr⟩ _ (HA.out.go g1); refine Calls.mono HQ ?_; clear HQ; rintro e w1 ⟨f, rfl, hf, hb⟩; have HF := Lib.hid hf.out; have HB1 := Lib.hid (g1.trans (hb.mono g1.size)); obtain ⟨y, hy⟩ : ∃ y, decide ((0 : Int) ≤ f) = y := ⟨_, rfl⟩; have HY := Lib.hid hy; clear g0 g1 g2 hf hb HA)
  all_goals go_ret
  all_goals refine ⟨?_, HB1.out⟩
  all_goals
    have hPy : P = y := by
      rw [← HP.out, ← HY.out, Bool.eq_iff_iff]
      simp only [tt_iff, decide_eq_true_eq]
      rcases HF.out.1 with ⟨k, hk, rfl⟩ | ⟨hno, rfl⟩
      · exact ⟨fun _ => Int.natCast_nonneg _, fun _ => List.mem_of_getElem? hk⟩
      · refine ⟨fun h => ?_, fun h => absurd h (by decide)⟩
        obtain ⟨j, hj⟩ := List.getElem?_of_mem h
        exact absurd rfl (hno j _ hj)
    rw [hPy]
    rfl
end Go.Proofs.YtfcpdjfckeoniaaGreatDoor

namespace Go.Proofs.YtfcpdjfckeoniaaGreatDoor
open Go Go.RowKit Go.Sort

set_option maxHeartbeats 2000000 in
set_option maxRecDepth 100000 in
theorem areDifferent_any (A : Option Addr) (n c : Nat) (xs : List Vl) (W : World) (hr : VI W W.heap.size A n xs) (hnc : n ≤ c) :
    Calls Tryz.prog 218 #[.slice A n c] W fun e w' => e = .returned (.bool (tt (Distinct xs))) ∧ Below W.heap.size W w' := by
  have HR := Lib.hid hr
  have hn := hr.2.1
  have HN := Lib.hid hr.1
  unfold maxLen at hn
  clear hr
  obtain ⟨P, hP⟩ : ∃ P, tt (Distinct xs) = P := ⟨_, rfl⟩
  have HP := Lib.hid hP
  rw [hP]
  clear hP
  go_enter Tryz.func218, Tryz.ntmps218
  go_wp2_with fail
  go_loopw [7] (fun i wr => ∃ k : Nat, k ≤ n ∧ i = .int .i64 k ∧ Hid (Below W.heap.size W wr) ∧ Hid (∀ (i j : Nat) (x y : Vl), i < k → j < i → xs[i]? = some x → xs[j]? = some y → x ≠ y)) (fun i _ => n - (intOf i).toNat)
  case atStart => exact ⟨0, Nat.zero_le _, rfl, Below.refl _ _, fun i j x y hi => absurd hi (by omega)⟩
  case round =>
    obtain ⟨k, hk, rfl, HW, HV⟩ := hrel
    by_cases hlt : k < n
    · have b0 : (0 : Int) ≤ (k : Int) := by omega
      have b1 : (k : Int) < (n : Int) := by omega
      have b2 : (k : Int) ≤ (c : Int) := by omega
      have b3 : k ≤ c := by omega
      have hvi := HR.out.go HW.out
      obtain ⟨b, off, x, rfl, hg, hx, ⟨q0, q1, q2, q3⟩, _⟩ := hvi.at_ hlt
      have HX := Lib.hid hx
      have HT := Lib.hid (hvi.take (k := k) (by omega))
      have HC := Lib.hid (one_new wr 36 #[.int .i64 x.k, .int .i64 x.n, .string x.t, .int .i64 x.r])
      obtain ⟨z, hz⟩ : ∃ z, tt (x ∈ xs.take k) = z := ⟨_, rfl⟩
      have HZ := Lib.hid hz
      clear hx hg hvi hz
      go_wp2_with fail
      obtain ⟨w0, hw0⟩ : ∃ w0, wr.alloc (.cells #[.int .i64 x.k, .int .i64 x.n, .string x.t, .int .i64 x.r] 36) = w0 := ⟨_, rfl⟩
      rw [hw0]
      obtain ⟨g0, g1, g2⟩ := HC.out w0 hw0.symm
      have HB0 := Lib.hid g1
      have x0 := cell_regrown (g0.cell 0)
      have x1 := cell_regrown (g0.cell 1)
      have x2 := cell_regrown (g0.cell 2)
      have x3 := cell_regrown (g0.cell 3)
      have cC : ∀ d os', Calls Tryz.prog 219 #[.slice (some ⟨b, off, none⟩) k c, .agg #[.int .i64 x.k, .int .i64 x.n, .string x.t, .int .i64 x.r]] (grow (redrawn w0 d) os') (fun e w'' => e = .returned (.bool z) ∧ ∃ q : Regrown, w'' = grow (redrawn w0 q.d) q.os) := fun d os' => Calls.regrown_of (by have h := slicesContains_any (some ⟨b, off, none⟩) k c (xs.take k) x (grow (redrawn w0 d) os') ((HT.out.go HB0.out).go (below_regrown w0 d os')); rw [HZ.out] at h; exact h)
      clear hw0 g0 g1 g2 q0 q1 q2 q3
      refine wp_region_quiet_below (by kernel_rfl) (by kernel_rfl) ?_
      repeat (first | go_big_quiet_step (exact cC _ _) | quiet_step (exact cC _ _))
      refine wpQuiet_nil ?_
      intro w4 hw'
      obtain ⟨⟨dq, osq⟩, hw''⟩ := hw'
      have HB4 : Hid (Below W.heap.size W w4) := by show Below _ _ _; rw [hw'']; exact HW.out.trans ((HB0.out.trans ((below_regrown w0 dq osq).mono HB0.out.size)).mono HW.out.size)
      clear hw'' x0 x1 x2 x3 cC
      cases z
      · have HNX : Hid (∀ (i j : Nat) (x y : Vl), i < k + 1 → j < i → xs[i]? = some x → xs[j]? = some y → x ≠ y) := by
          intro i j u v hi hj hu hv
          by_cases e : i = k
          · rw [e, HX.out, Option.some.injEq] at hu
            subst hu
            intro e2
            refine of_tt_false HZ.out ?_
            rw [e2]
            refine List.mem_of_getElem? (i := j) ?_
            rw [List.getElem?_take, if_pos (by omega)]
            exact hv
          · exact HV.out i j u v (by omega) hj hu hv
        go_wp2_with fail
        go_roundw
        case rel => exact ⟨k + 1, by omega, by go_num, HB4, HNX⟩
        case measure => simp [intOf]; omega
      · have HF : Hid (P = false) := by
          show _ = _
          rw [← HP.out]
          refine tt_false fun h => ?_
          obtain ⟨j, hj⟩ := List.getElem?_of_mem (of_tt HZ.out)
          rw [List.getElem?_take] at hj
          split at hj
          · rename_i hjk
            exact h k j x x hjk HX.out hj rfl
          · cases hj
        go_wp2_with fail
        go_ret
        exact ⟨by rw [HF.out]; rfl, HB4.out⟩
    · have hkn : k = n := by omega
      have HT : Hid (P = true) := by
        show _ = _
        rw [← HP.out]
        refine tt_true fun i j x y hj hx hy => HV.out i j x y ?_ hj hx hy
        have := (List.getElem?_eq_some_iff.1 hx).1
        have := HN.out
        omega
      go_wp2_with fail
      go_ret
      exact ⟨by rw [HT.out]; rfl, HW.out⟩
end Go.Proofs.YtfcpdjfckeoniaaGreatDoor

namespace Go.Proofs.YtfcpdjfckeoniaaGreatDoor
open Go Go.RowKit Go.Sort

theorem numberValue_any (n : Int) (W : World) :
    Calls Tryz.prog 103 #[.int .i64 n] W fun e w' => e = .returned (.agg #[.int .i64 2, .int .i64 n, .string ⟨#[]⟩, .int .i64 0]) ∧ Below W.heap.size W w' := by
  go_enter Tryz.func103, Tryz.ntmps103
  go_wp2
  exact bodyPost_ret (v := .agg #[.int .i64 2, .int .i64 n, .string ⟨#[]⟩, .int .i64 0]) (by simp [results, Tryz.results103, go_sem]) rfl
    ⟨rfl, by repeat (first | exact Below.refl _ _ | refine Below.setCell ?_ (by first | (simp; done) | (simp; omega)) _ | refine Below.alloc ?_ (by first | (simp; done) | (simp; omega)) _)⟩
theorem objectValue_any (k r : Int) (W : World) :
    Calls Tryz.prog 104 #[.int .i64 k, .int .i64 r] W fun e w' => e = .returned (.agg #[.int .i64 k, .int .i64 0, .string ⟨#[]⟩, .int .i64 r]) ∧ Below W.heap.size W w' := by
  go_enter Tryz.func104, Tryz.ntmps104
  go_wp2
  exact bodyPost_ret (v := .agg #[.int .i64 k, .int .i64 0, .string ⟨#[]⟩, .int .i64 r]) (by simp [results, Tryz.results104, go_sem]) rfl
    ⟨rfl, by repeat (first | exact Below.refl _ _ | refine Below.setCell ?_ (by first | (simp; done) | (simp; omega)) _ | refine Below.alloc ?_ (by first | (simp; done) | (simp; omega)) _)⟩

theorem within_int (x lo hi : Int) (W : World) :
    Calls Tryz.prog 102 #[.int .i64 x, .int .i64 lo, .int .i64 hi] W fun e w' => e = .returned (.bool (decide (lo ≤ x ∧ x ≤ hi))) ∧ W = w' := by
  by_cases h0 : lo ≤ x
  · have d0 : decide (lo ≤ x) = true := by simp [h0]
    by_cases h1 : x ≤ hi
    · have d1 : decide (x ≤ hi) = true := by simp [h1]
      have e : decide (lo ≤ x ∧ x ≤ hi) = true := by simp [h0, h1]
      rw [e]
      go_enter Tryz.func102, Tryz.ntmps102
      go_wp2
      all_goals go_ret
      all_goals exact ⟨rfl, rfl⟩
    · have d1 : decide (x ≤ hi) = false := by simp; omega
      have e : decide (lo ≤ x ∧ x ≤ hi) = false := by simp; omega
      rw [e]
      go_enter Tryz.func102, Tryz.ntmps102
      go_wp2
      all_goals go_ret
      all_goals exact ⟨rfl, rfl⟩
  · have d0 : decide (lo ≤ x) = false := by simp; omega
    have e : decide (lo ≤ x ∧ x ≤ hi) = false := by simp; omega
    rw [e]
    go_enter Tryz.func102, Tryz.ntmps102
    go_wp2
    all_goals go_ret
    all_goals exact ⟨rfl, rfl⟩
theorem within_i64 (x lo hi : Int) (W : World) :
    Calls Tryz.prog 59 #[.int .i64 x, .int .i64 lo, .int .i64 hi] W fun e w' => e = .returned (.bool (decide (lo ≤ x ∧ x ≤ hi))) ∧ W = w' := by
  by_cases h0 : lo ≤ x
  · have d0 : decide (lo ≤ x) = true := by simp [h0]
    by_cases h1 : x ≤ hi
    · have d1 : decide (x ≤ hi) = true := by simp [h1]
      have e : decide (lo ≤ x ∧ x ≤ hi) = true := by simp [h0, h1]
      rw [e]
      go_enter Tryz.func59, Tryz.ntmps59
      go_wp2
      all_goals go_ret
      all_goals exact ⟨rfl, rfl⟩
    · have d1 : decide (x ≤ hi) = false := by simp; omega
      have e : decide (lo ≤ x ∧ x ≤ hi) = false := by simp; omega
      rw [e]
      go_enter Tryz.func59, Tryz.ntmps59
      go_wp2
      all_goals go_ret
      all_goals exact ⟨rfl, rfl⟩
  · have d0 : decide (lo ≤ x) = false := by simp; omega
    have e : decide (lo ≤ x ∧ x ≤ hi) = false := by simp; omega
    rw [e]
    go_enter Tryz.func59, Tryz.ntmps59
    go_wp2
    all_goals go_ret
    all_goals exact ⟨rfl, rfl⟩

theorem same_regrown {f : FuncId} {args : Array Value} {w : World} {d : Nat} {os : Array Obj} {b b' : Bool} (h : Calls Tryz.prog f args (grow (redrawn w d) os) fun e w' => e = .returned (.bool b) ∧ grow (redrawn w d) os = w') (hb : b = b') :
    Calls Tryz.prog f args (grow (redrawn w d) os) fun e w'' => e = .returned (.bool b') ∧ ∃ p : Regrown, w'' = grow (redrawn w p.d) p.os := by
  subst hb
  exact h.mono fun e w' ⟨he, hw⟩ => ⟨he, ⟨d, os⟩, hw.symm⟩
theorem below_same {f : FuncId} {args : Array Value} {w : World} {d : Nat} {os : Array Obj} {b b' : Bool} (h : Calls Tryz.prog f args (grow (redrawn w d) os) fun e w' => e = .returned (.bool b) ∧ Below (grow (redrawn w d) os).heap.size (grow (redrawn w d) os) w') (hb : b = b') :
    Calls Tryz.prog f args (grow (redrawn w d) os) fun e w'' => e = .returned (.bool b') ∧ ∃ p : Regrown, w'' = grow (redrawn w p.d) p.os := by
  subst hb
  exact Calls.regrown_of h

set_option maxHeartbeats 8000000 in
theorem impl_ValidValue_any (k n : Int) (t : ByteArray) (r : Int) (W : World) (hs : t.size ≤ maxLen) (hT : Classes W) :
    Calls Tryz.prog 61 #[.agg #[.int .i64 k, .int .i64 n, .string t, .int .i64 r]] W fun e w' => e = .returned (.bool (validV k n t r)) ∧ Below W.heap.size W w' := by
  have HS : Hid (t.size ≤ maxLen) := hs
  have HT : Hid (Classes W) := hT
  have HG : Hid (1 < W.heap.size) := heap_pos (hT.at_ 0 (by decide))
  clear hs hT
  unfold validV
  obtain ⟨z, hz⟩ : ∃ z, (n == 0) = z := ⟨_, rfl⟩
  obtain ⟨y, hy⟩ : ∃ y, (r == 0) = y := ⟨_, rfl⟩
  rw [hz, hy]
  by_cases k1 : k = 1
  · subst k1
    rw [if_pos rfl]
    by_cases hl : t.size ≤ 200
    · have e1 : decide ((t.size : Int) ≤ 200) = true := by simp; omega
      have e2 : decide (t.size ≤ 200) = true := by simp [hl]
      rw [e2]
      clear hl e2
      cases z <;> cases y
      all_goals
        go_enter Tryz.func61, Tryz.ntmps61
        go_wp2_with fail
        obtain ⟨w0, hw0⟩ : ∃ w0, W.alloc (.cells #[.int .i64 1, .int .i64 n, .string t, .int .i64 r] 36) = w0 := ⟨_, rfl⟩
        have Q : V4 w0 W.heap.size 1 n t r := by rw [← hw0]; exact v4_new _ _ _ _ _ _
        have HB0 : Hid (Below W.heap.size W w0) := by show Below _ _ _; rw [← hw0]; exact (Below.refl _ _).alloc (Nat.le_refl _) _
        rw [hw0]
        obtain ⟨q0, q1, q2, q3⟩ := Q
        clear hw0
        have c0 := cell_regrown q0
        have c1 := cell_regrown q1
        have c2 := cell_regrown q2
        have c3 := cell_regrown q3
        have cT : ∀ d os, Calls Tryz.prog 101 #[.int .i64 1, .string t] (grow (redrawn w0 d) os) (fun e w'' => e = .returned (.agg #[.int .i64 1, .int .i64 0, .string t, .int .i64 0]) ∧ ∃ p : Regrown, w'' = grow (redrawn w0 p.d) p.os) := fun d os => Calls.regrown_of (textValue_any _ _ _)
        refine wp_region_quiet_below (by kernel_rfl) (by kernel_rfl) ?_
        repeat (first | go_big_quiet_step (exact cT _ _) | quiet_step (exact cT _ _))
        refine wpQuiet_nil ?_
        intro _ hw'
        obtain ⟨⟨dq, osq⟩, hw''⟩ := hw'
        subst hw''
        go_wp2_with fail
        go_ret
        exact ⟨rfl, HB0.out.trans ((below_regrown w0 dq osq).mono HB0.out.size)⟩
    · have e1 : decide ((t.size : Int) ≤ 200) = false := by simp; omega
      have e2 : decide (t.size ≤ 200) = false := by simp; omega
      rw [e2]
      clear hl e2
      cases z <;> cases y
      all_goals
        go_enter Tryz.func61, Tryz.ntmps61
        go_wp2_with fail
        obtain ⟨w0, hw0⟩ : ∃ w0, W.alloc (.cells #[.int .i64 1, .int .i64 n, .string t, .int .i64 r] 36) = w0 := ⟨_, rfl⟩
        have Q : V4 w0 W.heap.size 1 n t r := by rw [← hw0]; exact v4_new _ _ _ _ _ _
        have HB0 : Hid (Below W.heap.size W w0) := by show Below _ _ _; rw [← hw0]; exact (Below.refl _ _).alloc (Nat.le_refl _) _
        rw [hw0]
        obtain ⟨q0, q1, q2, q3⟩ := Q
        clear hw0
        have c0 := cell_regrown q0
        have c1 := cell_regrown q1
        have c2 := cell_regrown q2
        have c3 := cell_regrown q3
        have cT : ∀ d os, Calls Tryz.prog 101 #[.int .i64 1, .string t] (grow (redrawn w0 d) os) (fun e w'' => e = .returned (.agg #[.int .i64 1, .int .i64 0, .string t, .int .i64 0]) ∧ ∃ p : Regrown, w'' = grow (redrawn w0 p.d) p.os) := fun d os => Calls.regrown_of (textValue_any _ _ _)
        refine wp_region_quiet_below (by kernel_rfl) (by kernel_rfl) ?_
        repeat (first | go_big_quiet_step (exact cT _ _) | quiet_step (exact cT _ _))
        refine wpQuiet_nil ?_
        intro _ hw'
        obtain ⟨⟨dq, osq⟩, hw''⟩ := hw'
        subst hw''
        go_wp2_with fail
        go_ret
        exact ⟨rfl, HB0.out.trans ((below_regrown w0 dq osq).mono HB0.out.size)⟩
  rw [if_neg k1]
  by_cases k2 : k = 2
  · subst k2
    rw [if_pos rfl]
    obtain ⟨x, hx⟩ : ∃ x, decide (-1000000000000 ≤ n ∧ n ≤ 1000000000000) = x := ⟨_, rfl⟩
    have HX := Lib.hid hx
    rw [hx]
    clear hx k1
    by_cases h0 : t.size = 0
    · have e1 := nil_of_size h0
      have e2 := isEmpty_of_size h0
      have e3 : (t.size == 0) = true := by simp [h0]
      rw [e3]
      clear e3 h0
      cases y <;> cases x
      all_goals
        go_enter Tryz.func61, Tryz.ntmps61
        go_wp2_with fail
        obtain ⟨w0, hw0⟩ : ∃ w0, W.alloc (.cells #[.int .i64 2, .int .i64 n, .string t, .int .i64 r] 36) = w0 := ⟨_, rfl⟩
        have Q : V4 w0 W.heap.size 2 n t r := by rw [← hw0]; exact v4_new _ _ _ _ _ _
        have HB0 : Hid (Below W.heap.size W w0) := by show Below _ _ _; rw [← hw0]; exact (Below.refl _ _).alloc (Nat.le_refl _) _
        rw [hw0]
        obtain ⟨q0, q1, q2, q3⟩ := Q
        clear hw0
        have c0 := cell_regrown q0
        have c1 := cell_regrown q1
        have c2 := cell_regrown q2
        have c3 := cell_regrown q3
        have cT : ∀ d os, Calls Tryz.prog 103 #[.int .i64 n] (grow (redrawn w0 d) os) (fun e w'' => e = .returned (.agg #[.int .i64 2, .int .i64 n, .string ⟨#[]⟩, .int .i64 0]) ∧ ∃ p : Regrown, w'' = grow (redrawn w0 p.d) p.os) := fun d os => Calls.regrown_of (numberValue_any _ _)
        have cW := fun (d : Nat) (os : Array Obj) => same_regrown (w := w0) (d := d) (os := os) (within_i64 n (-1000000000000) 1000000000000 _) HX.out
        refine wp_region_quiet_below (by kernel_rfl) (by kernel_rfl) ?_
        repeat (first | go_big_quiet_step (first | exact cT _ _ | exact cW _ _) | quiet_step (first | exact cT _ _ | exact cW _ _))
        refine wpQuiet_nil ?_
        intro _ hw'
        obtain ⟨⟨dq, osq⟩, hw''⟩ := hw'
        subst hw''
        go_wp2_with fail
        go_ret
        exact ⟨rfl, HB0.out.trans ((below_regrown w0 dq osq).mono HB0.out.size)⟩
    · have hp : 0 < t.size := by omega
      have e1 := ne_nil_of_size hp
      have e2 := not_isEmpty_of_size hp
      have e3 : (t.size == 0) = false := by simp [h0]
      rw [e3]
      clear e3 h0
      cases y <;> cases x
      all_goals
        go_enter Tryz.func61, Tryz.ntmps61
        go_wp2_with fail
        obtain ⟨w0, hw0⟩ : ∃ w0, W.alloc (.cells #[.int .i64 2, .int .i64 n, .string t, .int .i64 r] 36) = w0 := ⟨_, rfl⟩
        have Q : V4 w0 W.heap.size 2 n t r := by rw [← hw0]; exact v4_new _ _ _ _ _ _
        have HB0 : Hid (Below W.heap.size W w0) := by show Below _ _ _; rw [← hw0]; exact (Below.refl _ _).alloc (Nat.le_refl _) _
        rw [hw0]
        obtain ⟨q0, q1, q2, q3⟩ := Q
        clear hw0
        have c0 := cell_regrown q0
        have c1 := cell_regrown q1
        have c2 := cell_regrown q2
        have c3 := cell_regrown q3
        have cT : ∀ d os, Calls Tryz.prog 103 #[.int .i64 n] (grow (redrawn w0 d) os) (fun e w'' => e = .returned (.agg #[.int .i64 2, .int .i64 n, .string ⟨#[]⟩, .int .i64 0]) ∧ ∃ p : Regrown, w'' = grow (redrawn w0 p.d) p.os) := fun d os => Calls.regrown_of (numberValue_any _ _)
        refine wp_region_quiet_below (by kernel_rfl) (by kernel_rfl) ?_
        repeat (first | go_big_quiet_step (exact cT _ _) | quiet_step (exact cT _ _))
        refine wpQuiet_nil ?_
        intro _ hw'
        obtain ⟨⟨dq, osq⟩, hw''⟩ := hw'
        subst hw''
        go_wp2_with fail
        go_ret
        exact ⟨rfl, HB0.out.trans ((below_regrown w0 dq osq).mono HB0.out.size)⟩
  rw [if_neg k2]
  by_cases k3 : k = 3
  · subst k3
    rw [if_pos rfl]
    obtain ⟨x, hx⟩ : ∃ x, decide (1 ≤ (t.size : Int) ∧ (t.size : Int) ≤ 1200) = x := ⟨_, rfl⟩
    have HX := Lib.hid hx
    rw [hx]
    clear hx k1 k2
    cases z <;> cases y <;> cases x
    all_goals
      go_enter Tryz.func61, Tryz.ntmps61
      go_wp2_with fail
      obtain ⟨w0, hw0⟩ : ∃ w0, W.alloc (.cells #[.int .i64 3, .int .i64 n, .string t, .int .i64 r] 36) = w0 := ⟨_, rfl⟩
      have Q : V4 w0 W.heap.size 3 n t r := by rw [← hw0]; exact v4_new _ _ _ _ _ _
      have HB0 : Hid (Below W.heap.size W w0) := by show Below _ _ _; rw [← hw0]; exact (Below.refl _ _).alloc (Nat.le_refl _) _
      rw [hw0]
      obtain ⟨q0, q1, q2, q3⟩ := Q
      clear hw0
      have c0 := cell_regrown q0
      have c1 := cell_regrown q1
      have c2 := cell_regrown q2
      have c3 := cell_regrown q3
      have cT : ∀ d os, Calls Tryz.prog 101 #[.int .i64 3, .string t] (grow (redrawn w0 d) os) (fun e w'' => e = .returned (.agg #[.int .i64 3, .int .i64 0, .string t, .int .i64 0]) ∧ ∃ p : Regrown, w'' = grow (redrawn w0 p.d) p.os) := fun d os => Calls.regrown_of (textValue_any _ _ _)
      have cW := fun (d : Nat) (os : Array Obj) => same_regrown (w := w0) (d := d) (os := os) (within_int t.size 1 1200 _) HX.out
      refine wp_region_quiet_below (by kernel_rfl) (by kernel_rfl) ?_
      repeat (first | go_big_quiet_step (first | exact cT _ _ | exact cW _ _) | quiet_step (first | exact cT _ _ | exact cW _ _))
      refine wpQuiet_nil ?_
      intro _ hw'
      obtain ⟨⟨dq, osq⟩, hw''⟩ := hw'
      subst hw''
      go_wp2_with fail
      go_ret
      exact ⟨rfl, HB0.out.trans ((below_regrown w0 dq osq).mono HB0.out.size)⟩
  rw [if_neg k3]
  by_cases k4 : k = 4 ∨ k = 5 ∨ k = 6
  · rw [if_pos k4]
    obtain ⟨x, hx⟩ : ∃ x, decide (1 ≤ r ∧ r ≤ 1000000) = x := ⟨_, rfl⟩
    have HX := Lib.hid hx
    rw [hx]
    clear hx k1 k2 k3
    by_cases h0 : t.size = 0
    · have e1 := nil_of_size h0
      have e2 := isEmpty_of_size h0
      have e3 : (t.size == 0) = true := by simp [h0]
      rw [e3]
      clear e3 h0
      rcases k4 with rfl | rfl | rfl
      · cases z <;> cases x
        all_goals
          go_enter Tryz.func61, Tryz.ntmps61
          go_wp2_with fail
          obtain ⟨w0, hw0⟩ : ∃ w0, W.alloc (.cells #[.int .i64 4, .int .i64 n, .string t, .int .i64 r] 36) = w0 := ⟨_, rfl⟩
          have Q : V4 w0 W.heap.size 4 n t r := by rw [← hw0]; exact v4_new _ _ _ _ _ _
          have HB0 : Hid (Below W.heap.size W w0) := by show Below _ _ _; rw [← hw0]; exact (Below.refl _ _).alloc (Nat.le_refl _) _
          rw [hw0]
          obtain ⟨q0, q1, q2, q3⟩ := Q
          clear hw0
          have c0 := cell_regrown q0
          have c1 := cell_regrown q1
          have c2 := cell_regrown q2
          have c3 := cell_regrown q3
          have cT : ∀ d os, Calls Tryz.prog 104 #[.int .i64 4, .int .i64 r] (grow (redrawn w0 d) os) (fun e w'' => e = .returned (.agg #[.int .i64 4, .int .i64 0, .string ⟨#[]⟩, .int .i64 r]) ∧ ∃ p : Regrown, w'' = grow (redrawn w0 p.d) p.os) := fun d os => Calls.regrown_of (objectValue_any _ _ _)
          have cW := fun (d : Nat) (os : Array Obj) => same_regrown (w := w0) (d := d) (os := os) (within_i64 r 1 1000000 _) HX.out
          refine wp_region_quiet_below (by kernel_rfl) (by kernel_rfl) ?_
          repeat (first | go_big_quiet_step (first | exact cT _ _ | exact cW _ _) | quiet_step (first | exact cT _ _ | exact cW _ _))
          refine wpQuiet_nil ?_
          intro _ hw'
          obtain ⟨⟨dq, osq⟩, hw''⟩ := hw'
          subst hw''
          go_wp2_with fail
          go_ret
          exact ⟨rfl, HB0.out.trans ((below_regrown w0 dq osq).mono HB0.out.size)⟩
      · cases z <;> cases x
        all_goals
          go_enter Tryz.func61, Tryz.ntmps61
          go_wp2_with fail
          obtain ⟨w0, hw0⟩ : ∃ w0, W.alloc (.cells #[.int .i64 5, .int .i64 n, .string t, .int .i64 r] 36) = w0 := ⟨_, rfl⟩
          have Q : V4 w0 W.heap.size 5 n t r := by rw [← hw0]; exact v4_new _ _ _ _ _ _
          have HB0 : Hid (Below W.heap.size W w0) := by show Below _ _ _; rw [← hw0]; exact (Below.refl _ _).alloc (Nat.le_refl _) _
          rw [hw0]
          obtain ⟨q0, q1, q2, q3⟩ := Q
          clear hw0
          have c0 := cell_regrown q0
          have c1 := cell_regrown q1
          have c2 := cell_regrown q2
          have c3 := cell_regrown q3
          have cT : ∀ d os, Calls Tryz.prog 104 #[.int .i64 5, .int .i64 r] (grow (redrawn w0 d) os) (fun e w'' => e = .returned (.agg #[.int .i64 5, .int .i64 0, .string ⟨#[]⟩, .int .i64 r]) ∧ ∃ p : Regrown, w'' = grow (redrawn w0 p.d) p.os) := fun d os => Calls.regrown_of (objectValue_any _ _ _)
          have cW := fun (d : Nat) (os : Array Obj) => same_regrown (w := w0) (d := d) (os := os) (within_i64 r 1 1000000 _) HX.out
          refine wp_region_quiet_below (by kernel_rfl) (by kernel_rfl) ?_
          repeat (first | go_big_quiet_step (first | exact cT _ _ | exact cW _ _) | quiet_step (first | exact cT _ _ | exact cW _ _))
          refine wpQuiet_nil ?_
          intro _ hw'
          obtain ⟨⟨dq, osq⟩, hw''⟩ := hw'
          subst hw''
          go_wp2_with fail
          go_ret
          exact ⟨rfl, HB0.out.trans ((below_regrown w0 dq osq).mono HB0.out.size)⟩
      · cases z <;> cases x
        all_goals
          go_enter Tryz.func61, Tryz.ntmps61
          go_wp2_with fail
          obtain ⟨w0, hw0⟩ : ∃ w0, W.alloc (.cells #[.int .i64 6, .int .i64 n, .string t, .int .i64 r] 36) = w0 := ⟨_, rfl⟩
          have Q : V4 w0 W.heap.size 6 n t r := by rw [← hw0]; exact v4_new _ _ _ _ _ _
          have HB0 : Hid (Below W.heap.size W w0) := by show Below _ _ _; rw [← hw0]; exact (Below.refl _ _).alloc (Nat.le_refl _) _
          rw [hw0]
          obtain ⟨q0, q1, q2, q3⟩ := Q
          clear hw0
          have c0 := cell_regrown q0
          have c1 := cell_regrown q1
          have c2 := cell_regrown q2
          have c3 := cell_regrown q3
          have cT : ∀ d os, Calls Tryz.prog 104 #[.int .i64 6, .int .i64 r] (grow (redrawn w0 d) os) (fun e w'' => e = .returned (.agg #[.int .i64 6, .int .i64 0, .string ⟨#[]⟩, .int .i64 r]) ∧ ∃ p : Regrown, w'' = grow (redrawn w0 p.d) p.os) := fun d os => Calls.regrown_of (objectValue_any _ _ _)
          have cW := fun (d : Nat) (os : Array Obj) => same_regrown (w := w0) (d := d) (os := os) (within_i64 r 1 1000000 _) HX.out
          refine wp_region_quiet_below (by kernel_rfl) (by kernel_rfl) ?_
          repeat (first | go_big_quiet_step (first | exact cT _ _ | exact cW _ _) | quiet_step (first | exact cT _ _ | exact cW _ _))
          refine wpQuiet_nil ?_
          intro _ hw'
          obtain ⟨⟨dq, osq⟩, hw''⟩ := hw'
          subst hw''
          go_wp2_with fail
          go_ret
          exact ⟨rfl, HB0.out.trans ((below_regrown w0 dq osq).mono HB0.out.size)⟩
    · have hp : 0 < t.size := by omega
      have e1 := ne_nil_of_size hp
      have e2 := not_isEmpty_of_size hp
      have e3 : (t.size == 0) = false := by simp [h0]
      rw [e3]
      clear e3 h0
      rcases k4 with rfl | rfl | rfl
      · cases z <;> cases x
        all_goals
          go_enter Tryz.func61, Tryz.ntmps61
          go_wp2_with fail
          obtain ⟨w0, hw0⟩ : ∃ w0, W.alloc (.cells #[.int .i64 4, .int .i64 n, .string t, .int .i64 r] 36) = w0 := ⟨_, rfl⟩
          have Q : V4 w0 W.heap.size 4 n t r := by rw [← hw0]; exact v4_new _ _ _ _ _ _
          have HB0 : Hid (Below W.heap.size W w0) := by show Below _ _ _; rw [← hw0]; exact (Below.refl _ _).alloc (Nat.le_refl _) _
          rw [hw0]
          obtain ⟨q0, q1, q2, q3⟩ := Q
          clear hw0
          have c0 := cell_regrown q0
          have c1 := cell_regrown q1
          have c2 := cell_regrown q2
          have c3 := cell_regrown q3
          have cT : ∀ d os, Calls Tryz.prog 104 #[.int .i64 4, .int .i64 r] (grow (redrawn w0 d) os) (fun e w'' => e = .returned (.agg #[.int .i64 4, .int .i64 0, .string ⟨#[]⟩, .int .i64 r]) ∧ ∃ p : Regrown, w'' = grow (redrawn w0 p.d) p.os) := fun d os => Calls.regrown_of (objectValue_any _ _ _)
          refine wp_region_quiet_below (by kernel_rfl) (by kernel_rfl) ?_
          repeat (first | go_big_quiet_step (exact cT _ _) | quiet_step (exact cT _ _))
          refine wpQuiet_nil ?_
          intro _ hw'
          obtain ⟨⟨dq, osq⟩, hw''⟩ := hw'
          subst hw''
          go_wp2_with fail
          go_ret
          exact ⟨rfl, HB0.out.trans ((below_regrown w0 dq osq).mono HB0.out.size)⟩
      · cases z <;> cases x
        all_goals
          go_enter Tryz.func61, Tryz.ntmps61
          go_wp2_with fail
          obtain ⟨w0, hw0⟩ : ∃ w0, W.alloc (.cells #[.int .i64 5, .int .i64 n, .string t, .int .i64 r] 36) = w0 := ⟨_, rfl⟩
          have Q : V4 w0 W.heap.size 5 n t r := by rw [← hw0]; exact v4_new _ _ _ _ _ _
          have HB0 : Hid (Below W.heap.size W w0) := by show Below _ _ _; rw [← hw0]; exact (Below.refl _ _).alloc (Nat.le_refl _) _
          rw [hw0]
          obtain ⟨q0, q1, q2, q3⟩ := Q
          clear hw0
          have c0 := cell_regrown q0
          have c1 := cell_regrown q1
          have c2 := cell_regrown q2
          have c3 := cell_regrown q3
          have cT : ∀ d os, Calls Tryz.prog 104 #[.int .i64 5, .int .i64 r] (grow (redrawn w0 d) os) (fun e w'' => e = .returned (.agg #[.int .i64 5, .int .i64 0, .string ⟨#[]⟩, .int .i64 r]) ∧ ∃ p : Regrown, w'' = grow (redrawn w0 p.d) p.os) := fun d os => Calls.regrown_of (objectValue_any _ _ _)
          refine wp_region_quiet_below (by kernel_rfl) (by kernel_rfl) ?_
          repeat (first | go_big_quiet_step (exact cT _ _) | quiet_step (exact cT _ _))
          refine wpQuiet_nil ?_
          intro _ hw'
          obtain ⟨⟨dq, osq⟩, hw''⟩ := hw'
          subst hw''
          go_wp2_with fail
          go_ret
          exact ⟨rfl, HB0.out.trans ((below_regrown w0 dq osq).mono HB0.out.size)⟩
      · cases z <;> cases x
        all_goals
          go_enter Tryz.func61, Tryz.ntmps61
          go_wp2_with fail
          obtain ⟨w0, hw0⟩ : ∃ w0, W.alloc (.cells #[.int .i64 6, .int .i64 n, .string t, .int .i64 r] 36) = w0 := ⟨_, rfl⟩
          have Q : V4 w0 W.heap.size 6 n t r := by rw [← hw0]; exact v4_new _ _ _ _ _ _
          have HB0 : Hid (Below W.heap.size W w0) := by show Below _ _ _; rw [← hw0]; exact (Below.refl _ _).alloc (Nat.le_refl _) _
          rw [hw0]
          obtain ⟨q0, q1, q2, q3⟩ := Q
          clear hw0
          have c0 := cell_regrown q0
          have c1 := cell_regrown q1
          have c2 := cell_regrown q2
          have c3 := cell_regrown q3
          have cT : ∀ d os, Calls Tryz.prog 104 #[.int .i64 6, .int .i64 r] (grow (redrawn w0 d) os) (fun e w'' => e = .returned (.agg #[.int .i64 6, .int .i64 0, .string ⟨#[]⟩, .int .i64 r]) ∧ ∃ p : Regrown, w'' = grow (redrawn w0 p.d) p.os) := fun d os => Calls.regrown_of (objectValue_any _ _ _)
          refine wp_region_quiet_below (by kernel_rfl) (by kernel_rfl) ?_
          repeat (first | go_big_quiet_step (exact cT _ _) | quiet_step (exact cT _ _))
          refine wpQuiet_nil ?_
          intro _ hw'
          obtain ⟨⟨dq, osq⟩, hw''⟩ := hw'
          subst hw''
          go_wp2_with fail
          go_ret
          exact ⟨rfl, HB0.out.trans ((below_regrown w0 dq osq).mono HB0.out.size)⟩
  rw [if_neg k4]
  by_cases k7 : k = 7 ∨ k = 8
  · rw [if_pos k7]
    obtain ⟨x, hx⟩ : ∃ x, isNameB t = x := ⟨_, rfl⟩
    have HX := Lib.hid hx
    rw [hx]
    clear hx k1 k2 k3 k4
    rcases k7 with rfl | rfl
    · cases z <;> cases y <;> cases x
      all_goals
        go_enter Tryz.func61, Tryz.ntmps61
        go_wp2_with fail
        obtain ⟨w0, hw0⟩ : ∃ w0, W.alloc (.cells #[.int .i64 7, .int .i64 n, .string t, .int .i64 r] 36) = w0 := ⟨_, rfl⟩
        have Q : V4 w0 W.heap.size 7 n t r := by rw [← hw0]; exact v4_new _ _ _ _ _ _
        have HB0 : Hid (Below W.heap.size W w0) := by show Below _ _ _; rw [← hw0]; exact (Below.refl _ _).alloc (Nat.le_refl _) _
        rw [hw0]
        obtain ⟨q0, q1, q2, q3⟩ := Q
        clear hw0
        have c0 := cell_regrown q0
        have c1 := cell_regrown q1
        have c2 := cell_regrown q2
        have c3 := cell_regrown q3
        have cT : ∀ d os, Calls Tryz.prog 101 #[.int .i64 7, .string t] (grow (redrawn w0 d) os) (fun e w'' => e = .returned (.agg #[.int .i64 7, .int .i64 0, .string t, .int .i64 0]) ∧ ∃ p : Regrown, w'' = grow (redrawn w0 p.d) p.os) := fun d os => Calls.regrown_of (textValue_any _ _ _)
        have cW := fun (d : Nat) (os : Array Obj) => below_same (w := w0) (d := d) (os := os) (impl_IsName_any t _ HS.out ((HT.out.below HB0.out HG.out).below (below_regrown w0 d os) (Nat.lt_of_lt_of_le HG.out HB0.out.size))) HX.out
        refine wp_region_quiet_below (by kernel_rfl) (by kernel_rfl) ?_
        repeat (first | go_big_quiet_step (first | exact cT _ _ | exact cW _ _) | quiet_step (first | exact cT _ _ | exact cW _ _))
        refine wpQuiet_nil ?_
        intro _ hw'
        obtain ⟨⟨dq, osq⟩, hw''⟩ := hw'
        subst hw''
        go_wp2_with fail
        go_ret
        exact ⟨rfl, HB0.out.trans ((below_regrown w0 dq osq).mono HB0.out.size)⟩
    · cases z <;> cases y <;> cases x
      all_goals
        go_enter Tryz.func61, Tryz.ntmps61
        go_wp2_with fail
        obtain ⟨w0, hw0⟩ : ∃ w0, W.alloc (.cells #[.int .i64 8, .int .i64 n, .string t, .int .i64 r] 36) = w0 := ⟨_, rfl⟩
        have Q : V4 w0 W.heap.size 8 n t r := by rw [← hw0]; exact v4_new _ _ _ _ _ _
        have HB0 : Hid (Below W.heap.size W w0) := by show Below _ _ _; rw [← hw0]; exact (Below.refl _ _).alloc (Nat.le_refl _) _
        rw [hw0]
        obtain ⟨q0, q1, q2, q3⟩ := Q
        clear hw0
        have c0 := cell_regrown q0
        have c1 := cell_regrown q1
        have c2 := cell_regrown q2
        have c3 := cell_regrown q3
        have cT : ∀ d os, Calls Tryz.prog 101 #[.int .i64 8, .string t] (grow (redrawn w0 d) os) (fun e w'' => e = .returned (.agg #[.int .i64 8, .int .i64 0, .string t, .int .i64 0]) ∧ ∃ p : Regrown, w'' = grow (redrawn w0 p.d) p.os) := fun d os => Calls.regrown_of (textValue_any _ _ _)
        have cW := fun (d : Nat) (os : Array Obj) => below_same (w := w0) (d := d) (os := os) (impl_IsName_any t _ HS.out ((HT.out.below HB0.out HG.out).below (below_regrown w0 d os) (Nat.lt_of_lt_of_le HG.out HB0.out.size))) HX.out
        refine wp_region_quiet_below (by kernel_rfl) (by kernel_rfl) ?_
        repeat (first | go_big_quiet_step (first | exact cT _ _ | exact cW _ _) | quiet_step (first | exact cT _ _ | exact cW _ _))
        refine wpQuiet_nil ?_
        intro _ hw'
        obtain ⟨⟨dq, osq⟩, hw''⟩ := hw'
        subst hw''
        go_wp2_with fail
        go_ret
        exact ⟨rfl, HB0.out.trans ((below_regrown w0 dq osq).mono HB0.out.size)⟩
  rw [if_neg k7]
  have f1 : (k == 1) = false := by simpa using k1
  have f2 : (k == 2) = false := by simpa using k2
  have f3 : (k == 3) = false := by simpa using k3
  have f4 : (k == 4) = false := by simp; omega
  have f5 : (k == 5) = false := by simp; omega
  have f6 : (k == 6) = false := by simp; omega
  have f7 : (k == 7) = false := by simp; omega
  have f8 : (k == 8) = false := by simp; omega
  clear k1 k2 k3 k4 k7 hz hy
  go_enter Tryz.func61, Tryz.ntmps61
  go_wp2_with fail
  go_ret
  exact ⟨rfl, (Below.refl _ _).alloc (Nat.le_refl _) _⟩
end Go.Proofs.YtfcpdjfckeoniaaGreatDoor

namespace Go.Proofs.YtfcpdjfckeoniaaGreatDoor
open Go Go.RowKit

/-- What IsReference answers. -/
def isRefV (k n : Int) (t : ByteArray) (r : Int) : Bool := validV k n t r && decide (4 ≤ k ∧ k ≤ 6)

theorem impl_IsReference_any (k n : Int) (t : ByteArray) (r : Int) (W : World) (hs : t.size ≤ maxLen) (hT : Classes W) :
    Calls Tryz.prog 152 #[.agg #[.int .i64 k, .int .i64 n, .string t, .int .i64 r]] W fun e w' => e = .returned (.bool (isRefV k n t r)) ∧ Below W.heap.size W w' := by
  have HS := Lib.hid hs
  have HT : Hid (Classes W) := hT
  have HG : Hid (1 < W.heap.size) := heap_pos (hT.at_ 0 (by decide))
  clear hs hT
  unfold isRefV
  obtain ⟨x, hx⟩ : ∃ x, validV k n t r = x := ⟨_, rfl⟩
  have HX := Lib.hid hx
  obtain ⟨y, hy⟩ : ∃ y, decide (4 ≤ k ∧ k ≤ 6) = y := ⟨_, rfl⟩
  have HY := Lib.hid hy
  rw [hx, hy]
  clear hx hy
  cases y
  · rw [Bool.and_false]
    go_enter Tryz.func152, Tryz.ntmps152
    go_wp2_with (go_at_call 59; refine (within_i64 _ _ _ _).mono ?_; rintro e w' ⟨rfl, rfl⟩; rw [HY.out])
    go_ret
    exact ⟨rfl, (Below.refl _ _).alloc (Nat.le_refl _) _⟩
  · cases x
    all_goals
      go_enter Tryz.func152, Tryz.ntmps152
      go_wp2_with (first
        | (go_at_call 59; refine (within_i64 _ _ _ _).mono ?_; rintro e w' ⟨rfl, rfl⟩; rw [HY.out])
        | (go_at_call 61; refine (impl_ValidValue_any _ _ _ _ _ HS.out (HT.out.below ((Below.refl W.heap.size W).alloc (Nat.le_refl _) _) HG.out)).mono ?_; rintro e w1 ⟨rfl, hb⟩; rw [HX.out]; have HB := Lib.hid (((Below.refl _ _).alloc (Nat.le_refl _) _).trans (hb.mono (B' := W.heap.size) (by simp))); clear hb))
      go_ret
      exact ⟨rfl, HB.out⟩
end Go.Proofs.YtfcpdjfckeoniaaGreatDoor

namespace Go.Proofs.YtfcpdjfckeoniaaGreatDoor
open Go Go.RowKit Go.Sort

set_option maxHeartbeats 1000000 in
set_option maxRecDepth 100000 in
theorem areValid_any (A : Option Addr) (n c : Nat) (xs : List Vl) (W : World) (hr : VI W W.heap.size A n xs) (hT : Classes W) :
    Calls Tryz.prog 215 #[.slice A n c] W fun e w' => e = .returned (.bool (tt (AllValid xs))) ∧ Below W.heap.size W w' := by
  have HR := Lib.hid hr
  have HT := Lib.hid hT
  have hn := hr.2.1
  have HN := Lib.hid hr.1
  unfold maxLen at hn
  clear hr hT
  obtain ⟨P, hP⟩ : ∃ P, tt (AllValid xs) = P := ⟨_, rfl⟩
  have HP := Lib.hid hP
  rw [hP]
  clear hP
  go_enter Tryz.func215, Tryz.ntmps215
  go_wp2_with fail
  go_loopw [7] (fun i wr => ∃ k : Nat, k ≤ n ∧ i = .int .i64 k ∧ Hid (Below W.heap.size W wr) ∧ Hid (∀ (j : Nat) (x : Vl), j < k → xs[j]? = some x → x.valid = true)) (fun i _ => n - (intOf i).toNat)
  case atStart => exact ⟨0, Nat.zero_le _, rfl, Below.refl _ _, fun j x hj => absurd hj (by omega)⟩
  case round =>
    obtain ⟨k, hk, rfl, HW, HV⟩ := hrel
    by_cases hlt : k < n
    · obtain ⟨b, off, x, rfl, hg, hx, ⟨q0, q1, q2, q3⟩, hxs⟩ := (HR.out.below HW.out).at_ hlt
      have HX := Lib.hid hx
      have HXS := Lib.hid hxs
      obtain ⟨v, hv⟩ : ∃ v, x.valid = v := ⟨_, rfl⟩
      have HVX : Hid (validV x.k x.n x.t x.r = v) := hv
      have HC := Lib.hid (one_new wr 36 #[.int .i64 x.k, .int .i64 x.n, .string x.t, .int .i64 x.r])
      have b0 : (0 : Int) ≤ (k : Int) := by omega
      have b1 : (k : Int) < (n : Int) := by omega
      clear hx hxs hg hv
      cases v
      · have HF : Hid (P = false) := by
          show _ = _
          rw [← HP.out]
          exact tt_false fun h => by have : validV x.k x.n x.t x.r = true := h k x HX.out; rw [HVX.out] at this; cases this
        go_wp2_with (go_at_call 61; obtain ⟨g0, g1, g2⟩ := HC.out _ rfl; have HQ := impl_ValidValue_any x.k x.n x.t x.r _ HXS.out (classes_go HT.out (HW.out.trans (g1.mono HW.out.size))); refine Calls.mono HQ ?_; clear HQ; rintro e w1 ⟨rfl, hb⟩; rw [HVX.out]; have HW1 : Hid (Below W.heap.size W w1) := (HW.out.trans (g1.mono HW.out.size)).trans (hb.mono (Nat.le_trans HW.out.size g1.size)); clear hb g0 g1 g2)
        go_ret
        exact ⟨by rw [HF.out]; rfl, HW1.out⟩
      · go_wp2_with (go_at_call 61; obtain ⟨g0, g1, g2⟩ := HC.out _ rfl; have HQ := impl_ValidValue_any x.k x.n x.t x.r _ HXS.out (classes_go HT.out (HW.out.trans (g1.mono HW.out.size))); refine Calls.mono HQ ?_; clear HQ; rintro e w1 ⟨rfl, hb⟩; rw [HVX.out]; have HW1 : Hid (Below W.heap.size W w1) := (HW.out.trans (g1.mono HW.out.size)).trans (hb.mono (Nat.le_trans HW.out.size g1.size)); clear hb g0 g1 g2)
        have HNX : Hid (∀ (j : Nat) (x : Vl), j < k + 1 → xs[j]? = some x → x.valid = true) := by
          intro j y hj hy
          by_cases e : j = k
          · rw [e, HX.out, Option.some.injEq] at hy
            subst hy
            exact HVX.out
          · exact HV.out j y (by omega) hy
        go_roundw
        case rel => exact ⟨k + 1, by omega, by go_num, HW1, HNX⟩
        case measure => simp [intOf]; omega
    · have hkn : k = n := by omega
      have HTT : Hid (P = true) := by
        show _ = _
        rw [← HP.out]
        refine tt_true fun j x hx => HV.out j x ?_ hx
        have := (List.getElem?_eq_some_iff.1 hx).1
        have := HN.out
        omega
      go_wp2_with fail
      go_ret
      exact ⟨by rw [HTT.out]; rfl, HW.out⟩

theorem pairs_bool (ks vs : List Vl) : tt (ks.length = vs.length ∧ AllValid ks ∧ Distinct ks ∧ AllValid vs) = (((ks.length : Int) == (vs.length : Int)) && (tt (AllValid ks) && (tt (Distinct ks) && tt (AllValid vs)))) := by
  rw [Bool.eq_iff_iff]
  simp only [Bool.and_eq_true, tt_iff, beq_iff_eq]
  exact ⟨fun h => ⟨by omega, h.2⟩, fun h => ⟨by omega, h.2⟩⟩
set_option maxHeartbeats 2000000 in
set_option maxRecDepth 100000 in
theorem arePairs_any (A : Option Addr) (n c : Nat) (ks : List Vl) (A' : Option Addr) (n' c' : Nat) (vs : List Vl) (W : World) (hk : VI W W.heap.size A n ks) (hv : VI W W.heap.size A' n' vs) (hnc : n ≤ c) (hT : Classes W) :
    Calls Tryz.prog 217 #[.slice A n c, .slice A' n' c'] W fun e w' => e = .returned (.bool (tt (ks.length = vs.length ∧ AllValid ks ∧ Distinct ks ∧ AllValid vs))) ∧ Below W.heap.size W w' := by
  rw [pairs_bool, hk.1, hv.1]
  have HK := Lib.hid hk
  have HV := Lib.hid hv
  have HT := Lib.hid hT
  have HNC := Lib.hid hnc
  clear hk hv hT
  obtain ⟨K, hK⟩ : ∃ z, tt (AllValid ks) = z := ⟨_, rfl⟩
  obtain ⟨D, hD⟩ : ∃ z, tt (Distinct ks) = z := ⟨_, rfl⟩
  obtain ⟨V, hV⟩ : ∃ z, tt (AllValid vs) = z := ⟨_, rfl⟩
  have HKK := Lib.hid hK
  have HDD := Lib.hid hD
  have HVV := Lib.hid hV
  rw [hK, hD, hV]
  clear hK hD hV
  obtain ⟨z, hz⟩ : ∃ z, ((n : Int) == (n' : Int)) = z := ⟨_, rfl⟩
  rw [hz]
  have T1 : True := trivial
  have T2 : True := trivial
  cases z
  · go_enter Tryz.func217, Tryz.ntmps217
    go_wp2_with fail
    go_ret
    exact ⟨rfl, Below.refl _ _⟩
  cases K
  · go_enter Tryz.func217, Tryz.ntmps217
    go_wp2_with (first | (go_at_call 215; have tk := T1; have HQ := areValid_any A n c ks W HK.out HT.out; refine Calls.mono HQ ?_; clear HQ T1 tk; rintro e w1 ⟨rfl, hb⟩; rw [HKK.out]; have HB1 := Lib.hid hb; clear hb) | (go_at_call 218; have HQ := areDifferent_any A n c ks w1 (HK.out.go HB1.out) HNC.out; refine Calls.mono HQ ?_; clear HQ; rintro e w2 ⟨rfl, hb⟩; rw [HDD.out]; have HB2 := Lib.hid (HB1.out.trans (hb.mono HB1.out.size)); clear hb) | (go_at_call 215; have tk := T2; have HQ := areValid_any A' n' c' vs w2 (HV.out.go HB2.out) (classes_go HT.out HB2.out); refine Calls.mono HQ ?_; clear HQ T2 tk; rintro e w3 ⟨rfl, hb⟩; rw [HVV.out]; have HB3 := Lib.hid (HB2.out.trans (hb.mono HB2.out.size)); clear hb))
    go_ret
    exact ⟨rfl, HB1.out⟩
  cases D
  · go_enter Tryz.func217, Tryz.ntmps217
    go_wp2_with (first | (go_at_call 215; have tk := T1; have HQ := areValid_any A n c ks W HK.out HT.out; refine Calls.mono HQ ?_; clear HQ T1 tk; rintro e w1 ⟨rfl, hb⟩; rw [HKK.out]; have HB1 := Lib.hid hb; clear hb) | (go_at_call 218; have HQ := areDifferent_any A n c ks w1 (HK.out.go HB1.out) HNC.out; refine Calls.mono HQ ?_; clear HQ; rintro e w2 ⟨rfl, hb⟩; rw [HDD.out]; have HB2 := Lib.hid (HB1.out.trans (hb.mono HB1.out.size)); clear hb) | (go_at_call 215; have tk := T2; have HQ := areValid_any A' n' c' vs w2 (HV.out.go HB2.out) (classes_go HT.out HB2.out); refine Calls.mono HQ ?_; clear HQ T2 tk; rintro e w3 ⟨rfl, hb⟩; rw [HVV.out]; have HB3 := Lib.hid (HB2.out.trans (hb.mono HB2.out.size)); clear hb))
    go_ret
    exact ⟨rfl, HB2.out⟩
  cases V
  all_goals
    go_enter Tryz.func217, Tryz.ntmps217
    go_wp2_with (first | (go_at_call 215; have tk := T1; have HQ := areValid_any A n c ks W HK.out HT.out; refine Calls.mono HQ ?_; clear HQ T1 tk; rintro e w1 ⟨rfl, hb⟩; rw [HKK.out]; have HB1 := Lib.hid hb; clear hb) | (go_at_call 218; have HQ := areDifferent_any A n c ks w1 (HK.out.go HB1.out) HNC.out; refine Calls.mono HQ ?_; clear HQ; rintro e w2 ⟨rfl, hb⟩; rw [HDD.out]; have HB2 := Lib.hid (HB1.out.trans (hb.mono HB1.out.size)); clear hb) | (go_at_call 215; have tk := T2; have HQ := areValid_any A' n' c' vs w2 (HV.out.go HB2.out) (classes_go HT.out HB2.out); refine Calls.mono HQ ?_; clear HQ T2 tk; rintro e w3 ⟨rfl, hb⟩; rw [HVV.out]; have HB3 := Lib.hid (HB2.out.trans (hb.mono HB2.out.size)); clear hb))
    go_ret
    exact ⟨rfl, HB3.out⟩
end Go.Proofs.YtfcpdjfckeoniaaGreatDoor

namespace Go.Proofs.YtfcpdjfckeoniaaGreatDoor
open Go Go.RowKit Go.Sort

set_option maxHeartbeats 1000000 in
set_option maxRecDepth 100000 in
theorem areFieldNames_any (A : Option Addr) (n c : Nat) (xs : List Vl) (W : World) (hr : VI W W.heap.size A n xs) (hT : Classes W) :
    Calls Tryz.prog 222 #[.slice A n c] W fun e w' => e = .returned (.bool (tt (Names xs))) ∧ Below W.heap.size W w' := by
  have HR := Lib.hid hr
  have HT := Lib.hid hT
  have hn := hr.2.1
  have HN := Lib.hid hr.1
  unfold maxLen at hn
  clear hr hT
  obtain ⟨P, hP⟩ : ∃ P, tt (Names xs) = P := ⟨_, rfl⟩
  have HP := Lib.hid hP
  rw [hP]
  clear hP
  go_enter Tryz.func222, Tryz.ntmps222
  go_wp2_with fail
  go_loopw [7] (fun i wr => ∃ k : Nat, k ≤ n ∧ i = .int .i64 k ∧ Hid (Below W.heap.size W wr) ∧ Hid (∀ (j : Nat) (x : Vl), j < k → xs[j]? = some x → x.k = 1 ∧ isNameB x.t = true)) (fun i _ => n - (intOf i).toNat)
  case atStart => exact ⟨0, Nat.zero_le _, rfl, Below.refl _ _, fun j x hj => absurd hj (by omega)⟩
  case round =>
    obtain ⟨k, hk, rfl, HW, HV⟩ := hrel
    by_cases hlt : k < n
    · obtain ⟨b, off, x, rfl, hg, hx, ⟨q0, q1, q2, q3⟩, hxs⟩ := (HR.out.below HW.out).at_ hlt
      have HX := Lib.hid hx
      have HXS := Lib.hid hxs
      obtain ⟨xk, xn, xt, xr⟩ := x
      dsimp only at q0 q1 q2 q3
      have b0 : (0 : Int) ≤ (k : Int) := by omega
      have b1 : (k : Int) < (n : Int) := by omega
      clear hx hxs hg
      by_cases h1 : xk = 1
      · subst h1
        have HC := Lib.hid (one_new wr 36 #[.int .i64 1, .int .i64 xn, .string xt, .int .i64 xr])
        obtain ⟨z, hz⟩ : ∃ z, isNameB xt = z := ⟨_, rfl⟩
        have HZ := Lib.hid hz
        clear hz
        cases z
        · have HF : Hid (P = false) := by
            show _ = _
            rw [← HP.out]
            exact tt_false fun h => by have := (h k _ HX.out).2; rw [HZ.out] at this; cases this
          go_wp2_with (go_at_call 60; obtain ⟨g0, g1, g2⟩ := HC.out _ rfl; have HQ := impl_IsName_any xt _ HXS.out (classes_go HT.out (HW.out.trans (g1.mono HW.out.size))); refine Calls.mono HQ ?_; clear HQ; rintro e w1 ⟨rfl, hb⟩; rw [HZ.out]; have HW1 : Hid (Below W.heap.size W w1) := (HW.out.trans (g1.mono HW.out.size)).trans (hb.mono (Nat.le_trans HW.out.size g1.size)); clear hb g0 g1 g2)
          go_ret
          exact ⟨by rw [HF.out]; rfl, HW1.out⟩
        · go_wp2_with (go_at_call 60; obtain ⟨g0, g1, g2⟩ := HC.out _ rfl; have HQ := impl_IsName_any xt _ HXS.out (classes_go HT.out (HW.out.trans (g1.mono HW.out.size))); refine Calls.mono HQ ?_; clear HQ; rintro e w1 ⟨rfl, hb⟩; rw [HZ.out]; have HW1 : Hid (Below W.heap.size W w1) := (HW.out.trans (g1.mono HW.out.size)).trans (hb.mono (Nat.le_trans HW.out.size g1.size)); clear hb g0 g1 g2)
          have HNX : Hid (∀ (j : Nat) (x : Vl), j < k + 1 → xs[j]? = some x → x.k = 1 ∧ isNameB x.t = true) := by
            intro j y hj hy
            by_cases e : j = k
            · rw [e, HX.out, Option.some.injEq] at hy
              subst hy
              exact ⟨rfl, HZ.out⟩
            · exact HV.out j y (by omega) hy
          go_roundw
          case rel => exact ⟨k + 1, by omega, by go_num, HW1, HNX⟩
          case measure => simp [intOf]; omega
      · have HF : Hid (P = false) := by
          show _ = _
          rw [← HP.out]
          exact tt_false fun h => h1 (h k _ HX.out).1
        go_wp2_with fail
        go_ret
        exact ⟨by rw [HF.out]; rfl, HW.out.alloc HW.out.size _⟩
    · have hkn : k = n := by omega
      have HTT : Hid (P = true) := by
        show _ = _
        rw [← HP.out]
        refine tt_true fun j x hx => HV.out j x ?_ hx
        have := (List.getElem?_eq_some_iff.1 hx).1
        have := HN.out
        omega
      go_wp2_with fail
      go_ret
      exact ⟨by rw [HTT.out]; rfl, HW.out⟩
end Go.Proofs.YtfcpdjfckeoniaaGreatDoor

namespace Go.Proofs.YtfcpdjfckeoniaaGreatDoor
open Go Go.RowKit Go.Sort

theorem array_bool (o : Ob) : tt (ArrayO o) = ((o.name.size == 0) && (decide (-1000 ≤ o.low ∧ o.low ≤ 1000) && ((o.d.k == 0) && ((o.d.n == 0) && ((o.d.t.size == 0) && ((o.d.r == 0) && (((o.keys.length : Int) == 0) && (decide ((o.vals.length : Int) ≤ 30) && tt (AllValid o.vals))))))))) := by
  rw [Bool.eq_iff_iff]
  simp only [Bool.and_eq_true, tt_iff, beq_iff_eq, decide_eq_true_eq]
  unfold ArrayO
  rw [zero_iff]
  constructor
  · rintro ⟨a, b, ⟨c1, c2, c3, c4⟩, d, e, f⟩
    exact ⟨a, b, c1, c2, c3, c4, by omega, by omega, f⟩
  · rintro ⟨a, b, c1, c2, c3, c4, d, e, f⟩
    exact ⟨a, b, ⟨c1, c2, c3, c4⟩, by omega, by omega, f⟩
theorem table_bool (o : Ob) : tt (TableO o) = ((o.name.size == 0) && ((o.low == 0) && (o.d.valid && (decide ((o.keys.length : Int) ≤ 30) && tt (o.keys.length = o.vals.length ∧ AllValid o.keys ∧ Distinct o.keys ∧ AllValid o.vals))))) := by
  rw [Bool.eq_iff_iff]
  simp only [Bool.and_eq_true, tt_iff, beq_iff_eq, decide_eq_true_eq]
  unfold TableO
  constructor
  · rintro ⟨a, b, c, d, e⟩
    exact ⟨a, b, c, by omega, e⟩
  · rintro ⟨a, b, c, d, e⟩
    exact ⟨a, b, c, by omega, e⟩
theorem record_bool (o : Ob) : tt (RecordO o) = (isNameB o.name && ((o.low == 0) && ((o.d.k == 0) && ((o.d.n == 0) && ((o.d.t.size == 0) && ((o.d.r == 0) && (decide (1 ≤ (o.keys.length : Int) ∧ (o.keys.length : Int) ≤ 6) && (tt (Names o.keys) && tt (o.keys.length = o.vals.length ∧ AllValid o.keys ∧ Distinct o.keys ∧ AllValid o.vals))))))))) := by
  rw [Bool.eq_iff_iff]
  simp only [Bool.and_eq_true, tt_iff, beq_iff_eq, decide_eq_true_eq]
  unfold RecordO
  rw [zero_iff]
  constructor
  · rintro ⟨a, b, ⟨c1, c2, c3, c4⟩, d, e, f⟩
    exact ⟨a, b, c1, c2, c3, c4, by omega, e, f⟩
  · rintro ⟨a, b, c1, c2, c3, c4, d, e, f⟩
    exact ⟨a, b, ⟨c1, c2, c3, c4⟩, by omega, e, f⟩


set_option maxHeartbeats 8000000 in
set_option maxRecDepth 100000 in
theorem arrayFields_any (o : Ob) (l : Lay) (W : World) (ho : OV W W.heap.size o l) (hT : Classes W) :
    Calls Tryz.prog 214 #[o.ag l] W fun e w' => e = .returned (.bool (tt (ArrayO o))) ∧ Below W.heap.size W w' := by
  rw [array_bool]
  obtain ⟨id, kind, name, low, ks, vs, ⟨dk, dn, dt, dr⟩⟩ := o
  obtain ⟨Ak, nk, ck, Av, nv, cv, hck, hcv⟩ := l
  obtain ⟨hk, hv, hn, hd⟩ := ho
  dsimp only at hk hv hn hd ⊢
  have HK := Lib.hid hk
  have HV := Lib.hid hv
  have HN := Lib.hid hn
  have HD := Lib.hid hd
  have HT := Lib.hid hT
  have HCK := Lib.hid hck
  have HC := Lib.hid (one_new W 209 #[.int .i64 id, .int .i64 kind, .string name, .int .i64 low, .slice Ak nk ck, .slice Av nv cv, .int .i64 dk, .int .i64 dn, .string dt, .int .i64 dr])
  have l1 := hk.1
  have l2 := hv.1
  clear hk hv hn hd hT
  show Calls Tryz.prog 214 #[.agg #[.int .i64 id, .int .i64 kind, .string name, .int .i64 low, .slice Ak nk ck, .slice Av nv cv, .int .i64 dk, .int .i64 dn, .string dt, .int .i64 dr]] W _
  obtain ⟨LOW, hLOW⟩ : ∃ z, decide (-1000 ≤ low ∧ low ≤ 1000) = z := ⟨_, rfl⟩
  have HLOW := Lib.hid hLOW
  obtain ⟨z7, hz7⟩ : ∃ z, (dk == 0) = z := ⟨_, rfl⟩
  obtain ⟨z8, hz8⟩ : ∃ z, (dn == 0) = z := ⟨_, rfl⟩
  obtain ⟨za, hza⟩ : ∃ z, (dr == 0) = z := ⟨_, rfl⟩
  obtain ⟨zk, hzk⟩ : ∃ z, ((ks.length : Int) == 0) = z := ⟨_, rfl⟩
  obtain ⟨v30, hv30⟩ : ∃ z, decide ((vs.length : Int) ≤ 30) = z := ⟨_, rfl⟩
  obtain ⟨AV, hAV⟩ : ∃ z, tt (AllValid vs) = z := ⟨_, rfl⟩
  have HAV := Lib.hid hAV
  rw [hLOW, hz7, hz8, hza, hzk, hv30, hAV]
  clear hLOW hAV
  try rw [l1] at hzk
  try rw [l2] at hv30
  try rw [l1] at hk30
  try (have HIN := (show Hid (decide (1 ≤ (nk : Int) ∧ (nk : Int) ≤ 6) = IN) from by rw [← l1]; exact HIN0.out))
  try (have HDV := (show Hid (validV dk dn dt dr = DV) from HDV0.out))
  clear l1 l2
  by_cases hn : ¬ name.size = 0
  · have hp : 0 < name.size := by omega
    have e1 := ne_nil_of_size hp
    have e2 := not_isEmpty_of_size hp
    rw [show (name.size == 0) = false from by simp [hn]]
    clear hn hp
    go_enter Tryz.func214, Tryz.ntmps214
    go_wp2_with (first | (go_at_call 59; refine (within_i64 _ _ _ _).mono ?_; rintro e w' ⟨rfl, rfl⟩; rw [HLOW.out]) | (go_at_call 215; obtain ⟨g0, g1, g2⟩ := HC.out _ rfl; have HQ := areValid_any Av nv cv vs _ (HV.out.go g1) (classes_go HT.out g1); refine Calls.mono HQ ?_; clear HQ; rintro e w1 ⟨rfl, hb⟩; rw [HAV.out]; have HR1 := Lib.hid (g0.below hb g2); have HB1 := Lib.hid (g1.trans (hb.mono g1.size)); have HG1 : Hid (W.heap.size < w1.heap.size) := (Nat.lt_of_lt_of_le g2 hb.size);  clear g0 g1 g2 hb))
    all_goals go_ret
    all_goals first | exact ⟨rfl, HB3.out⟩ | exact ⟨rfl, HB2.out⟩ | exact ⟨rfl, HB1.out⟩ | exact ⟨rfl, below_alloc _ _⟩
  replace hn : name.size = 0 := by omega
  have e1n := nil_of_size hn
  have e2n := isEmpty_of_size hn
  rw [show (name.size == 0) = true from by simp [hn]]
  clear hn
  cases LOW
  · go_enter Tryz.func214, Tryz.ntmps214
    go_wp2_with (first | (go_at_call 59; refine (within_i64 _ _ _ _).mono ?_; rintro e w' ⟨rfl, rfl⟩; rw [HLOW.out]) | (go_at_call 215; obtain ⟨g0, g1, g2⟩ := HC.out _ rfl; have HQ := areValid_any Av nv cv vs _ (HV.out.go g1) (classes_go HT.out g1); refine Calls.mono HQ ?_; clear HQ; rintro e w1 ⟨rfl, hb⟩; rw [HAV.out]; have HR1 := Lib.hid (g0.below hb g2); have HB1 := Lib.hid (g1.trans (hb.mono g1.size)); have HG1 : Hid (W.heap.size < w1.heap.size) := (Nat.lt_of_lt_of_le g2 hb.size);  clear g0 g1 g2 hb))
    all_goals go_ret
    all_goals first | exact ⟨rfl, HB3.out⟩ | exact ⟨rfl, HB2.out⟩ | exact ⟨rfl, HB1.out⟩ | exact ⟨rfl, below_alloc _ _⟩
  cases z7
  · go_enter Tryz.func214, Tryz.ntmps214
    go_wp2_with (first | (go_at_call 59; refine (within_i64 _ _ _ _).mono ?_; rintro e w' ⟨rfl, rfl⟩; rw [HLOW.out]) | (go_at_call 215; obtain ⟨g0, g1, g2⟩ := HC.out _ rfl; have HQ := areValid_any Av nv cv vs _ (HV.out.go g1) (classes_go HT.out g1); refine Calls.mono HQ ?_; clear HQ; rintro e w1 ⟨rfl, hb⟩; rw [HAV.out]; have HR1 := Lib.hid (g0.below hb g2); have HB1 := Lib.hid (g1.trans (hb.mono g1.size)); have HG1 : Hid (W.heap.size < w1.heap.size) := (Nat.lt_of_lt_of_le g2 hb.size);  clear g0 g1 g2 hb))
    all_goals go_ret
    all_goals first | exact ⟨rfl, HB3.out⟩ | exact ⟨rfl, HB2.out⟩ | exact ⟨rfl, HB1.out⟩ | exact ⟨rfl, below_alloc _ _⟩
  cases z8
  · go_enter Tryz.func214, Tryz.ntmps214
    go_wp2_with (first | (go_at_call 59; refine (within_i64 _ _ _ _).mono ?_; rintro e w' ⟨rfl, rfl⟩; rw [HLOW.out]) | (go_at_call 215; obtain ⟨g0, g1, g2⟩ := HC.out _ rfl; have HQ := areValid_any Av nv cv vs _ (HV.out.go g1) (classes_go HT.out g1); refine Calls.mono HQ ?_; clear HQ; rintro e w1 ⟨rfl, hb⟩; rw [HAV.out]; have HR1 := Lib.hid (g0.below hb g2); have HB1 := Lib.hid (g1.trans (hb.mono g1.size)); have HG1 : Hid (W.heap.size < w1.heap.size) := (Nat.lt_of_lt_of_le g2 hb.size);  clear g0 g1 g2 hb))
    all_goals go_ret
    all_goals first | exact ⟨rfl, HB3.out⟩ | exact ⟨rfl, HB2.out⟩ | exact ⟨rfl, HB1.out⟩ | exact ⟨rfl, below_alloc _ _⟩
  by_cases ht : ¬ dt.size = 0
  · have hp : 0 < dt.size := by omega
    have e1 := ne_nil_of_size hp
    have e2 := not_isEmpty_of_size hp
    rw [show (dt.size == 0) = false from by simp [ht]]
    clear ht hp
    go_enter Tryz.func214, Tryz.ntmps214
    go_wp2_with (first | (go_at_call 59; refine (within_i64 _ _ _ _).mono ?_; rintro e w' ⟨rfl, rfl⟩; rw [HLOW.out]) | (go_at_call 215; obtain ⟨g0, g1, g2⟩ := HC.out _ rfl; have HQ := areValid_any Av nv cv vs _ (HV.out.go g1) (classes_go HT.out g1); refine Calls.mono HQ ?_; clear HQ; rintro e w1 ⟨rfl, hb⟩; rw [HAV.out]; have HR1 := Lib.hid (g0.below hb g2); have HB1 := Lib.hid (g1.trans (hb.mono g1.size)); have HG1 : Hid (W.heap.size < w1.heap.size) := (Nat.lt_of_lt_of_le g2 hb.size);  clear g0 g1 g2 hb))
    all_goals go_ret
    all_goals first | exact ⟨rfl, HB3.out⟩ | exact ⟨rfl, HB2.out⟩ | exact ⟨rfl, HB1.out⟩ | exact ⟨rfl, below_alloc _ _⟩
  replace ht : dt.size = 0 := by omega
  have e1t := nil_of_size ht
  have e2t := isEmpty_of_size ht
  rw [show (dt.size == 0) = true from by simp [ht]]
  clear ht
  cases za
  · go_enter Tryz.func214, Tryz.ntmps214
    go_wp2_with (first | (go_at_call 59; refine (within_i64 _ _ _ _).mono ?_; rintro e w' ⟨rfl, rfl⟩; rw [HLOW.out]) | (go_at_call 215; obtain ⟨g0, g1, g2⟩ := HC.out _ rfl; have HQ := areValid_any Av nv cv vs _ (HV.out.go g1) (classes_go HT.out g1); refine Calls.mono HQ ?_; clear HQ; rintro e w1 ⟨rfl, hb⟩; rw [HAV.out]; have HR1 := Lib.hid (g0.below hb g2); have HB1 := Lib.hid (g1.trans (hb.mono g1.size)); have HG1 : Hid (W.heap.size < w1.heap.size) := (Nat.lt_of_lt_of_le g2 hb.size);  clear g0 g1 g2 hb))
    all_goals go_ret
    all_goals first | exact ⟨rfl, HB3.out⟩ | exact ⟨rfl, HB2.out⟩ | exact ⟨rfl, HB1.out⟩ | exact ⟨rfl, below_alloc _ _⟩
  cases zk
  · go_enter Tryz.func214, Tryz.ntmps214
    go_wp2_with (first | (go_at_call 59; refine (within_i64 _ _ _ _).mono ?_; rintro e w' ⟨rfl, rfl⟩; rw [HLOW.out]) | (go_at_call 215; obtain ⟨g0, g1, g2⟩ := HC.out _ rfl; have HQ := areValid_any Av nv cv vs _ (HV.out.go g1) (classes_go HT.out g1); refine Calls.mono HQ ?_; clear HQ; rintro e w1 ⟨rfl, hb⟩; rw [HAV.out]; have HR1 := Lib.hid (g0.below hb g2); have HB1 := Lib.hid (g1.trans (hb.mono g1.size)); have HG1 : Hid (W.heap.size < w1.heap.size) := (Nat.lt_of_lt_of_le g2 hb.size);  clear g0 g1 g2 hb))
    all_goals go_ret
    all_goals first | exact ⟨rfl, HB3.out⟩ | exact ⟨rfl, HB2.out⟩ | exact ⟨rfl, HB1.out⟩ | exact ⟨rfl, below_alloc _ _⟩
  cases v30
  · go_enter Tryz.func214, Tryz.ntmps214
    go_wp2_with (first | (go_at_call 59; refine (within_i64 _ _ _ _).mono ?_; rintro e w' ⟨rfl, rfl⟩; rw [HLOW.out]) | (go_at_call 215; obtain ⟨g0, g1, g2⟩ := HC.out _ rfl; have HQ := areValid_any Av nv cv vs _ (HV.out.go g1) (classes_go HT.out g1); refine Calls.mono HQ ?_; clear HQ; rintro e w1 ⟨rfl, hb⟩; rw [HAV.out]; have HR1 := Lib.hid (g0.below hb g2); have HB1 := Lib.hid (g1.trans (hb.mono g1.size)); have HG1 : Hid (W.heap.size < w1.heap.size) := (Nat.lt_of_lt_of_le g2 hb.size);  clear g0 g1 g2 hb))
    all_goals go_ret
    all_goals first | exact ⟨rfl, HB3.out⟩ | exact ⟨rfl, HB2.out⟩ | exact ⟨rfl, HB1.out⟩ | exact ⟨rfl, below_alloc _ _⟩
  cases AV
  · go_enter Tryz.func214, Tryz.ntmps214
    go_wp2_with (first | (go_at_call 59; refine (within_i64 _ _ _ _).mono ?_; rintro e w' ⟨rfl, rfl⟩; rw [HLOW.out]) | (go_at_call 215; obtain ⟨g0, g1, g2⟩ := HC.out _ rfl; have HQ := areValid_any Av nv cv vs _ (HV.out.go g1) (classes_go HT.out g1); refine Calls.mono HQ ?_; clear HQ; rintro e w1 ⟨rfl, hb⟩; rw [HAV.out]; have HR1 := Lib.hid (g0.below hb g2); have HB1 := Lib.hid (g1.trans (hb.mono g1.size)); have HG1 : Hid (W.heap.size < w1.heap.size) := (Nat.lt_of_lt_of_le g2 hb.size);  clear g0 g1 g2 hb))
    all_goals go_ret
    all_goals first | exact ⟨rfl, HB3.out⟩ | exact ⟨rfl, HB2.out⟩ | exact ⟨rfl, HB1.out⟩ | exact ⟨rfl, below_alloc _ _⟩
  go_enter Tryz.func214, Tryz.ntmps214
  go_wp2_with (first | (go_at_call 59; refine (within_i64 _ _ _ _).mono ?_; rintro e w' ⟨rfl, rfl⟩; rw [HLOW.out]) | (go_at_call 215; obtain ⟨g0, g1, g2⟩ := HC.out _ rfl; have HQ := areValid_any Av nv cv vs _ (HV.out.go g1) (classes_go HT.out g1); refine Calls.mono HQ ?_; clear HQ; rintro e w1 ⟨rfl, hb⟩; rw [HAV.out]; have HR1 := Lib.hid (g0.below hb g2); have HB1 := Lib.hid (g1.trans (hb.mono g1.size)); have HG1 : Hid (W.heap.size < w1.heap.size) := (Nat.lt_of_lt_of_le g2 hb.size);  clear g0 g1 g2 hb))
  all_goals go_ret
  all_goals first | exact ⟨rfl, HB3.out⟩ | exact ⟨rfl, HB2.out⟩ | exact ⟨rfl, HB1.out⟩ | exact ⟨rfl, below_alloc _ _⟩

set_option maxHeartbeats 8000000 in
set_option maxRecDepth 100000 in
theorem tableFields_any (o : Ob) (l : Lay) (W : World) (ho : OV W W.heap.size o l) (hT : Classes W) :
    Calls Tryz.prog 216 #[o.ag l] W fun e w' => e = .returned (.bool (tt (TableO o))) ∧ Below W.heap.size W w' := by
  rw [table_bool]
  obtain ⟨id, kind, name, low, ks, vs, ⟨dk, dn, dt, dr⟩⟩ := o
  obtain ⟨Ak, nk, ck, Av, nv, cv, hck, hcv⟩ := l
  obtain ⟨hk, hv, hn, hd⟩ := ho
  dsimp only at hk hv hn hd ⊢
  have HK := Lib.hid hk
  have HV := Lib.hid hv
  have HN := Lib.hid hn
  have HD := Lib.hid hd
  have HT := Lib.hid hT
  have HCK := Lib.hid hck
  have HC := Lib.hid (one_new W 210 #[.int .i64 id, .int .i64 kind, .string name, .int .i64 low, .slice Ak nk ck, .slice Av nv cv, .int .i64 dk, .int .i64 dn, .string dt, .int .i64 dr])
  have l1 := hk.1
  have l2 := hv.1
  clear hk hv hn hd hT
  show Calls Tryz.prog 216 #[.agg #[.int .i64 id, .int .i64 kind, .string name, .int .i64 low, .slice Ak nk ck, .slice Av nv cv, .int .i64 dk, .int .i64 dn, .string dt, .int .i64 dr]] W _
  obtain ⟨zl, hzl⟩ : ∃ z, (low == 0) = z := ⟨_, rfl⟩
  obtain ⟨DV, hDV⟩ : ∃ z, Vl.valid ⟨dk, dn, dt, dr⟩ = z := ⟨_, rfl⟩
  have HDV0 := Lib.hid hDV
  obtain ⟨k30, hk30⟩ : ∃ z, decide ((ks.length : Int) ≤ 30) = z := ⟨_, rfl⟩
  obtain ⟨PR, hPR⟩ : ∃ z, tt (ks.length = vs.length ∧ AllValid ks ∧ Distinct ks ∧ AllValid vs) = z := ⟨_, rfl⟩
  have HPR := Lib.hid hPR
  rw [hzl, hDV, hk30, hPR]
  clear hDV hPR
  try rw [l1] at hzk
  try rw [l2] at hv30
  try rw [l1] at hk30
  try (have HIN := (show Hid (decide (1 ≤ (nk : Int) ∧ (nk : Int) ≤ 6) = IN) from by rw [← l1]; exact HIN0.out))
  try (have HDV := (show Hid (validV dk dn dt dr = DV) from HDV0.out))
  clear l1 l2
  by_cases hn : ¬ name.size = 0
  · have hp : 0 < name.size := by omega
    have e1 := ne_nil_of_size hp
    have e2 := not_isEmpty_of_size hp
    rw [show (name.size == 0) = false from by simp [hn]]
    clear hn hp
    go_enter Tryz.func216, Tryz.ntmps216
    go_wp2_with (first | (go_at_call 61; obtain ⟨g0, g1, g2⟩ := HC.out _ rfl; have HQ := impl_ValidValue_any dk dn dt dr _ HD.out (classes_go HT.out g1); refine Calls.mono HQ ?_; clear HQ; rintro e w1 ⟨rfl, hb⟩; rw [HDV.out]; have HR1 := Lib.hid (g0.below hb g2); have HB1 := Lib.hid (g1.trans (hb.mono g1.size)); have HG1 : Hid (W.heap.size < w1.heap.size) := (Nat.lt_of_lt_of_le g2 hb.size); have q4 : w1.cell? ⟨W.heap.size, 4, none⟩ = some (.slice Ak nk ck) := HR1.out.cell 4; have q5 : w1.cell? ⟨W.heap.size, 5, none⟩ = some (.slice Av nv cv) := HR1.out.cell 5; clear g0 g1 g2 hb) | (go_at_call 217; have HQ := arePairs_any Ak nk ck ks Av nv cv vs w1 (HK.out.go HB1.out) (HV.out.go HB1.out) HCK.out (classes_go HT.out HB1.out); refine Calls.mono HQ ?_; clear HQ; rintro e w2 ⟨rfl, hb⟩; rw [HPR.out]; have HB2 := Lib.hid (HB1.out.trans (hb.mono HB1.out.size)); clear hb))
    all_goals go_ret
    all_goals first | exact ⟨rfl, HB3.out⟩ | exact ⟨rfl, HB2.out⟩ | exact ⟨rfl, HB1.out⟩ | exact ⟨rfl, below_alloc _ _⟩
  replace hn : name.size = 0 := by omega
  have e1n := nil_of_size hn
  have e2n := isEmpty_of_size hn
  rw [show (name.size == 0) = true from by simp [hn]]
  clear hn
  cases zl
  · go_enter Tryz.func216, Tryz.ntmps216
    go_wp2_with (first | (go_at_call 61; obtain ⟨g0, g1, g2⟩ := HC.out _ rfl; have HQ := impl_ValidValue_any dk dn dt dr _ HD.out (classes_go HT.out g1); refine Calls.mono HQ ?_; clear HQ; rintro e w1 ⟨rfl, hb⟩; rw [HDV.out]; have HR1 := Lib.hid (g0.below hb g2); have HB1 := Lib.hid (g1.trans (hb.mono g1.size)); have HG1 : Hid (W.heap.size < w1.heap.size) := (Nat.lt_of_lt_of_le g2 hb.size); have q4 : w1.cell? ⟨W.heap.size, 4, none⟩ = some (.slice Ak nk ck) := HR1.out.cell 4; have q5 : w1.cell? ⟨W.heap.size, 5, none⟩ = some (.slice Av nv cv) := HR1.out.cell 5; clear g0 g1 g2 hb) | (go_at_call 217; have HQ := arePairs_any Ak nk ck ks Av nv cv vs w1 (HK.out.go HB1.out) (HV.out.go HB1.out) HCK.out (classes_go HT.out HB1.out); refine Calls.mono HQ ?_; clear HQ; rintro e w2 ⟨rfl, hb⟩; rw [HPR.out]; have HB2 := Lib.hid (HB1.out.trans (hb.mono HB1.out.size)); clear hb))
    all_goals go_ret
    all_goals first | exact ⟨rfl, HB3.out⟩ | exact ⟨rfl, HB2.out⟩ | exact ⟨rfl, HB1.out⟩ | exact ⟨rfl, below_alloc _ _⟩
  cases DV
  · go_enter Tryz.func216, Tryz.ntmps216
    go_wp2_with (first | (go_at_call 61; obtain ⟨g0, g1, g2⟩ := HC.out _ rfl; have HQ := impl_ValidValue_any dk dn dt dr _ HD.out (classes_go HT.out g1); refine Calls.mono HQ ?_; clear HQ; rintro e w1 ⟨rfl, hb⟩; rw [HDV.out]; have HR1 := Lib.hid (g0.below hb g2); have HB1 := Lib.hid (g1.trans (hb.mono g1.size)); have HG1 : Hid (W.heap.size < w1.heap.size) := (Nat.lt_of_lt_of_le g2 hb.size); have q4 : w1.cell? ⟨W.heap.size, 4, none⟩ = some (.slice Ak nk ck) := HR1.out.cell 4; have q5 : w1.cell? ⟨W.heap.size, 5, none⟩ = some (.slice Av nv cv) := HR1.out.cell 5; clear g0 g1 g2 hb) | (go_at_call 217; have HQ := arePairs_any Ak nk ck ks Av nv cv vs w1 (HK.out.go HB1.out) (HV.out.go HB1.out) HCK.out (classes_go HT.out HB1.out); refine Calls.mono HQ ?_; clear HQ; rintro e w2 ⟨rfl, hb⟩; rw [HPR.out]; have HB2 := Lib.hid (HB1.out.trans (hb.mono HB1.out.size)); clear hb))
    all_goals go_ret
    all_goals first | exact ⟨rfl, HB3.out⟩ | exact ⟨rfl, HB2.out⟩ | exact ⟨rfl, HB1.out⟩ | exact ⟨rfl, below_alloc _ _⟩
  cases k30
  · go_enter Tryz.func216, Tryz.ntmps216
    go_wp2_with (first | (go_at_call 61; obtain ⟨g0, g1, g2⟩ := HC.out _ rfl; have HQ := impl_ValidValue_any dk dn dt dr _ HD.out (classes_go HT.out g1); refine Calls.mono HQ ?_; clear HQ; rintro e w1 ⟨rfl, hb⟩; rw [HDV.out]; have HR1 := Lib.hid (g0.below hb g2); have HB1 := Lib.hid (g1.trans (hb.mono g1.size)); have HG1 : Hid (W.heap.size < w1.heap.size) := (Nat.lt_of_lt_of_le g2 hb.size); have q4 : w1.cell? ⟨W.heap.size, 4, none⟩ = some (.slice Ak nk ck) := HR1.out.cell 4; have q5 : w1.cell? ⟨W.heap.size, 5, none⟩ = some (.slice Av nv cv) := HR1.out.cell 5; clear g0 g1 g2 hb) | (go_at_call 217; have HQ := arePairs_any Ak nk ck ks Av nv cv vs w1 (HK.out.go HB1.out) (HV.out.go HB1.out) HCK.out (classes_go HT.out HB1.out); refine Calls.mono HQ ?_; clear HQ; rintro e w2 ⟨rfl, hb⟩; rw [HPR.out]; have HB2 := Lib.hid (HB1.out.trans (hb.mono HB1.out.size)); clear hb))
    all_goals go_ret
    all_goals first | exact ⟨rfl, HB3.out⟩ | exact ⟨rfl, HB2.out⟩ | exact ⟨rfl, HB1.out⟩ | exact ⟨rfl, below_alloc _ _⟩
  cases PR
  · go_enter Tryz.func216, Tryz.ntmps216
    go_wp2_with (first | (go_at_call 61; obtain ⟨g0, g1, g2⟩ := HC.out _ rfl; have HQ := impl_ValidValue_any dk dn dt dr _ HD.out (classes_go HT.out g1); refine Calls.mono HQ ?_; clear HQ; rintro e w1 ⟨rfl, hb⟩; rw [HDV.out]; have HR1 := Lib.hid (g0.below hb g2); have HB1 := Lib.hid (g1.trans (hb.mono g1.size)); have HG1 : Hid (W.heap.size < w1.heap.size) := (Nat.lt_of_lt_of_le g2 hb.size); have q4 : w1.cell? ⟨W.heap.size, 4, none⟩ = some (.slice Ak nk ck) := HR1.out.cell 4; have q5 : w1.cell? ⟨W.heap.size, 5, none⟩ = some (.slice Av nv cv) := HR1.out.cell 5; clear g0 g1 g2 hb) | (go_at_call 217; have HQ := arePairs_any Ak nk ck ks Av nv cv vs w1 (HK.out.go HB1.out) (HV.out.go HB1.out) HCK.out (classes_go HT.out HB1.out); refine Calls.mono HQ ?_; clear HQ; rintro e w2 ⟨rfl, hb⟩; rw [HPR.out]; have HB2 := Lib.hid (HB1.out.trans (hb.mono HB1.out.size)); clear hb))
    all_goals go_ret
    all_goals first | exact ⟨rfl, HB3.out⟩ | exact ⟨rfl, HB2.out⟩ | exact ⟨rfl, HB1.out⟩ | exact ⟨rfl, below_alloc _ _⟩
  go_enter Tryz.func216, Tryz.ntmps216
  go_wp2_with (first | (go_at_call 61; obtain ⟨g0, g1, g2⟩ := HC.out _ rfl; have HQ := impl_ValidValue_any dk dn dt dr _ HD.out (classes_go HT.out g1); refine Calls.mono HQ ?_; clear HQ; rintro e w1 ⟨rfl, hb⟩; rw [HDV.out]; have HR1 := Lib.hid (g0.below hb g2); have HB1 := Lib.hid (g1.trans (hb.mono g1.size)); have HG1 : Hid (W.heap.size < w1.heap.size) := (Nat.lt_of_lt_of_le g2 hb.size); have q4 : w1.cell? ⟨W.heap.size, 4, none⟩ = some (.slice Ak nk ck) := HR1.out.cell 4; have q5 : w1.cell? ⟨W.heap.size, 5, none⟩ = some (.slice Av nv cv) := HR1.out.cell 5; clear g0 g1 g2 hb) | (go_at_call 217; have HQ := arePairs_any Ak nk ck ks Av nv cv vs w1 (HK.out.go HB1.out) (HV.out.go HB1.out) HCK.out (classes_go HT.out HB1.out); refine Calls.mono HQ ?_; clear HQ; rintro e w2 ⟨rfl, hb⟩; rw [HPR.out]; have HB2 := Lib.hid (HB1.out.trans (hb.mono HB1.out.size)); clear hb))
  all_goals go_ret
  all_goals first | exact ⟨rfl, HB3.out⟩ | exact ⟨rfl, HB2.out⟩ | exact ⟨rfl, HB1.out⟩ | exact ⟨rfl, below_alloc _ _⟩

set_option maxHeartbeats 8000000 in
set_option maxRecDepth 100000 in
theorem recordFields_any (o : Ob) (l : Lay) (W : World) (ho : OV W W.heap.size o l) (hT : Classes W) :
    Calls Tryz.prog 221 #[o.ag l] W fun e w' => e = .returned (.bool (tt (RecordO o))) ∧ Below W.heap.size W w' := by
  rw [record_bool]
  obtain ⟨id, kind, name, low, ks, vs, ⟨dk, dn, dt, dr⟩⟩ := o
  obtain ⟨Ak, nk, ck, Av, nv, cv, hck, hcv⟩ := l
  obtain ⟨hk, hv, hn, hd⟩ := ho
  dsimp only at hk hv hn hd ⊢
  have HK := Lib.hid hk
  have HV := Lib.hid hv
  have HN := Lib.hid hn
  have HD := Lib.hid hd
  have HT := Lib.hid hT
  have HCK := Lib.hid hck
  have HC := Lib.hid (one_new W 212 #[.int .i64 id, .int .i64 kind, .string name, .int .i64 low, .slice Ak nk ck, .slice Av nv cv, .int .i64 dk, .int .i64 dn, .string dt, .int .i64 dr])
  have l1 := hk.1
  have l2 := hv.1
  clear hk hv hn hd hT
  show Calls Tryz.prog 221 #[.agg #[.int .i64 id, .int .i64 kind, .string name, .int .i64 low, .slice Ak nk ck, .slice Av nv cv, .int .i64 dk, .int .i64 dn, .string dt, .int .i64 dr]] W _
  obtain ⟨NM, hNM⟩ : ∃ z, isNameB name = z := ⟨_, rfl⟩
  have HNM := Lib.hid hNM
  obtain ⟨zl, hzl⟩ : ∃ z, (low == 0) = z := ⟨_, rfl⟩
  obtain ⟨z7, hz7⟩ : ∃ z, (dk == 0) = z := ⟨_, rfl⟩
  obtain ⟨z8, hz8⟩ : ∃ z, (dn == 0) = z := ⟨_, rfl⟩
  obtain ⟨za, hza⟩ : ∃ z, (dr == 0) = z := ⟨_, rfl⟩
  obtain ⟨IN, hIN⟩ : ∃ z, decide (1 ≤ (ks.length : Int) ∧ (ks.length : Int) ≤ 6) = z := ⟨_, rfl⟩
  have HIN0 := Lib.hid hIN
  obtain ⟨FN, hFN⟩ : ∃ z, tt (Names ks) = z := ⟨_, rfl⟩
  have HFN := Lib.hid hFN
  obtain ⟨PR, hPR⟩ : ∃ z, tt (ks.length = vs.length ∧ AllValid ks ∧ Distinct ks ∧ AllValid vs) = z := ⟨_, rfl⟩
  have HPR := Lib.hid hPR
  rw [hNM, hzl, hz7, hz8, hza, hIN, hFN, hPR]
  clear hNM hIN hFN hPR
  try rw [l1] at hzk
  try rw [l2] at hv30
  try rw [l1] at hk30
  try (have HIN := (show Hid (decide (1 ≤ (nk : Int) ∧ (nk : Int) ≤ 6) = IN) from by rw [← l1]; exact HIN0.out))
  try (have HDV := (show Hid (validV dk dn dt dr = DV) from HDV0.out))
  clear l1 l2
  cases NM
  · go_enter Tryz.func221, Tryz.ntmps221
    go_wp2_with (first | (go_at_call 60; obtain ⟨g0, g1, g2⟩ := HC.out _ rfl; have HQ := impl_IsName_any name _ HN.out (classes_go HT.out g1); refine Calls.mono HQ ?_; clear HQ; rintro e w1 ⟨rfl, hb⟩; rw [HNM.out]; have HR1 := Lib.hid (g0.below hb g2); have HB1 := Lib.hid (g1.trans (hb.mono g1.size)); have HG1 : Hid (W.heap.size < w1.heap.size) := (Nat.lt_of_lt_of_le g2 hb.size); have q3 : w1.cell? ⟨W.heap.size, 3, none⟩ = some (.int .i64 low) := HR1.out.cell 3; have q4 : w1.cell? ⟨W.heap.size, 4, none⟩ = some (.slice Ak nk ck) := HR1.out.cell 4; have q5 : w1.cell? ⟨W.heap.size, 5, none⟩ = some (.slice Av nv cv) := HR1.out.cell 5; have q6 : w1.cell? ⟨W.heap.size, 6, none⟩ = some (.int .i64 dk) := HR1.out.cell 6; have q7 : w1.cell? ⟨W.heap.size, 7, none⟩ = some (.int .i64 dn) := HR1.out.cell 7; have q8 : w1.cell? ⟨W.heap.size, 8, none⟩ = some (.string dt) := HR1.out.cell 8; have q9 : w1.cell? ⟨W.heap.size, 9, none⟩ = some (.int .i64 dr) := HR1.out.cell 9; clear g0 g1 g2 hb) | (go_at_call 102; refine (within_int _ _ _ _).mono ?_; rintro e w' ⟨rfl, rfl⟩; rw [HIN.out]) | (go_at_call 222; have HQ := areFieldNames_any Ak nk ck ks w1 (HK.out.go HB1.out) (classes_go HT.out HB1.out); refine Calls.mono HQ ?_; clear HQ q3 q4 q5 q6 q7 q8 q9; rintro e w2 ⟨rfl, hb⟩; rw [HFN.out]; have HR2 := Lib.hid (HR1.out.below hb HG1.out); have HB2 := Lib.hid (HB1.out.trans (hb.mono HB1.out.size)); have q4 : w2.cell? ⟨W.heap.size, 4, none⟩ = some (.slice Ak nk ck) := HR2.out.cell 4; have q5 : w2.cell? ⟨W.heap.size, 5, none⟩ = some (.slice Av nv cv) := HR2.out.cell 5; clear hb) | (go_at_call 217; have HQ := arePairs_any Ak nk ck ks Av nv cv vs w2 (HK.out.go HB2.out) (HV.out.go HB2.out) HCK.out (classes_go HT.out HB2.out); refine Calls.mono HQ ?_; clear HQ; rintro e w3 ⟨rfl, hb⟩; rw [HPR.out]; have HB3 := Lib.hid (HB2.out.trans (hb.mono HB2.out.size)); clear hb))
    all_goals go_ret
    all_goals first | exact ⟨rfl, HB3.out⟩ | exact ⟨rfl, HB2.out⟩ | exact ⟨rfl, HB1.out⟩ | exact ⟨rfl, below_alloc _ _⟩
  cases zl
  · go_enter Tryz.func221, Tryz.ntmps221
    go_wp2_with (first | (go_at_call 60; obtain ⟨g0, g1, g2⟩ := HC.out _ rfl; have HQ := impl_IsName_any name _ HN.out (classes_go HT.out g1); refine Calls.mono HQ ?_; clear HQ; rintro e w1 ⟨rfl, hb⟩; rw [HNM.out]; have HR1 := Lib.hid (g0.below hb g2); have HB1 := Lib.hid (g1.trans (hb.mono g1.size)); have HG1 : Hid (W.heap.size < w1.heap.size) := (Nat.lt_of_lt_of_le g2 hb.size); have q3 : w1.cell? ⟨W.heap.size, 3, none⟩ = some (.int .i64 low) := HR1.out.cell 3; have q4 : w1.cell? ⟨W.heap.size, 4, none⟩ = some (.slice Ak nk ck) := HR1.out.cell 4; have q5 : w1.cell? ⟨W.heap.size, 5, none⟩ = some (.slice Av nv cv) := HR1.out.cell 5; have q6 : w1.cell? ⟨W.heap.size, 6, none⟩ = some (.int .i64 dk) := HR1.out.cell 6; have q7 : w1.cell? ⟨W.heap.size, 7, none⟩ = some (.int .i64 dn) := HR1.out.cell 7; have q8 : w1.cell? ⟨W.heap.size, 8, none⟩ = some (.string dt) := HR1.out.cell 8; have q9 : w1.cell? ⟨W.heap.size, 9, none⟩ = some (.int .i64 dr) := HR1.out.cell 9; clear g0 g1 g2 hb) | (go_at_call 102; refine (within_int _ _ _ _).mono ?_; rintro e w' ⟨rfl, rfl⟩; rw [HIN.out]) | (go_at_call 222; have HQ := areFieldNames_any Ak nk ck ks w1 (HK.out.go HB1.out) (classes_go HT.out HB1.out); refine Calls.mono HQ ?_; clear HQ q3 q4 q5 q6 q7 q8 q9; rintro e w2 ⟨rfl, hb⟩; rw [HFN.out]; have HR2 := Lib.hid (HR1.out.below hb HG1.out); have HB2 := Lib.hid (HB1.out.trans (hb.mono HB1.out.size)); have q4 : w2.cell? ⟨W.heap.size, 4, none⟩ = some (.slice Ak nk ck) := HR2.out.cell 4; have q5 : w2.cell? ⟨W.heap.size, 5, none⟩ = some (.slice Av nv cv) := HR2.out.cell 5; clear hb) | (go_at_call 217; have HQ := arePairs_any Ak nk ck ks Av nv cv vs w2 (HK.out.go HB2.out) (HV.out.go HB2.out) HCK.out (classes_go HT.out HB2.out); refine Calls.mono HQ ?_; clear HQ; rintro e w3 ⟨rfl, hb⟩; rw [HPR.out]; have HB3 := Lib.hid (HB2.out.trans (hb.mono HB2.out.size)); clear hb))
    all_goals go_ret
    all_goals first | exact ⟨rfl, HB3.out⟩ | exact ⟨rfl, HB2.out⟩ | exact ⟨rfl, HB1.out⟩ | exact ⟨rfl, below_alloc _ _⟩
  cases z7
  · go_enter Tryz.func221, Tryz.ntmps221
    go_wp2_with (first | (go_at_call 60; obtain ⟨g0, g1, g2⟩ := HC.out _ rfl; have HQ := impl_IsName_any name _ HN.out (classes_go HT.out g1); refine Calls.mono HQ ?_; clear HQ; rintro e w1 ⟨rfl, hb⟩; rw [HNM.out]; have HR1 := Lib.hid (g0.below hb g2); have HB1 := Lib.hid (g1.trans (hb.mono g1.size)); have HG1 : Hid (W.heap.size < w1.heap.size) := (Nat.lt_of_lt_of_le g2 hb.size); have q3 : w1.cell? ⟨W.heap.size, 3, none⟩ = some (.int .i64 low) := HR1.out.cell 3; have q4 : w1.cell? ⟨W.heap.size, 4, none⟩ = some (.slice Ak nk ck) := HR1.out.cell 4; have q5 : w1.cell? ⟨W.heap.size, 5, none⟩ = some (.slice Av nv cv) := HR1.out.cell 5; have q6 : w1.cell? ⟨W.heap.size, 6, none⟩ = some (.int .i64 dk) := HR1.out.cell 6; have q7 : w1.cell? ⟨W.heap.size, 7, none⟩ = some (.int .i64 dn) := HR1.out.cell 7; have q8 : w1.cell? ⟨W.heap.size, 8, none⟩ = some (.string dt) := HR1.out.cell 8; have q9 : w1.cell? ⟨W.heap.size, 9, none⟩ = some (.int .i64 dr) := HR1.out.cell 9; clear g0 g1 g2 hb) | (go_at_call 102; refine (within_int _ _ _ _).mono ?_; rintro e w' ⟨rfl, rfl⟩; rw [HIN.out]) | (go_at_call 222; have HQ := areFieldNames_any Ak nk ck ks w1 (HK.out.go HB1.out) (classes_go HT.out HB1.out); refine Calls.mono HQ ?_; clear HQ q3 q4 q5 q6 q7 q8 q9; rintro e w2 ⟨rfl, hb⟩; rw [HFN.out]; have HR2 := Lib.hid (HR1.out.below hb HG1.out); have HB2 := Lib.hid (HB1.out.trans (hb.mono HB1.out.size)); have q4 : w2.cell? ⟨W.heap.size, 4, none⟩ = some (.slice Ak nk ck) := HR2.out.cell 4; have q5 : w2.cell? ⟨W.heap.size, 5, none⟩ = some (.slice Av nv cv) := HR2.out.cell 5; clear hb) | (go_at_call 217; have HQ := arePairs_any Ak nk ck ks Av nv cv vs w2 (HK.out.go HB2.out) (HV.out.go HB2.out) HCK.out (classes_go HT.out HB2.out); refine Calls.mono HQ ?_; clear HQ; rintro e w3 ⟨rfl, hb⟩; rw [HPR.out]; have HB3 := Lib.hid (HB2.out.trans (hb.mono HB2.out.size)); clear hb))
    all_goals go_ret
    all_goals first | exact ⟨rfl, HB3.out⟩ | exact ⟨rfl, HB2.out⟩ | exact ⟨rfl, HB1.out⟩ | exact ⟨rfl, below_alloc _ _⟩
  cases z8
  · go_enter Tryz.func221, Tryz.ntmps221
    go_wp2_with (first | (go_at_call 60; obtain ⟨g0, g1, g2⟩ := HC.out _ rfl; have HQ := impl_IsName_any name _ HN.out (classes_go HT.out g1); refine Calls.mono HQ ?_; clear HQ; rintro e w1 ⟨rfl, hb⟩; rw [HNM.out]; have HR1 := Lib.hid (g0.below hb g2); have HB1 := Lib.hid (g1.trans (hb.mono g1.size)); have HG1 : Hid (W.heap.size < w1.heap.size) := (Nat.lt_of_lt_of_le g2 hb.size); have q3 : w1.cell? ⟨W.heap.size, 3, none⟩ = some (.int .i64 low) := HR1.out.cell 3; have q4 : w1.cell? ⟨W.heap.size, 4, none⟩ = some (.slice Ak nk ck) := HR1.out.cell 4; have q5 : w1.cell? ⟨W.heap.size, 5, none⟩ = some (.slice Av nv cv) := HR1.out.cell 5; have q6 : w1.cell? ⟨W.heap.size, 6, none⟩ = some (.int .i64 dk) := HR1.out.cell 6; have q7 : w1.cell? ⟨W.heap.size, 7, none⟩ = some (.int .i64 dn) := HR1.out.cell 7; have q8 : w1.cell? ⟨W.heap.size, 8, none⟩ = some (.string dt) := HR1.out.cell 8; have q9 : w1.cell? ⟨W.heap.size, 9, none⟩ = some (.int .i64 dr) := HR1.out.cell 9; clear g0 g1 g2 hb) | (go_at_call 102; refine (within_int _ _ _ _).mono ?_; rintro e w' ⟨rfl, rfl⟩; rw [HIN.out]) | (go_at_call 222; have HQ := areFieldNames_any Ak nk ck ks w1 (HK.out.go HB1.out) (classes_go HT.out HB1.out); refine Calls.mono HQ ?_; clear HQ q3 q4 q5 q6 q7 q8 q9; rintro e w2 ⟨rfl, hb⟩; rw [HFN.out]; have HR2 := Lib.hid (HR1.out.below hb HG1.out); have HB2 := Lib.hid (HB1.out.trans (hb.mono HB1.out.size)); have q4 : w2.cell? ⟨W.heap.size, 4, none⟩ = some (.slice Ak nk ck) := HR2.out.cell 4; have q5 : w2.cell? ⟨W.heap.size, 5, none⟩ = some (.slice Av nv cv) := HR2.out.cell 5; clear hb) | (go_at_call 217; have HQ := arePairs_any Ak nk ck ks Av nv cv vs w2 (HK.out.go HB2.out) (HV.out.go HB2.out) HCK.out (classes_go HT.out HB2.out); refine Calls.mono HQ ?_; clear HQ; rintro e w3 ⟨rfl, hb⟩; rw [HPR.out]; have HB3 := Lib.hid (HB2.out.trans (hb.mono HB2.out.size)); clear hb))
    all_goals go_ret
    all_goals first | exact ⟨rfl, HB3.out⟩ | exact ⟨rfl, HB2.out⟩ | exact ⟨rfl, HB1.out⟩ | exact ⟨rfl, below_alloc _ _⟩
  by_cases ht : ¬ dt.size = 0
  · have hp : 0 < dt.size := by omega
    have e1 := ne_nil_of_size hp
    have e2 := not_isEmpty_of_size hp
    rw [show (dt.size == 0) = false from by simp [ht]]
    clear ht hp
    go_enter Tryz.func221, Tryz.ntmps221
    go_wp2_with (first | (go_at_call 60; obtain ⟨g0, g1, g2⟩ := HC.out _ rfl; have HQ := impl_IsName_any name _ HN.out (classes_go HT.out g1); refine Calls.mono HQ ?_; clear HQ; rintro e w1 ⟨rfl, hb⟩; rw [HNM.out]; have HR1 := Lib.hid (g0.below hb g2); have HB1 := Lib.hid (g1.trans (hb.mono g1.size)); have HG1 : Hid (W.heap.size < w1.heap.size) := (Nat.lt_of_lt_of_le g2 hb.size); have q3 : w1.cell? ⟨W.heap.size, 3, none⟩ = some (.int .i64 low) := HR1.out.cell 3; have q4 : w1.cell? ⟨W.heap.size, 4, none⟩ = some (.slice Ak nk ck) := HR1.out.cell 4; have q5 : w1.cell? ⟨W.heap.size, 5, none⟩ = some (.slice Av nv cv) := HR1.out.cell 5; have q6 : w1.cell? ⟨W.heap.size, 6, none⟩ = some (.int .i64 dk) := HR1.out.cell 6; have q7 : w1.cell? ⟨W.heap.size, 7, none⟩ = some (.int .i64 dn) := HR1.out.cell 7; have q8 : w1.cell? ⟨W.heap.size, 8, none⟩ = some (.string dt) := HR1.out.cell 8; have q9 : w1.cell? ⟨W.heap.size, 9, none⟩ = some (.int .i64 dr) := HR1.out.cell 9; clear g0 g1 g2 hb) | (go_at_call 102; refine (within_int _ _ _ _).mono ?_; rintro e w' ⟨rfl, rfl⟩; rw [HIN.out]) | (go_at_call 222; have HQ := areFieldNames_any Ak nk ck ks w1 (HK.out.go HB1.out) (classes_go HT.out HB1.out); refine Calls.mono HQ ?_; clear HQ q3 q4 q5 q6 q7 q8 q9; rintro e w2 ⟨rfl, hb⟩; rw [HFN.out]; have HR2 := Lib.hid (HR1.out.below hb HG1.out); have HB2 := Lib.hid (HB1.out.trans (hb.mono HB1.out.size)); have q4 : w2.cell? ⟨W.heap.size, 4, none⟩ = some (.slice Ak nk ck) := HR2.out.cell 4; have q5 : w2.cell? ⟨W.heap.size, 5, none⟩ = some (.slice Av nv cv) := HR2.out.cell 5; clear hb) | (go_at_call 217; have HQ := arePairs_any Ak nk ck ks Av nv cv vs w2 (HK.out.go HB2.out) (HV.out.go HB2.out) HCK.out (classes_go HT.out HB2.out); refine Calls.mono HQ ?_; clear HQ; rintro e w3 ⟨rfl, hb⟩; rw [HPR.out]; have HB3 := Lib.hid (HB2.out.trans (hb.mono HB2.out.size)); clear hb))
    all_goals go_ret
    all_goals first | exact ⟨rfl, HB3.out⟩ | exact ⟨rfl, HB2.out⟩ | exact ⟨rfl, HB1.out⟩ | exact ⟨rfl, below_alloc _ _⟩
  replace ht : dt.size = 0 := by omega
  have e1t := nil_of_size ht
  have e2t := isEmpty_of_size ht
  rw [show (dt.size == 0) = true from by simp [ht]]
  clear ht
  cases za
  · go_enter Tryz.func221, Tryz.ntmps221
    go_wp2_with (first | (go_at_call 60; obtain ⟨g0, g1, g2⟩ := HC.out _ rfl; have HQ := impl_IsName_any name _ HN.out (classes_go HT.out g1); refine Calls.mono HQ ?_; clear HQ; rintro e w1 ⟨rfl, hb⟩; rw [HNM.out]; have HR1 := Lib.hid (g0.below hb g2); have HB1 := Lib.hid (g1.trans (hb.mono g1.size)); have HG1 : Hid (W.heap.size < w1.heap.size) := (Nat.lt_of_lt_of_le g2 hb.size); have q3 : w1.cell? ⟨W.heap.size, 3, none⟩ = some (.int .i64 low) := HR1.out.cell 3; have q4 : w1.cell? ⟨W.heap.size, 4, none⟩ = some (.slice Ak nk ck) := HR1.out.cell 4; have q5 : w1.cell? ⟨W.heap.size, 5, none⟩ = some (.slice Av nv cv) := HR1.out.cell 5; have q6 : w1.cell? ⟨W.heap.size, 6, none⟩ = some (.int .i64 dk) := HR1.out.cell 6; have q7 : w1.cell? ⟨W.heap.size, 7, none⟩ = some (.int .i64 dn) := HR1.out.cell 7; have q8 : w1.cell? ⟨W.heap.size, 8, none⟩ = some (.string dt) := HR1.out.cell 8; have q9 : w1.cell? ⟨W.heap.size, 9, none⟩ = some (.int .i64 dr) := HR1.out.cell 9; clear g0 g1 g2 hb) | (go_at_call 102; refine (within_int _ _ _ _).mono ?_; rintro e w' ⟨rfl, rfl⟩; rw [HIN.out]) | (go_at_call 222; have HQ := areFieldNames_any Ak nk ck ks w1 (HK.out.go HB1.out) (classes_go HT.out HB1.out); refine Calls.mono HQ ?_; clear HQ q3 q4 q5 q6 q7 q8 q9; rintro e w2 ⟨rfl, hb⟩; rw [HFN.out]; have HR2 := Lib.hid (HR1.out.below hb HG1.out); have HB2 := Lib.hid (HB1.out.trans (hb.mono HB1.out.size)); have q4 : w2.cell? ⟨W.heap.size, 4, none⟩ = some (.slice Ak nk ck) := HR2.out.cell 4; have q5 : w2.cell? ⟨W.heap.size, 5, none⟩ = some (.slice Av nv cv) := HR2.out.cell 5; clear hb) | (go_at_call 217; have HQ := arePairs_any Ak nk ck ks Av nv cv vs w2 (HK.out.go HB2.out) (HV.out.go HB2.out) HCK.out (classes_go HT.out HB2.out); refine Calls.mono HQ ?_; clear HQ; rintro e w3 ⟨rfl, hb⟩; rw [HPR.out]; have HB3 := Lib.hid (HB2.out.trans (hb.mono HB2.out.size)); clear hb))
    all_goals go_ret
    all_goals first | exact ⟨rfl, HB3.out⟩ | exact ⟨rfl, HB2.out⟩ | exact ⟨rfl, HB1.out⟩ | exact ⟨rfl, below_alloc _ _⟩
  cases IN
  · go_enter Tryz.func221, Tryz.ntmps221
    go_wp2_with (first | (go_at_call 60; obtain ⟨g0, g1, g2⟩ := HC.out _ rfl; have HQ := impl_IsName_any name _ HN.out (classes_go HT.out g1); refine Calls.mono HQ ?_; clear HQ; rintro e w1 ⟨rfl, hb⟩; rw [HNM.out]; have HR1 := Lib.hid (g0.below hb g2); have HB1 := Lib.hid (g1.trans (hb.mono g1.size)); have HG1 : Hid (W.heap.size < w1.heap.size) := (Nat.lt_of_lt_of_le g2 hb.size); have q3 : w1.cell? ⟨W.heap.size, 3, none⟩ = some (.int .i64 low) := HR1.out.cell 3; have q4 : w1.cell? ⟨W.heap.size, 4, none⟩ = some (.slice Ak nk ck) := HR1.out.cell 4; have q5 : w1.cell? ⟨W.heap.size, 5, none⟩ = some (.slice Av nv cv) := HR1.out.cell 5; have q6 : w1.cell? ⟨W.heap.size, 6, none⟩ = some (.int .i64 dk) := HR1.out.cell 6; have q7 : w1.cell? ⟨W.heap.size, 7, none⟩ = some (.int .i64 dn) := HR1.out.cell 7; have q8 : w1.cell? ⟨W.heap.size, 8, none⟩ = some (.string dt) := HR1.out.cell 8; have q9 : w1.cell? ⟨W.heap.size, 9, none⟩ = some (.int .i64 dr) := HR1.out.cell 9; clear g0 g1 g2 hb) | (go_at_call 102; refine (within_int _ _ _ _).mono ?_; rintro e w' ⟨rfl, rfl⟩; rw [HIN.out]) | (go_at_call 222; have HQ := areFieldNames_any Ak nk ck ks w1 (HK.out.go HB1.out) (classes_go HT.out HB1.out); refine Calls.mono HQ ?_; clear HQ q3 q4 q5 q6 q7 q8 q9; rintro e w2 ⟨rfl, hb⟩; rw [HFN.out]; have HR2 := Lib.hid (HR1.out.below hb HG1.out); have HB2 := Lib.hid (HB1.out.trans (hb.mono HB1.out.size)); have q4 : w2.cell? ⟨W.heap.size, 4, none⟩ = some (.slice Ak nk ck) := HR2.out.cell 4; have q5 : w2.cell? ⟨W.heap.size, 5, none⟩ = some (.slice Av nv cv) := HR2.out.cell 5; clear hb) | (go_at_call 217; have HQ := arePairs_any Ak nk ck ks Av nv cv vs w2 (HK.out.go HB2.out) (HV.out.go HB2.out) HCK.out (classes_go HT.out HB2.out); refine Calls.mono HQ ?_; clear HQ; rintro e w3 ⟨rfl, hb⟩; rw [HPR.out]; have HB3 := Lib.hid (HB2.out.trans (hb.mono HB2.out.size)); clear hb))
    all_goals go_ret
    all_goals first | exact ⟨rfl, HB3.out⟩ | exact ⟨rfl, HB2.out⟩ | exact ⟨rfl, HB1.out⟩ | exact ⟨rfl, below_alloc _ _⟩
  cases FN
  · go_enter Tryz.func221, Tryz.ntmps221
    go_wp2_with (first | (go_at_call 60; obtain ⟨g0, g1, g2⟩ := HC.out _ rfl; have HQ := impl_IsName_any name _ HN.out (classes_go HT.out g1); refine Calls.mono HQ ?_; clear HQ; rintro e w1 ⟨rfl, hb⟩; rw [HNM.out]; have HR1 := Lib.hid (g0.below hb g2); have HB1 := Lib.hid (g1.trans (hb.mono g1.size)); have HG1 : Hid (W.heap.size < w1.heap.size) := (Nat.lt_of_lt_of_le g2 hb.size); have q3 : w1.cell? ⟨W.heap.size, 3, none⟩ = some (.int .i64 low) := HR1.out.cell 3; have q4 : w1.cell? ⟨W.heap.size, 4, none⟩ = some (.slice Ak nk ck) := HR1.out.cell 4; have q5 : w1.cell? ⟨W.heap.size, 5, none⟩ = some (.slice Av nv cv) := HR1.out.cell 5; have q6 : w1.cell? ⟨W.heap.size, 6, none⟩ = some (.int .i64 dk) := HR1.out.cell 6; have q7 : w1.cell? ⟨W.heap.size, 7, none⟩ = some (.int .i64 dn) := HR1.out.cell 7; have q8 : w1.cell? ⟨W.heap.size, 8, none⟩ = some (.string dt) := HR1.out.cell 8; have q9 : w1.cell? ⟨W.heap.size, 9, none⟩ = some (.int .i64 dr) := HR1.out.cell 9; clear g0 g1 g2 hb) | (go_at_call 102; refine (within_int _ _ _ _).mono ?_; rintro e w' ⟨rfl, rfl⟩; rw [HIN.out]) | (go_at_call 222; have HQ := areFieldNames_any Ak nk ck ks w1 (HK.out.go HB1.out) (classes_go HT.out HB1.out); refine Calls.mono HQ ?_; clear HQ q3 q4 q5 q6 q7 q8 q9; rintro e w2 ⟨rfl, hb⟩; rw [HFN.out]; have HR2 := Lib.hid (HR1.out.below hb HG1.out); have HB2 := Lib.hid (HB1.out.trans (hb.mono HB1.out.size)); have q4 : w2.cell? ⟨W.heap.size, 4, none⟩ = some (.slice Ak nk ck) := HR2.out.cell 4; have q5 : w2.cell? ⟨W.heap.size, 5, none⟩ = some (.slice Av nv cv) := HR2.out.cell 5; clear hb) | (go_at_call 217; have HQ := arePairs_any Ak nk ck ks Av nv cv vs w2 (HK.out.go HB2.out) (HV.out.go HB2.out) HCK.out (classes_go HT.out HB2.out); refine Calls.mono HQ ?_; clear HQ; rintro e w3 ⟨rfl, hb⟩; rw [HPR.out]; have HB3 := Lib.hid (HB2.out.trans (hb.mono HB2.out.size)); clear hb))
    all_goals go_ret
    all_goals first | exact ⟨rfl, HB3.out⟩ | exact ⟨rfl, HB2.out⟩ | exact ⟨rfl, HB1.out⟩ | exact ⟨rfl, below_alloc _ _⟩
  cases PR
  · go_enter Tryz.func221, Tryz.ntmps221
    go_wp2_with (first | (go_at_call 60; obtain ⟨g0, g1, g2⟩ := HC.out _ rfl; have HQ := impl_IsName_any name _ HN.out (classes_go HT.out g1); refine Calls.mono HQ ?_; clear HQ; rintro e w1 ⟨rfl, hb⟩; rw [HNM.out]; have HR1 := Lib.hid (g0.below hb g2); have HB1 := Lib.hid (g1.trans (hb.mono g1.size)); have HG1 : Hid (W.heap.size < w1.heap.size) := (Nat.lt_of_lt_of_le g2 hb.size); have q3 : w1.cell? ⟨W.heap.size, 3, none⟩ = some (.int .i64 low) := HR1.out.cell 3; have q4 : w1.cell? ⟨W.heap.size, 4, none⟩ = some (.slice Ak nk ck) := HR1.out.cell 4; have q5 : w1.cell? ⟨W.heap.size, 5, none⟩ = some (.slice Av nv cv) := HR1.out.cell 5; have q6 : w1.cell? ⟨W.heap.size, 6, none⟩ = some (.int .i64 dk) := HR1.out.cell 6; have q7 : w1.cell? ⟨W.heap.size, 7, none⟩ = some (.int .i64 dn) := HR1.out.cell 7; have q8 : w1.cell? ⟨W.heap.size, 8, none⟩ = some (.string dt) := HR1.out.cell 8; have q9 : w1.cell? ⟨W.heap.size, 9, none⟩ = some (.int .i64 dr) := HR1.out.cell 9; clear g0 g1 g2 hb) | (go_at_call 102; refine (within_int _ _ _ _).mono ?_; rintro e w' ⟨rfl, rfl⟩; rw [HIN.out]) | (go_at_call 222; have HQ := areFieldNames_any Ak nk ck ks w1 (HK.out.go HB1.out) (classes_go HT.out HB1.out); refine Calls.mono HQ ?_; clear HQ q3 q4 q5 q6 q7 q8 q9; rintro e w2 ⟨rfl, hb⟩; rw [HFN.out]; have HR2 := Lib.hid (HR1.out.below hb HG1.out); have HB2 := Lib.hid (HB1.out.trans (hb.mono HB1.out.size)); have q4 : w2.cell? ⟨W.heap.size, 4, none⟩ = some (.slice Ak nk ck) := HR2.out.cell 4; have q5 : w2.cell? ⟨W.heap.size, 5, none⟩ = some (.slice Av nv cv) := HR2.out.cell 5; clear hb) | (go_at_call 217; have HQ := arePairs_any Ak nk ck ks Av nv cv vs w2 (HK.out.go HB2.out) (HV.out.go HB2.out) HCK.out (classes_go HT.out HB2.out); refine Calls.mono HQ ?_; clear HQ; rintro e w3 ⟨rfl, hb⟩; rw [HPR.out]; have HB3 := Lib.hid (HB2.out.trans (hb.mono HB2.out.size)); clear hb))
    all_goals go_ret
    all_goals first | exact ⟨rfl, HB3.out⟩ | exact ⟨rfl, HB2.out⟩ | exact ⟨rfl, HB1.out⟩ | exact ⟨rfl, below_alloc _ _⟩
  go_enter Tryz.func221, Tryz.ntmps221
  go_wp2_with (first | (go_at_call 60; obtain ⟨g0, g1, g2⟩ := HC.out _ rfl; have HQ := impl_IsName_any name _ HN.out (classes_go HT.out g1); refine Calls.mono HQ ?_; clear HQ; rintro e w1 ⟨rfl, hb⟩; rw [HNM.out]; have HR1 := Lib.hid (g0.below hb g2); have HB1 := Lib.hid (g1.trans (hb.mono g1.size)); have HG1 : Hid (W.heap.size < w1.heap.size) := (Nat.lt_of_lt_of_le g2 hb.size); have q3 : w1.cell? ⟨W.heap.size, 3, none⟩ = some (.int .i64 low) := HR1.out.cell 3; have q4 : w1.cell? ⟨W.heap.size, 4, none⟩ = some (.slice Ak nk ck) := HR1.out.cell 4; have q5 : w1.cell? ⟨W.heap.size, 5, none⟩ = some (.slice Av nv cv) := HR1.out.cell 5; have q6 : w1.cell? ⟨W.heap.size, 6, none⟩ = some (.int .i64 dk) := HR1.out.cell 6; have q7 : w1.cell? ⟨W.heap.size, 7, none⟩ = some (.int .i64 dn) := HR1.out.cell 7; have q8 : w1.cell? ⟨W.heap.size, 8, none⟩ = some (.string dt) := HR1.out.cell 8; have q9 : w1.cell? ⟨W.heap.size, 9, none⟩ = some (.int .i64 dr) := HR1.out.cell 9; clear g0 g1 g2 hb) | (go_at_call 102; refine (within_int _ _ _ _).mono ?_; rintro e w' ⟨rfl, rfl⟩; rw [HIN.out]) | (go_at_call 222; have HQ := areFieldNames_any Ak nk ck ks w1 (HK.out.go HB1.out) (classes_go HT.out HB1.out); refine Calls.mono HQ ?_; clear HQ q3 q4 q5 q6 q7 q8 q9; rintro e w2 ⟨rfl, hb⟩; rw [HFN.out]; have HR2 := Lib.hid (HR1.out.below hb HG1.out); have HB2 := Lib.hid (HB1.out.trans (hb.mono HB1.out.size)); have q4 : w2.cell? ⟨W.heap.size, 4, none⟩ = some (.slice Ak nk ck) := HR2.out.cell 4; have q5 : w2.cell? ⟨W.heap.size, 5, none⟩ = some (.slice Av nv cv) := HR2.out.cell 5; clear hb) | (go_at_call 217; have HQ := arePairs_any Ak nk ck ks Av nv cv vs w2 (HK.out.go HB2.out) (HV.out.go HB2.out) HCK.out (classes_go HT.out HB2.out); refine Calls.mono HQ ?_; clear HQ; rintro e w3 ⟨rfl, hb⟩; rw [HPR.out]; have HB3 := Lib.hid (HB2.out.trans (hb.mono HB2.out.size)); clear hb))
  all_goals go_ret
  all_goals first | exact ⟨rfl, HB3.out⟩ | exact ⟨rfl, HB2.out⟩ | exact ⟨rfl, HB1.out⟩ | exact ⟨rfl, below_alloc _ _⟩
end Go.Proofs.YtfcpdjfckeoniaaGreatDoor

namespace Go.Proofs.YtfcpdjfckeoniaaGreatDoor
open Go Go.RowKit Go.Sort

/-- An object as one of its kind. -/
def kindV (o : Ob) (l : Lay) : Value := if o.kind = 1 then .iface 209 (o.ag l) else if o.kind = 2 then .iface 210 (o.ag l) else if o.kind = 3 then .iface 212 (o.ag l) else .nilIface
set_option maxHeartbeats 2000000 in
set_option maxRecDepth 100000 in
theorem ofKind_any (o : Ob) (l : Lay) (W : World) :
    Calls Tryz.prog 150 #[o.ag l] W fun e w' => e = .returned (kindV o l) ∧ Below W.heap.size W w' := by
  obtain ⟨id, kind, name, low, ks, vs, ⟨dk, dn, dt, dr⟩⟩ := o
  unfold kindV
  dsimp only
  show Calls Tryz.prog 150 #[.agg #[.int .i64 id, .int .i64 kind, .string name, .int .i64 low, .slice l.Ak l.nk l.ck, .slice l.Av l.nv l.cv, .int .i64 dk, .int .i64 dn, .string dt, .int .i64 dr]] W _

  by_cases k1 : kind = 1
  · subst k1
    simp only [if_true, if_pos, reduceIte, Int.reduceEq]
    go_enter Tryz.func150, Tryz.ntmps150
    go_wp2_with fail
    all_goals go_ret
    all_goals exact ⟨rfl, below_alloc _ _⟩

  by_cases k2 : kind = 2
  · subst k2
    simp only [if_true, if_pos, reduceIte, Int.reduceEq]
    go_enter Tryz.func150, Tryz.ntmps150
    go_wp2_with fail
    all_goals go_ret
    all_goals exact ⟨rfl, below_alloc _ _⟩

  by_cases k3 : kind = 3
  · subst k3
    simp only [if_true, if_pos, reduceIte, Int.reduceEq]
    go_enter Tryz.func150, Tryz.ntmps150
    go_wp2_with fail
    all_goals go_ret
    all_goals exact ⟨rfl, below_alloc _ _⟩

  rw [if_neg k1, if_neg k2, if_neg k3]
  have f1 : (kind == 1) = false := by simpa using k1
  have f2 : (kind == 2) = false := by simpa using k2
  have f3 : (kind == 3) = false := by simpa using k3
  clear k1 k2 k3
  go_enter Tryz.func150, Tryz.ntmps150
  go_wp2_with fail
  all_goals go_ret
  all_goals exact ⟨rfl, below_alloc _ _⟩


theorem method_array (o : Ob) (l : Lay) (w : World) : (method 372 209 (o.ag l) "loop.example/g00873/impl.hasValidFields").run Tryz.prog w = .ok (214, o.ag l) w := by kernel_rfl
theorem valid_bool1 (o : Ob) (h : o.kind = 1) : tt (ValidO o) = (decide (1 ≤ o.id ∧ o.id ≤ 1000000) && tt (ArrayO o)) := by
  rw [Bool.eq_iff_iff]
  simp only [Bool.and_eq_true, tt_iff, decide_eq_true_eq]
  unfold ValidO
  constructor
  · rintro ⟨a, ⟨k, b⟩ | ⟨k, b⟩ | ⟨k, b⟩⟩
    all_goals first | exact ⟨a, b⟩ | omega
  · rintro ⟨a, b⟩
    exact ⟨a, .inl ⟨h, b⟩⟩
set_option maxHeartbeats 4000000 in
set_option maxRecDepth 100000 in
theorem impl_ValidObject_1 (o : Ob) (l : Lay) (W : World) (ho : OV W W.heap.size o l) (hT : Classes W) (k1 : o.kind = 1) :
    Calls Tryz.prog 149 #[o.ag l] W fun e w' => e = .returned (.bool (tt (ValidO o))) ∧ Below W.heap.size W w' := by
  rw [valid_bool1 o k1]
  obtain ⟨I, hI⟩ : ∃ z, decide (1 ≤ o.id ∧ o.id ≤ 1000000) = z := ⟨_, rfl⟩
  obtain ⟨V, hV⟩ : ∃ z, tt (ArrayO o) = z := ⟨_, rfl⟩
  have HI := Lib.hid hI
  have HV := Lib.hid hV
  rw [hI, hV]
  clear hI hV
  have HO := Lib.hid ho
  have HT := Lib.hid hT
  have HK : Hid (kindV o l = .iface 209 (o.ag l)) := by show _ = _; unfold kindV; simp [k1]
  have HC := Lib.hid (one_new W 170 (o.vs l).toArray)
  have hm := method_array o l
  clear ho hT k1
  show Calls Tryz.prog 149 #[.agg #[.int .i64 o.id, .int .i64 o.kind, .string o.name, .int .i64 o.low, .slice l.Ak l.nk l.ck, .slice l.Av l.nv l.cv, .int .i64 o.d.k, .int .i64 o.d.n, .string o.d.t, .int .i64 o.d.r]] W _
  cases I
  · go_enter Tryz.func149, Tryz.ntmps149
    go_wp2_with (go_at_call 59; refine (within_i64 _ _ _ _).mono ?_; rintro e w' ⟨rfl, rfl⟩; rw [HI.out])
    go_ret
    exact ⟨rfl, below_alloc _ _⟩
  · cases V
    all_goals
      go_enter Tryz.func149, Tryz.ntmps149
      go_wp2_with (first
        | (go_at_call 59; refine (within_i64 _ _ _ _).mono ?_; rintro e w' ⟨rfl, rfl⟩; rw [HI.out])
        | (go_at_call 150; obtain ⟨g0, g1, g2⟩ := HC.out _ rfl; refine (ofKind_any o l _).mono ?_; rintro e w1 ⟨rfl, hb⟩; rw [HK.out]; have HB1 := Lib.hid (g1.trans (hb.mono g1.size)); clear g0 g1 g2 hb)
        | (go_at_call 214; have HQ := arrayFields_any o l _ (HO.out.go HB1.out) (classes_go HT.out HB1.out); refine Calls.mono HQ ?_; clear HQ; rintro e w2 ⟨rfl, hb⟩; rw [HV.out]; have HB2 := Lib.hid (HB1.out.trans (hb.mono HB1.out.size)); clear hb))
      all_goals go_ret
      all_goals exact ⟨rfl, HB2.out⟩

theorem method_table (o : Ob) (l : Lay) (w : World) : (method 372 210 (o.ag l) "loop.example/g00873/impl.hasValidFields").run Tryz.prog w = .ok (216, o.ag l) w := by kernel_rfl
theorem valid_bool2 (o : Ob) (h : o.kind = 2) : tt (ValidO o) = (decide (1 ≤ o.id ∧ o.id ≤ 1000000) && tt (TableO o)) := by
  rw [Bool.eq_iff_iff]
  simp only [Bool.and_eq_true, tt_iff, decide_eq_true_eq]
  unfold ValidO
  constructor
  · rintro ⟨a, ⟨k, b⟩ | ⟨k, b⟩ | ⟨k, b⟩⟩
    all_goals first | exact ⟨a, b⟩ | omega
  · rintro ⟨a, b⟩
    exact ⟨a, .inr (.inl ⟨h, b⟩)⟩
set_option maxHeartbeats 4000000 in
set_option maxRecDepth 100000 in
theorem impl_ValidObject_2 (o : Ob) (l : Lay) (W : World) (ho : OV W W.heap.size o l) (hT : Classes W) (k1 : o.kind = 2) :
    Calls Tryz.prog 149 #[o.ag l] W fun e w' => e = .returned (.bool (tt (ValidO o))) ∧ Below W.heap.size W w' := by
  rw [valid_bool2 o k1]
  obtain ⟨I, hI⟩ : ∃ z, decide (1 ≤ o.id ∧ o.id ≤ 1000000) = z := ⟨_, rfl⟩
  obtain ⟨V, hV⟩ : ∃ z, tt (TableO o) = z := ⟨_, rfl⟩
  have HI := Lib.hid hI
  have HV := Lib.hid hV
  rw [hI, hV]
  clear hI hV
  have HO := Lib.hid ho
  have HT := Lib.hid hT
  have HK : Hid (kindV o l = .iface 210 (o.ag l)) := by show _ = _; unfold kindV; simp [k1]
  have HC := Lib.hid (one_new W 170 (o.vs l).toArray)
  have hm := method_table o l
  clear ho hT k1
  show Calls Tryz.prog 149 #[.agg #[.int .i64 o.id, .int .i64 o.kind, .string o.name, .int .i64 o.low, .slice l.Ak l.nk l.ck, .slice l.Av l.nv l.cv, .int .i64 o.d.k, .int .i64 o.d.n, .string o.d.t, .int .i64 o.d.r]] W _
  cases I
  · go_enter Tryz.func149, Tryz.ntmps149
    go_wp2_with (go_at_call 59; refine (within_i64 _ _ _ _).mono ?_; rintro e w' ⟨rfl, rfl⟩; rw [HI.out])
    go_ret
    exact ⟨rfl, below_alloc _ _⟩
  · cases V
    all_goals
      go_enter Tryz.func149, Tryz.ntmps149
      go_wp2_with (first
        | (go_at_call 59; refine (within_i64 _ _ _ _).mono ?_; rintro e w' ⟨rfl, rfl⟩; rw [HI.out])
        | (go_at_call 150; obtain ⟨g0, g1, g2⟩ := HC.out _ rfl; refine (ofKind_any o l _).mono ?_; rintro e w1 ⟨rfl, hb⟩; rw [HK.out]; have HB1 := Lib.hid (g1.trans (hb.mono g1.size)); clear g0 g1 g2 hb)
        | (go_at_call 216; have HQ := tableFields_any o l _ (HO.out.go HB1.out) (classes_go HT.out HB1.out); refine Calls.mono HQ ?_; clear HQ; rintro e w2 ⟨rfl, hb⟩; rw [HV.out]; have HB2 := Lib.hid (HB1.out.trans (hb.mono HB1.out.size)); clear hb))
      all_goals go_ret
      all_goals exact ⟨rfl, HB2.out⟩

theorem method_record (o : Ob) (l : Lay) (w : World) : (method 372 212 (o.ag l) "loop.example/g00873/impl.hasValidFields").run Tryz.prog w = .ok (221, o.ag l) w := by kernel_rfl
theorem valid_bool3 (o : Ob) (h : o.kind = 3) : tt (ValidO o) = (decide (1 ≤ o.id ∧ o.id ≤ 1000000) && tt (RecordO o)) := by
  rw [Bool.eq_iff_iff]
  simp only [Bool.and_eq_true, tt_iff, decide_eq_true_eq]
  unfold ValidO
  constructor
  · rintro ⟨a, ⟨k, b⟩ | ⟨k, b⟩ | ⟨k, b⟩⟩
    all_goals first | exact ⟨a, b⟩ | omega
  · rintro ⟨a, b⟩
    exact ⟨a, .inr (.inr ⟨h, b⟩)⟩
set_option maxHeartbeats 4000000 in
set_option maxRecDepth 100000 in
theorem impl_ValidObject_3 (o : Ob) (l : Lay) (W : World) (ho : OV W W.heap.size o l) (hT : Classes W) (k1 : o.kind = 3) :
    Calls Tryz.prog 149 #[o.ag l] W fun e w' => e = .returned (.bool (tt (ValidO o))) ∧ Below W.heap.size W w' := by
  rw [valid_bool3 o k1]
  obtain ⟨I, hI⟩ : ∃ z, decide (1 ≤ o.id ∧ o.id ≤ 1000000) = z := ⟨_, rfl⟩
  obtain ⟨V, hV⟩ : ∃ z, tt (RecordO o) = z := ⟨_, rfl⟩
  have HI := Lib.hid hI
  have HV := Lib.hid hV
  rw [hI, hV]
  clear hI hV
  have HO := Lib.hid ho
  have HT := Lib.hid hT
  have HK : Hid (kindV o l = .iface 212 (o.ag l)) := by show _ = _; unfold kindV; simp [k1]
  have HC := Lib.hid (one_new W 170 (o.vs l).toArray)
  have hm := method_record o l
  clear ho hT k1
  show Calls Tryz.prog 149 #[.agg #[.int .i64 o.id, .int .i64 o.kind, .string o.name, .int .i64 o.low, .slice l.Ak l.nk l.ck, .slice l.Av l.nv l.cv, .int .i64 o.d.k, .int .i64 o.d.n, .string o.d.t, .int .i64 o.d.r]] W _
  cases I
  · go_enter Tryz.func149, Tryz.ntmps149
    go_wp2_with (go_at_call 59; refine (within_i64 _ _ _ _).mono ?_; rintro e w' ⟨rfl, rfl⟩; rw [HI.out])
    go_ret
    exact ⟨rfl, below_alloc _ _⟩
  · cases V
    all_goals
      go_enter Tryz.func149, Tryz.ntmps149
      go_wp2_with (first
        | (go_at_call 59; refine (within_i64 _ _ _ _).mono ?_; rintro e w' ⟨rfl, rfl⟩; rw [HI.out])
        | (go_at_call 150; obtain ⟨g0, g1, g2⟩ := HC.out _ rfl; refine (ofKind_any o l _).mono ?_; rintro e w1 ⟨rfl, hb⟩; rw [HK.out]; have HB1 := Lib.hid (g1.trans (hb.mono g1.size)); clear g0 g1 g2 hb)
        | (go_at_call 221; have HQ := recordFields_any o l _ (HO.out.go HB1.out) (classes_go HT.out HB1.out); refine Calls.mono HQ ?_; clear HQ; rintro e w2 ⟨rfl, hb⟩; rw [HV.out]; have HB2 := Lib.hid (HB1.out.trans (hb.mono HB1.out.size)); clear hb))
      all_goals go_ret
      all_goals exact ⟨rfl, HB2.out⟩

set_option maxHeartbeats 4000000 in
set_option maxRecDepth 100000 in
theorem impl_ValidObject_0 (o : Ob) (l : Lay) (W : World) (k1 : o.kind ≠ 1) (k2 : o.kind ≠ 2) (k3 : o.kind ≠ 3) :
    Calls Tryz.prog 149 #[o.ag l] W fun e w' => e = .returned (.bool (tt (ValidO o))) ∧ Below W.heap.size W w' := by
  rw [validO_0 o k1 k2 k3]
  obtain ⟨I, hI⟩ : ∃ z, decide (1 ≤ o.id ∧ o.id ≤ 1000000) = z := ⟨_, rfl⟩
  have HI := Lib.hid hI
  have HK : Hid (kindV o l = .nilIface) := by show _ = _; unfold kindV; rw [if_neg k1, if_neg k2, if_neg k3]
  have HC := Lib.hid (one_new W 170 (o.vs l).toArray)
  clear hI k1 k2 k3
  show Calls Tryz.prog 149 #[.agg #[.int .i64 o.id, .int .i64 o.kind, .string o.name, .int .i64 o.low, .slice l.Ak l.nk l.ck, .slice l.Av l.nv l.cv, .int .i64 o.d.k, .int .i64 o.d.n, .string o.d.t, .int .i64 o.d.r]] W _
  cases I
  · go_enter Tryz.func149, Tryz.ntmps149
    go_wp2_with (go_at_call 59; refine (within_i64 _ _ _ _).mono ?_; rintro e w' ⟨rfl, rfl⟩; rw [HI.out])
    go_ret
    exact ⟨rfl, below_alloc _ _⟩
  · go_enter Tryz.func149, Tryz.ntmps149
    go_wp2_with (first
      | (go_at_call 59; refine (within_i64 _ _ _ _).mono ?_; rintro e w' ⟨rfl, rfl⟩; rw [HI.out])
      | (go_at_call 150; obtain ⟨g0, g1, g2⟩ := HC.out _ rfl; refine (ofKind_any o l _).mono ?_; rintro e w1 ⟨rfl, hb⟩; rw [HK.out]; have HB1 := Lib.hid (g1.trans (hb.mono g1.size)); clear g0 g1 g2 hb))
    all_goals go_ret
    all_goals exact ⟨rfl, HB1.out⟩
theorem impl_ValidObject_any (o : Ob) (l : Lay) (W : World) (ho : OV W W.heap.size o l) (hT : Classes W) :
    Calls Tryz.prog 149 #[o.ag l] W fun e w' => e = .returned (.bool (tt (ValidO o))) ∧ Below W.heap.size W w' := by
  by_cases k1 : o.kind = 1
  · exact impl_ValidObject_1 o l W ho hT k1
  by_cases k2 : o.kind = 2
  · exact impl_ValidObject_2 o l W ho hT k2
  by_cases k3 : o.kind = 3
  · exact impl_ValidObject_3 o l W ho hT k3
  exact impl_ValidObject_0 o l W k1 k2 k3
end Go.Proofs.YtfcpdjfckeoniaaGreatDoor

namespace Go.Proofs.YtfcpdjfckeoniaaGreatDoor
open Go Go.RowKit Go.Sort

theorem as_arrayObject_arrayObject (o : Ob) (l : Lay) (w : World) : (Instr.typeAssert (.iface 209 (o.ag l)) 207 209 true).run Tryz.prog w = .ok (.tuple #[o.ag l, .bool true]) w := by kernel_rfl
theorem as_arrayObject_tableObject (o : Ob) (l : Lay) (w : World) : (Instr.typeAssert (.iface 209 (o.ag l)) 207 210 true).run Tryz.prog w = .ok (.tuple #[(.agg #[.int .i64 0, .int .i64 0, .string ⟨#[]⟩, .int .i64 0, .slice none 0 0, .slice none 0 0, .int .i64 0, .int .i64 0, .string ⟨#[]⟩, .int .i64 0]), .bool false]) w := by kernel_rfl
theorem as_arrayObject_recordObject (o : Ob) (l : Lay) (w : World) : (Instr.typeAssert (.iface 209 (o.ag l)) 207 212 true).run Tryz.prog w = .ok (.tuple #[(.agg #[.int .i64 0, .int .i64 0, .string ⟨#[]⟩, .int .i64 0, .slice none 0 0, .slice none 0 0, .int .i64 0, .int .i64 0, .string ⟨#[]⟩, .int .i64 0]), .bool false]) w := by kernel_rfl
theorem as_tableObject_arrayObject (o : Ob) (l : Lay) (w : World) : (Instr.typeAssert (.iface 210 (o.ag l)) 207 209 true).run Tryz.prog w = .ok (.tuple #[(.agg #[.int .i64 0, .int .i64 0, .string ⟨#[]⟩, .int .i64 0, .slice none 0 0, .slice none 0 0, .int .i64 0, .int .i64 0, .string ⟨#[]⟩, .int .i64 0]), .bool false]) w := by kernel_rfl
theorem as_tableObject_tableObject (o : Ob) (l : Lay) (w : World) : (Instr.typeAssert (.iface 210 (o.ag l)) 207 210 true).run Tryz.prog w = .ok (.tuple #[o.ag l, .bool true]) w := by kernel_rfl
theorem as_tableObject_recordObject (o : Ob) (l : Lay) (w : World) : (Instr.typeAssert (.iface 210 (o.ag l)) 207 212 true).run Tryz.prog w = .ok (.tuple #[(.agg #[.int .i64 0, .int .i64 0, .string ⟨#[]⟩, .int .i64 0, .slice none 0 0, .slice none 0 0, .int .i64 0, .int .i64 0, .string ⟨#[]⟩, .int .i64 0]), .bool false]) w := by kernel_rfl
theorem as_recordObject_arrayObject (o : Ob) (l : Lay) (w : World) : (Instr.typeAssert (.iface 212 (o.ag l)) 207 209 true).run Tryz.prog w = .ok (.tuple #[(.agg #[.int .i64 0, .int .i64 0, .string ⟨#[]⟩, .int .i64 0, .slice none 0 0, .slice none 0 0, .int .i64 0, .int .i64 0, .string ⟨#[]⟩, .int .i64 0]), .bool false]) w := by kernel_rfl
theorem as_recordObject_tableObject (o : Ob) (l : Lay) (w : World) : (Instr.typeAssert (.iface 212 (o.ag l)) 207 210 true).run Tryz.prog w = .ok (.tuple #[(.agg #[.int .i64 0, .int .i64 0, .string ⟨#[]⟩, .int .i64 0, .slice none 0 0, .slice none 0 0, .int .i64 0, .int .i64 0, .string ⟨#[]⟩, .int .i64 0]), .bool false]) w := by kernel_rfl
theorem as_recordObject_recordObject (o : Ob) (l : Lay) (w : World) : (Instr.typeAssert (.iface 212 (o.ag l)) 207 212 true).run Tryz.prog w = .ok (.tuple #[o.ag l, .bool true]) w := by kernel_rfl
theorem as_nil_arrayObject (w : World) : (Instr.typeAssert .nilIface 207 209 true).run Tryz.prog w = .ok (.tuple #[(.agg #[.int .i64 0, .int .i64 0, .string ⟨#[]⟩, .int .i64 0, .slice none 0 0, .slice none 0 0, .int .i64 0, .int .i64 0, .string ⟨#[]⟩, .int .i64 0]), .bool false]) w := by kernel_rfl
theorem as_nil_tableObject (w : World) : (Instr.typeAssert .nilIface 207 210 true).run Tryz.prog w = .ok (.tuple #[(.agg #[.int .i64 0, .int .i64 0, .string ⟨#[]⟩, .int .i64 0, .slice none 0 0, .slice none 0 0, .int .i64 0, .int .i64 0, .string ⟨#[]⟩, .int .i64 0]), .bool false]) w := by kernel_rfl
theorem as_nil_recordObject (w : World) : (Instr.typeAssert .nilIface 207 212 true).run Tryz.prog w = .ok (.tuple #[(.agg #[.int .i64 0, .int .i64 0, .string ⟨#[]⟩, .int .i64 0, .slice none 0 0, .slice none 0 0, .int .i64 0, .int .i64 0, .string ⟨#[]⟩, .int .i64 0]), .bool false]) w := by kernel_rfl
/-- The kind of the values that refer to an object. -/
def refKind (o : Ob) : Int := if o.kind = 1 then 4 else if o.kind = 2 then 5 else if o.kind = 3 then 6 else 0
set_option maxHeartbeats 4000000 in
set_option maxRecDepth 100000 in
theorem referenceKind_any (o : Ob) (l : Lay) (W : World) :
    Calls Tryz.prog 153 #[o.ag l] W fun e w' => e = .returned (.int .i64 (refKind o)) ∧ Below W.heap.size W w' := by
  have HC := Lib.hid (one_new W 170 (o.vs l).toArray)
  show Calls Tryz.prog 153 #[.agg #[.int .i64 o.id, .int .i64 o.kind, .string o.name, .int .i64 o.low, .slice l.Ak l.nk l.ck, .slice l.Av l.nv l.cv, .int .i64 o.d.k, .int .i64 o.d.n, .string o.d.t, .int .i64 o.d.r]] W _
  by_cases k1 : o.kind = 1
  · have HK : Hid (kindV o l = .iface 209 (o.ag l)) := by show _ = _; unfold kindV; rw [if_pos k1]
    have e : refKind o = 4 := by unfold refKind; rw [if_pos k1]
    rw [e]
    clear e k1
    have a0 := as_arrayObject_arrayObject o l
    have a1 := as_arrayObject_tableObject o l
    have a2 := as_arrayObject_recordObject o l
    go_enter Tryz.func153, Tryz.ntmps153
    go_wp2_with (go_at_call 150; obtain ⟨g0, g1, g2⟩ := HC.out _ rfl; refine (ofKind_any o l _).mono ?_; rintro e w1 ⟨rfl, hb⟩; rw [HK.out]; have HB1 := Lib.hid (g1.trans (hb.mono g1.size)); clear g0 g1 g2 hb)
    all_goals go_ret
    all_goals exact ⟨rfl, HB1.out⟩
  by_cases k2 : o.kind = 2
  · have HK : Hid (kindV o l = .iface 210 (o.ag l)) := by show _ = _; unfold kindV; rw [if_neg k1, if_pos k2]
    have e : refKind o = 5 := by unfold refKind; rw [if_neg k1, if_pos k2]
    rw [e]
    clear e k1 k2
    have a0 := as_tableObject_arrayObject o l
    have a1 := as_tableObject_tableObject o l
    have a2 := as_tableObject_recordObject o l
    go_enter Tryz.func153, Tryz.ntmps153
    go_wp2_with (go_at_call 150; obtain ⟨g0, g1, g2⟩ := HC.out _ rfl; refine (ofKind_any o l _).mono ?_; rintro e w1 ⟨rfl, hb⟩; rw [HK.out]; have HB1 := Lib.hid (g1.trans (hb.mono g1.size)); clear g0 g1 g2 hb)
    all_goals go_ret
    all_goals exact ⟨rfl, HB1.out⟩
  by_cases k3 : o.kind = 3
  · have HK : Hid (kindV o l = .iface 212 (o.ag l)) := by show _ = _; unfold kindV; rw [if_neg k1, if_neg k2, if_pos k3]
    have e : refKind o = 6 := by unfold refKind; rw [if_neg k1, if_neg k2, if_pos k3]
    rw [e]
    clear e k1 k2 k3
    have a0 := as_recordObject_arrayObject o l
    have a1 := as_recordObject_tableObject o l
    have a2 := as_recordObject_recordObject o l
    go_enter Tryz.func153, Tryz.ntmps153
    go_wp2_with (go_at_call 150; obtain ⟨g0, g1, g2⟩ := HC.out _ rfl; refine (ofKind_any o l _).mono ?_; rintro e w1 ⟨rfl, hb⟩; rw [HK.out]; have HB1 := Lib.hid (g1.trans (hb.mono g1.size)); clear g0 g1 g2 hb)
    all_goals go_ret
    all_goals exact ⟨rfl, HB1.out⟩
  · have HK : Hid (kindV o l = .nilIface) := by show _ = _; unfold kindV; rw [if_neg k1, if_neg k2, if_neg k3]
    have e : refKind o = 0 := by unfold refKind; rw [if_neg k1, if_neg k2, if_neg k3]
    rw [e]
    clear e k1 k2 k3
    have a0 := as_nil_arrayObject
    have a1 := as_nil_tableObject
    have a2 := as_nil_recordObject
    go_enter Tryz.func153, Tryz.ntmps153
    go_wp2_with (go_at_call 150; obtain ⟨g0, g1, g2⟩ := HC.out _ rfl; refine (ofKind_any o l _).mono ?_; rintro e w1 ⟨rfl, hb⟩; rw [HK.out]; have HB1 := Lib.hid (g1.trans (hb.mono g1.size)); clear g0 g1 g2 hb)
    all_goals go_ret
    all_goals exact ⟨rfl, HB1.out⟩
end Go.Proofs.YtfcpdjfckeoniaaGreatDoor

namespace Go.Proofs.YtfcpdjfckeoniaaGreatDoor
open Go Go.RowKit Go.Sort

/-- The number of the last of the first k objects, 0 ahead of them. -/
def lastK (os : List Ob) : Nat → Int
  | 0 => 0
  | k + 1 => (os[k]?.map Ob.id).getD 0
theorem lastK_next {os : List Ob} {k : Nat} {o : Ob} (h : os[k]? = some o) : lastK os (k + 1) = o.id := by
  show (os[k]?.map Ob.id).getD 0 = o.id
  rw [h]
  rfl
/-- What areObjectsUpTo asks. -/
def UpTo (nx : Int) (os : List Ob) : Prop := (∀ (j : Nat) (o : Ob), os[j]? = some o → ValidO o) ∧ Rising os ∧ lastK os os.length ≤ nx

set_option maxHeartbeats 4000000 in
set_option maxRecDepth 100000 in
theorem areObjectsUpTo_any (nx : Int) (A : Option Addr) (n c : Nat) (os : List Ob) (W : World) (hr : OI W W.heap.size A n os) (hT : Classes W) :
    Calls Tryz.prog 122 #[.int .i64 nx, .slice A n c] W fun e w' => e = .returned (.bool (tt (UpTo nx os))) ∧ Below W.heap.size W w' := by
  have HR := Lib.hid hr
  have HT := Lib.hid hT
  have hn := hr.2.1
  have HN := Lib.hid hr.1
  unfold maxLen at hn
  clear hr hT
  obtain ⟨P, hP⟩ : ∃ P, tt (UpTo nx os) = P := ⟨_, rfl⟩
  have HP := Lib.hid hP
  rw [hP]
  clear hP
  go_enter Tryz.func122, Tryz.ntmps122
  go_wp2_with fail
  go_loopw [5, 10] (fun q i wr => ∃ (k : Nat) (z : Int), k ≤ n ∧ i = .int .i64 k ∧ q = .int .i64 z ∧ Hid (z = lastK os k) ∧ Hid (Below W.heap.size W wr) ∧ Hid ((∀ (j : Nat) (o : Ob), j < k → os[j]? = some o → ValidO o) ∧ (∀ (j : Nat) (a b : Ob), j + 1 < k → os[j]? = some a → os[j + 1]? = some b → a.id < b.id))) (fun _ i _ => n - (intOf i).toNat)
  case atStart => exact ⟨0, 0, Nat.zero_le _, rfl, rfl, rfl, Below.refl _ _, fun j o hj => absurd hj (by omega), fun j a b hj => absurd hj (by omega)⟩
  case round =>
    obtain ⟨k, z, hk, rfl, rfl, HZ, HW, HV⟩ := hrel
    by_cases hlt : k < n
    · obtain ⟨b, off, o, l, rfl, hg, hx, ⟨q0, q1, q2, q3, q4, q5, q6, q7, q8, q9⟩, hov⟩ := (HR.out.go HW.out).at_ hlt
      have HX := Lib.hid hx
      have HOV := Lib.hid hov
      have b0 : (0 : Int) ≤ (k : Int) := by omega
      have b1 : (k : Int) < (n : Int) := by omega
      have HC := Lib.hid (one_new wr 170 (o.vs l).toArray)
      obtain ⟨VO, hVO⟩ : ∃ v, tt (ValidO o) = v := ⟨_, rfl⟩
      have HVO := Lib.hid hVO
      obtain ⟨L, hL⟩ : ∃ v, decide (o.id ≤ z) = v := ⟨_, rfl⟩
      have HL := Lib.hid hL
      clear hx hov hg hVO
      cases VO
      · have HF : Hid (P = false) := by
          show _ = _
          rw [← HP.out]
          exact tt_false fun h => of_tt_false HVO.out (h.1 k o HX.out)
        go_wp2_with (go_at_call 149; obtain ⟨g0, g1, g2⟩ := HC.out _ rfl; have HQ := impl_ValidObject_any o l _ (HOV.out.go g1) (classes_go HT.out (HW.out.trans (g1.mono HW.out.size))); refine Calls.mono HQ ?_; clear HQ; rintro e w1 ⟨rfl, hb⟩; rw [HVO.out]; have HW1 : Hid (Below W.heap.size W w1) := (HW.out.trans (g1.mono HW.out.size)).trans (hb.mono (Nat.le_trans HW.out.size g1.size)); have r0 : w1.cell? ⟨wr.heap.size, 0, none⟩ = some (.int .i64 o.id) := (g0.below hb g2).cell 0; clear g0 g1 g2 hb q0 q1 q2 q3 q4 q5 q6 q7 q8 q9)
        go_ret
        exact ⟨by rw [HF.out]; rfl, HW1.out⟩
      cases L
      · have HNX : Hid ((∀ (j : Nat) (o : Ob), j < k + 1 → os[j]? = some o → ValidO o) ∧ (∀ (j : Nat) (a b : Ob), j + 1 < k + 1 → os[j]? = some a → os[j + 1]? = some b → a.id < b.id)) := by
          refine ⟨fun i x hi hx => ?_, fun i u v hi hu hv => ?_⟩
          · by_cases e : i = k
            · rw [e, HX.out, Option.some.injEq] at hx
              subst hx
              exact of_tt HVO.out
            · exact HV.out.1 i x (by omega) hx
          · by_cases e : i + 1 = k
            · have hz := HZ.out
              rw [← e, lastK_next hu] at hz
              rw [e, HX.out, Option.some.injEq] at hv
              subst hv
              have := of_decide_eq_false HL.out
              omega
            · exact HV.out.2 i u v (by omega) hu hv
        have HNZ : Hid (o.id = lastK os (k + 1)) := (lastK_next HX.out).symm
        go_wp2_with (go_at_call 149; obtain ⟨g0, g1, g2⟩ := HC.out _ rfl; have HQ := impl_ValidObject_any o l _ (HOV.out.go g1) (classes_go HT.out (HW.out.trans (g1.mono HW.out.size))); refine Calls.mono HQ ?_; clear HQ; rintro e w1 ⟨rfl, hb⟩; rw [HVO.out]; have HW1 : Hid (Below W.heap.size W w1) := (HW.out.trans (g1.mono HW.out.size)).trans (hb.mono (Nat.le_trans HW.out.size g1.size)); have r0 : w1.cell? ⟨wr.heap.size, 0, none⟩ = some (.int .i64 o.id) := (g0.below hb g2).cell 0; clear g0 g1 g2 hb q0 q1 q2 q3 q4 q5 q6 q7 q8 q9)
        go_roundw
        case rel => exact ⟨k + 1, o.id, by omega, by go_num, rfl, HNZ, HW1, HNX⟩
        case measure => simp [intOf]; omega
      · have HF : Hid (P = false) := by
          show _ = _
          rw [← HP.out]
          refine tt_false fun h => ?_
          have h1 := of_decide_eq_true HL.out
          have h2 := HZ.out
          have h3 := (h.1 k o HX.out).1.1
          rcases Nat.eq_zero_or_pos k with e | e
          · subst e
            have h5 : z = 0 := h2
            omega
          · obtain ⟨j, rfl⟩ : ∃ j, k = j + 1 := ⟨k - 1, by omega⟩
            have hj : j < os.length := by have := (List.getElem?_eq_some_iff.1 HX.out).1; omega
            have h4 := h.2.1 j _ o (List.getElem?_eq_getElem hj) HX.out
            rw [lastK_next (List.getElem?_eq_getElem hj)] at h2
            omega
        go_wp2_with (go_at_call 149; obtain ⟨g0, g1, g2⟩ := HC.out _ rfl; have HQ := impl_ValidObject_any o l _ (HOV.out.go g1) (classes_go HT.out (HW.out.trans (g1.mono HW.out.size))); refine Calls.mono HQ ?_; clear HQ; rintro e w1 ⟨rfl, hb⟩; rw [HVO.out]; have HW1 : Hid (Below W.heap.size W w1) := (HW.out.trans (g1.mono HW.out.size)).trans (hb.mono (Nat.le_trans HW.out.size g1.size)); have r0 : w1.cell? ⟨wr.heap.size, 0, none⟩ = some (.int .i64 o.id) := (g0.below hb g2).cell 0; clear g0 g1 g2 hb q0 q1 q2 q3 q4 q5 q6 q7 q8 q9)
        go_ret
        exact ⟨by rw [HF.out]; rfl, HW1.out⟩
    · have hkn : k = n := by omega
      obtain ⟨y, hy⟩ : ∃ y, decide (z ≤ nx) = y := ⟨_, rfl⟩
      have HPY : Hid (P = y) := by
        show _ = _
        rw [← HP.out, ← hy, Bool.eq_iff_iff]
        simp only [tt_iff, decide_eq_true_eq]
        have hz := HZ.out
        rw [hkn, ← HN.out] at hz
        constructor
        · intro h
          rw [hz]
          exact h.2.2
        · intro h
          refine ⟨fun j x hx => HV.out.1 j x ?_ hx, fun j u v hu hv => HV.out.2 j u v ?_ hu hv, by rw [← hz]; exact h⟩
          · have := (List.getElem?_eq_some_iff.1 hx).1
            have := HN.out
            omega
          · have := (List.getElem?_eq_some_iff.1 hv).1
            have := HN.out
            omega
      clear HV hkn
      go_wp2_with fail
      go_ret
      exact ⟨by rw [HPY.out]; first | done | rfl, HW.out⟩
end Go.Proofs.YtfcpdjfckeoniaaGreatDoor
