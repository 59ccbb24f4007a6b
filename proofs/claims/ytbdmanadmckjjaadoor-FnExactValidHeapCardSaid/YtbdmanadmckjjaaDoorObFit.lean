/- Contract: (objectIndex).fits of the program. Condition: the index is the objects', they rise, the table holds what the program's text lays. -/
import Derived.Test.YtbdmanadmckjjaaDoorObIdxF
namespace Go.Proofs.YtbdmanadmckjjaaDoor
open Go Go.RowKit Go.Sort Go.Maps

theorem valid_ref {k n r : Int} {t : ByteArray} (h : isRefV k n t r = true) : (4 ≤ k ∧ k ≤ 6) ∧ validV k n t r = true ∧ (Lit.int .i64 r).wf = true := by
  unfold isRefV at h
  simp only [Bool.and_eq_true, decide_eq_true_eq] at h
  refine ⟨h.2, h.1, ?_⟩
  have hv := h.1
  unfold validV at hv
  rw [if_neg (by omega), if_neg (by omega), if_neg (by omega), if_pos (by omega)] at hv
  simp only [Bool.and_eq_true, decide_eq_true_eq] at hv
  unfold Lit.wf
  simp only [Bool.and_eq_true, decide_eq_true_eq]
  have h1 := hv.2
  exact ⟨by show (-9223372036854775808 : Int) ≤ r; omega, by show r ≤ (9223372036854775807 : Int); omega⟩
theorem refKind_iff {o : Ob} {k : Int} (hk : 4 ≤ k ∧ k ≤ 6) : refKind o = k ↔ o.kind = k - 3 := by
  unfold refKind
  split
  · omega
  · split
    · omega
    · split <;> omega

set_option maxHeartbeats 4000000 in
set_option maxRecDepth 100000 in
theorem fits_any (m b off n : Nat) (os : List Ob) (x : Vl) (W : World) (hi : IdxM W m b off os n) (hm : m < W.heap.size) (hr : OI W W.heap.size (some ⟨b, off, none⟩) n os) (hri : Rising os) (hx : x.t.size ≤ maxLen) (hT : Classes W) :
    Calls Tryd.prog 45 #[.map (some m), x.ag] W fun e w' => e = .returned (.bool (tt (Fits os x))) ∧ Below W.heap.size W w' := by
  obtain ⟨P, hP⟩ : ∃ P, tt (Fits os x) = P := ⟨_, rfl⟩
  have HP := Lib.hid hP
  rw [hP]
  clear hP
  obtain ⟨k, nn, t, r⟩ := x
  have HI := Lib.hid hi
  have HM := Lib.hid hm
  have HR := Lib.hid hr
  have HRI := Lib.hid hri
  have HX := Lib.hid hx
  have HT := Lib.hid hT
  have HC := Lib.hid (one_new W 37 #[.int .i64 k, .int .i64 nn, .string t, .int .i64 r])
  clear hi hm hr hri hx hT
  show Calls Tryd.prog 45 #[.map (some m), .agg #[.int .i64 k, .int .i64 nn, .string t, .int .i64 r]] W _
  obtain ⟨f, hf⟩ : ∃ f, isRefV k nn t r = f := ⟨_, rfl⟩
  have HF := Lib.hid hf
  clear hf
  cases f
  · have HPV : Hid (validV k nn t r = P) := by
      show _ = _
      rw [← HP.out, Bool.eq_iff_iff]
      simp only [tt_iff]
      constructor
      · intro h
        refine ⟨h, fun hk => ?_⟩
        have hk' : 4 ≤ k ∧ k ≤ 6 := hk
        have := HF.out
        unfold isRefV at this
        rw [h] at this
        simp at this
        omega
      · exact fun h => h.1
    go_enter Tryd.func45, Tryd.ntmps45
    go_wp2_with (first
      | (go_at_call 71; obtain ⟨g0, g1, g2⟩ := HC.out _ rfl; have HQ := impl_IsReference_any k nn t r _ HX.out (classes_go HT.out g1); refine Calls.mono HQ ?_; clear HQ; rintro e w1 ⟨rfl, hb⟩; rw [HF.out]; have HR1 := Lib.hid (g0.below hb g2); have HB1 := Lib.hid (g1.trans (hb.mono g1.size)); have q0 : w1.cell? ⟨W.heap.size, 0, none⟩ = some (.int .i64 k) := HR1.out.cell 0; have q1 : w1.cell? ⟨W.heap.size, 1, none⟩ = some (.int .i64 nn) := HR1.out.cell 1; have q2 : w1.cell? ⟨W.heap.size, 2, none⟩ = some (.string t) := HR1.out.cell 2; have q3 : w1.cell? ⟨W.heap.size, 3, none⟩ = some (.int .i64 r) := HR1.out.cell 3; clear g0 g1 g2 hb)
      | (go_at_call 72; have HQ := impl_ValidValue_any k nn t r w1 HX.out (classes_go HT.out HB1.out); refine Calls.mono HQ ?_; clear HQ; rintro e w2 ⟨rfl, hb⟩; rw [HPV.out]; have HB2 := Lib.hid (HB1.out.trans (hb.mono HB1.out.size)); clear hb q0 q1 q2 q3))
    all_goals go_ret
    all_goals exact ⟨rfl, HB2.out⟩
  obtain ⟨hk, hv, hwf⟩ := valid_ref HF.out
  have HKK := Lib.hid hk
  have HV := Lib.hid hv
  have HWF := Lib.hid hwf
  clear hk hv hwf
  by_cases hex : ∃ (j : Nat) (o : Ob), j < n ∧ os[j]? = some o ∧ o.id = r
  · obtain ⟨j, o, hj, ho, hid⟩ := hex
    have HLK : Hid (∀ w1, Below W.heap.size W w1 → (Instr.lookup 70 (.map (some m)) (.int .i64 r) true).run Tryd.prog w1 = .ok (.tuple #[.pointer (some ⟨b, off + j * 10, none⟩), .bool true]) w1) := by
      intro w1 hb1
      rcases (HI.out.below hb1 HM.out).look r HWF.out with ⟨j', o', hj', ho', hid', hrun⟩ | ⟨hno, _⟩
      · have e := rising_inj HRI.out ho ho' (by rw [hid, hid'])
        rw [e]
        exact hrun
      · exact absurd hid (hno j o hj ho)
    obtain ⟨z, hz⟩ : ∃ z, (refKind o == k) = z := ⟨_, rfl⟩
    have HPZ : Hid (P = z) := by
      show _ = _
      rw [← HP.out, ← hz, Bool.eq_iff_iff]
      simp only [tt_iff, beq_iff_eq]
      rw [refKind_iff HKK.out]
      constructor
      · intro h
        obtain ⟨i, o2, h1, h2, h3⟩ := h.2 HKK.out
        have e := rising_inj HRI.out h1 ho (by rw [h2, hid])
        rw [e, ho, Option.some.injEq] at h1
        rw [h1]
        exact h3
      · exact fun h => ⟨HV.out, fun _ => ⟨j, o, ho, hid, h⟩⟩
    have HJ := Lib.hid hj
    have HO := Lib.hid ho
    clear hj ho hid
    go_enter Tryd.func45, Tryd.ntmps45
    go_wp2_with (go_at_call 71; obtain ⟨g0, g1, g2⟩ := HC.out _ rfl; have HQ := impl_IsReference_any k nn t r _ HX.out (classes_go HT.out g1); refine Calls.mono HQ ?_; clear HQ; rintro e w1 ⟨rfl, hb⟩; rw [HF.out]; have HR1 := Lib.hid (g0.below hb g2); have HB1 := Lib.hid (g1.trans (hb.mono g1.size)); have q3 : w1.cell? ⟨W.heap.size, 3, none⟩ = some (.int .i64 r) := HR1.out.cell 3; have hrun := HLK.out w1 HB1.out; clear g0 g1 g2 hb)
    obtain ⟨b', off', o', l, hA, hg, hx, ⟨p0, p1, p2, p3, p4, p5, p6, p7, p8, p9⟩, _⟩ := (HR.out.go HB1.out).at_ HJ.out
    simp only [Option.some.injEq, Addr.mk.injEq, and_true] at hA
    obtain ⟨rfl, rfl⟩ := hA
    obtain rfl : o = o' := Option.some.inj (HO.out.symm.trans hx)
    have x0 := cell_regrown p0
    have x1 := cell_regrown p1
    have x2 := cell_regrown p2
    have x3 := cell_regrown p3
    have x4 := cell_regrown p4
    have x5 := cell_regrown p5
    have x6 := cell_regrown p6
    have x7 := cell_regrown p7
    have x8 := cell_regrown p8
    have x9 := cell_regrown p9
    have y0 := cell_regrown (HR1.out.cell 0)
    have cR : ∀ d os', Calls Tryd.prog 73 #[.agg #[.int .i64 o.id, .int .i64 o.kind, .string o.name, .int .i64 o.low, .slice l.Ak l.nk l.ck, .slice l.Av l.nv l.cv, .int .i64 o.d.k, .int .i64 o.d.n, .string o.d.t, .int .i64 o.d.r]] (grow (redrawn w1 d) os') (fun e w'' => e = .returned (.int .i64 (refKind o)) ∧ ∃ q : Regrown, w'' = grow (redrawn w1 q.d) q.os) := fun d os' => Calls.regrown_of (referenceKind_any o l _)
    clear hx hg p0 p1 p2 p3 p4 p5 p6 p7 p8 p9 q3 hrun
    refine wp_region_quiet_below (by kernel_rfl) (by kernel_rfl) ?_
    repeat (first | go_big_quiet_step (exact cR _ _) | quiet_step (exact cR _ _))
    refine wpQuiet_nil ?_
    intro w4 hw'
    obtain ⟨⟨dq, osq⟩, hw''⟩ := hw'
    have HB4 : Hid (Below W.heap.size W w4) := by show Below _ _ _; rw [hw'']; exact HB1.out.trans ((below_regrown w1 dq osq).mono HB1.out.size)
    clear hw'' x0 x1 x2 x3 x4 x5 x6 x7 x8 x9 y0 cR
    go_wp2_with fail
    go_ret
    exact ⟨by rw [HPZ.out]; rfl, HB4.out⟩
  · have HLK : Hid (∀ w1, Below W.heap.size W w1 → ∃ v, (Instr.lookup 70 (.map (some m)) (.int .i64 r) true).run Tryd.prog w1 = .ok (.tuple #[v, .bool false]) w1) := by
      intro w1 hb1
      rcases (HI.out.below hb1 HM.out).look r HWF.out with ⟨j', o', hj', ho', hid', hrun⟩ | ⟨_, hrun⟩
      · exact absurd ⟨j', o', hj', ho', hid'⟩ hex
      · exact hrun
    have HF1 : Hid (P = false) := by
      show _ = _
      rw [← HP.out]
      refine tt_false fun h => ?_
      obtain ⟨i, o2, h1, h2, _⟩ := h.2 HKK.out
      exact hex ⟨i, o2, by rw [← HR.out.1]; exact (List.getElem?_eq_some_iff.1 h1).1, h1, h2⟩
    clear hex
    go_enter Tryd.func45, Tryd.ntmps45
    go_wp2_with (go_at_call 71; obtain ⟨g0, g1, g2⟩ := HC.out _ rfl; have HQ := impl_IsReference_any k nn t r _ HX.out (classes_go HT.out g1); refine Calls.mono HQ ?_; clear HQ; rintro e w1 ⟨rfl, hb⟩; rw [HF.out]; have HR1 := Lib.hid (g0.below hb g2); have HB1 := Lib.hid (g1.trans (hb.mono g1.size)); have q3 : w1.cell? ⟨W.heap.size, 3, none⟩ = some (.int .i64 r) := HR1.out.cell 3; obtain ⟨v0, hrun⟩ := HLK.out w1 HB1.out; clear g0 g1 g2 hb)
    have y0 := cell_regrown (HR1.out.cell 0)
    clear q3 hrun
    refine wp_region_quiet_below (by kernel_rfl) (by kernel_rfl) ?_
    repeat (first | go_big_quiet_step (fail) | quiet_step (fail))
    refine wpQuiet_nil ?_
    intro w4 hw'
    obtain ⟨⟨dq, osq⟩, hw''⟩ := hw'
    have HB4 : Hid (Below W.heap.size W w4) := by show Below _ _ _; rw [hw'']; exact HB1.out.trans ((below_regrown w1 dq osq).mono HB1.out.size)
    clear hw'' y0
    go_wp2_with fail
    go_ret
    exact ⟨by rw [HF1.out]; rfl, HB4.out⟩
end Go.Proofs.YtbdmanadmckjjaaDoor
