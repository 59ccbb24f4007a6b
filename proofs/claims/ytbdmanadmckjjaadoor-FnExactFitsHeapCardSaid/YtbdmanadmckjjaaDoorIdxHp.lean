/- Contracts: indexHeap, ValidHeap of the program. Condition: the table holds what the program's text lays; the heap's slice has an address. -/
import Derived.Test.YtbdmanadmckjjaaDoorVOf2
import Derived.Test.YtbdmanadmckjjaaDoorObFitA
namespace Go.Proofs.YtbdmanadmckjjaaDoor
open Go Go.RowKit Go.Sort Go.Maps

theorem id_le_last {os : List Ob} (h : Rising os) : ∀ {k j : Nat} {o : Ob}, j < k → os[j]? = some o → k ≤ os.length → o.id ≤ lastK os k
  | 0, j, o, hj, _, _ => absurd hj (by omega)
  | k + 1, j, o, hj, ho, hk => by
    have hl : os[k]? = some (os[k]'(by omega)) := List.getElem?_eq_getElem (by omega)
    rw [lastK_next hl]
    by_cases e : j = k
    · subst e
      rw [ho, Option.some.injEq] at hl
      rw [← hl]
      exact Int.le_refl _
    · exact Int.le_of_lt (rising_lt h (by omega) ho hl)
theorem validH_iff (nx : Int) (os : List Ob) : ValidH nx os ↔ (0 ≤ nx ∧ nx ≤ 1000000) ∧ os.length ≤ 40 ∧ UpTo nx os ∧ (∀ (j : Nat) (o : Ob), os[j]? = some o → RefsFit os o) := by
  constructor
  · rintro ⟨h1, h2, h3, h4, h5⟩
    refine ⟨h1, h2, ⟨fun j o ho => (h3 j o ho).1, h4, ?_⟩, h5⟩
    by_cases hz : os.length = 0
    · rw [hz]; exact h1.1
    · obtain ⟨k, hk⟩ : ∃ k, os.length = k + 1 := ⟨os.length - 1, by omega⟩
      have hl : os[k]? = some (os[k]'(by omega)) := List.getElem?_eq_getElem (by omega)
      rw [hk, lastK_next hl]
      exact (h3 k _ hl).2
  · rintro ⟨h1, h2, ⟨h3, h4, h5⟩, h6⟩
    exact ⟨h1, h2, fun j o ho => ⟨h3 j o ho, Int.le_trans (id_le_last h4 (List.getElem?_eq_some_iff.1 ho).1 ho (Nat.le_refl _)) h5⟩, h4, h6⟩
theorem id_wf {o : Ob} (h : ValidO o) : (Lit.int .i64 o.id).wf = true := by
  have := h.1
  unfold Lit.wf
  simp only [Bool.and_eq_true, decide_eq_true_eq]
  constructor
  · show (-9223372036854775808 : Int) ≤ _; omega
  · show _ ≤ (9223372036854775807 : Int); omega

/-- What indexHeap answers. -/
def IxH (nx : Int) (b off n : Nat) (os : List Ob) (W : World) (e : Ending) (w' : World) : Prop :=
  (ValidH nx os ∧ ∃ m, e = .returned (.tuple #[.map (some m), .bool true]) ∧ Hid (IdxM w' m b off os n ∧ m < w'.heap.size ∧ Below W.heap.size W w')) ∨
  (¬ ValidH nx os ∧ e = .returned (.tuple #[.map none, .bool false]) ∧ Hid (Below W.heap.size W w'))

theorem IxH.not {nx : Int} {b off n : Nat} {os : List Ob} {W w' : World} {e : Ending} (h : IxH nx b off n os W e w') (hV : tt (ValidH nx os) = false) : e = .returned (.tuple #[.map none, .bool false]) ∧ Below W.heap.size W w' := by
  rcases h with ⟨hv, _⟩ | ⟨_, rfl, h⟩
  · exact absurd hv (of_tt_false hV)
  · exact ⟨rfl, h.out⟩
theorem IxH.yes {nx : Int} {b off n : Nat} {os : List Ob} {W w' : World} {e : Ending} (h : IxH nx b off n os W e w') (hV : tt (ValidH nx os) = true) : ∃ m, e = .returned (.tuple #[.map (some m), .bool true]) ∧ IdxM w' m b off os n ∧ m < w'.heap.size ∧ Below W.heap.size W w' := by
  rcases h with ⟨_, m, rfl, h⟩ | ⟨hv, _⟩
  · exact ⟨m, rfl, h.out⟩
  · exact absurd (of_tt hV) hv

set_option maxHeartbeats 2000000 in
set_option maxRecDepth 100000 in
theorem indexHeap_any (nx : Int) (b off n c : Nat) (os : List Ob) (W : World) (hr : OI W W.heap.size (some ⟨b, off, none⟩) n os) (hT : Classes W) :
    Calls Tryd.prog 42 #[.agg #[.int .i64 nx, .slice (some ⟨b, off, none⟩) n c]] W (IxH nx b off n os W) := by
  have HR := Lib.hid hr
  have HT := Lib.hid hT
  have HN := Lib.hid hr.1
  have hnm := hr.2.1
  unfold maxLen at hnm
  have HC := Lib.hid (fun X (e : X = W.alloc (.cells #[.int .i64 nx, .slice (some ⟨b, off, none⟩) n c] 29)) => (show RW 29 X W.heap.size #[.int .i64 nx, .slice (some ⟨b, off, none⟩) n c] ∧ Below W.heap.size W X ∧ W.heap.size < X.heap.size from by rw [e]; exact ⟨RW.new _ _ _, below_alloc _ _, lt_alloc _ _⟩))
  clear hr hT
  by_cases c1 : n ≤ 40
  · have d1 : decide ((40 : Int) < (n : Int)) = false := by simp; omega
    have HN40 := Lib.hid c1
    by_cases c2 : 0 ≤ nx ∧ nx ≤ 1000000
    · have HW2 := Lib.hid (show decide (0 ≤ nx ∧ nx ≤ 1000000) = true by simp [c2])
      have C2 := Lib.hid c2
      clear c2
      by_cases c3 : UpTo nx os
      · have C3 := Lib.hid c3
        have HU := Lib.hid (tt_true c3)
        have HRI := Lib.hid c3.2.1
        have HVA := Lib.hid c3.1
        have HWF : Hid (∀ (j : Nat) (o : Ob), os[j]? = some o → (Lit.int .i64 o.id).wf = true) := fun j o ho => id_wf (HVA.out j o ho)
        clear c3
        go_enter Tryd.func42, Tryd.ntmps42
        go_wp2_with (first
          | (go_at_call 66; refine (within_i64 _ _ _ _).mono ?_; rintro e w1 ⟨rfl, rfl⟩; rw [HW2.out])
          | (go_at_call 67; obtain ⟨g0, g1, g2⟩ := HC.out _ rfl; refine Calls.mono (areObjectsUpTo_any nx _ n c os _ (HR.out.go g1) (classes_go HT.out g1)) ?_; rintro e w1 ⟨rfl, hb⟩; rw [HU.out]; have HR1 := Lib.hid (g0.below hb g2); have HB1 := Lib.hid (g1.trans (hb.mono g1.size)); have p0 : w1.cell? ⟨W.heap.size, 0, none⟩ = some (.int .i64 nx) := HR1.out.cell 0; have p1 : w1.cell? ⟨W.heap.size, 1, none⟩ = some (.slice (some ⟨b, off, none⟩) n c) := HR1.out.cell 1; clear g0 g1 g2 hb HC)
          | (go_at_call 64; refine Calls.mono (indexObjects_any nx b off n c os _ (HR.out.go HB1.out) HRI.out HWF.out HN40.out) ?_; rintro e w2 ⟨m, rfl, hi, hb⟩; have HI2 := Lib.hid hi.out; have HB2 := Lib.hid (HB1.out.trans (hb.mono HB1.out.size)); have q1 : w2.cell? ⟨W.heap.size, 1, none⟩ = some (.slice (some ⟨b, off, none⟩) n c) := (HR1.out.below hb HR1.out.lt).cell 1; clear hi hb p0 p1))
        go_loopw [30] (fun i wr => ∃ k : Nat, k ≤ n ∧ i = .int .i64 k ∧ Hid (Below W.heap.size W wr) ∧ Hid (IdxM wr m b off os n ∧ m < wr.heap.size) ∧ Hid (∀ (j : Nat) (o : Ob), j < k → os[j]? = some o → RefsFit os o)) (fun i _ => n - (intOf i).toNat)
        case atStart => exact ⟨0, Nat.zero_le _, rfl, HB2, HI2, fun j o hj => absurd hj (by omega)⟩
        case round =>
          obtain ⟨k, hk, rfl, HW, HI, HV⟩ := hrel
          by_cases hlt : k < n
          · obtain ⟨b', off', o, l, hA, hg, hx, ⟨q0, q1, q2, q3, q4, q5, q6, q7, q8, q9⟩, hov⟩ := (HR.out.go HW.out).at_ hlt
            simp only [Option.some.injEq, Addr.mk.injEq, and_true] at hA
            obtain ⟨rfl, rfl⟩ := hA
            have HX := Lib.hid hx
            have HOV := Lib.hid hov
            have HVO := Lib.hid (HVA.out k o hx)
            have b0 : (0 : Int) ≤ (k : Int) := by omega
            have b1 : (k : Int) < (n : Int) := by omega
            have HCO := Lib.hid (one_new wr 49 (o.vs l).toArray)
            obtain ⟨F, hF⟩ : ∃ v, tt (FitAll os (contents o)) = v := ⟨_, rfl⟩
            have HF := Lib.hid hF
            clear hx hov hg hF
            cases F
            all_goals
              go_wp2_with (first
                | (go_at_call 60; obtain ⟨g0, g1, g2⟩ := HCO.out _ rfl; refine Calls.mono (valuesOf_any o l _ HVO.out (HOV.out.go g1)) ?_; rintro e w3 ⟨A9, n9, c9, rfl, h⟩; have HVI := Lib.hid h.out.1; have HB3 := Lib.hid (g1.trans (h.out.2.mono g1.size)); clear g0 g1 g2 h q0 q1 q2 q3 q4 q5 q6 q7 q8 q9)
                | (go_at_call 48; have hbx := HW.out.trans (HB3.out.mono HW.out.size); refine Calls.mono (fitAll_any m b off n os A9 n9 c9 (contents o) _ (HI.out.1.below HB3.out HI.out.2) (Nat.lt_of_lt_of_le HI.out.2 HB3.out.size) (HR.out.go hbx) HRI.out HVI.out (classes_go HT.out hbx)) ?_; rintro e w4 ⟨rfl, hb⟩; rw [HF.out]; have HW4 := Lib.hid (hbx.trans (hb.mono hbx.size)); have HI4 : Hid (IdxM w4 m b off os n ∧ m < w4.heap.size) := ⟨(HI.out.1.below HB3.out HI.out.2).below hb (Nat.lt_of_lt_of_le HI.out.2 HB3.out.size), Nat.lt_of_lt_of_le HI.out.2 (Nat.le_trans HB3.out.size hb.size)⟩; clear hbx hb))
            · refine bodyPost_ret (v := .tuple #[.map none, .bool false]) (by simp [results, Tryd.results42, go_sem]) rfl (.inr ⟨fun h => ?_, rfl, HW4⟩)
              exact of_tt_false HF.out ((refsFit_iff HVO.out).1 (((validH_iff _ _).1 h).2.2.2 k o HX.out))
            · have HNX : Hid (∀ (j : Nat) (o : Ob), j < k + 1 → os[j]? = some o → RefsFit os o) := by
                intro j y hj hy
                by_cases e : j = k
                · rw [e, HX.out, Option.some.injEq] at hy
                  subst hy
                  exact (refsFit_iff HVO.out).2 (of_tt HF.out)
                · exact HV.out j y (by omega) hy
              go_roundw
              case rel => exact ⟨k + 1, by omega, by go_num, HW4, HI4, HNX⟩
              case measure => simp [intOf]; omega
          · have HALL : Hid (ValidH nx os) := (validH_iff _ _).2 ⟨C2.out, by rw [HN.out]; exact HN40.out, C3.out, fun j o ho => HV.out j o (by have := (List.getElem?_eq_some_iff.1 ho).1; have := HN.out; omega) ho⟩
            go_wp2_with fail
            exact bodyPost_ret (v := .tuple #[.map (some m), .bool true]) (by simp [results, Tryd.results42, go_sem]) rfl (.inl ⟨HALL.out, m, rfl, Lib.hid ⟨HI.out.1, HI.out.2, HW.out⟩⟩)
      · have HU := Lib.hid (tt_false c3)
        have HNV : Hid (¬ ValidH nx os) := fun h => c3 ((validH_iff _ _).1 h).2.2.1
        clear c3
        go_enter Tryd.func42, Tryd.ntmps42
        go_wp2_with (first
          | (go_at_call 66; refine (within_i64 _ _ _ _).mono ?_; rintro e w1 ⟨rfl, rfl⟩; rw [HW2.out])
          | (go_at_call 67; obtain ⟨g0, g1, g2⟩ := HC.out _ rfl; refine Calls.mono (areObjectsUpTo_any nx _ n c os _ (HR.out.go g1) (classes_go HT.out g1)) ?_; rintro e w1 ⟨rfl, hb⟩; rw [HU.out]; have HB1 := Lib.hid (g1.trans (hb.mono g1.size)); clear g0 g1 g2 hb HC))
        exact bodyPost_ret (v := .tuple #[.map none, .bool false]) (by simp [results, Tryd.results42, go_sem]) rfl (.inr ⟨HNV.out, rfl, HB1⟩)
    · have HW2 := Lib.hid (show decide (0 ≤ nx ∧ nx ≤ 1000000) = false by simp; omega)
      have HNV : Hid (¬ ValidH nx os) := fun h => c2 h.1
      clear c2
      go_enter Tryd.func42, Tryd.ntmps42
      go_wp2_with (go_at_call 66; refine (within_i64 _ _ _ _).mono ?_; rintro e w1 ⟨rfl, rfl⟩; rw [HW2.out])
      exact bodyPost_ret (v := .tuple #[.map none, .bool false]) (by simp [results, Tryd.results42, go_sem]) rfl (.inr ⟨HNV.out, rfl, Lib.hid (below_alloc _ _)⟩)
  · have d1 : decide ((40 : Int) < (n : Int)) = true := by simp; omega
    have HNV : Hid (¬ ValidH nx os) := fun h => c1 (by have := h.2.1; have := HN.out; omega)
    go_enter Tryd.func42, Tryd.ntmps42
    go_wp2_with fail
    exact bodyPost_ret (v := .tuple #[.map none, .bool false]) (by simp [results, Tryd.results42, go_sem]) rfl (.inr ⟨HNV.out, rfl, Lib.hid (below_alloc _ _)⟩)

set_option maxRecDepth 100000 in
theorem impl_ValidHeap_any (nx : Int) (b off n c : Nat) (os : List Ob) (W : World) (hr : OI W W.heap.size (some ⟨b, off, none⟩) n os) (hT : Classes W) :
    Calls Tryd.prog 13 #[.agg #[.int .i64 nx, .slice (some ⟨b, off, none⟩) n c]] W fun e w' => e = .returned (.bool (tt (ValidH nx os))) ∧ Below W.heap.size W w' := by
  have HQ := Lib.hid (fun w hb => indexHeap_any nx b off n c os w (hr.go hb) (classes_go hT hb))
  clear hr hT
  have HC := Lib.hid (fun X (e : X = W.alloc (.cells #[.int .i64 nx, .slice (some ⟨b, off, none⟩) n c] 29)) => (show Below W.heap.size W X from by rw [e]; exact below_alloc _ _))
  obtain ⟨V, hV⟩ : ∃ V, tt (ValidH nx os) = V := ⟨_, rfl⟩
  have HV := Lib.hid hV
  rw [hV]
  clear hV
  cases V
  · go_enter Tryd.func13, Tryd.ntmps13
    go_wp2_with (go_at_call 42; have g := HC.out _ rfl; refine Calls.mono (HQ.out _ g) ?_; intro e w1 h; obtain ⟨rfl, hb⟩ := h.not HV.out; have HB1 := Lib.hid (g.trans (hb.mono g.size)); clear g h hb)
    all_goals go_ret
    all_goals exact ⟨rfl, HB1.out⟩
  · go_enter Tryd.func13, Tryd.ntmps13
    go_wp2_with (go_at_call 42; have g := HC.out _ rfl; refine Calls.mono (HQ.out _ g) ?_; intro e w1 h; obtain ⟨m, rfl, hi, hm, hb⟩ := h.yes HV.out; have HB1 := Lib.hid (g.trans (hb.mono g.size)); clear g h hi hm hb)
    all_goals go_ret
    all_goals exact ⟨rfl, HB1.out⟩
end Go.Proofs.YtbdmanadmckjjaaDoor
