/- Contracts: eqHeap where both are the same; slices.EqualFunc at objects, SameHeap of the program. No condition. -/
import Derived.Test.YthbeaffjkjhphaaSameOb
namespace Go.Proofs.Ythbeaffjkjhphaa
open Go Go.RowKit Go.Sort

set_option maxRecDepth 100000 in
theorem eqHeap_same (nx : Int) (A A' : Option Addr) (n c c' : Nat) (os : List Ob) (W : World) (ha : OI W W.heap.size A n os) (hb : OI W W.heap.size A' n os) :
    Calls Try.prog 8 #[.agg #[.int .i64 nx, .slice A n c], .agg #[.int .i64 nx, .slice A' n c']] W fun e w' => e = .returned (.bool true) ∧ Below W.heap.size W w' := by
  have HA := Lib.hid ha
  have HB := Lib.hid hb
  have HC := Lib.hid (two_new W 29 #[.int .i64 nx, .slice A n c] #[.int .i64 nx, .slice A' n c'])
  clear ha hb
  go_enter Try.func8, Try.ntmps8
  go_wp2_with (go_at_call 14; obtain ⟨g0, g1, g2, g3⟩ := HC.out _ rfl; have HQ := eqObjectS_same A A' n c c' os _ (HA.out.go g2) (HB.out.go g2); refine Calls.mono HQ ?_; clear HQ; rintro e w1 ⟨rfl, hb⟩; have HB1 := Lib.hid (g2.trans (hb.mono g2.size)); clear g0 g1 g2 g3 hb HA)
  all_goals go_ret
  all_goals exact ⟨rfl, HB1.out⟩

set_option maxHeartbeats 4000000 in
set_option maxRecDepth 100000 in
theorem equalFunc_any (A A' : Option Addr) (n n' c c' : Nat) (os os' : List Ob) (W : World) (ha : OI W W.heap.size A n os) (hb : OI W W.heap.size A' n' os') :
    Calls Try.prog 12 #[.slice A n c, .slice A' n' c', .func (.func 13) #[] #[]] W fun e w' => e = .returned (.bool (tt (os = os'))) ∧ Below W.heap.size W w' := by
  have HA := Lib.hid ha
  have HB := Lib.hid hb
  have hn := ha.2.1
  have hn' := hb.2.1
  have HN := Lib.hid ha.1
  have HN' := Lib.hid hb.1
  unfold maxLen at hn hn'
  clear ha hb
  obtain ⟨P, hP⟩ : ∃ P, tt (os = os') = P := ⟨_, rfl⟩
  have HP := Lib.hid hP
  rw [hP]
  clear hP
  by_cases hl : n = n'
  · subst hl
    go_enter Try.func12, Try.ntmps12
    go_wp2_with fail
    go_loopw [17] (fun i wr => ∃ k : Nat, k ≤ n ∧ i = .int .i64 k ∧ Hid (Below W.heap.size W wr) ∧ Hid (∀ (j : Nat), j < k → os[j]? = os'[j]?)) (fun i _ => n - (intOf i).toNat)
    case atStart => exact ⟨0, Nat.zero_le _, rfl, Below.refl _ _, fun j hj => absurd hj (by omega)⟩
    case round =>
      obtain ⟨k, hk, rfl, HW, HV⟩ := hrel
      by_cases hlt : k < n
      · have b0 : (0 : Int) ≤ (k : Int) := by omega
        have b1 : (k : Int) < (n : Int) := by omega
        obtain ⟨b, off, o, l, rfl, hg, hx, h1, hv1⟩ := (HA.out.go HW.out).at_ hlt
        obtain ⟨b', off', o', l', rfl, hg', hx', h2, hv2⟩ := (HB.out.go HW.out).at_ hlt
        have HX := Lib.hid hx
        have HX' := Lib.hid hx'
        have HO := Lib.hid hv1
        have HO' := Lib.hid hv2
        have HG := Lib.hid hg
        have HG' := Lib.hid hg'
        obtain ⟨q0, q1, q2, q3, q4, q5, q6, q7, q8, q9⟩ := h1
        have H2 := Lib.hid h2
        have a1 := fun (o : Obj) => (O10.below h2 (below_alloc wr o) hg')
        have HT2 := Lib.hid (two_new wr 41 (o.vs l).toArray (o'.vs l').toArray)
        obtain ⟨z, hz⟩ : ∃ z, tt (o = o') = z := ⟨_, rfl⟩
        have HZ := Lib.hid hz
        clear hx hx' hv1 hv2 hg hg' h2 hz
        have HF : Hid (z = false → P = false) := by
          show _ → _
          intro h
          rw [← HP.out]
          refine tt_false fun e => ?_
          have e2 : some o = some o' := by rw [← HX.out, ← HX'.out, e]
          rw [h, Option.some.inj e2] at HZ
          have := HZ.out
          rw [tt_true rfl] at this
          cases this
        have HT : Hid (z = true → ∀ (j : Nat), j < k + 1 → os[j]? = os'[j]?) := by
          show _ → _
          intro h j hj
          by_cases e : j = k
          · rw [h] at HZ
            rw [e, HX.out, HX'.out, of_tt HZ.out]
          · exact HV.out j (by omega)
        obtain ⟨p0, p1, p2, p3, p4, p5, p6, p7, p8, p9⟩ := a1 (.cells (o.vs l).toArray 41)
        clear a1
        unfold Ob.vs at p0 p1 p2 p3 p4 p5 p6 p7 p8 p9 HT2
        cases z
        · have HF1 := Lib.hid (HF.out rfl)
          clear HF HT
          go_wp2_with (go_at_call 13; obtain ⟨_, _, g2, _⟩ := HT2.out _ rfl; have HQ := sameObject_any o o' l l' _ (HO.out.go g2) (HO'.out.go g2); refine Calls.mono HQ ?_; clear HQ; rintro e w1 ⟨rfl, hb⟩; rw [HZ.out]; have HW1 : Hid (Below W.heap.size W w1) := HW.out.trans ((g2.trans (hb.mono g2.size)).mono HW.out.size); clear g2 hb p0 p1 p2 p3 p4 p5 p6 p7 p8 p9 q0 q1 q2 q3 q4 q5 q6 q7 q8 q9)
          go_ret
          exact ⟨by rw [HF1.out]; rfl, HW1.out⟩
        · have HT1 := Lib.hid (HT.out rfl)
          clear HF HT
          go_wp2_with (go_at_call 13; obtain ⟨_, _, g2, _⟩ := HT2.out _ rfl; have HQ := sameObject_any o o' l l' _ (HO.out.go g2) (HO'.out.go g2); refine Calls.mono HQ ?_; clear HQ; rintro e w1 ⟨rfl, hb⟩; rw [HZ.out]; have HW1 : Hid (Below W.heap.size W w1) := HW.out.trans ((g2.trans (hb.mono g2.size)).mono HW.out.size); clear g2 hb p0 p1 p2 p3 p4 p5 p6 p7 p8 p9 q0 q1 q2 q3 q4 q5 q6 q7 q8 q9)
          go_roundw
          case rel => exact ⟨k + 1, by omega, by go_num, HW1, HT1⟩
          case measure => simp [intOf]; omega
      · have hkn : k = n := by omega
        have HT : Hid (P = true) := by
          show _ = _
          rw [← HP.out]
          refine tt_true (List.ext_getElem? fun j => ?_)
          by_cases e : j < n
          · exact HV.out j (by omega)
          · rw [List.getElem?_eq_none (by have := HN.out; omega), List.getElem?_eq_none (by have := HN'.out; omega)]
        go_wp2_with fail
        go_ret
        exact ⟨by rw [HT.out]; rfl, HW.out⟩
  · have HF : Hid (P = false) := by
      show _ = _
      rw [← HP.out]
      exact tt_false fun e => hl (by rw [← HN.out, ← HN'.out, e])
    have hne : ¬ (n : Int) = (n' : Int) := by omega
    go_enter Try.func12, Try.ntmps12
    go_wp2_with fail
    go_ret
    exact ⟨by rw [HF.out]; rfl, Below.refl _ _⟩

theorem sameH_bool (nx nx' : Int) (os os' : List Ob) : tt (nx = nx' ∧ os = os') = ((nx == nx') && tt (os = os')) := by
  rw [Bool.eq_iff_iff]
  simp only [Bool.and_eq_true, tt_iff, beq_iff_eq]
set_option maxRecDepth 100000 in
theorem impl_SameHeap_any (nx nx' : Int) (A A' : Option Addr) (n n' c c' : Nat) (os os' : List Ob) (W : World) (ha : OI W W.heap.size A n os) (hb : OI W W.heap.size A' n' os') :
    Calls Try.prog 7 #[.agg #[.int .i64 nx, .slice A n c], .agg #[.int .i64 nx', .slice A' n' c']] W fun e w' => e = .returned (.bool (tt (nx = nx' ∧ os = os'))) ∧ Below W.heap.size W w' := by
  rw [sameH_bool]
  have HA := Lib.hid ha
  have HB := Lib.hid hb
  have HC := Lib.hid (two_new W 29 #[.int .i64 nx, .slice A n c] #[.int .i64 nx', .slice A' n' c'])
  clear ha hb
  obtain ⟨z, hz⟩ : ∃ z, tt (os = os') = z := ⟨_, rfl⟩
  have HZ := Lib.hid hz
  rw [hz]
  clear hz
  obtain ⟨y, hy⟩ : ∃ y, (nx == nx') = y := ⟨_, rfl⟩
  rw [hy]
  cases y
  · go_enter Try.func7, Try.ntmps7
    go_wp2_with fail
    go_ret
    exact ⟨rfl, (below_alloc _ _).alloc (by simp) _⟩
  · cases z
    all_goals
      go_enter Try.func7, Try.ntmps7
      go_wp2_with (go_at_call 12; obtain ⟨g0, g1, g2, g3⟩ := HC.out _ rfl; have HQ := equalFunc_any A A' n n' c c' os os' _ (HA.out.go g2) (HB.out.go g2); refine Calls.mono HQ ?_; clear HQ; rintro e w1 ⟨rfl, hb⟩; rw [HZ.out]; have HB1 := Lib.hid (g2.trans (hb.mono g2.size)); clear g0 g1 g2 g3 hb HA)
      all_goals go_ret
      all_goals exact ⟨rfl, HB1.out⟩
end Go.Proofs.Ythbeaffjkjhphaa
