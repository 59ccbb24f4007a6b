/- Contracts: areValid, areFieldNames, arePairs of the program. Condition: the table holds what the program's text lays. -/
import Derived.Test.YtbdmanadmckjjaaDoorObDiff
import Derived.Test.YtbdmanadmckjjaaDoorValIsI
namespace Go.Proofs.YtbdmanadmckjjaaDoor
open Go Go.RowKit Go.Sort

theorem classes_go {w w' : World} (h : Classes w) (hb : Below w.heap.size w w') : Classes w' := h.below hb (heap_pos (h.at_ 0 (by decide)))

set_option maxHeartbeats 1000000 in
set_option maxRecDepth 100000 in
theorem areValid_any (A : Option Addr) (n c : Nat) (xs : List Vl) (W : World) (hr : VI W W.heap.size A n xs) (hT : Classes W) :
    Calls Tryd.prog 112 #[.slice A n c] W fun e w' => e = .returned (.bool (tt (AllValid xs))) ∧ Below W.heap.size W w' := by
  have HR := Lib.hid hr
  have HT := Lib.hid hT
  have hn := hr.2.1
  have HN := Lib.hid hr.1
  unfold maxLen at hn
  clear hr hT
  obtain ⟨P, hP⟩ : ∃ P, tt (AllValid xs) = P := ⟨_, rfl⟩
  have HP := Lib.hid hP
  rw [hP]
  clear hP
  go_enter Tryd.func112, Tryd.ntmps112
  go_wp2_with fail
  go_loopw [7] (fun i wr => ∃ k : Nat, k ≤ n ∧ i = .int .i64 k ∧ Hid (Below W.heap.size W wr) ∧ Hid (∀ (j : Nat) (x : Vl), j < k → xs[j]? = some x → x.valid = true)) (fun i _ => n - (intOf i).toNat)
  case atStart => exact ⟨0, Nat.zero_le _, rfl, Below.refl _ _, fun j x hj => absurd hj (by omega)⟩
  case round =>
    obtain ⟨k, hk, rfl, HW, HV⟩ := hrel
    by_cases hlt : k < n
    · obtain ⟨b, off, x, rfl, hg, hx, ⟨q0, q1, q2, q3⟩, hxs⟩ := (HR.out.below HW.out).at_ hlt
      have HX := Lib.hid hx
      have HXS := Lib.hid hxs
      obtain ⟨v, hv⟩ : ∃ v, x.valid = v := ⟨_, rfl⟩
      have HVX : Hid (validV x.k x.n x.t x.r = v) := hv
      have HC := Lib.hid (one_new wr 37 #[.int .i64 x.k, .int .i64 x.n, .string x.t, .int .i64 x.r])
      have b0 : (0 : Int) ≤ (k : Int) := by omega
      have b1 : (k : Int) < (n : Int) := by omega
      clear hx hxs hg hv
      cases v
      · have HF : Hid (P = false) := by
          show _ = _
          rw [← HP.out]
          exact tt_false fun h => by have : validV x.k x.n x.t x.r = true := h k x HX.out; rw [HVX.out] at this; cases this
        go_wp2_with (go_at_call 72; obtain ⟨g0, g1, g2⟩ := HC.out _ rfl; have HQ := impl_ValidValue_any x.k x.n x.t x.r _ HXS.out (classes_go HT.out (HW.out.trans (g1.mono HW.out.size))); refine Calls.mono HQ ?_; clear HQ; rintro e w1 ⟨rfl, hb⟩; rw [HVX.out]; have HW1 : Hid (Below W.heap.size W w1) := (HW.out.trans (g1.mono HW.out.size)).trans (hb.mono (Nat.le_trans HW.out.size g1.size)); clear hb g0 g1 g2)
        go_ret
        exact ⟨by rw [HF.out]; rfl, HW1.out⟩
      · go_wp2_with (go_at_call 72; obtain ⟨g0, g1, g2⟩ := HC.out _ rfl; have HQ := impl_ValidValue_any x.k x.n x.t x.r _ HXS.out (classes_go HT.out (HW.out.trans (g1.mono HW.out.size))); refine Calls.mono HQ ?_; clear HQ; rintro e w1 ⟨rfl, hb⟩; rw [HVX.out]; have HW1 : Hid (Below W.heap.size W w1) := (HW.out.trans (g1.mono HW.out.size)).trans (hb.mono (Nat.le_trans HW.out.size g1.size)); clear hb g0 g1 g2)
        have HNX : Hid (∀ (j : Nat) (x : Vl), j < k + 1 → xs[j]? = some x → x.valid = true) := by
          intro j y hj hy
          by_cases e : j = k
          · rw [e, HX.out, Option.some.injEq] at hy
            subst hy
            exact HVX.out
          · exact HV.out j y (by omega) hy
        go_roundw
        case rel => exact ⟨k + 1, by omega, by go_num, HW1, HNX⟩
        case measure => simp [intOf]; omega
    · have hkn : k = n := by omega
      have HTT : Hid (P = true) := by
        show _ = _
        rw [← HP.out]
        refine tt_true fun j x hx => HV.out j x ?_ hx
        have := (List.getElem?_eq_some_iff.1 hx).1
        have := HN.out
        omega
      go_wp2_with fail
      go_ret
      exact ⟨by rw [HTT.out]; rfl, HW.out⟩

theorem pairs_bool (ks vs : List Vl) : tt (ks.length = vs.length ∧ AllValid ks ∧ Distinct ks ∧ AllValid vs) = (((ks.length : Int) == (vs.length : Int)) && (tt (AllValid ks) && (tt (Distinct ks) && tt (AllValid vs)))) := by
  rw [Bool.eq_iff_iff]
  simp only [Bool.and_eq_true, tt_iff, beq_iff_eq]
  exact ⟨fun h => ⟨by omega, h.2⟩, fun h => ⟨by omega, h.2⟩⟩
set_option maxHeartbeats 2000000 in
set_option maxRecDepth 100000 in
theorem arePairs_any (A : Option Addr) (n c : Nat) (ks : List Vl) (A' : Option Addr) (n' c' : Nat) (vs : List Vl) (W : World) (hk : VI W W.heap.size A n ks) (hv : VI W W.heap.size A' n' vs) (hnc : n ≤ c) (hT : Classes W) :
    Calls Tryd.prog 114 #[.slice A n c, .slice A' n' c'] W fun e w' => e = .returned (.bool (tt (ks.length = vs.length ∧ AllValid ks ∧ Distinct ks ∧ AllValid vs))) ∧ Below W.heap.size W w' := by
  rw [pairs_bool, hk.1, hv.1]
  have HK := Lib.hid hk
  have HV := Lib.hid hv
  have HT := Lib.hid hT
  have HNC := Lib.hid hnc
  clear hk hv hT
  obtain ⟨K, hK⟩ : ∃ z, tt (AllValid ks) = z := ⟨_, rfl⟩
  obtain ⟨D, hD⟩ : ∃ z, tt (Distinct ks) = z := ⟨_, rfl⟩
  obtain ⟨V, hV⟩ : ∃ z, tt (AllValid vs) = z := ⟨_, rfl⟩
  have HKK := Lib.hid hK
  have HDD := Lib.hid hD
  have HVV := Lib.hid hV
  rw [hK, hD, hV]
  clear hK hD hV
  obtain ⟨z, hz⟩ : ∃ z, ((n : Int) == (n' : Int)) = z := ⟨_, rfl⟩
  rw [hz]
  have T1 : True := trivial
  have T2 : True := trivial
  cases z
  · go_enter Tryd.func114, Tryd.ntmps114
    go_wp2_with fail
    go_ret
    exact ⟨rfl, Below.refl _ _⟩
  cases K
  · go_enter Tryd.func114, Tryd.ntmps114
    go_wp2_with (first | (go_at_call 112; have tk := T1; have HQ := areValid_any A n c ks W HK.out HT.out; refine Calls.mono HQ ?_; clear HQ T1 tk; rintro e w1 ⟨rfl, hb⟩; rw [HKK.out]; have HB1 := Lib.hid hb; clear hb) | (go_at_call 115; have HQ := areDifferent_any A n c ks w1 (HK.out.go HB1.out) HNC.out; refine Calls.mono HQ ?_; clear HQ; rintro e w2 ⟨rfl, hb⟩; rw [HDD.out]; have HB2 := Lib.hid (HB1.out.trans (hb.mono HB1.out.size)); clear hb) | (go_at_call 112; have tk := T2; have HQ := areValid_any A' n' c' vs w2 (HV.out.go HB2.out) (classes_go HT.out HB2.out); refine Calls.mono HQ ?_; clear HQ T2 tk; rintro e w3 ⟨rfl, hb⟩; rw [HVV.out]; have HB3 := Lib.hid (HB2.out.trans (hb.mono HB2.out.size)); clear hb))
    go_ret
    exact ⟨rfl, HB1.out⟩
  cases D
  · go_enter Tryd.func114, Tryd.ntmps114
    go_wp2_with (first | (go_at_call 112; have tk := T1; have HQ := areValid_any A n c ks W HK.out HT.out; refine Calls.mono HQ ?_; clear HQ T1 tk; rintro e w1 ⟨rfl, hb⟩; rw [HKK.out]; have HB1 := Lib.hid hb; clear hb) | (go_at_call 115; have HQ := areDifferent_any A n c ks w1 (HK.out.go HB1.out) HNC.out; refine Calls.mono HQ ?_; clear HQ; rintro e w2 ⟨rfl, hb⟩; rw [HDD.out]; have HB2 := Lib.hid (HB1.out.trans (hb.mono HB1.out.size)); clear hb) | (go_at_call 112; have tk := T2; have HQ := areValid_any A' n' c' vs w2 (HV.out.go HB2.out) (classes_go HT.out HB2.out); refine Calls.mono HQ ?_; clear HQ T2 tk; rintro e w3 ⟨rfl, hb⟩; rw [HVV.out]; have HB3 := Lib.hid (HB2.out.trans (hb.mono HB2.out.size)); clear hb))
    go_ret
    exact ⟨rfl, HB2.out⟩
  cases V
  all_goals
    go_enter Tryd.func114, Tryd.ntmps114
    go_wp2_with (first | (go_at_call 112; have tk := T1; have HQ := areValid_any A n c ks W HK.out HT.out; refine Calls.mono HQ ?_; clear HQ T1 tk; rintro e w1 ⟨rfl, hb⟩; rw [HKK.out]; have HB1 := Lib.hid hb; clear hb) | (go_at_call 115; have HQ := areDifferent_any A n c ks w1 (HK.out.go HB1.out) HNC.out; refine Calls.mono HQ ?_; clear HQ; rintro e w2 ⟨rfl, hb⟩; rw [HDD.out]; have HB2 := Lib.hid (HB1.out.trans (hb.mono HB1.out.size)); clear hb) | (go_at_call 112; have tk := T2; have HQ := areValid_any A' n' c' vs w2 (HV.out.go HB2.out) (classes_go HT.out HB2.out); refine Calls.mono HQ ?_; clear HQ T2 tk; rintro e w3 ⟨rfl, hb⟩; rw [HVV.out]; have HB3 := Lib.hid (HB2.out.trans (hb.mono HB2.out.size)); clear hb))
    go_ret
    exact ⟨rfl, HB3.out⟩
end Go.Proofs.YtbdmanadmckjjaaDoor
