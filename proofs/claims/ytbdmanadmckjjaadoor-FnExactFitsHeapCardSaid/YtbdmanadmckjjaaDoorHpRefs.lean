/- Contracts of the model: l07FitAll, l07Refs. Condition: the objects rise. -/
import Derived.Test.YtbdmanadmckjjaaDoorHpFind
namespace Go.Proofs.YtbdmanadmckjjaaDoor
open Go Go.RowKit Go.Sort

set_option maxHeartbeats 1000000 in
set_option maxRecDepth 100000 in
theorem l07FitAll_any (g : Nat) (nx : Int) (A : Option Addr) (n c : Nat) (os : List Ob) (A' : Option Addr) (m c' : Nat) (xs : List Vl) (W : World) (h : HPt W g nx A n c os) (hr : Rising os) (hx : VI W W.heap.size A' m xs) :
    Calls Tryd.prog 74 #[.pointer (some ⟨g, 0, none⟩), .slice A' m c'] W fun e w' => e = .returned (.bool (tt (FitAll os xs))) ∧ Below W.heap.size W w' := by
  have H := Lib.hid h
  have HR := Lib.hid hr
  have HX := Lib.hid hx
  have hn := hx.2.1
  have HN := Lib.hid hx.1
  unfold maxLen at hn
  clear h hr hx
  obtain ⟨P, hP⟩ : ∃ P, tt (FitAll os xs) = P := ⟨_, rfl⟩
  have HP := Lib.hid hP
  rw [hP]
  clear hP
  go_enter Tryd.func74, Tryd.ntmps74
  go_wp2_with fail
  go_loopw [5] (fun i wr => ∃ k : Nat, k ≤ m ∧ i = .int .i64 k ∧ Hid (Below W.heap.size W wr) ∧ Hid (∀ (j : Nat) (x : Vl), j < k → xs[j]? = some x → Fits os x)) (fun i _ => m - (intOf i).toNat)
  case atStart => exact ⟨0, Nat.zero_le _, rfl, Below.refl _ _, fun j x hj => absurd hj (by omega)⟩
  case round =>
    obtain ⟨k, hk, rfl, HW, HV⟩ := hrel
    by_cases hlt : k < m
    · obtain ⟨b, off, x, rfl, hg, hx, ⟨q0, q1, q2, q3⟩, hxs⟩ := (HX.out.below HW.out).at_ hlt
      have HE := Lib.hid hx
      have HXS := Lib.hid hxs
      obtain ⟨v, hv⟩ : ∃ v, tt (Fits os x) = v := ⟨_, rfl⟩
      have HVX := Lib.hid hv
      have b0 : (0 : Int) ≤ (k : Int) := by omega
      have b1 : (k : Int) < (m : Int) := by omega
      clear hx hxs hg hv
      cases v
      · have HF : Hid (P = false) := by
          show _ = _
          rw [← HP.out]
          exact tt_false fun h => of_tt_false HVX.out (h k x HE.out)
        go_wp2_with (go_at_call 44; refine (l07Fits_any g nx A n c os x _ (H.out.go HW.out) HR.out HXS.out).mono ?_; rintro e w1 ⟨rfl, hb⟩; rw [HVX.out]; have HW1 : Hid (Below W.heap.size W w1) := HW.out.trans (hb.mono HW.out.size); clear hb)
        go_ret
        exact ⟨by rw [HF.out]; rfl, HW1.out⟩
      · go_wp2_with (go_at_call 44; refine (l07Fits_any g nx A n c os x _ (H.out.go HW.out) HR.out HXS.out).mono ?_; rintro e w1 ⟨rfl, hb⟩; rw [HVX.out]; have HW1 : Hid (Below W.heap.size W w1) := HW.out.trans (hb.mono HW.out.size); clear hb)
        go_roundw
        case rel =>
          refine ⟨k + 1, by omega, by go_num, HW1, fun j y hj hy => ?_⟩
          by_cases e : j = k
          · subst e
            rw [HE.out, Option.some.injEq] at hy
            subst hy
            exact of_tt HVX.out
          · exact HV.out j y (by omega) hy
        case measure => simp [intOf]; omega
    · have hkn : k = m := by omega
      have HT : Hid (P = true) := by
        show _ = _
        rw [← HP.out]
        refine tt_true fun j x hx => HV.out j x ?_ hx
        have := (List.getElem?_eq_some_iff.1 hx).1
        have := HN.out
        omega
      go_wp2_with fail
      go_ret
      exact ⟨by rw [HT.out]; rfl, HW.out⟩

theorem refs_bool (os : List Ob) (o : Ob) : tt (RefsFit os o) = (tt (FitAll os o.keys) && (tt (FitAll os o.vals) && (!(o.kind == 2) || tt (Fits os o.d)))) := by
  rw [Bool.eq_iff_iff]
  unfold RefsFit
  simp only [Bool.and_eq_true, Bool.or_eq_true, tt_iff, Bool.not_eq_true', beq_eq_false_iff_ne]
  constructor
  · rintro ⟨a, b, c⟩
    refine ⟨a, b, ?_⟩
    by_cases h : o.kind = 2
    · exact .inr (c h)
    · exact .inl h
  · rintro ⟨a, b, c | c⟩
    · exact ⟨a, b, fun h => absurd h c⟩
    · exact ⟨a, b, fun _ => c⟩

set_option maxHeartbeats 2000000 in
set_option maxRecDepth 100000 in
theorem l07Refs_any (g : Nat) (nx : Int) (A : Option Addr) (n c : Nat) (os : List Ob) (b p : Nat) (o : Ob) (l : Lay) (W : World) (h : HPt W g nx A n c os) (hr : Rising os) (ho : O10 W b p o l) (hv : OV W W.heap.size o l) (hb : b < W.heap.size) :
    Calls Tryd.prog 57 #[.pointer (some ⟨g, 0, none⟩), .pointer (some ⟨b, p, none⟩)] W fun e w' => e = .returned (.bool (tt (RefsFit os o))) ∧ Below W.heap.size W w' := by
  rw [refs_bool]
  have H := Lib.hid h
  have HR := Lib.hid hr
  have HO := Lib.hid ho
  have HV := Lib.hid hv
  have HB := Lib.hid hb
  clear h hr ho hv hb
  obtain ⟨K, hK⟩ : ∃ z, tt (FitAll os o.keys) = z := ⟨_, rfl⟩
  obtain ⟨V, hV⟩ : ∃ z, tt (FitAll os o.vals) = z := ⟨_, rfl⟩
  obtain ⟨D, hD⟩ : ∃ z, tt (Fits os o.d) = z := ⟨_, rfl⟩
  have HKK := Lib.hid hK
  have HVV := Lib.hid hV
  have HDD := Lib.hid hD
  rw [hK, hV, hD]
  clear hK hV hD
  obtain ⟨q0, q1, q2, q3, q4, q5, q6, q7, q8, q9⟩ := HO.out
  have T1 : True := trivial
  have T2 : True := trivial
  cases K
  · go_enter Tryd.func57, Tryd.ntmps57
    go_wp2_with (first | (go_at_call 74; have tk := T1; have HQ := l07FitAll_any g nx A n c os l.Ak l.nk l.ck o.keys W H.out HR.out HV.out.1; refine Calls.mono HQ ?_; clear HQ T1 tk; rintro e w1 ⟨rfl, hb⟩; rw [HKK.out]; have HB1 := Lib.hid hb; clear q0 q1 q2 q3 q4 q5 q6 q7 q8 q9; obtain ⟨q0, q1, q2, q3, q4, q5, q6, q7, q8, q9⟩ := HO.out.below hb HB.out; clear hb) | (go_at_call 74; have tk := T2; have HQ := l07FitAll_any g nx A n c os l.Av l.nv l.cv o.vals w1 (H.out.go HB1.out) HR.out (HV.out.2.1.go HB1.out); refine Calls.mono HQ ?_; clear HQ T2 tk; rintro e w2 ⟨rfl, hb⟩; rw [HVV.out]; have HB2 := Lib.hid (HB1.out.trans (hb.mono HB1.out.size)); clear q0 q1 q2 q3 q4 q5 q6 q7 q8 q9; obtain ⟨q0, q1, q2, q3, q4, q5, q6, q7, q8, q9⟩ := HO.out.below HB2.out HB.out; (try rw [HZ.out] at q1); clear hb) | (go_at_call 44; have HQ := l07Fits_any g nx A n c os o.d w2 (H.out.go HB2.out) HR.out HV.out.2.2.2; refine Calls.mono HQ ?_; clear HQ; rintro e w3 ⟨rfl, hb⟩; rw [HDD.out]; have HB3 := Lib.hid (HB2.out.trans (hb.mono HB2.out.size)); clear hb))
    all_goals go_ret
    all_goals exact ⟨rfl, HB1.out⟩
  cases V
  · go_enter Tryd.func57, Tryd.ntmps57
    go_wp2_with (first | (go_at_call 74; have tk := T1; have HQ := l07FitAll_any g nx A n c os l.Ak l.nk l.ck o.keys W H.out HR.out HV.out.1; refine Calls.mono HQ ?_; clear HQ T1 tk; rintro e w1 ⟨rfl, hb⟩; rw [HKK.out]; have HB1 := Lib.hid hb; clear q0 q1 q2 q3 q4 q5 q6 q7 q8 q9; obtain ⟨q0, q1, q2, q3, q4, q5, q6, q7, q8, q9⟩ := HO.out.below hb HB.out; clear hb) | (go_at_call 74; have tk := T2; have HQ := l07FitAll_any g nx A n c os l.Av l.nv l.cv o.vals w1 (H.out.go HB1.out) HR.out (HV.out.2.1.go HB1.out); refine Calls.mono HQ ?_; clear HQ T2 tk; rintro e w2 ⟨rfl, hb⟩; rw [HVV.out]; have HB2 := Lib.hid (HB1.out.trans (hb.mono HB1.out.size)); clear q0 q1 q2 q3 q4 q5 q6 q7 q8 q9; obtain ⟨q0, q1, q2, q3, q4, q5, q6, q7, q8, q9⟩ := HO.out.below HB2.out HB.out; (try rw [HZ.out] at q1); clear hb) | (go_at_call 44; have HQ := l07Fits_any g nx A n c os o.d w2 (H.out.go HB2.out) HR.out HV.out.2.2.2; refine Calls.mono HQ ?_; clear HQ; rintro e w3 ⟨rfl, hb⟩; rw [HDD.out]; have HB3 := Lib.hid (HB2.out.trans (hb.mono HB2.out.size)); clear hb))
    all_goals go_ret
    all_goals exact ⟨rfl, HB2.out⟩
  by_cases hz : ¬ o.kind = 2
  · rw [show (o.kind == 2) = false from by simp [hz]]
    go_enter Tryd.func57, Tryd.ntmps57
    go_wp2_with (first | (go_at_call 74; have tk := T1; have HQ := l07FitAll_any g nx A n c os l.Ak l.nk l.ck o.keys W H.out HR.out HV.out.1; refine Calls.mono HQ ?_; clear HQ T1 tk; rintro e w1 ⟨rfl, hb⟩; rw [HKK.out]; have HB1 := Lib.hid hb; clear q0 q1 q2 q3 q4 q5 q6 q7 q8 q9; obtain ⟨q0, q1, q2, q3, q4, q5, q6, q7, q8, q9⟩ := HO.out.below hb HB.out; clear hb) | (go_at_call 74; have tk := T2; have HQ := l07FitAll_any g nx A n c os l.Av l.nv l.cv o.vals w1 (H.out.go HB1.out) HR.out (HV.out.2.1.go HB1.out); refine Calls.mono HQ ?_; clear HQ T2 tk; rintro e w2 ⟨rfl, hb⟩; rw [HVV.out]; have HB2 := Lib.hid (HB1.out.trans (hb.mono HB1.out.size)); clear q0 q1 q2 q3 q4 q5 q6 q7 q8 q9; obtain ⟨q0, q1, q2, q3, q4, q5, q6, q7, q8, q9⟩ := HO.out.below HB2.out HB.out; (try rw [HZ.out] at q1); clear hb) | (go_at_call 44; have HQ := l07Fits_any g nx A n c os o.d w2 (H.out.go HB2.out) HR.out HV.out.2.2.2; refine Calls.mono HQ ?_; clear HQ; rintro e w3 ⟨rfl, hb⟩; rw [HDD.out]; have HB3 := Lib.hid (HB2.out.trans (hb.mono HB2.out.size)); clear hb))
    all_goals go_ret
    all_goals exact ⟨rfl, HB2.out⟩
  replace hz : o.kind = 2 := by omega
  have HZ := Lib.hid hz
  rw [show (o.kind == 2) = true from by simp [hz]]
  rw [hz] at q1
  clear hz
  cases D
  all_goals
    go_enter Tryd.func57, Tryd.ntmps57
    go_wp2_with (first | (go_at_call 74; have tk := T1; have HQ := l07FitAll_any g nx A n c os l.Ak l.nk l.ck o.keys W H.out HR.out HV.out.1; refine Calls.mono HQ ?_; clear HQ T1 tk; rintro e w1 ⟨rfl, hb⟩; rw [HKK.out]; have HB1 := Lib.hid hb; clear q0 q1 q2 q3 q4 q5 q6 q7 q8 q9; obtain ⟨q0, q1, q2, q3, q4, q5, q6, q7, q8, q9⟩ := HO.out.below hb HB.out; clear hb) | (go_at_call 74; have tk := T2; have HQ := l07FitAll_any g nx A n c os l.Av l.nv l.cv o.vals w1 (H.out.go HB1.out) HR.out (HV.out.2.1.go HB1.out); refine Calls.mono HQ ?_; clear HQ T2 tk; rintro e w2 ⟨rfl, hb⟩; rw [HVV.out]; have HB2 := Lib.hid (HB1.out.trans (hb.mono HB1.out.size)); clear q0 q1 q2 q3 q4 q5 q6 q7 q8 q9; obtain ⟨q0, q1, q2, q3, q4, q5, q6, q7, q8, q9⟩ := HO.out.below HB2.out HB.out; (try rw [HZ.out] at q1); clear hb) | (go_at_call 44; have HQ := l07Fits_any g nx A n c os o.d w2 (H.out.go HB2.out) HR.out HV.out.2.2.2; refine Calls.mono HQ ?_; clear HQ; rintro e w3 ⟨rfl, hb⟩; rw [HDD.out]; have HB3 := Lib.hid (HB2.out.trans (hb.mono HB2.out.size)); clear hb))
    all_goals go_ret
    all_goals exact ⟨rfl, HB3.out⟩
end Go.Proofs.YtbdmanadmckjjaaDoor
