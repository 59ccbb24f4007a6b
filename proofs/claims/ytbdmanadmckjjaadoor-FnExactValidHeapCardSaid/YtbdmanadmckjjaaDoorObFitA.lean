/- Contract: (objectIndex).fitAll of the program. Condition: as for fits. -/
import Derived.Test.YtbdmanadmckjjaaDoorObFit
namespace Go.Proofs.YtbdmanadmckjjaaDoor
open Go Go.RowKit Go.Sort Go.Maps

set_option maxHeartbeats 1000000 in
set_option maxRecDepth 100000 in
theorem fitAll_any (m b off nn : Nat) (os : List Ob) (A : Option Addr) (n c : Nat) (xs : List Vl) (W : World) (hi : IdxM W m b off os nn) (hm : m < W.heap.size) (ho : OI W W.heap.size (some ⟨b, off, none⟩) nn os) (hri : Rising os) (hr : VI W W.heap.size A n xs) (hT : Classes W) :
    Calls Tryd.prog 48 #[.map (some m), .slice A n c] W fun e w' => e = .returned (.bool (tt (FitAll os xs))) ∧ Below W.heap.size W w' := by
  have HR := Lib.hid hr
  have HT := Lib.hid hT
  have HI := Lib.hid hi
  have HM := Lib.hid hm
  have HO := Lib.hid ho
  have HRI := Lib.hid hri
  have hn := hr.2.1
  have HN := Lib.hid hr.1
  unfold maxLen at hn
  clear hr hT hi hm ho hri
  obtain ⟨P, hP⟩ : ∃ P, tt (FitAll os xs) = P := ⟨_, rfl⟩
  have HP := Lib.hid hP
  rw [hP]
  clear hP
  go_enter Tryd.func48, Tryd.ntmps48
  go_wp2_with fail
  go_loopw [9] (fun i wr => ∃ k : Nat, k ≤ n ∧ i = .int .i64 k ∧ Hid (Below W.heap.size W wr) ∧ Hid (∀ (j : Nat) (x : Vl), j < k → xs[j]? = some x → Fits os x)) (fun i _ => n - (intOf i).toNat)
  case atStart => exact ⟨0, Nat.zero_le _, rfl, Below.refl _ _, fun j x hj => absurd hj (by omega)⟩
  case round =>
    obtain ⟨k, hk, rfl, HW, HV⟩ := hrel
    by_cases hlt : k < n
    · obtain ⟨b2, off2, x, rfl, hg, hx, ⟨q0, q1, q2, q3⟩, hxs⟩ := (HR.out.below HW.out).at_ hlt
      have HX := Lib.hid hx
      have HXS := Lib.hid hxs
      obtain ⟨v, hv⟩ : ∃ v, tt (Fits os x) = v := ⟨_, rfl⟩
      have HVX := Lib.hid hv
      have HC := Lib.hid (one_new wr 37 #[.int .i64 x.k, .int .i64 x.n, .string x.t, .int .i64 x.r])
      have b0 : (0 : Int) ≤ (k : Int) := by omega
      have b1 : (k : Int) < (n : Int) := by omega
      clear hx hxs hg hv
      cases v
      · have HF : Hid (P = false) := by
          show _ = _
          rw [← HP.out]
          exact tt_false fun h => of_tt_false HVX.out (h k x HX.out)
        go_wp2_with (go_at_call 45; obtain ⟨g0, g1, g2⟩ := HC.out _ rfl; have hbx := HW.out.trans (g1.mono HW.out.size); have HQ := fits_any m b off nn os x _ (HI.out.below hbx HM.out) (Nat.lt_of_lt_of_le HM.out hbx.size) (HO.out.go hbx) HRI.out HXS.out (classes_go HT.out hbx); refine Calls.mono HQ ?_; clear HQ; rintro e w1 ⟨rfl, hb⟩; rw [HVX.out]; have HW1 : Hid (Below W.heap.size W w1) := (HW.out.trans (g1.mono HW.out.size)).trans (hb.mono (Nat.le_trans HW.out.size g1.size)); clear hb hbx g0 g1 g2)
        go_ret
        exact ⟨by rw [HF.out]; rfl, HW1.out⟩
      · go_wp2_with (go_at_call 45; obtain ⟨g0, g1, g2⟩ := HC.out _ rfl; have hbx := HW.out.trans (g1.mono HW.out.size); have HQ := fits_any m b off nn os x _ (HI.out.below hbx HM.out) (Nat.lt_of_lt_of_le HM.out hbx.size) (HO.out.go hbx) HRI.out HXS.out (classes_go HT.out hbx); refine Calls.mono HQ ?_; clear HQ; rintro e w1 ⟨rfl, hb⟩; rw [HVX.out]; have HW1 : Hid (Below W.heap.size W w1) := (HW.out.trans (g1.mono HW.out.size)).trans (hb.mono (Nat.le_trans HW.out.size g1.size)); clear hb hbx g0 g1 g2)
        have HNX : Hid (∀ (j : Nat) (x : Vl), j < k + 1 → xs[j]? = some x → Fits os x) := by
          intro j y hj hy
          by_cases e : j = k
          · rw [e, HX.out, Option.some.injEq] at hy
            subst hy
            exact of_tt HVX.out
          · exact HV.out j y (by omega) hy
        go_roundw
        case rel => exact ⟨k + 1, by omega, by go_num, HW1, HNX⟩
        case measure => simp [intOf]; omega
    · have hkn : k = n := by omega
      have HTT : Hid (P = true) := by
        show _ = _
        rw [← HP.out]
        refine tt_true fun j x hx => HV.out j x ?_ hx
        have := (List.getElem?_eq_some_iff.1 hx).1
        have := HN.out
        omega
      go_wp2_with fail
      go_ret
      exact ⟨by rw [HTT.out]; rfl, HW.out⟩
end Go.Proofs.YtbdmanadmckjjaaDoor
