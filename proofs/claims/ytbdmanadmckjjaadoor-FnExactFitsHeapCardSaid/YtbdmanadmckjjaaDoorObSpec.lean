/- Contracts of the model: l07ValidValues, l07Distinct, l07FieldNames. No condition. -/
import Derived.Test.YtbdmanadmckjjaaDoorHpPlain
import Derived.Test.YtbdmanadmckjjaaDoorValSame
namespace Go.Proofs.YtbdmanadmckjjaaDoor
open Go Go.RowKit Go.Sort

set_option maxRecDepth 100000 in
theorem l07ValidValues_any (A : Option Addr) (n c : Nat) (xs : List Vl) (most : Int) (W : World) (hr : VI W W.heap.size A n xs) :
    Calls Tryd.prog 78 #[.slice A n c, .int .i64 most] W fun e w' => e = .returned (.bool (tt ((xs.length : Int) ≤ most ∧ AllValid xs))) ∧ Below W.heap.size W w' := by
  have HR := Lib.hid hr
  have hn := hr.2.1
  have HN := Lib.hid hr.1
  unfold maxLen at hn
  clear hr
  by_cases hl : (n : Int) ≤ most
  · have HL := Lib.hid hl
    obtain ⟨P, hP⟩ : ∃ P, tt ((xs.length : Int) ≤ most ∧ AllValid xs) = P := ⟨_, rfl⟩
    have HP := Lib.hid hP
    rw [hP]
    clear hP
    go_enter Tryd.func78, Tryd.ntmps78
    go_wp2_with fail
    go_loopw [5] (fun i wr => ∃ k : Nat, k ≤ n ∧ i = .int .i64 k ∧ Hid (Below W.heap.size W wr) ∧ Hid (∀ (j : Nat) (x : Vl), j < k → xs[j]? = some x → x.valid = true)) (fun i _ => n - (intOf i).toNat)
    case atStart => exact ⟨0, Nat.zero_le _, rfl, Below.refl _ _, fun j x hj => absurd hj (by omega)⟩
    case round =>
      obtain ⟨k, hk, rfl, HW, HV⟩ := hrel
      by_cases hlt : k < n
      · obtain ⟨b, off, x, rfl, hg, hx, ⟨q0, q1, q2, q3⟩, hxs⟩ := (HR.out.below HW.out).at_ hlt
        have HX := Lib.hid hx
        have HXS := Lib.hid hxs
        obtain ⟨v, hv⟩ : ∃ v, x.valid = v := ⟨_, rfl⟩
        have HVX := Lib.hid hv
        have b0 : (0 : Int) ≤ (k : Int) := by omega
        have b1 : (k : Int) < (n : Int) := by omega
        clear hx hxs hg hv
        cases v
        · have HF : Hid (P = false) := by
            show _ = _
            rw [← HP.out]
            exact tt_false fun h => by have := h.2 k x HX.out; rw [HVX.out] at this; cases this
          go_wp2_with (go_at_call 68; refine (spec_ValidValue_any _ _ _ _ _ HXS.out).mono ?_; rintro e w1 ⟨rfl, hb⟩; rw [show validV x.k x.n x.t x.r = false from HVX.out]; have HW1 : Hid (Below W.heap.size W w1) := HW.out.trans (hb.mono HW.out.size); clear hb)
          go_ret
          exact ⟨by rw [HF.out]; rfl, HW1.out⟩
        · go_wp2_with (go_at_call 68; refine (spec_ValidValue_any _ _ _ _ _ HXS.out).mono ?_; rintro e w1 ⟨rfl, hb⟩; rw [show validV x.k x.n x.t x.r = true from HVX.out]; have HW1 : Hid (Below W.heap.size W w1) := HW.out.trans (hb.mono HW.out.size); clear hb)
          go_roundw
          case rel =>
            refine ⟨k + 1, by omega, by go_num, HW1, fun j y hj hy => ?_⟩
            by_cases e : j = k
            · subst e
              rw [HX.out, Option.some.injEq] at hy
              subst hy
              exact HVX.out
            · exact HV.out j y (by omega) hy
          case measure => simp [intOf]; omega
      · have hkn : k = n := by omega
        have HT : Hid (P = true) := by
          show _ = _
          rw [← HP.out]
          refine tt_true ⟨by rw [HN.out]; exact HL.out, fun j x hx => HV.out j x ?_ hx⟩
          have := (List.getElem?_eq_some_iff.1 hx).1
          have := HN.out
          omega
        go_wp2_with fail
        go_ret
        exact ⟨by rw [HT.out]; rfl, HW.out⟩
  · have e : tt ((xs.length : Int) ≤ most ∧ AllValid xs) = false := tt_false fun h => hl (by have := h.1; rw [HN.out] at this; exact this)
    have h2 : most < (n : Int) := by omega
    rw [e]
    clear e hl
    go_enter Tryd.func78, Tryd.ntmps78
    go_wp2_with fail
    go_ret
    exact ⟨rfl, Below.refl _ _⟩
end Go.Proofs.YtbdmanadmckjjaaDoor
