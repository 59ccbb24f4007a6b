/- Contract of the model: l07FieldNames. No condition. -/
import Derived.Test.YtbdmanadmckjjaaDoorObDist
import Derived.Test.YtbdmanadmckjjaaDoorBlk
import Derived.Test.YtbdmanadmckjjaaDoorObsEq
namespace Go.Proofs.YtbdmanadmckjjaaDoor
open Go Go.RowKit Go.Sort

theorem one_new (W : World) (T : TypeId) (c : Array Value) (X : World) (e : X = W.alloc (.cells c T)) : RW T X W.heap.size c ∧ Below W.heap.size W X ∧ W.heap.size < X.heap.size := by
  subst e
  exact ⟨RW.new W c T, below_alloc _ _, lt_alloc _ _⟩

set_option maxHeartbeats 2000000 in
set_option maxRecDepth 100000 in
theorem l07FieldNames_any (A : Option Addr) (n c : Nat) (xs : List Vl) (W : World) (hr : VI W W.heap.size A n xs) :
    Calls Tryd.prog 81 #[.slice A n c] W fun e w' => e = .returned (.bool (tt (Names xs ∧ 1 ≤ xs.length ∧ ((xs.length : Int) ≤ 6 ∧ AllValid xs) ∧ Distinct xs))) ∧ Below W.heap.size W w' := by
  have HR := Lib.hid hr
  have hn := hr.2.1
  have HN := Lib.hid hr.1
  unfold maxLen at hn
  clear hr
  obtain ⟨P, hP⟩ : ∃ P, tt (Names xs ∧ 1 ≤ xs.length ∧ ((xs.length : Int) ≤ 6 ∧ AllValid xs) ∧ Distinct xs) = P := ⟨_, rfl⟩
  have HP := Lib.hid hP
  rw [hP]
  clear hP
  obtain ⟨V, hV⟩ : ∃ V, tt ((xs.length : Int) ≤ 6 ∧ AllValid xs) = V := ⟨_, rfl⟩
  have HVV := Lib.hid hV
  obtain ⟨D, hD⟩ : ∃ D, tt (Distinct xs) = D := ⟨_, rfl⟩
  have HDD := Lib.hid hD
  clear hV hD
  go_enter Tryd.func81, Tryd.ntmps81
  go_wp2_with fail
  go_loopw [3] (fun i wr => ∃ k : Nat, k ≤ n ∧ i = .int .i64 k ∧ Hid (Below W.heap.size W wr) ∧ Hid (∀ (j : Nat) (x : Vl), j < k → xs[j]? = some x → x.k = 1 ∧ isNameB x.t = true)) (fun i _ => n - (intOf i).toNat)
  case atStart => exact ⟨0, Nat.zero_le _, rfl, Below.refl _ _, fun j x hj => absurd hj (by omega)⟩
  case round =>
    obtain ⟨k, hk, rfl, HW, HV⟩ := hrel
    by_cases hlt : k < n
    · obtain ⟨b, off, x, rfl, hg, hx, ⟨q0, q1, q2, q3⟩, hxs⟩ := (HR.out.below HW.out).at_ hlt
      have HX := Lib.hid hx
      have HXS := Lib.hid hxs
      have b0 : (0 : Int) ≤ (k : Int) := by omega
      have b1 : (k : Int) < (n : Int) := by omega
      obtain ⟨xk, xn, xt, xr⟩ := x
      dsimp only at q0 q1 q2 q3 hxs
      clear hx hxs hg
      by_cases h1 : xk = 1
      · subst h1
        obtain ⟨z, hz⟩ : ∃ z, isNameB xt = z := ⟨_, rfl⟩
        have HZ := Lib.hid hz
        clear hz
        cases z
        · have HF : Hid (P = false) := by
            show _ = _
            rw [← HP.out]
            exact tt_false fun h => by have := (h.1 k _ HX.out).2; rw [HZ.out] at this; cases this
          go_wp2_with (go_at_call 80; refine (spec_IsName_any _ _ HXS.out).mono ?_; rintro e w1 ⟨rfl, rfl⟩; rw [HZ.out])
          go_ret
          exact ⟨by rw [HF.out]; rfl, HW.out⟩
        · go_wp2_with (go_at_call 80; refine (spec_IsName_any _ _ HXS.out).mono ?_; rintro e w1 ⟨rfl, rfl⟩; rw [HZ.out])
          go_roundw
          case rel =>
            refine ⟨k + 1, by omega, by go_num, HW, fun j y hj hy => ?_⟩
            by_cases e : j = k
            · subst e
              rw [HX.out, Option.some.injEq] at hy
              subst hy
              exact ⟨rfl, HZ.out⟩
            · exact HV.out j y (by omega) hy
          case measure => simp [intOf]; omega
      · have HF : Hid (P = false) := by
          show _ = _
          rw [← HP.out]
          exact tt_false fun h => h1 (h.1 k _ HX.out).1
        go_wp2_with fail
        go_ret
        exact ⟨by rw [HF.out]; rfl, HW.out⟩
    · have hkn : k = n := by omega
      have HNM : Hid (Names xs) := by
        intro j x hx
        refine HV.out j x ?_ hx
        have := (List.getElem?_eq_some_iff.1 hx).1
        have := HN.out
        omega
      by_cases h1 : 1 ≤ n
      · have h1' : (1 : Int) ≤ (n : Int) := by omega
        have HPE : Hid (P = (V && D)) := by
          show _ = _
          rw [← HP.out, ← HVV.out, ← HDD.out, Bool.eq_iff_iff]
          simp only [Bool.and_eq_true, tt_iff]
          exact ⟨fun h => ⟨h.2.2.1, h.2.2.2⟩, fun h => ⟨HNM.out, by rw [HN.out]; exact h1, h.1, h.2⟩⟩
        cases V
        · go_wp2_with (go_at_call 78; refine (l07ValidValues_any A n c xs 6 _ (HR.out.go HW.out)).mono ?_; rintro e w1 ⟨rfl, hb⟩; rw [HVV.out]; have HW1 := Lib.hid (HW.out.trans (hb.mono HW.out.size)); clear hb)
          go_ret
          exact ⟨by rw [HPE.out]; rfl, HW1.out⟩
        · cases D
          all_goals
            go_wp2_with (first
              | (go_at_call 78; refine (l07ValidValues_any A n c xs 6 _ (HR.out.go HW.out)).mono ?_; rintro e w1 ⟨rfl, hb⟩; rw [HVV.out]; have HW1 := Lib.hid (HW.out.trans (hb.mono HW.out.size)); clear hb)
              | (go_at_call 79; refine (l07Distinct_any A n c xs _ (HR.out.go HW1.out)).mono ?_; rintro e w2 ⟨rfl, hb⟩; rw [HDD.out]; have HW2 := Lib.hid (HW1.out.trans (hb.mono HW1.out.size)); clear hb))
            go_ret
            exact ⟨by rw [HPE.out]; rfl, HW2.out⟩
      · have HF : Hid (P = false) := by
          show _ = _
          rw [← HP.out]
          exact tt_false fun h => h1 (by have := h.2.1; rw [HN.out] at this; exact this)
        have h1' : ¬ (1 : Int) ≤ (n : Int) := by omega
        have h1'' : (n : Int) < 1 := by omega
        go_wp2_with fail
        go_ret
        exact ⟨by rw [HF.out]; rfl, HW.out⟩
end Go.Proofs.YtbdmanadmckjjaaDoor
