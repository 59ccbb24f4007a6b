/- Contract: areFieldNames of the program. Condition: the table holds what the program's text lays. -/
import Derived.Test.YtbdmanadmckjjaaDoorObVals
namespace Go.Proofs.YtbdmanadmckjjaaDoor
open Go Go.RowKit Go.Sort

set_option maxHeartbeats 1000000 in
set_option maxRecDepth 100000 in
theorem areFieldNames_any (A : Option Addr) (n c : Nat) (xs : List Vl) (W : World) (hr : VI W W.heap.size A n xs) (hT : Classes W) :
    Calls Tryd.prog 119 #[.slice A n c] W fun e w' => e = .returned (.bool (tt (Names xs))) ∧ Below W.heap.size W w' := by
  have HR := Lib.hid hr
  have HT := Lib.hid hT
  have hn := hr.2.1
  have HN := Lib.hid hr.1
  unfold maxLen at hn
  clear hr hT
  obtain ⟨P, hP⟩ : ∃ P, tt (Names xs) = P := ⟨_, rfl⟩
  have HP := Lib.hid hP
  rw [hP]
  clear hP
  go_enter Tryd.func119, Tryd.ntmps119
  go_wp2_with fail
  go_loopw [7] (fun i wr => ∃ k : Nat, k ≤ n ∧ i = .int .i64 k ∧ Hid (Below W.heap.size W wr) ∧ Hid (∀ (j : Nat) (x : Vl), j < k → xs[j]? = some x → x.k = 1 ∧ isNameB x.t = true)) (fun i _ => n - (intOf i).toNat)
  case atStart => exact ⟨0, Nat.zero_le _, rfl, Below.refl _ _, fun j x hj => absurd hj (by omega)⟩
  case round =>
    obtain ⟨k, hk, rfl, HW, HV⟩ := hrel
    by_cases hlt : k < n
    · obtain ⟨b, off, x, rfl, hg, hx, ⟨q0, q1, q2, q3⟩, hxs⟩ := (HR.out.below HW.out).at_ hlt
      have HX := Lib.hid hx
      have HXS := Lib.hid hxs
      obtain ⟨xk, xn, xt, xr⟩ := x
      dsimp only at q0 q1 q2 q3
      have b0 : (0 : Int) ≤ (k : Int) := by omega
      have b1 : (k : Int) < (n : Int) := by omega
      clear hx hxs hg
      by_cases h1 : xk = 1
      · subst h1
        have HC := Lib.hid (one_new wr 37 #[.int .i64 1, .int .i64 xn, .string xt, .int .i64 xr])
        obtain ⟨z, hz⟩ : ∃ z, isNameB xt = z := ⟨_, rfl⟩
        have HZ := Lib.hid hz
        clear hz
        cases z
        · have HF : Hid (P = false) := by
            show _ = _
            rw [← HP.out]
            exact tt_false fun h => by have := (h k _ HX.out).2; rw [HZ.out] at this; cases this
          go_wp2_with (go_at_call 87; obtain ⟨g0, g1, g2⟩ := HC.out _ rfl; have HQ := impl_IsName_any xt _ HXS.out (classes_go HT.out (HW.out.trans (g1.mono HW.out.size))); refine Calls.mono HQ ?_; clear HQ; rintro e w1 ⟨rfl, hb⟩; rw [HZ.out]; have HW1 : Hid (Below W.heap.size W w1) := (HW.out.trans (g1.mono HW.out.size)).trans (hb.mono (Nat.le_trans HW.out.size g1.size)); clear hb g0 g1 g2)
          go_ret
          exact ⟨by rw [HF.out]; rfl, HW1.out⟩
        · go_wp2_with (go_at_call 87; obtain ⟨g0, g1, g2⟩ := HC.out _ rfl; have HQ := impl_IsName_any xt _ HXS.out (classes_go HT.out (HW.out.trans (g1.mono HW.out.size))); refine Calls.mono HQ ?_; clear HQ; rintro e w1 ⟨rfl, hb⟩; rw [HZ.out]; have HW1 : Hid (Below W.heap.size W w1) := (HW.out.trans (g1.mono HW.out.size)).trans (hb.mono (Nat.le_trans HW.out.size g1.size)); clear hb g0 g1 g2)
          have HNX : Hid (∀ (j : Nat) (x : Vl), j < k + 1 → xs[j]? = some x → x.k = 1 ∧ isNameB x.t = true) := by
            intro j y hj hy
            by_cases e : j = k
            · rw [e, HX.out, Option.some.injEq] at hy
              subst hy
              exact ⟨rfl, HZ.out⟩
            · exact HV.out j y (by omega) hy
          go_roundw
          case rel => exact ⟨k + 1, by omega, by go_num, HW1, HNX⟩
          case measure => simp [intOf]; omega
      · have HF : Hid (P = false) := by
          show _ = _
          rw [← HP.out]
          exact tt_false fun h => h1 (h k _ HX.out).1
        go_wp2_with fail
        go_ret
        exact ⟨by rw [HF.out]; rfl, HW.out.alloc HW.out.size _⟩
    · have hkn : k = n := by omega
      have HTT : Hid (P = true) := by
        show _ = _
        rw [← HP.out]
        refine tt_true fun j x hx => HV.out j x ?_ hx
        have := (List.getElem?_eq_some_iff.1 hx).1
        have := HN.out
        omega
      go_wp2_with fail
      go_ret
      exact ⟨by rw [HTT.out]; rfl, HW.out⟩
end Go.Proofs.YtbdmanadmckjjaaDoor
