/- Contracts of the model: l07Distinct, l07FieldNames. No condition. -/
import Derived.Test.YtbdmanadmckjjaaDoorObSpec
import Derived.Test.YtbdmanadmckjjaaDoorVlsEq
namespace Go.Proofs.YtbdmanadmckjjaaDoor
open Go Go.RowKit Go.Sort

set_option maxHeartbeats 1000000 in
set_option maxRecDepth 100000 in
theorem l07Distinct_any (A : Option Addr) (n c : Nat) (xs : List Vl) (W : World) (hr : VI W W.heap.size A n xs) :
    Calls Tryd.prog 79 #[.slice A n c] W fun e w' => e = .returned (.bool (tt (Distinct xs))) ∧ Below W.heap.size W w' := by
  have HR := Lib.hid hr
  have hn := hr.2.1
  have HN := Lib.hid hr.1
  unfold maxLen at hn
  clear hr
  obtain ⟨P, hP⟩ : ∃ P, tt (Distinct xs) = P := ⟨_, rfl⟩
  have HP := Lib.hid hP
  rw [hP]
  clear hP
  go_enter Tryd.func79, Tryd.ntmps79
  go_wp2_with fail
  go_loopw [3] (fun i wr => ∃ k : Nat, k ≤ n ∧ i = .int .i64 k ∧ Hid (Below W.heap.size W wr) ∧ Hid (∀ (i j : Nat) (x y : Vl), i < k → j < i → xs[i]? = some x → xs[j]? = some y → x ≠ y)) (fun i _ => n - (intOf i).toNat)
  case atStart => exact ⟨0, Nat.zero_le _, rfl, Below.refl _ _, fun i j x y hi => absurd hi (by omega)⟩
  case round =>
    obtain ⟨k, hk, rfl, HW, HV⟩ := hrel
    by_cases hlt : k < n
    · have b0 : (0 : Int) ≤ (k : Int) := by omega
      have b1 : (k : Int) < (n : Int) := by omega
      obtain ⟨b, off, x, rfl, hg, hx, hc, _⟩ := HR.out.at_ hlt
      have HX := Lib.hid hx
      have HC := Lib.hid hc
      have HG := Lib.hid hg
      clear hx hc hg
      go_wp2_with fail
      go_loopw [4] (fun q wq => ∃ m : Nat, m ≤ k ∧ q = .int .i64 m ∧ Hid (Below W.heap.size W wq) ∧ Hid (∀ (j : Nat) (y : Vl), j < m → xs[j]? = some y → x ≠ y)) (fun q _ => k - (intOf q).toNat)
      case atStart => exact ⟨0, Nat.zero_le _, rfl, HW, fun j y hj => absurd hj (by omega)⟩
      case round =>
        obtain ⟨m, hm, rfl, HW2, HV2⟩ := hrel
        by_cases hlm : m < k
        · obtain ⟨b', off', y, he, hg', hy, hc', _⟩ := HR.out.at_ (show m < n by omega)
          simp only [Option.some.injEq, Addr.mk.injEq, and_true] at he
          obtain ⟨rfl, rfl⟩ := he
          have HY := Lib.hid hy
          obtain ⟨p0, p1, p2, p3⟩ := HC.out.below HW2.out HG.out
          obtain ⟨q0, q1, q2, q3⟩ := hc'.below HW2.out HG.out
          have m0 : (0 : Int) ≤ (m : Int) := by omega
          have m1 : (m : Int) < (k : Int) := by omega
          have m2 : (m : Int) < (n : Int) := by omega
          obtain ⟨z, hz⟩ : ∃ z, sameV x.k x.n x.t x.r y.k y.n y.t y.r = z := ⟨_, rfl⟩
          have HZ := Lib.hid hz
          have HB : Hid (b < wr.heap.size) := Nat.lt_of_lt_of_le HG.out HW2.out.size
          obtain ⟨xk, xn, xt, xr⟩ := x
          obtain ⟨yk, yn, yt, yr⟩ := y
          dsimp only at p0 p1 p2 p3 q0 q1 q2 q3
          clear hy hc' hg' hz
          cases z
          · go_wp2_with fail
            go_region_held3 (fun w' => Two4 w' b b (off + k * 4) (off + m * 4) xk xn xt xr yk yn yt yr ∧ Below wr.heap.size wr w')
              (first | (exact ⟨⟨⟨p0, p1, p2, p3⟩, ⟨q0, q1, q2, q3⟩⟩, (Below.refl _ _).drew⟩) | (go_split_ands; exact two4_keep HB.out HB.out ⟨⟨⟨by assumption, by assumption, by assumption, by assumption⟩, ⟨by assumption, by assumption, by assumption, by assumption⟩⟩, by assumption⟩ hb) | go_keep)
              ((go_at_call 90; refine (spec_SameValue_any _ _ _ _ _ _ _ _ _).mono ?_; rintro e w1 ⟨rfl, hb⟩; rw [show sameV xk xn xt xr yk yn yt yr = false from HZ.out]))
            go_wp2_with fail
            go_split_ands
            go_roundw
            case rel =>
              refine ⟨m + 1, by omega, by go_num, HW2.out.trans (Below.mono (by assumption) HW2.out.size), fun j u hj hu => ?_⟩
              by_cases e : j = m
              · subst e
                rw [HY.out, Option.some.injEq] at hu
                subst hu
                exact sameV_false HZ.out
              · exact HV2.out j u (by omega) hu
            case measure => simp [intOf]; omega
          · have HF : Hid (P = false) := by
              show _ = _
              rw [← HP.out]
              exact tt_false fun h => h k m _ _ hlm HX.out HY.out ((sameV_iff _ _).1 HZ.out)
            go_wp2_with fail
            go_region_held3 (fun w' => Two4 w' b b (off + k * 4) (off + m * 4) xk xn xt xr yk yn yt yr ∧ Below wr.heap.size wr w')
              (first | (exact ⟨⟨⟨p0, p1, p2, p3⟩, ⟨q0, q1, q2, q3⟩⟩, (Below.refl _ _).drew⟩) | (go_split_ands; exact two4_keep HB.out HB.out ⟨⟨⟨by assumption, by assumption, by assumption, by assumption⟩, ⟨by assumption, by assumption, by assumption, by assumption⟩⟩, by assumption⟩ hb) | go_keep)
              ((go_at_call 90; refine (spec_SameValue_any _ _ _ _ _ _ _ _ _).mono ?_; rintro e w1 ⟨rfl, hb⟩; rw [show sameV xk xn xt xr yk yn yt yr = true from HZ.out]))
            go_wp2_with fail
            go_split_ands
            go_ret
            exact ⟨by rw [HF.out]; rfl, HW2.out.trans (Below.mono (by assumption) HW2.out.size)⟩
        · have hkm : m = k := by omega
          subst hkm
          go_wp2_with fail
          go_roundw
          case rel =>
            refine ⟨m + 1, by omega, by go_num, HW2, fun i j u v hi hj hu hv => ?_⟩
            by_cases e : i = m
            · subst e
              rw [HX.out, Option.some.injEq] at hu
              subst hu
              exact HV2.out j v hj hv
            · exact HV.out i j u v (by omega) hj hu hv
          case measure => simp [intOf]; omega
    · have hkn : k = n := by omega
      have HT : Hid (P = true) := by
        show _ = _
        rw [← HP.out]
        refine tt_true fun i j x y hj hx hy => HV.out i j x y ?_ hj hx hy
        have := (List.getElem?_eq_some_iff.1 hx).1
        have := HN.out
        omega
      go_wp2_with fail
      go_ret
      exact ⟨by rw [HT.out]; rfl, HW.out⟩
end Go.Proofs.YtbdmanadmckjjaaDoor
