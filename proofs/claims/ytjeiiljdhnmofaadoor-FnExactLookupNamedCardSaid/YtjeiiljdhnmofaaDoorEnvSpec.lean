/- Contract: ValidEnv of the model. No condition. -/
import Derived.Test.YtjeiiljdhnmofaaDoorEnvImpl
import Derived.Test.YtjeiiljdhnmofaaDoorPtValS
import Derived.Deep.QuietTactic
import Derived.BigQuiet
import Derived.Lib.QuietBelow
namespace Go.Proofs.YtjeiiljdhnmofaaDoor
open Go Go.RowKit Go.Sort

set_option maxHeartbeats 4000000 in
set_option maxRecDepth 100000 in
theorem spec_ValidEnv_any (d : Nat) (A : Option Addr) (n c : Nat) (xs : List Nm) (W : World) (hr : NmI W 0 W.heap.size d A n xs) :
    Calls Tryd.prog 20 #[.slice A n c] W fun e w' => e = .returned (.bool (tt (EnvOk xs))) ∧ Below W.heap.size W w' := by
  have HR := Lib.hid hr
  have HL := Lib.hid hr.1
  have hn := hr.2.1
  unfold maxLen at hn
  obtain ⟨P, hP⟩ : ∃ P, tt (EnvOk xs) = P := ⟨_, rfl⟩
  have HP := Lib.hid hP
  rw [hP]
  clear hr hP
  by_cases h40 : n ≤ 40
  · have d0 : decide (40 < (n : Int)) = false := by simp; omega
    have H40 := Lib.hid h40
    go_enter Tryd.func20, Tryd.ntmps20
    go_wp2_with fail
    go_loopw [3] (fun i wr => ∃ k : Nat, k ≤ n ∧ i = .int .i64 k ∧ Hid (Below W.heap.size W wr) ∧ Hid (∀ (j : Nat) (x : Nm), j < k → xs[j]? = some x → isNameB x.name = true ∧ ValidP x.pt ∧ ∀ (i : Nat) (y : Nm), i < j → xs[i]? = some y → y.name ≠ x.name)) (fun i _ => n - (intOf i).toNat)
    case atStart => exact ⟨0, Nat.zero_le _, rfl, Below.refl _ _, Lib.hid (fun j y hj => absurd hj (by omega))⟩
    case round =>
      obtain ⟨k, hk, rfl, HW, HA⟩ := hrel
      by_cases hlt : k < n
      · obtain ⟨b, off, x, A1, n1, c1, rfl, _, hgb, hx, _, hat, hv⟩ := (HR.out.go HW.out).at_ hlt
        have HX := Lib.hid hx
        have HAT := Lib.hid hat
        have HGB := Lib.hid hgb
        obtain ⟨q0, q1, q2, q3, q4⟩ := hat
        have b0 : (0 : Int) ≤ (k : Int) := by omega
        have b1 : (k : Int) < (n : Int) := by omega
        have HNM := Lib.hid (fun X => spec_IsName_any x.name X hv.1)
        have HVP := Lib.hid (spec_ValidPattern_any d x.pt A1 n1 c1 wr hv.pt)
        have HNO : Hid ((isNameB x.name = true ∧ tt (ValidP x.pt) = true ∧ (∀ (i : Nat) (y : Nm), i < k → xs[i]? = some y → y.name ≠ x.name) → False) → P = false) := by
          show _ → _
          intro h
          rw [← HP.out]
          refine tt_false fun hE => h ?_
          obtain ⟨h1, h2, h3⟩ := hE.2 k x hx
          exact ⟨h1, tt_true h2, h3⟩
        obtain ⟨zN, hN⟩ : ∃ z, isNameB x.name = z := ⟨_, rfl⟩
        obtain ⟨zV, hV⟩ : ∃ z, tt (ValidP x.pt) = z := ⟨_, rfl⟩
        rw [hN, hV] at HNO
        have HN := Lib.hid hN
        have HVV := Lib.hid hV
        obtain ⟨xn, xk, xm, xt, xks⟩ := x
        change wr.cell? ⟨b, off + k * 5, none⟩ = some (.string xn) at q0
        change wr.cell? ⟨b, off + k * 5 + 1, none⟩ = some (.int .i64 xk) at q1
        change wr.cell? ⟨b, off + k * 5 + 2, none⟩ = some (.int .i64 xm) at q2
        change wr.cell? ⟨b, off + k * 5 + 3, none⟩ = some (.string xt) at q3
        clear hx hgb hv hN hV
        cases zN
        · have HF : Hid (P = false) := HNO.out (fun h => by cases h.1)
          go_wp2_with (go_at_call 46; refine Calls.mono (HNM.out _) ?_; rintro e w1 ⟨rfl, rfl⟩; rw [HN.out])
          go_ret
          exact ⟨by rw [HF.out]; rfl, HW.out⟩
        · cases zV
          · have HF : Hid (P = false) := HNO.out (fun h => by cases h.2.1)
            go_wp2_with (first
              | (go_at_call 46; refine Calls.mono (HNM.out _) ?_; rintro e w1 ⟨rfl, rfl⟩; rw [HN.out])
              | (go_at_call 11; refine Calls.mono HVP.out ?_; rintro e w2 ⟨rfl, hb⟩; rw [HVV.out]; have HB2 := Lib.hid hb; clear hb))
            go_ret
            exact ⟨by rw [HF.out]; rfl, HW.out.trans (HB2.out.mono HW.out.size)⟩
          · go_wp2_with (first
              | (go_at_call 46; refine Calls.mono (HNM.out _) ?_; rintro e w1 ⟨rfl, rfl⟩; rw [HN.out])
              | (go_at_call 11; refine Calls.mono HVP.out ?_; rintro e w2 ⟨rfl, hb⟩; rw [HVV.out]; have HB2 := Lib.hid hb; clear hb))
            clear q0 q1 q2 q3 q4 HVP HNM
            go_loopw [4] (fun q wq => ∃ m : Nat, m ≤ k ∧ q = .int .i64 m ∧ Hid (Below W.heap.size W wq) ∧ Hid (∀ (j : Nat) (y : Nm), j < m → xs[j]? = some y → y.name ≠ xn)) (fun q _ => k - (intOf q).toNat)
            case atStart => exact ⟨0, Nat.zero_le _, rfl, Lib.hid (HW.out.trans (HB2.out.mono HW.out.size)), Lib.hid (fun j y hj => absurd hj (by omega))⟩
            case round =>
              obtain ⟨m, hm, rfl, HW2, HV2⟩ := hrel
              by_cases hlm : m < k
              · obtain ⟨b', off', y, A2, n2, c2, he, _, hg', hy, _, hc', _⟩ := (HR.out.below HW2.out).at_ (show m < n by omega)
                obtain ⟨b'', off'', x', A3, n3, c3, he', _, hg'', hx', _, hc'', _⟩ := (HR.out.below HW2.out).at_ (show k < n by omega)
                simp only [Option.some.injEq, Addr.mk.injEq, and_true] at he he'
                obtain ⟨rfl, rfl⟩ := he
                obtain ⟨rfl, rfl⟩ := he'
                rw [HX.out, Option.some.injEq] at hx'
                subst hx'
                have HY := Lib.hid hy
                have p0 := hc''.1
                change _ = some (Value.string xn) at p0
                have y0 := hc'.1
                have m0 : (0 : Int) ≤ (m : Int) := by omega
                have m1 : (m : Int) < (k : Int) := by omega
                have m2 : (m : Int) < (n : Int) := by omega
                obtain ⟨z, hz⟩ : ∃ z, (y.name.toList == xn.toList) = z := ⟨_, rfl⟩
                have HZ := Lib.hid hz
                obtain ⟨yn, yp⟩ := y
                change _ = some (Value.string yn) at y0
                change (yn.toList == xn.toList) = z at hz
                clear hy hc' hg' hc'' hg''
                go_wp2_with fail
                have xp := cell_regrown p0
                have xy := cell_regrown y0
                refine wp_region_quiet_below (by kernel_rfl) (by kernel_rfl) ?_
                repeat (first | go_big_quiet_step (fail) | quiet_step (fail))
                refine wpQuiet_nil ?_
                intro w4 hw'
                obtain ⟨⟨dq, osq⟩, hw''⟩ := hw'
                have HB4 : Hid (Below W.heap.size W w4) := by show Below _ _ _; rw [hw'']; exact HW2.out.trans ((below_regrown _ dq osq).mono HW2.out.size)
                clear hw'' xp xy p0 y0
                cases z
                · go_wp2_with fail
                  go_roundw
                  case rel =>
                    refine ⟨m + 1, by omega, by go_num, HB4, Lib.hid (fun j u hj hu => ?_)⟩
                    by_cases e : j = m
                    · subst e
                      rw [HY.out, Option.some.injEq] at hu
                      subst hu
                      intro e2
                      have := (name_iff _ _).2 e2
                      rw [HZ.out] at this
                      cases this
                    · exact HV2.out j u (by omega) hu
                  case measure => simp [intOf]; omega
                · have HF : Hid (P = false) := HNO.out (fun h => h.2.2 m _ hlm HY.out ((name_iff _ _).1 HZ.out))
                  go_wp2_with fail
                  go_ret
                  exact ⟨by rw [HF.out]; rfl, HB4.out⟩
              · have hkm : m = k := by omega
                have HV3 : Hid (∀ (j : Nat) (y : Nm), j < k → xs[j]? = some y → y.name ≠ xn) := by rw [← hkm]; exact HV2
                clear hkm HV2
                go_wp2_with fail
                go_roundw
                case rel =>
                  refine ⟨k + 1, by omega, by go_num, HW2, Lib.hid (fun j u hj hu => ?_)⟩
                  by_cases e : j = k
                  · subst e
                    rw [HX.out, Option.some.injEq] at hu
                    subst hu
                    exact ⟨HN.out, of_tt HVV.out, HV3.out⟩
                  · exact HA.out j u (by omega) hu
                case measure => simp [intOf]; omega
      · have hkn : k = n := by omega
        have HT2 : Hid (P = true) := by
          show _ = _
          rw [← HP.out]
          refine tt_true ⟨by rw [HL.out]; exact H40.out, fun j x hx => HA.out j x ?_ hx⟩
          have h1 := (List.getElem?_eq_some_iff.1 hx).1
          have h2 := HL.out
          omega
        clear hkn
        go_wp2_with fail
        go_ret
        exact ⟨by rw [HT2.out]; rfl, HW.out⟩
  · have d0 : decide (40 < (n : Int)) = true := by simp; omega
    have HF2 : Hid (P = false) := by show _ = _; rw [← HP.out]; exact tt_false fun h => h40 (by rw [← HL.out]; exact h.1)
    clear h40
    go_enter Tryd.func20, Tryd.ntmps20
    go_wp2_with fail
    go_ret
    exact ⟨by rw [HF2.out]; rfl, Below.refl _ _⟩
end Go.Proofs.YtjeiiljdhnmofaaDoor
