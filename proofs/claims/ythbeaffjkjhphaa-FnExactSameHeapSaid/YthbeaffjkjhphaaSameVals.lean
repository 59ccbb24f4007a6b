/- Contracts: l07SameValues of the model, slices.Equal at values. No condition. -/
import Derived.Test.YthbeaffjkjhphaaVlsEq
import Derived.Test.YthbeaffjkjhphaaTT
namespace Go.Proofs.Ythbeaffjkjhphaa
open Go Go.RowKit

set_option maxHeartbeats 2000000 in
set_option maxRecDepth 100000 in
theorem l07SameValues_any (A A' : Option Addr) (n n' c c' : Nat) (xs ys : List Vl) (W : World) (ha : VI W W.heap.size A n xs) (hb : VI W W.heap.size A' n' ys) :
    Calls Try.prog 22 #[.slice A n c, .slice A' n' c'] W fun e w' => e = .returned (.bool (tt (xs = ys))) ∧ Below W.heap.size W w' := by
  have HA := Lib.hid ha
  have HB := Lib.hid hb
  have hn := ha.2.1
  have hn' := hb.2.1
  have HN := Lib.hid ha.1
  have HN' := Lib.hid hb.1
  unfold maxLen at hn hn'
  clear ha hb
  obtain ⟨P, hP⟩ : ∃ P, tt (xs = ys) = P := ⟨_, rfl⟩
  have HP := Lib.hid hP
  rw [hP]
  clear hP
  by_cases hl : n = n'
  · subst hl
    go_enter Try.func22, Try.ntmps22
    go_wp2_with fail
    go_loopw [5] (fun i wr => ∃ k : Nat, k ≤ n ∧ i = .int .i64 k ∧ Hid (Below W.heap.size W wr) ∧ Hid (∀ (j : Nat), j < k → xs[j]? = ys[j]?)) (fun i _ => n - (intOf i).toNat)
    case atStart => exact ⟨0, Nat.zero_le _, rfl, Below.refl _ _, fun j hj => absurd hj (by omega)⟩
    case round =>
      obtain ⟨k, hk, rfl, HW, HV⟩ := hrel
      by_cases hlt : k < n
      · have b0 : (0 : Int) ≤ (k : Int) := by omega
        have b1 : (k : Int) < (n : Int) := by omega
        obtain ⟨b, off, x, rfl, hg, hx, h1, _⟩ := HA.out.at_ hlt
        obtain ⟨b', off', y, rfl, hg', hy, h2, _⟩ := HB.out.at_ hlt
        obtain ⟨p0, p1, p2, p3⟩ := h1.below HW.out hg
        obtain ⟨q0, q1, q2, q3⟩ := h2.below HW.out hg'
        have HX := Lib.hid hx
        have HY := Lib.hid hy
        obtain ⟨xk, xn, xt, xr⟩ := x
        obtain ⟨yk, yn, yt, yr⟩ := y
        dsimp only at p0 p1 p2 p3 q0 q1 q2 q3
        have HS := Lib.hid (sameV_iff ⟨xk, xn, xt, xr⟩ ⟨yk, yn, yt, yr⟩)
        have HG : Hid (b < wr.heap.size) := Nat.lt_of_lt_of_le hg HW.out.size
        have HG' : Hid (b' < wr.heap.size) := Nat.lt_of_lt_of_le hg' HW.out.size
        clear hx hy h1 h2 hg hg'
        have HF : Hid (sameV xk xn xt xr yk yn yt yr = false → P = false) := by
          show _ → _
          intro h
          rw [← HP.out]
          refine tt_false fun e => ?_
          have e2 : some (⟨xk, xn, xt, xr⟩ : Vl) = some ⟨yk, yn, yt, yr⟩ := by rw [← HX.out, ← HY.out, e]
          rw [HS.out.2 (Option.some.inj e2)] at h
          cases h
        have HT : Hid (sameV xk xn xt xr yk yn yt yr = true → ∀ (j : Nat), j < k + 1 → xs[j]? = ys[j]?) := by
          show _ → _
          intro h j hj
          by_cases e : j = k
          · rw [e, HX.out, HY.out, HS.out.1 h]
          · exact HV.out j (by omega)
        unfold sameV at HF HT
        clear HS HX HY
        obtain ⟨z1, h1⟩ : ∃ z, (xk == yk) = z := ⟨_, rfl⟩
        obtain ⟨z2, h2⟩ : ∃ z, (xn == yn) = z := ⟨_, rfl⟩
        obtain ⟨z3, h3⟩ : ∃ z, (xt.toList == yt.toList) = z := ⟨_, rfl⟩
        obtain ⟨z4, h4⟩ : ∃ z, (xr == yr) = z := ⟨_, rfl⟩
        rw [h1, h2, h3, h4] at HF HT
        cases z1
        · have HF1 := Lib.hid (HF.out (by simp))
          clear HF HT
          go_wp2_with fail
          go_region_held3 (fun w' => Two4 w' b b' (off + k * 4) (off' + k * 4) xk xn xt xr yk yn yt yr ∧ Below wr.heap.size wr w')
            (first | (exact ⟨⟨⟨p0, p1, p2, p3⟩, ⟨q0, q1, q2, q3⟩⟩, (Below.refl _ _).drew⟩) | (go_split_ands; exact two4_keep HG.out HG'.out ⟨⟨⟨by assumption, by assumption, by assumption, by assumption⟩, ⟨by assumption, by assumption, by assumption, by assumption⟩⟩, by assumption⟩ hb) | go_keep)
            (fail)
          go_wp2_with fail
          go_split_ands
          go_ret
          exact ⟨by rw [HF1.out]; rfl, HW.out.trans (Below.mono (by assumption) HW.out.size)⟩
        cases z2
        · have HF1 := Lib.hid (HF.out (by simp))
          clear HF HT
          go_wp2_with fail
          go_region_held3 (fun w' => Two4 w' b b' (off + k * 4) (off' + k * 4) xk xn xt xr yk yn yt yr ∧ Below wr.heap.size wr w')
            (first | (exact ⟨⟨⟨p0, p1, p2, p3⟩, ⟨q0, q1, q2, q3⟩⟩, (Below.refl _ _).drew⟩) | (go_split_ands; exact two4_keep HG.out HG'.out ⟨⟨⟨by assumption, by assumption, by assumption, by assumption⟩, ⟨by assumption, by assumption, by assumption, by assumption⟩⟩, by assumption⟩ hb) | go_keep)
            (fail)
          go_wp2_with fail
          go_split_ands
          go_ret
          exact ⟨by rw [HF1.out]; rfl, HW.out.trans (Below.mono (by assumption) HW.out.size)⟩
        cases z3
        · have HF1 := Lib.hid (HF.out (by simp))
          clear HF HT
          go_wp2_with fail
          go_region_held3 (fun w' => Two4 w' b b' (off + k * 4) (off' + k * 4) xk xn xt xr yk yn yt yr ∧ Below wr.heap.size wr w')
            (first | (exact ⟨⟨⟨p0, p1, p2, p3⟩, ⟨q0, q1, q2, q3⟩⟩, (Below.refl _ _).drew⟩) | (go_split_ands; exact two4_keep HG.out HG'.out ⟨⟨⟨by assumption, by assumption, by assumption, by assumption⟩, ⟨by assumption, by assumption, by assumption, by assumption⟩⟩, by assumption⟩ hb) | go_keep)
            (fail)
          go_wp2_with fail
          go_split_ands
          go_ret
          exact ⟨by rw [HF1.out]; rfl, HW.out.trans (Below.mono (by assumption) HW.out.size)⟩
        cases z4
        · have HF1 := Lib.hid (HF.out (by simp))
          clear HF HT
          go_wp2_with fail
          go_region_held3 (fun w' => Two4 w' b b' (off + k * 4) (off' + k * 4) xk xn xt xr yk yn yt yr ∧ Below wr.heap.size wr w')
            (first | (exact ⟨⟨⟨p0, p1, p2, p3⟩, ⟨q0, q1, q2, q3⟩⟩, (Below.refl _ _).drew⟩) | (go_split_ands; exact two4_keep HG.out HG'.out ⟨⟨⟨by assumption, by assumption, by assumption, by assumption⟩, ⟨by assumption, by assumption, by assumption, by assumption⟩⟩, by assumption⟩ hb) | go_keep)
            (fail)
          go_wp2_with fail
          go_split_ands
          go_ret
          exact ⟨by rw [HF1.out]; rfl, HW.out.trans (Below.mono (by assumption) HW.out.size)⟩
        have HT1 := Lib.hid (HT.out (by simp))
        clear HF HT
        go_wp2_with fail
        go_region_held3 (fun w' => Two4 w' b b' (off + k * 4) (off' + k * 4) xk xn xt xr yk yn yt yr ∧ Below wr.heap.size wr w')
          (first | (exact ⟨⟨⟨p0, p1, p2, p3⟩, ⟨q0, q1, q2, q3⟩⟩, (Below.refl _ _).drew⟩) | (go_split_ands; exact two4_keep HG.out HG'.out ⟨⟨⟨by assumption, by assumption, by assumption, by assumption⟩, ⟨by assumption, by assumption, by assumption, by assumption⟩⟩, by assumption⟩ hb) | go_keep)
          (fail)
        go_wp2_with fail
        go_split_ands
        go_roundw
        case rel => exact ⟨k + 1, by omega, by go_num, HW.out.trans (Below.mono (by assumption) HW.out.size), HT1⟩
        case measure => simp [intOf]; omega
      · have hkn : k = n := by omega
        have HT : Hid (P = true) := by
          show _ = _
          rw [← HP.out]
          refine tt_true (List.ext_getElem? fun j => ?_)
          by_cases e : j < n
          · exact HV.out j (by omega)
          · rw [List.getElem?_eq_none (by have := HN.out; omega), List.getElem?_eq_none (by have := HN'.out; omega)]
        go_wp2_with fail
        go_ret
        exact ⟨by rw [HT.out]; rfl, HW.out⟩
  · have HF : Hid (P = false) := by
      show _ = _
      rw [← HP.out]
      exact tt_false fun e => hl (by rw [← HN.out, ← HN'.out, e])
    have hne : ¬ (n : Int) = (n' : Int) := by omega
    go_enter Try.func22, Try.ntmps22
    go_wp2_with fail
    go_ret
    exact ⟨by rw [HF.out]; rfl, Below.refl _ _⟩

set_option maxHeartbeats 2000000 in
set_option maxRecDepth 100000 in
theorem slicesEqual_any (A A' : Option Addr) (n n' c c' : Nat) (xs ys : List Vl) (W : World) (ha : VI W W.heap.size A n xs) (hb : VI W W.heap.size A' n' ys) :
    Calls Try.prog 18 #[.slice A n c, .slice A' n' c'] W fun e w' => e = .returned (.bool (tt (xs = ys))) ∧ Below W.heap.size W w' := by
  have HA := Lib.hid ha
  have HB := Lib.hid hb
  have hn := ha.2.1
  have hn' := hb.2.1
  have HN := Lib.hid ha.1
  have HN' := Lib.hid hb.1
  unfold maxLen at hn hn'
  clear ha hb
  obtain ⟨P, hP⟩ : ∃ P, tt (xs = ys) = P := ⟨_, rfl⟩
  have HP := Lib.hid hP
  rw [hP]
  clear hP
  by_cases hl : n = n'
  · subst hl
    go_enter Try.func18, Try.ntmps18
    go_wp2_with fail
    go_loopw [13] (fun i wr => ∃ k : Nat, k ≤ n ∧ i = .int .i64 k ∧ Hid (Below W.heap.size W wr) ∧ Hid (∀ (j : Nat), j < k → xs[j]? = ys[j]?)) (fun i _ => n - (intOf i).toNat)
    case atStart => exact ⟨0, Nat.zero_le _, rfl, Below.refl _ _, fun j hj => absurd hj (by omega)⟩
    case round =>
      obtain ⟨k, hk, rfl, HW, HV⟩ := hrel
      by_cases hlt : k < n
      · have b0 : (0 : Int) ≤ (k : Int) := by omega
        have b1 : (k : Int) < (n : Int) := by omega
        obtain ⟨b, off, x, rfl, hg, hx, h1, _⟩ := HA.out.at_ hlt
        obtain ⟨b', off', y, rfl, hg', hy, h2, _⟩ := HB.out.at_ hlt
        obtain ⟨p0, p1, p2, p3⟩ := h1.below HW.out hg
        obtain ⟨q0, q1, q2, q3⟩ := h2.below HW.out hg'
        have HX := Lib.hid hx
        have HY := Lib.hid hy
        obtain ⟨xk, xn, xt, xr⟩ := x
        obtain ⟨yk, yn, yt, yr⟩ := y
        dsimp only at p0 p1 p2 p3 q0 q1 q2 q3
        have HS := Lib.hid (sameV_iff ⟨xk, xn, xt, xr⟩ ⟨yk, yn, yt, yr⟩)
        have HG : Hid (b < wr.heap.size) := Nat.lt_of_lt_of_le hg HW.out.size
        have HG' : Hid (b' < wr.heap.size) := Nat.lt_of_lt_of_le hg' HW.out.size
        clear hx hy h1 h2 hg hg'
        have HF : Hid (sameV xk xn xt xr yk yn yt yr = false → P = false) := by
          show _ → _
          intro h
          rw [← HP.out]
          refine tt_false fun e => ?_
          have e2 : some (⟨xk, xn, xt, xr⟩ : Vl) = some ⟨yk, yn, yt, yr⟩ := by rw [← HX.out, ← HY.out, e]
          rw [HS.out.2 (Option.some.inj e2)] at h
          cases h
        have HT : Hid (sameV xk xn xt xr yk yn yt yr = true → ∀ (j : Nat), j < k + 1 → xs[j]? = ys[j]?) := by
          show _ → _
          intro h j hj
          by_cases e : j = k
          · rw [e, HX.out, HY.out, HS.out.1 h]
          · exact HV.out j (by omega)
        unfold sameV at HF HT
        clear HS HX HY
        obtain ⟨z1, h1⟩ : ∃ z, (xk == yk) = z := ⟨_, rfl⟩
        obtain ⟨z2, h2⟩ : ∃ z, (xn == yn) = z := ⟨_, rfl⟩
        obtain ⟨z3, h3⟩ : ∃ z, (xt.toList == yt.toList) = z := ⟨_, rfl⟩
        obtain ⟨z4, h4⟩ : ∃ z, (xr == yr) = z := ⟨_, rfl⟩
        rw [h1, h2, h3, h4] at HF HT
        cases z1
        · have HF1 := Lib.hid (HF.out (by simp))
          clear HF HT
          go_wp2_with fail
          go_region_held3 (fun w' => Two4 w' b b' (off + k * 4) (off' + k * 4) xk xn xt xr yk yn yt yr ∧ Below wr.heap.size wr w')
            (first | (exact ⟨⟨⟨p0, p1, p2, p3⟩, ⟨q0, q1, q2, q3⟩⟩, (Below.refl _ _).drew⟩) | (go_split_ands; exact two4_keep HG.out HG'.out ⟨⟨⟨by assumption, by assumption, by assumption, by assumption⟩, ⟨by assumption, by assumption, by assumption, by assumption⟩⟩, by assumption⟩ hb) | go_keep)
            (fail)
          go_wp2_with fail
          go_split_ands
          go_ret
          exact ⟨by rw [HF1.out]; rfl, HW.out.trans (Below.mono (by assumption) HW.out.size)⟩
        cases z2
        · have HF1 := Lib.hid (HF.out (by simp))
          clear HF HT
          go_wp2_with fail
          go_region_held3 (fun w' => Two4 w' b b' (off + k * 4) (off' + k * 4) xk xn xt xr yk yn yt yr ∧ Below wr.heap.size wr w')
            (first | (exact ⟨⟨⟨p0, p1, p2, p3⟩, ⟨q0, q1, q2, q3⟩⟩, (Below.refl _ _).drew⟩) | (go_split_ands; exact two4_keep HG.out HG'.out ⟨⟨⟨by assumption, by assumption, by assumption, by assumption⟩, ⟨by assumption, by assumption, by assumption, by assumption⟩⟩, by assumption⟩ hb) | go_keep)
            (fail)
          go_wp2_with fail
          go_split_ands
          go_ret
          exact ⟨by rw [HF1.out]; rfl, HW.out.trans (Below.mono (by assumption) HW.out.size)⟩
        cases z3
        · have HF1 := Lib.hid (HF.out (by simp))
          clear HF HT
          go_wp2_with fail
          go_region_held3 (fun w' => Two4 w' b b' (off + k * 4) (off' + k * 4) xk xn xt xr yk yn yt yr ∧ Below wr.heap.size wr w')
            (first | (exact ⟨⟨⟨p0, p1, p2, p3⟩, ⟨q0, q1, q2, q3⟩⟩, (Below.refl _ _).drew⟩) | (go_split_ands; exact two4_keep HG.out HG'.out ⟨⟨⟨by assumption, by assumption, by assumption, by assumption⟩, ⟨by assumption, by assumption, by assumption, by assumption⟩⟩, by assumption⟩ hb) | go_keep)
            (fail)
          go_wp2_with fail
          go_split_ands
          go_ret
          exact ⟨by rw [HF1.out]; rfl, HW.out.trans (Below.mono (by assumption) HW.out.size)⟩
        cases z4
        · have HF1 := Lib.hid (HF.out (by simp))
          clear HF HT
          go_wp2_with fail
          go_region_held3 (fun w' => Two4 w' b b' (off + k * 4) (off' + k * 4) xk xn xt xr yk yn yt yr ∧ Below wr.heap.size wr w')
            (first | (exact ⟨⟨⟨p0, p1, p2, p3⟩, ⟨q0, q1, q2, q3⟩⟩, (Below.refl _ _).drew⟩) | (go_split_ands; exact two4_keep HG.out HG'.out ⟨⟨⟨by assumption, by assumption, by assumption, by assumption⟩, ⟨by assumption, by assumption, by assumption, by assumption⟩⟩, by assumption⟩ hb) | go_keep)
            (fail)
          go_wp2_with fail
          go_split_ands
          go_ret
          exact ⟨by rw [HF1.out]; rfl, HW.out.trans (Below.mono (by assumption) HW.out.size)⟩
        have HT1 := Lib.hid (HT.out (by simp))
        clear HF HT
        go_wp2_with fail
        go_region_held3 (fun w' => Two4 w' b b' (off + k * 4) (off' + k * 4) xk xn xt xr yk yn yt yr ∧ Below wr.heap.size wr w')
          (first | (exact ⟨⟨⟨p0, p1, p2, p3⟩, ⟨q0, q1, q2, q3⟩⟩, (Below.refl _ _).drew⟩) | (go_split_ands; exact two4_keep HG.out HG'.out ⟨⟨⟨by assumption, by assumption, by assumption, by assumption⟩, ⟨by assumption, by assumption, by assumption, by assumption⟩⟩, by assumption⟩ hb) | go_keep)
          (fail)
        go_wp2_with fail
        go_split_ands
        go_roundw
        case rel => exact ⟨k + 1, by omega, by go_num, HW.out.trans (Below.mono (by assumption) HW.out.size), HT1⟩
        case measure => simp [intOf]; omega
      · have hkn : k = n := by omega
        have HT : Hid (P = true) := by
          show _ = _
          rw [← HP.out]
          refine tt_true (List.ext_getElem? fun j => ?_)
          by_cases e : j < n
          · exact HV.out j (by omega)
          · rw [List.getElem?_eq_none (by have := HN.out; omega), List.getElem?_eq_none (by have := HN'.out; omega)]
        go_wp2_with fail
        go_ret
        exact ⟨by rw [HT.out]; rfl, HW.out⟩
  · have HF : Hid (P = false) := by
      show _ = _
      rw [← HP.out]
      exact tt_false fun e => hl (by rw [← HN.out, ← HN'.out, e])
    have hne : ¬ (n : Int) = (n' : Int) := by omega
    go_enter Try.func18, Try.ntmps18
    go_wp2_with fail
    go_ret
    exact ⟨by rw [HF.out]; rfl, Below.refl _ _⟩
end Go.Proofs.Ythbeaffjkjhphaa
