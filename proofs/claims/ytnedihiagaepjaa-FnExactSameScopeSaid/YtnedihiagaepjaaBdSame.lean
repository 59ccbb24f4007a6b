/- Contracts: loop.example/g00873/spec.l18SameBindings, slices.Equal[[]loop.example/g00873/impl.Binding,loop.example/g00873/impl.Binding]: two slices of Binding are the same. No condition. -/
import Derived.Test.YtnedihiagaepjaaBdsEq
namespace Go.Proofs.Ytnedihiagaepjaa
open Go Go.RowKit

/-- What '==' answers at two of them. -/
def sameBd (x0 : ByteArray) (x1 : Int) (x2 : Int) (x3 : ByteArray) (x4 : Int) (y0 : ByteArray) (y1 : Int) (y2 : Int) (y3 : ByteArray) (y4 : Int) : Bool := (x0.toList == y0.toList) && ((x1 == y1) && ((x2 == y2) && ((x3.toList == y3.toList) && ((x4 == y4)))))
theorem sameBd_iff (x y : Bd) : sameBd x.name_ x.kind_ x.num_ x.text_ x.ref_ y.name_ y.kind_ y.num_ y.text_ y.ref_ = true ↔ x = y := by
  obtain ⟨x0, x1, x2, x3, x4⟩ := x
  obtain ⟨y0, y1, y2, y3, y4⟩ := y
  unfold sameBd
  simp only [Bool.and_eq_true, beq_iff_eq, Bd.mk.injEq]
  constructor
  · rintro ⟨h0, h1, h2, h3, h4⟩
    exact ⟨WideShapes.bytes_inj (by rw [← ByteArray.toList_eq, ← ByteArray.toList_eq]; exact h0), h1, h2, WideShapes.bytes_inj (by rw [← ByteArray.toList_eq, ← ByteArray.toList_eq]; exact h3), h4⟩
  · rintro ⟨h0, h1, h2, h3, h4⟩
    exact ⟨by rw [h0], h1, h2, by rw [h3], h4⟩

set_option maxHeartbeats 2000000 in
set_option maxRecDepth 100000 in
theorem l18SameBindings_any (A A' : Option Addr) (n n' c c' : Nat) (xs ys : List Bd) (W : World) (ha : BdI W W.heap.size A n xs) (hb : BdI W W.heap.size A' n' ys) :
    Calls Try.prog 34 #[.slice A n c, .slice A' n' c'] W fun e w' => e = .returned (.bool (tt (xs = ys))) ∧ Below W.heap.size W w' := by
  have HA := Lib.hid ha
  have HB := Lib.hid hb
  have hn := ha.2.1
  have hn' := hb.2.1
  have HN := Lib.hid ha.1
  have HN' := Lib.hid hb.1
  unfold maxLen at hn hn'
  clear ha hb
  obtain ⟨P, hP⟩ : ∃ P, tt (xs = ys) = P := ⟨_, rfl⟩
  have HP := Lib.hid hP
  rw [hP]
  clear hP
  by_cases hl : n = n'
  · subst hl
    go_enter Try.func34, Try.ntmps34
    go_wp2_with fail
    go_loopw [5] (fun i wr => ∃ k : Nat, k ≤ n ∧ i = .int .i64 k ∧ Hid (Below W.heap.size W wr) ∧ Hid (∀ (j : Nat), j < k → xs[j]? = ys[j]?)) (fun i _ => n - (intOf i).toNat)
    case atStart => exact ⟨0, Nat.zero_le _, rfl, Below.refl _ _, fun j hj => absurd hj (by omega)⟩
    case round =>
      obtain ⟨k, hk, rfl, HW, HV⟩ := hrel
      by_cases hlt : k < n
      · have b0 : (0 : Int) ≤ (k : Int) := by omega
        have b1 : (k : Int) < (n : Int) := by omega
        obtain ⟨b, off, x, rfl, hg, hx, h1, _⟩ := HA.out.at_ hlt
        obtain ⟨b', off', y, rfl, hg', hy, h2, _⟩ := HB.out.at_ hlt
        obtain ⟨p0, p1, p2, p3, p4⟩ := h1.below HW.out hg
        obtain ⟨q0, q1, q2, q3, q4⟩ := h2.below HW.out hg'
        have HX := Lib.hid hx
        have HY := Lib.hid hy
        obtain ⟨x0, x1, x2, x3, x4⟩ := x
        obtain ⟨y0, y1, y2, y3, y4⟩ := y
        dsimp only at p0 p1 p2 p3 p4 q0 q1 q2 q3 q4
        have HS := Lib.hid (sameBd_iff ⟨x0, x1, x2, x3, x4⟩ ⟨y0, y1, y2, y3, y4⟩)
        have HG : Hid (b < wr.heap.size) := Nat.lt_of_lt_of_le hg HW.out.size
        have HG' : Hid (b' < wr.heap.size) := Nat.lt_of_lt_of_le hg' HW.out.size
        clear hx hy h1 h2 hg hg'
        have HF : Hid (sameBd x0 x1 x2 x3 x4 y0 y1 y2 y3 y4 = false → P = false) := by
          show _ → _
          intro h
          rw [← HP.out]
          refine tt_false fun e => ?_
          have e2 : some (⟨x0, x1, x2, x3, x4⟩ : Bd) = some ⟨y0, y1, y2, y3, y4⟩ := by rw [← HX.out, ← HY.out, e]
          rw [HS.out.2 (Option.some.inj e2)] at h
          cases h
        have HT : Hid (sameBd x0 x1 x2 x3 x4 y0 y1 y2 y3 y4 = true → ∀ (j : Nat), j < k + 1 → xs[j]? = ys[j]?) := by
          show _ → _
          intro h j hj
          by_cases e : j = k
          · rw [e, HX.out, HY.out, HS.out.1 h]
          · exact HV.out j (by omega)
        unfold sameBd at HF HT
        clear HS HX HY
        obtain ⟨z0, h0⟩ : ∃ z, (x0.toList == y0.toList) = z := ⟨_, rfl⟩
        obtain ⟨z1, h1⟩ : ∃ z, (x1 == y1) = z := ⟨_, rfl⟩
        obtain ⟨z2, h2⟩ : ∃ z, (x2 == y2) = z := ⟨_, rfl⟩
        obtain ⟨z3, h3⟩ : ∃ z, (x3.toList == y3.toList) = z := ⟨_, rfl⟩
        obtain ⟨z4, h4⟩ : ∃ z, (x4 == y4) = z := ⟨_, rfl⟩
        rw [h0, h1, h2, h3, h4] at HF HT
        cases z0
        · have HF1 := Lib.hid (HF.out (by simp))
          clear HF HT
          go_wp2_with fail
          go_region_held3 (fun w' => TwoBd w' b b' (off + k * 5) (off' + k * 5) x0 x1 x2 x3 x4 y0 y1 y2 y3 y4 ∧ Below wr.heap.size wr w')
            (first | (exact ⟨⟨⟨p0, p1, p2, p3, p4⟩, ⟨q0, q1, q2, q3, q4⟩⟩, (Below.refl _ _).drew⟩) | (go_split_ands; exact twoBd_keep HG.out HG'.out ⟨⟨⟨by assumption, by assumption, by assumption, by assumption, by assumption⟩, ⟨by assumption, by assumption, by assumption, by assumption, by assumption⟩⟩, by assumption⟩ hb) | go_keep)
            (fail)
          go_wp2_with fail
          go_split_ands
          go_ret
          exact ⟨by rw [HF1.out]; rfl, HW.out.trans (Below.mono (by assumption) HW.out.size)⟩
        cases z1
        · have HF1 := Lib.hid (HF.out (by simp))
          clear HF HT
          go_wp2_with fail
          go_region_held3 (fun w' => TwoBd w' b b' (off + k * 5) (off' + k * 5) x0 x1 x2 x3 x4 y0 y1 y2 y3 y4 ∧ Below wr.heap.size wr w')
            (first | (exact ⟨⟨⟨p0, p1, p2, p3, p4⟩, ⟨q0, q1, q2, q3, q4⟩⟩, (Below.refl _ _).drew⟩) | (go_split_ands; exact twoBd_keep HG.out HG'.out ⟨⟨⟨by assumption, by assumption, by assumption, by assumption, by assumption⟩, ⟨by assumption, by assumption, by assumption, by assumption, by assumption⟩⟩, by assumption⟩ hb) | go_keep)
            (fail)
          go_wp2_with fail
          go_split_ands
          go_ret
          exact ⟨by rw [HF1.out]; rfl, HW.out.trans (Below.mono (by assumption) HW.out.size)⟩
        cases z2
        · have HF1 := Lib.hid (HF.out (by simp))
          clear HF HT
          go_wp2_with fail
          go_region_held3 (fun w' => TwoBd w' b b' (off + k * 5) (off' + k * 5) x0 x1 x2 x3 x4 y0 y1 y2 y3 y4 ∧ Below wr.heap.size wr w')
            (first | (exact ⟨⟨⟨p0, p1, p2, p3, p4⟩, ⟨q0, q1, q2, q3, q4⟩⟩, (Below.refl _ _).drew⟩) | (go_split_ands; exact twoBd_keep HG.out HG'.out ⟨⟨⟨by assumption, by assumption, by assumption, by assumption, by assumption⟩, ⟨by assumption, by assumption, by assumption, by assumption, by assumption⟩⟩, by assumption⟩ hb) | go_keep)
            (fail)
          go_wp2_with fail
          go_split_ands
          go_ret
          exact ⟨by rw [HF1.out]; rfl, HW.out.trans (Below.mono (by assumption) HW.out.size)⟩
        cases z3
        · have HF1 := Lib.hid (HF.out (by simp))
          clear HF HT
          go_wp2_with fail
          go_region_held3 (fun w' => TwoBd w' b b' (off + k * 5) (off' + k * 5) x0 x1 x2 x3 x4 y0 y1 y2 y3 y4 ∧ Below wr.heap.size wr w')
            (first | (exact ⟨⟨⟨p0, p1, p2, p3, p4⟩, ⟨q0, q1, q2, q3, q4⟩⟩, (Below.refl _ _).drew⟩) | (go_split_ands; exact twoBd_keep HG.out HG'.out ⟨⟨⟨by assumption, by assumption, by assumption, by assumption, by assumption⟩, ⟨by assumption, by assumption, by assumption, by assumption, by assumption⟩⟩, by assumption⟩ hb) | go_keep)
            (fail)
          go_wp2_with fail
          go_split_ands
          go_ret
          exact ⟨by rw [HF1.out]; rfl, HW.out.trans (Below.mono (by assumption) HW.out.size)⟩
        cases z4
        · have HF1 := Lib.hid (HF.out (by simp))
          clear HF HT
          go_wp2_with fail
          go_region_held3 (fun w' => TwoBd w' b b' (off + k * 5) (off' + k * 5) x0 x1 x2 x3 x4 y0 y1 y2 y3 y4 ∧ Below wr.heap.size wr w')
            (first | (exact ⟨⟨⟨p0, p1, p2, p3, p4⟩, ⟨q0, q1, q2, q3, q4⟩⟩, (Below.refl _ _).drew⟩) | (go_split_ands; exact twoBd_keep HG.out HG'.out ⟨⟨⟨by assumption, by assumption, by assumption, by assumption, by assumption⟩, ⟨by assumption, by assumption, by assumption, by assumption, by assumption⟩⟩, by assumption⟩ hb) | go_keep)
            (fail)
          go_wp2_with fail
          go_split_ands
          go_ret
          exact ⟨by rw [HF1.out]; rfl, HW.out.trans (Below.mono (by assumption) HW.out.size)⟩
        have HT1 := Lib.hid (HT.out (by simp))
        clear HF HT
        go_wp2_with fail
        go_region_held3 (fun w' => TwoBd w' b b' (off + k * 5) (off' + k * 5) x0 x1 x2 x3 x4 y0 y1 y2 y3 y4 ∧ Below wr.heap.size wr w')
          (first | (exact ⟨⟨⟨p0, p1, p2, p3, p4⟩, ⟨q0, q1, q2, q3, q4⟩⟩, (Below.refl _ _).drew⟩) | (go_split_ands; exact twoBd_keep HG.out HG'.out ⟨⟨⟨by assumption, by assumption, by assumption, by assumption, by assumption⟩, ⟨by assumption, by assumption, by assumption, by assumption, by assumption⟩⟩, by assumption⟩ hb) | go_keep)
          (fail)
        go_wp2_with fail
        go_split_ands
        go_roundw
        case rel => exact ⟨k + 1, by omega, by go_num, HW.out.trans (Below.mono (by assumption) HW.out.size), HT1⟩
        case measure => simp [intOf]; omega
      · have hkn : k = n := by omega
        have HT : Hid (P = true) := by
          show _ = _
          rw [← HP.out]
          refine tt_true (List.ext_getElem? fun j => ?_)
          by_cases e : j < n
          · exact HV.out j (by omega)
          · rw [List.getElem?_eq_none (by have := HN.out; omega), List.getElem?_eq_none (by have := HN'.out; omega)]
        go_wp2_with fail
        go_ret
        exact ⟨by rw [HT.out]; rfl, HW.out⟩
  · have HF : Hid (P = false) := by
      show _ = _
      rw [← HP.out]
      exact tt_false fun e => hl (by rw [← HN.out, ← HN'.out, e])
    have hne : ¬ (n : Int) = (n' : Int) := by omega
    go_enter Try.func34, Try.ntmps34
    go_wp2_with fail
    go_ret
    exact ⟨by rw [HF.out]; rfl, Below.refl _ _⟩

set_option maxHeartbeats 2000000 in
set_option maxRecDepth 100000 in
theorem equalBindings_any (A A' : Option Addr) (n n' c c' : Nat) (xs ys : List Bd) (W : World) (ha : BdI W W.heap.size A n xs) (hb : BdI W W.heap.size A' n' ys) :
    Calls Try.prog 39 #[.slice A n c, .slice A' n' c'] W fun e w' => e = .returned (.bool (tt (xs = ys))) ∧ Below W.heap.size W w' := by
  have HA := Lib.hid ha
  have HB := Lib.hid hb
  have hn := ha.2.1
  have hn' := hb.2.1
  have HN := Lib.hid ha.1
  have HN' := Lib.hid hb.1
  unfold maxLen at hn hn'
  clear ha hb
  obtain ⟨P, hP⟩ : ∃ P, tt (xs = ys) = P := ⟨_, rfl⟩
  have HP := Lib.hid hP
  rw [hP]
  clear hP
  by_cases hl : n = n'
  · subst hl
    go_enter Try.func39, Try.ntmps39
    go_wp2_with fail
    go_loopw [13] (fun i wr => ∃ k : Nat, k ≤ n ∧ i = .int .i64 k ∧ Hid (Below W.heap.size W wr) ∧ Hid (∀ (j : Nat), j < k → xs[j]? = ys[j]?)) (fun i _ => n - (intOf i).toNat)
    case atStart => exact ⟨0, Nat.zero_le _, rfl, Below.refl _ _, fun j hj => absurd hj (by omega)⟩
    case round =>
      obtain ⟨k, hk, rfl, HW, HV⟩ := hrel
      by_cases hlt : k < n
      · have b0 : (0 : Int) ≤ (k : Int) := by omega
        have b1 : (k : Int) < (n : Int) := by omega
        obtain ⟨b, off, x, rfl, hg, hx, h1, _⟩ := HA.out.at_ hlt
        obtain ⟨b', off', y, rfl, hg', hy, h2, _⟩ := HB.out.at_ hlt
        obtain ⟨p0, p1, p2, p3, p4⟩ := h1.below HW.out hg
        obtain ⟨q0, q1, q2, q3, q4⟩ := h2.below HW.out hg'
        have HX := Lib.hid hx
        have HY := Lib.hid hy
        obtain ⟨x0, x1, x2, x3, x4⟩ := x
        obtain ⟨y0, y1, y2, y3, y4⟩ := y
        dsimp only at p0 p1 p2 p3 p4 q0 q1 q2 q3 q4
        have HS := Lib.hid (sameBd_iff ⟨x0, x1, x2, x3, x4⟩ ⟨y0, y1, y2, y3, y4⟩)
        have HG : Hid (b < wr.heap.size) := Nat.lt_of_lt_of_le hg HW.out.size
        have HG' : Hid (b' < wr.heap.size) := Nat.lt_of_lt_of_le hg' HW.out.size
        clear hx hy h1 h2 hg hg'
        have HF : Hid (sameBd x0 x1 x2 x3 x4 y0 y1 y2 y3 y4 = false → P = false) := by
          show _ → _
          intro h
          rw [← HP.out]
          refine tt_false fun e => ?_
          have e2 : some (⟨x0, x1, x2, x3, x4⟩ : Bd) = some ⟨y0, y1, y2, y3, y4⟩ := by rw [← HX.out, ← HY.out, e]
          rw [HS.out.2 (Option.some.inj e2)] at h
          cases h
        have HT : Hid (sameBd x0 x1 x2 x3 x4 y0 y1 y2 y3 y4 = true → ∀ (j : Nat), j < k + 1 → xs[j]? = ys[j]?) := by
          show _ → _
          intro h j hj
          by_cases e : j = k
          · rw [e, HX.out, HY.out, HS.out.1 h]
          · exact HV.out j (by omega)
        unfold sameBd at HF HT
        clear HS HX HY
        obtain ⟨z0, h0⟩ : ∃ z, (x0.toList == y0.toList) = z := ⟨_, rfl⟩
        obtain ⟨z1, h1⟩ : ∃ z, (x1 == y1) = z := ⟨_, rfl⟩
        obtain ⟨z2, h2⟩ : ∃ z, (x2 == y2) = z := ⟨_, rfl⟩
        obtain ⟨z3, h3⟩ : ∃ z, (x3.toList == y3.toList) = z := ⟨_, rfl⟩
        obtain ⟨z4, h4⟩ : ∃ z, (x4 == y4) = z := ⟨_, rfl⟩
        rw [h0, h1, h2, h3, h4] at HF HT
        cases z0
        · have HF1 := Lib.hid (HF.out (by simp))
          clear HF HT
          go_wp2_with fail
          go_region_held3 (fun w' => TwoBd w' b b' (off + k * 5) (off' + k * 5) x0 x1 x2 x3 x4 y0 y1 y2 y3 y4 ∧ Below wr.heap.size wr w')
            (first | (exact ⟨⟨⟨p0, p1, p2, p3, p4⟩, ⟨q0, q1, q2, q3, q4⟩⟩, (Below.refl _ _).drew⟩) | (go_split_ands; exact twoBd_keep HG.out HG'.out ⟨⟨⟨by assumption, by assumption, by assumption, by assumption, by assumption⟩, ⟨by assumption, by assumption, by assumption, by assumption, by assumption⟩⟩, by assumption⟩ hb) | go_keep)
            (fail)
          go_wp2_with fail
          go_split_ands
          go_ret
          exact ⟨by rw [HF1.out]; rfl, HW.out.trans (Below.mono (by assumption) HW.out.size)⟩
        cases z1
        · have HF1 := Lib.hid (HF.out (by simp))
          clear HF HT
          go_wp2_with fail
          go_region_held3 (fun w' => TwoBd w' b b' (off + k * 5) (off' + k * 5) x0 x1 x2 x3 x4 y0 y1 y2 y3 y4 ∧ Below wr.heap.size wr w')
            (first | (exact ⟨⟨⟨p0, p1, p2, p3, p4⟩, ⟨q0, q1, q2, q3, q4⟩⟩, (Below.refl _ _).drew⟩) | (go_split_ands; exact twoBd_keep HG.out HG'.out ⟨⟨⟨by assumption, by assumption, by assumption, by assumption, by assumption⟩, ⟨by assumption, by assumption, by assumption, by assumption, by assumption⟩⟩, by assumption⟩ hb) | go_keep)
            (fail)
          go_wp2_with fail
          go_split_ands
          go_ret
          exact ⟨by rw [HF1.out]; rfl, HW.out.trans (Below.mono (by assumption) HW.out.size)⟩
        cases z2
        · have HF1 := Lib.hid (HF.out (by simp))
          clear HF HT
          go_wp2_with fail
          go_region_held3 (fun w' => TwoBd w' b b' (off + k * 5) (off' + k * 5) x0 x1 x2 x3 x4 y0 y1 y2 y3 y4 ∧ Below wr.heap.size wr w')
            (first | (exact ⟨⟨⟨p0, p1, p2, p3, p4⟩, ⟨q0, q1, q2, q3, q4⟩⟩, (Below.refl _ _).drew⟩) | (go_split_ands; exact twoBd_keep HG.out HG'.out ⟨⟨⟨by assumption, by assumption, by assumption, by assumption, by assumption⟩, ⟨by assumption, by assumption, by assumption, by assumption, by assumption⟩⟩, by assumption⟩ hb) | go_keep)
            (fail)
          go_wp2_with fail
          go_split_ands
          go_ret
          exact ⟨by rw [HF1.out]; rfl, HW.out.trans (Below.mono (by assumption) HW.out.size)⟩
        cases z3
        · have HF1 := Lib.hid (HF.out (by simp))
          clear HF HT
          go_wp2_with fail
          go_region_held3 (fun w' => TwoBd w' b b' (off + k * 5) (off' + k * 5) x0 x1 x2 x3 x4 y0 y1 y2 y3 y4 ∧ Below wr.heap.size wr w')
            (first | (exact ⟨⟨⟨p0, p1, p2, p3, p4⟩, ⟨q0, q1, q2, q3, q4⟩⟩, (Below.refl _ _).drew⟩) | (go_split_ands; exact twoBd_keep HG.out HG'.out ⟨⟨⟨by assumption, by assumption, by assumption, by assumption, by assumption⟩, ⟨by assumption, by assumption, by assumption, by assumption, by assumption⟩⟩, by assumption⟩ hb) | go_keep)
            (fail)
          go_wp2_with fail
          go_split_ands
          go_ret
          exact ⟨by rw [HF1.out]; rfl, HW.out.trans (Below.mono (by assumption) HW.out.size)⟩
        cases z4
        · have HF1 := Lib.hid (HF.out (by simp))
          clear HF HT
          go_wp2_with fail
          go_region_held3 (fun w' => TwoBd w' b b' (off + k * 5) (off' + k * 5) x0 x1 x2 x3 x4 y0 y1 y2 y3 y4 ∧ Below wr.heap.size wr w')
            (first | (exact ⟨⟨⟨p0, p1, p2, p3, p4⟩, ⟨q0, q1, q2, q3, q4⟩⟩, (Below.refl _ _).drew⟩) | (go_split_ands; exact twoBd_keep HG.out HG'.out ⟨⟨⟨by assumption, by assumption, by assumption, by assumption, by assumption⟩, ⟨by assumption, by assumption, by assumption, by assumption, by assumption⟩⟩, by assumption⟩ hb) | go_keep)
            (fail)
          go_wp2_with fail
          go_split_ands
          go_ret
          exact ⟨by rw [HF1.out]; rfl, HW.out.trans (Below.mono (by assumption) HW.out.size)⟩
        have HT1 := Lib.hid (HT.out (by simp))
        clear HF HT
        go_wp2_with fail
        go_region_held3 (fun w' => TwoBd w' b b' (off + k * 5) (off' + k * 5) x0 x1 x2 x3 x4 y0 y1 y2 y3 y4 ∧ Below wr.heap.size wr w')
          (first | (exact ⟨⟨⟨p0, p1, p2, p3, p4⟩, ⟨q0, q1, q2, q3, q4⟩⟩, (Below.refl _ _).drew⟩) | (go_split_ands; exact twoBd_keep HG.out HG'.out ⟨⟨⟨by assumption, by assumption, by assumption, by assumption, by assumption⟩, ⟨by assumption, by assumption, by assumption, by assumption, by assumption⟩⟩, by assumption⟩ hb) | go_keep)
          (fail)
        go_wp2_with fail
        go_split_ands
        go_roundw
        case rel => exact ⟨k + 1, by omega, by go_num, HW.out.trans (Below.mono (by assumption) HW.out.size), HT1⟩
        case measure => simp [intOf]; omega
      · have hkn : k = n := by omega
        have HT : Hid (P = true) := by
          show _ = _
          rw [← HP.out]
          refine tt_true (List.ext_getElem? fun j => ?_)
          by_cases e : j < n
          · exact HV.out j (by omega)
          · rw [List.getElem?_eq_none (by have := HN.out; omega), List.getElem?_eq_none (by have := HN'.out; omega)]
        go_wp2_with fail
        go_ret
        exact ⟨by rw [HT.out]; rfl, HW.out⟩
  · have HF : Hid (P = false) := by
      show _ = _
      rw [← HP.out]
      exact tt_false fun e => hl (by rw [← HN.out, ← HN'.out, e])
    have hne : ¬ (n : Int) = (n' : Int) := by omega
    go_enter Try.func39, Try.ntmps39
    go_wp2_with fail
    go_ret
    exact ⟨by rw [HF.out]; rfl, Below.refl _ _⟩

end Go.Proofs.Ytnedihiagaepjaa
