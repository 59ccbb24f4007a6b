/- Contracts: loop.example/g00873/spec.l18SameTexts, slices.Equal[[]string,string]: two slices of strings are the same. No condition. -/
import Derived.Test.YtjhemdgeafglhaaStsEq
namespace Go.Proofs.Ytjhemdgeafglhaa
open Go Go.RowKit

theorem sameSt_iff (x y : ByteArray) : (x.toList == y.toList) = true ↔ x = y := by
  rw [beq_iff_eq]
  exact ⟨fun h => WideShapes.bytes_inj (by rw [← ByteArray.toList_eq, ← ByteArray.toList_eq]; exact h), fun h => by rw [h]⟩

set_option maxHeartbeats 2000000 in
set_option maxRecDepth 100000 in
theorem l18SameTexts_any (A A' : Option Addr) (n n' c c' : Nat) (xs ys : List St) (W : World) (ha : StI W W.heap.size A n xs) (hb : StI W W.heap.size A' n' ys) :
    Calls Try.prog 45 #[.slice A n c, .slice A' n' c'] W fun e w' => e = .returned (.bool (tt (xs = ys))) ∧ Below W.heap.size W w' := by
  have HA := Lib.hid ha
  have HB := Lib.hid hb
  have hn := ha.2.1
  have hn' := hb.2.1
  have HN := Lib.hid ha.1
  have HN' := Lib.hid hb.1
  unfold maxLen at hn hn'
  clear ha hb
  obtain ⟨P, hP⟩ : ∃ P, tt (xs = ys) = P := ⟨_, rfl⟩
  have HP := Lib.hid hP
  rw [hP]
  clear hP
  by_cases hl : n = n'
  · subst hl
    go_enter Try.func45, Try.ntmps45
    go_wp2_with fail
    go_loopw [5] (fun i wr => ∃ k : Nat, k ≤ n ∧ i = .int .i64 k ∧ Hid (Below W.heap.size W wr) ∧ Hid (∀ (j : Nat), j < k → xs[j]? = ys[j]?)) (fun i _ => n - (intOf i).toNat)
    case atStart => exact ⟨0, Nat.zero_le _, rfl, Below.refl _ _, fun j hj => absurd hj (by omega)⟩
    case round =>
      obtain ⟨k, hk, rfl, HW, HV⟩ := hrel
      by_cases hlt : k < n
      · have b0 : (0 : Int) ≤ (k : Int) := by omega
        have b1 : (k : Int) < (n : Int) := by omega
        obtain ⟨b, off, x, rfl, hg, hx, h1, _⟩ := HA.out.at_ hlt
        obtain ⟨b', off', y, rfl, hg', hy, h2, _⟩ := HB.out.at_ hlt
        have q1 := (HW.out.cell (p := ⟨b, off + k, none⟩) hg).trans h1
        have q2 := (HW.out.cell (p := ⟨b', off' + k, none⟩) hg').trans h2
        have HX := Lib.hid hx
        have HY := Lib.hid hy
        have HS := Lib.hid (sameSt_iff x y)
        clear hx hy h1 h2 hg hg'
        obtain ⟨z, hz⟩ : ∃ z, (x.toList == y.toList) = z := ⟨_, rfl⟩
        have HZ := Lib.hid hz
        have HF : Hid (z = false → P = false) := by
          show _ → _
          intro h
          rw [← HP.out]
          refine tt_false fun e => ?_
          have e2 : some x = some y := by rw [← HX.out, ← HY.out, e]
          rw [← HZ.out, HS.out.2 (Option.some.inj e2)] at h
          cases h
        have HT : Hid (z = true → ∀ (j : Nat), j < k + 1 → xs[j]? = ys[j]?) := by
          show _ → _
          intro h j hj
          by_cases e : j = k
          · rw [e, HX.out, HY.out, HS.out.1 (by rw [HZ.out, h])]
          · exact HV.out j (by omega)
        clear HS HX HY HZ
        cases z
        · have HF1 := Lib.hid (HF.out rfl)
          clear HF HT
          go_wp2_with fail
          go_quiet (fail)
          go_wp2_with fail
          go_ret
          exact ⟨by rw [HF1.out]; rfl, below_drewN HW.out _⟩
        · have HT1 := Lib.hid (HT.out rfl)
          clear HF HT
          go_wp2_with fail
          go_quiet (fail)
          go_wp2_with fail
          go_roundw
          case rel => exact ⟨k + 1, by omega, by go_num, below_drewN HW.out _, HT1⟩
          case measure => simp [intOf]; omega
      · have hkn : k = n := by omega
        have HT : Hid (P = true) := by
          show _ = _
          rw [← HP.out]
          refine tt_true (List.ext_getElem? fun j => ?_)
          by_cases e : j < n
          · exact HV.out j (by omega)
          · rw [List.getElem?_eq_none (by have := HN.out; omega), List.getElem?_eq_none (by have := HN'.out; omega)]
        go_wp2_with fail
        go_ret
        exact ⟨by rw [HT.out]; rfl, HW.out⟩
  · have HF : Hid (P = false) := by
      show _ = _
      rw [← HP.out]
      exact tt_false fun e => hl (by rw [← HN.out, ← HN'.out, e])
    have hne : ¬ (n : Int) = (n' : Int) := by omega
    go_enter Try.func45, Try.ntmps45
    go_wp2_with fail
    go_ret
    exact ⟨by rw [HF.out]; rfl, Below.refl _ _⟩

set_option maxHeartbeats 2000000 in
set_option maxRecDepth 100000 in
theorem equalStrings_any (A A' : Option Addr) (n n' c c' : Nat) (xs ys : List St) (W : World) (ha : StI W W.heap.size A n xs) (hb : StI W W.heap.size A' n' ys) :
    Calls Try.prog 21 #[.slice A n c, .slice A' n' c'] W fun e w' => e = .returned (.bool (tt (xs = ys))) ∧ Below W.heap.size W w' := by
  have HA := Lib.hid ha
  have HB := Lib.hid hb
  have hn := ha.2.1
  have hn' := hb.2.1
  have HN := Lib.hid ha.1
  have HN' := Lib.hid hb.1
  unfold maxLen at hn hn'
  clear ha hb
  obtain ⟨P, hP⟩ : ∃ P, tt (xs = ys) = P := ⟨_, rfl⟩
  have HP := Lib.hid hP
  rw [hP]
  clear hP
  by_cases hl : n = n'
  · subst hl
    go_enter Try.func21, Try.ntmps21
    go_wp2_with fail
    go_loopw [13] (fun i wr => ∃ k : Nat, k ≤ n ∧ i = .int .i64 k ∧ Hid (Below W.heap.size W wr) ∧ Hid (∀ (j : Nat), j < k → xs[j]? = ys[j]?)) (fun i _ => n - (intOf i).toNat)
    case atStart => exact ⟨0, Nat.zero_le _, rfl, Below.refl _ _, fun j hj => absurd hj (by omega)⟩
    case round =>
      obtain ⟨k, hk, rfl, HW, HV⟩ := hrel
      by_cases hlt : k < n
      · have b0 : (0 : Int) ≤ (k : Int) := by omega
        have b1 : (k : Int) < (n : Int) := by omega
        obtain ⟨b, off, x, rfl, hg, hx, h1, _⟩ := HA.out.at_ hlt
        obtain ⟨b', off', y, rfl, hg', hy, h2, _⟩ := HB.out.at_ hlt
        have q1 := (HW.out.cell (p := ⟨b, off + k, none⟩) hg).trans h1
        have q2 := (HW.out.cell (p := ⟨b', off' + k, none⟩) hg').trans h2
        have HX := Lib.hid hx
        have HY := Lib.hid hy
        have HS := Lib.hid (sameSt_iff x y)
        clear hx hy h1 h2 hg hg'
        obtain ⟨z, hz⟩ : ∃ z, (x.toList == y.toList) = z := ⟨_, rfl⟩
        have HZ := Lib.hid hz
        have HF : Hid (z = false → P = false) := by
          show _ → _
          intro h
          rw [← HP.out]
          refine tt_false fun e => ?_
          have e2 : some x = some y := by rw [← HX.out, ← HY.out, e]
          rw [← HZ.out, HS.out.2 (Option.some.inj e2)] at h
          cases h
        have HT : Hid (z = true → ∀ (j : Nat), j < k + 1 → xs[j]? = ys[j]?) := by
          show _ → _
          intro h j hj
          by_cases e : j = k
          · rw [e, HX.out, HY.out, HS.out.1 (by rw [HZ.out, h])]
          · exact HV.out j (by omega)
        clear HS HX HY HZ
        cases z
        · have HF1 := Lib.hid (HF.out rfl)
          clear HF HT
          go_wp2_with fail
          go_quiet (fail)
          go_wp2_with fail
          go_ret
          exact ⟨by rw [HF1.out]; rfl, below_drewN HW.out _⟩
        · have HT1 := Lib.hid (HT.out rfl)
          clear HF HT
          go_wp2_with fail
          go_quiet (fail)
          go_wp2_with fail
          go_roundw
          case rel => exact ⟨k + 1, by omega, by go_num, below_drewN HW.out _, HT1⟩
          case measure => simp [intOf]; omega
      · have hkn : k = n := by omega
        have HT : Hid (P = true) := by
          show _ = _
          rw [← HP.out]
          refine tt_true (List.ext_getElem? fun j => ?_)
          by_cases e : j < n
          · exact HV.out j (by omega)
          · rw [List.getElem?_eq_none (by have := HN.out; omega), List.getElem?_eq_none (by have := HN'.out; omega)]
        go_wp2_with fail
        go_ret
        exact ⟨by rw [HT.out]; rfl, HW.out⟩
  · have HF : Hid (P = false) := by
      show _ = _
      rw [← HP.out]
      exact tt_false fun e => hl (by rw [← HN.out, ← HN'.out, e])
    have hne : ¬ (n : Int) = (n' : Int) := by omega
    go_enter Try.func21, Try.ntmps21
    go_wp2_with fail
    go_ret
    exact ⟨by rw [HF.out]; rfl, Below.refl _ _⟩

end Go.Proofs.Ytjhemdgeafglhaa
