/- Contracts: slices.EqualFunc[[]loop.example/g00873/impl.File,[]loop.example/g00873/impl.File,loop.example/g00873/impl.File,loop.example/g00873/impl.File]. No condition. -/
import Derived.Test.YtjhemdgeafglhaaFlsEq
import Derived.Test.YtjhemdgeafglhaaFlSame1
namespace Go.Proofs.Ytjhemdgeafglhaa
open Go Go.RowKit

set_option maxHeartbeats 4000000 in
set_option maxRecDepth 100000 in
theorem equalFuncFl_any (A A' : Option Addr) (n n' c c' : Nat) (xs ys : List Fl) (W : World) (ha : FlI W W.heap.size A n xs) (hb : FlI W W.heap.size A' n' ys) :
    Calls Try.prog 22 #[.slice A n c, .slice A' n' c', .func (.func 23) #[] #[]] W fun e w' => e = .returned (.bool (tt (xs = ys))) ∧ Below W.heap.size W w' := by
  have HA := Lib.hid ha
  have HB := Lib.hid hb
  have hn := ha.2.1
  have hn' := hb.2.1
  have HN := Lib.hid ha.1
  have HN' := Lib.hid hb.1
  unfold maxLen at hn hn'
  clear ha hb
  obtain ⟨P, hP⟩ : ∃ P, tt (xs = ys) = P := ⟨_, rfl⟩
  have HP := Lib.hid hP
  rw [hP]
  clear hP
  by_cases hl : n = n'
  · subst hl
    go_enter Try.func22, Try.ntmps22
    go_wp2_with fail
    go_loopw [17] (fun i wr => ∃ k : Nat, k ≤ n ∧ i = .int .i64 k ∧ Hid (Below W.heap.size W wr) ∧ Hid (∀ (j : Nat), j < k → xs[j]? = ys[j]?)) (fun i _ => n - (intOf i).toNat)
    case atStart => exact ⟨0, Nat.zero_le _, rfl, Below.refl _ _, fun j hj => absurd hj (by omega)⟩
    case round =>
      obtain ⟨k, hk, rfl, HW, HV⟩ := hrel
      by_cases hlt : k < n
      · have b0 : (0 : Int) ≤ (k : Int) := by omega
        have b1 : (k : Int) < (n : Int) := by omega
        obtain ⟨b, off, x, l, rfl, hg, hx, h1, hv1⟩ := (HA.out.go HW.out).at_ hlt
        obtain ⟨b', off', y, l', rfl, hg', hx', h2, hv2⟩ := (HB.out.go HW.out).at_ hlt
        have HX := Lib.hid hx
        have HX' := Lib.hid hx'
        obtain ⟨z, hz⟩ : ∃ z, tt (x = y) = z := ⟨_, rfl⟩
        have HZ := Lib.hid hz
        have HO := Lib.hid hv1
        have HO' := Lib.hid hv2
        obtain ⟨q0, q1, q2, q3⟩ := h1
        have a1 := fun (o : Obj) => (FlAt.below h2 (below_alloc wr o) hg')
        have HT2 := Lib.hid (two_new wr 62 (x.vs l).toArray (y.vs l').toArray)
        clear hx hx' hv1 hv2 hg hg' h2 hz
        have HF : Hid (z = false → P = false) := by
          show _ → _
          intro h
          rw [← HP.out]
          refine tt_false fun e => ?_
          have e2 : some x = some y := by rw [← HX.out, ← HX'.out, e]
          rw [h, Option.some.inj e2] at HZ
          have := HZ.out
          rw [tt_true rfl] at this
          cases this
        have HT : Hid (z = true → ∀ (j : Nat), j < k + 1 → xs[j]? = ys[j]?) := by
          show _ → _
          intro h j hj
          by_cases e : j = k
          · rw [h] at HZ
            rw [e, HX.out, HX'.out, of_tt HZ.out]
          · exact HV.out j (by omega)
        obtain ⟨p0, p1, p2, p3⟩ := a1 (.cells (x.vs l).toArray 62)
        clear a1
        unfold Fl.vs at p0 p1 p2 p3 HT2
        cases z
        · have HF1 := Lib.hid (HF.out rfl)
          clear HF HT
          go_wp2_with (go_at_call 23; obtain ⟨_, _, g2, _⟩ := HT2.out _ rfl; have HQ := sameFile_any x y l l' _ (HO.out.go g2) (HO'.out.go g2); refine Calls.mono HQ ?_; clear HQ; rintro e w1 ⟨rfl, hb⟩; rw [HZ.out]; have HW1 : Hid (Below W.heap.size W w1) := HW.out.trans ((g2.trans (hb.mono g2.size)).mono HW.out.size); clear g2 hb p0 p1 p2 p3 q0 q1 q2 q3)
          go_ret
          exact ⟨by rw [HF1.out]; rfl, HW1.out⟩
        · have HT1 := Lib.hid (HT.out rfl)
          clear HF HT
          go_wp2_with (go_at_call 23; obtain ⟨_, _, g2, _⟩ := HT2.out _ rfl; have HQ := sameFile_any x y l l' _ (HO.out.go g2) (HO'.out.go g2); refine Calls.mono HQ ?_; clear HQ; rintro e w1 ⟨rfl, hb⟩; rw [HZ.out]; have HW1 : Hid (Below W.heap.size W w1) := HW.out.trans ((g2.trans (hb.mono g2.size)).mono HW.out.size); clear g2 hb p0 p1 p2 p3 q0 q1 q2 q3)
          go_roundw
          case rel => exact ⟨k + 1, by omega, by go_num, HW1, HT1⟩
          case measure => simp [intOf]; omega
      · have hkn : k = n := by omega
        have HT : Hid (P = true) := by
          show _ = _
          rw [← HP.out]
          refine tt_true (List.ext_getElem? fun j => ?_)
          by_cases e : j < n
          · exact HV.out j (by omega)
          · rw [List.getElem?_eq_none (by have := HN.out; omega), List.getElem?_eq_none (by have := HN'.out; omega)]
        go_wp2_with fail
        go_ret
        exact ⟨by rw [HT.out]; rfl, HW.out⟩
  · have HF : Hid (P = false) := by
      show _ = _
      rw [← HP.out]
      exact tt_false fun e => hl (by rw [← HN.out, ← HN'.out, e])
    have hne : ¬ (n : Int) = (n' : Int) := by omega
    go_enter Try.func22, Try.ntmps22
    go_wp2_with fail
    go_ret
    exact ⟨by rw [HF.out]; rfl, Below.refl _ _⟩

end Go.Proofs.Ytjhemdgeafglhaa
