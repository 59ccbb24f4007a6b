/- Contracts: slices.EqualFunc[[]loop.example/g00873/impl.File,[]loop.example/g00873/impl.File,loop.example/g00873/impl.File,loop.example/g00873/impl.File]. No condition. Contract: loop.example/g00873/impl.SameConsole. No condition. Contracts: SameMemory of both. No condition. toHeap of the laws: its rows lie behind the call. No condition. toScope of the laws, by its own blocks. No condition. toConsole of the laws, by its own blocks. No condition. A row with some cells stored, as a list. Plain. toMemory of the laws. No condition. laws.eqMemory where both are the same. No condition. -/
import Derived.Test.YtjhemdgeafglhaaSameMemoryM3
import Derived.Test.YtjhemdgeafglhaaSameMemoryM5
import Derived.Test.YtjhemdgeafglhaaSameMemoryM4
import Derived.Test.YtjhemdgeafglhaaSameMemoryM1
import Derived.Maps.RangeWalk
import Derived.Deep.MidRow
namespace Go.Proofs.Ytjhemdgeafglhaa
open Go Go.RowKit

set_option maxHeartbeats 4000000 in
set_option maxRecDepth 100000 in
theorem equalFuncFl_any (A A' : Option Addr) (n n' c c' : Nat) (xs ys : List Fl) (W : World) (ha : FlI W W.heap.size A n xs) (hb : FlI W W.heap.size A' n' ys) :
    Calls Try.prog 22 #[.slice A n c, .slice A' n' c', .func (.func 23) #[] #[]] W fun e w' => e = .returned (.bool (tt (xs = ys))) ∧ Below W.heap.size W w' := by
  have HA := Lib.hid ha
  have HB := Lib.hid hb
  have hn := ha.2.1
  have hn' := hb.2.1
  have HN := Lib.hid ha.1
  have HN' := Lib.hid hb.1
  unfold maxLen at hn hn'
  clear ha hb
  obtain ⟨P, hP⟩ : ∃ P, tt (xs = ys) = P := ⟨_, rfl⟩
  have HP := Lib.hid hP
  rw [hP]
  clear hP
  by_cases hl : n = n'
  · subst hl
    go_enter Try.func22, Try.ntmps22
    go_wp2_with fail
    go_loopw [17] (fun i wr => ∃ k : Nat, k ≤ n ∧ i = .int .i64 k ∧ Hid (Below W.heap.size W wr) ∧ Hid (∀ (j : Nat), j < k → xs[j]? = ys[j]?)) (fun i _ => n - (intOf i).toNat)
    case atStart => exact ⟨0, Nat.zero_le _, rfl, Below.refl _ _, fun j hj => absurd hj (by omega)⟩
    case round =>
      obtain ⟨k, hk, rfl, HW, HV⟩ := hrel
      by_cases hlt : k < n
      · have b0 : (0 : Int) ≤ (k : Int) := by omega
        have b1 : (k : Int) < (n : Int) := by omega
        obtain ⟨b, off, x, l, rfl, hg, hx, h1, hv1⟩ := (HA.out.go HW.out).at_ hlt
        obtain ⟨b', off', y, l', rfl, hg', hx', h2, hv2⟩ := (HB.out.go HW.out).at_ hlt
        have HX := Lib.hid hx
        have HX' := Lib.hid hx'
        obtain ⟨z, hz⟩ : ∃ z, tt (x = y) = z := ⟨_, rfl⟩
        have HZ := Lib.hid hz
        have HO := Lib.hid hv1
        have HO' := Lib.hid hv2
        obtain ⟨q0, q1, q2, q3⟩ := h1
        have a1 := fun (o : Obj) => (FlAt.below h2 (below_alloc wr o) hg')
        have HT2 := Lib.hid (two_new wr 62 (x.vs l).toArray (y.vs l').toArray)
        clear hx hx' hv1 hv2 hg hg' h2 hz
        have HF : Hid (z = false → P = false) := by
          show _ → _
          intro h
          rw [← HP.out]
          refine tt_false fun e => ?_
          have e2 : some x = some y := by rw [← HX.out, ← HX'.out, e]
          rw [h, Option.some.inj e2] at HZ
          have := HZ.out
          rw [tt_true rfl] at this
          cases this
        have HT : Hid (z = true → ∀ (j : Nat), j < k + 1 → xs[j]? = ys[j]?) := by
          show _ → _
          intro h j hj
          by_cases e : j = k
          · rw [h] at HZ
            rw [e, HX.out, HX'.out, of_tt HZ.out]
          · exact HV.out j (by omega)
        obtain ⟨p0, p1, p2, p3⟩ := a1 (.cells (x.vs l).toArray 62)
        clear a1
        unfold Fl.vs at p0 p1 p2 p3 HT2
        cases z
        · have HF1 := Lib.hid (HF.out rfl)
          clear HF HT
          go_wp2_with (go_at_call 23; obtain ⟨_, _, g2, _⟩ := HT2.out _ rfl; have HQ := sameFile_any x y l l' _ (HO.out.go g2) (HO'.out.go g2); refine Calls.mono HQ ?_; clear HQ; rintro e w1 ⟨rfl, hb⟩; rw [HZ.out]; have HW1 : Hid (Below W.heap.size W w1) := HW.out.trans ((g2.trans (hb.mono g2.size)).mono HW.out.size); clear g2 hb p0 p1 p2 p3 q0 q1 q2 q3)
          go_ret
          exact ⟨by rw [HF1.out]; rfl, HW1.out⟩
        · have HT1 := Lib.hid (HT.out rfl)
          clear HF HT
          go_wp2_with (go_at_call 23; obtain ⟨_, _, g2, _⟩ := HT2.out _ rfl; have HQ := sameFile_any x y l l' _ (HO.out.go g2) (HO'.out.go g2); refine Calls.mono HQ ?_; clear HQ; rintro e w1 ⟨rfl, hb⟩; rw [HZ.out]; have HW1 : Hid (Below W.heap.size W w1) := HW.out.trans ((g2.trans (hb.mono g2.size)).mono HW.out.size); clear g2 hb p0 p1 p2 p3 q0 q1 q2 q3)
          go_roundw
          case rel => exact ⟨k + 1, by omega, by go_num, HW1, HT1⟩
          case measure => simp [intOf]; omega
      · have hkn : k = n := by omega
        have HT : Hid (P = true) := by
          show _ = _
          rw [← HP.out]
          refine tt_true (List.ext_getElem? fun j => ?_)
          by_cases e : j < n
          · exact HV.out j (by omega)
          · rw [List.getElem?_eq_none (by have := HN.out; omega), List.getElem?_eq_none (by have := HN'.out; omega)]
        go_wp2_with fail
        go_ret
        exact ⟨by rw [HT.out]; rfl, HW.out⟩
  · have HF : Hid (P = false) := by
      show _ = _
      rw [← HP.out]
      exact tt_false fun e => hl (by rw [← HN.out, ← HN'.out, e])
    have hne : ¬ (n : Int) = (n' : Int) := by omega
    go_enter Try.func22, Try.ntmps22
    go_wp2_with fail
    go_ret
    exact ⟨by rw [HF.out]; rfl, Below.refl _ _⟩

end Go.Proofs.Ytjhemdgeafglhaa

namespace Go.Proofs.Ytjhemdgeafglhaa
open Go Go.RowKit

theorem sameCn_bool_impl_SameConsole_any (x y : Cn) : tt (x = y) = (tt (x.input_ = y.input_) && ((x.at_ == y.at_) && (tt (x.output_ = y.output_) && (tt (x.files_ = y.files_) && (tt (x.trace_ = y.trace_)))))) := by
  rw [Bool.eq_iff_iff]
  simp only [Bool.and_eq_true, tt_iff, beq_iff_eq]
  obtain ⟨a0, a1, a2, a3, a4⟩ := x
  obtain ⟨b0, b1, b2, b3, b4⟩ := y
  simp only [Cn.mk.injEq]

set_option maxHeartbeats 4000000 in
set_option maxRecDepth 100000 in
theorem impl_SameConsole_any (x y : Cn) (l l' : CnLay) (W : World) (hx : CnV W W.heap.size x l) (hy : CnV W W.heap.size y l') :
    Calls Try.prog 8 #[x.ag l, y.ag l'] W fun e w' => e = .returned (.bool (tt (x = y))) ∧ Below W.heap.size W w' := by
  rw [sameCn_bool_impl_SameConsole_any]
  obtain ⟨x0, x1, x2, x3, x4⟩ := x
  obtain ⟨y0, y1, y2, y3, y4⟩ := y
  obtain ⟨A0, n0, c0, h0, A2, n2, c2, h2, A3, n3, c3, h3, A4, n4, c4, h4⟩ := l
  obtain ⟨A0', n0', c0', h0', A2', n2', c2', h2', A3', n3', c3', h3', A4', n4', c4', h4'⟩ := l'
  obtain ⟨k0, k2, k3, k4⟩ := hx
  obtain ⟨j0, j2, j3, j4⟩ := hy
  try unfold CnV at k0 j0 k2 j2 k3 j3 k4 j4
  dsimp only at k0 j0 k2 j2 k3 j3 k4 j4 ⊢
  have HK0 := Lib.hid k0
  have HJ0 := Lib.hid j0
  have HK2 := Lib.hid k2
  have HJ2 := Lib.hid j2
  have HK3 := Lib.hid k3
  have HJ3 := Lib.hid j3
  have HK4 := Lib.hid k4
  have HJ4 := Lib.hid j4
  clear k0 j0 k2 j2 k3 j3 k4 j4
  have HC := Lib.hid (two_new W 30 #[.slice A0 n0 c0, .int .i64 x1, .slice A2 n2 c2, .slice A3 n3 c3, .slice A4 n4 c4] #[.slice A0' n0' c0', .int .i64 y1, .slice A2' n2' c2', .slice A3' n3' c3', .slice A4' n4' c4'])
  obtain ⟨z0, hz0⟩ : ∃ z, tt (x0 = y0) = z := ⟨_, rfl⟩
  have HZ0 := Lib.hid hz0
  obtain ⟨z1, hz1⟩ : ∃ z, (x1 == y1) = z := ⟨_, rfl⟩
  obtain ⟨z2, hz2⟩ : ∃ z, tt (x2 = y2) = z := ⟨_, rfl⟩
  have HZ2 := Lib.hid hz2
  obtain ⟨z3, hz3⟩ : ∃ z, tt (x3 = y3) = z := ⟨_, rfl⟩
  have HZ3 := Lib.hid hz3
  obtain ⟨z4, hz4⟩ : ∃ z, tt (x4 = y4) = z := ⟨_, rfl⟩
  have HZ4 := Lib.hid hz4
  rw [hz0, hz1, hz2, hz3, hz4]
  clear hz0 hz2 hz3 hz4
  show Calls Try.prog 8 #[.agg #[.slice A0 n0 c0, .int .i64 x1, .slice A2 n2 c2, .slice A3 n3 c3, .slice A4 n4 c4], .agg #[.slice A0' n0' c0', .int .i64 y1, .slice A2' n2' c2', .slice A3' n3' c3', .slice A4' n4' c4']] W _
  cases z0
  · skip
    go_enter Try.func8, Try.ntmps8
    have tk1 : True := trivial
    go_wp2_with (go_at_call 21; have tk := tk1; obtain ⟨g0, g1, g2, g3⟩ := HC.out _ rfl; have HQ := equalStrings_any A0 A0' n0 n0' c0 c0' x0 y0 _ (HK0.out.go g2) (HJ0.out.go g2); refine Calls.mono HQ ?_; clear HQ; rintro e w1 ⟨rfl, hb⟩; rw [HZ0.out]; have HA1 := Lib.hid (g0.below hb (by omega)); have HD1 := Lib.hid (g1.below hb (by omega)); have HB1 := Lib.hid (g2.trans (hb.mono g2.size)); have HG1 : Hid (W.heap.size + 2 ≤ w1.heap.size) := (by have := hb.size; show _ ≤ _; omega); clear g0 g1 g2 g3 hb tk tk1)
    go_ret
    exact ⟨rfl, HB1.out⟩
  cases z1
  · skip
    go_enter Try.func8, Try.ntmps8
    have tk1 : True := trivial
    go_wp2_with (go_at_call 21; have tk := tk1; obtain ⟨g0, g1, g2, g3⟩ := HC.out _ rfl; have HQ := equalStrings_any A0 A0' n0 n0' c0 c0' x0 y0 _ (HK0.out.go g2) (HJ0.out.go g2); refine Calls.mono HQ ?_; clear HQ; rintro e w1 ⟨rfl, hb⟩; rw [HZ0.out]; have HA1 := Lib.hid (g0.below hb (by omega)); have HD1 := Lib.hid (g1.below hb (by omega)); have HB1 := Lib.hid (g2.trans (hb.mono g2.size)); have HG1 : Hid (W.heap.size + 2 ≤ w1.heap.size) := (by have := hb.size; show _ ≤ _; omega); have q11 : w1.cell? ⟨W.heap.size, 1, none⟩ = some (.int .i64 x1) := HA1.out.cell 1; have p11 : w1.cell? ⟨W.heap.size + 1, 1, none⟩ = some (.int .i64 y1) := HD1.out.cell 1; clear g0 g1 g2 g3 hb tk tk1)
    go_ret
    exact ⟨rfl, HB1.out⟩
  cases z2
  · skip
    go_enter Try.func8, Try.ntmps8
    have tk1 : True := trivial
    go_wp2_with (go_at_call 21; have tk := tk1; obtain ⟨g0, g1, g2, g3⟩ := HC.out _ rfl; have HQ := equalStrings_any A0 A0' n0 n0' c0 c0' x0 y0 _ (HK0.out.go g2) (HJ0.out.go g2); refine Calls.mono HQ ?_; clear HQ; rintro e w1 ⟨rfl, hb⟩; rw [HZ0.out]; have HA1 := Lib.hid (g0.below hb (by omega)); have HD1 := Lib.hid (g1.below hb (by omega)); have HB1 := Lib.hid (g2.trans (hb.mono g2.size)); have HG1 : Hid (W.heap.size + 2 ≤ w1.heap.size) := (by have := hb.size; show _ ≤ _; omega); have q11 : w1.cell? ⟨W.heap.size, 1, none⟩ = some (.int .i64 x1) := HA1.out.cell 1; have p11 : w1.cell? ⟨W.heap.size + 1, 1, none⟩ = some (.int .i64 y1) := HD1.out.cell 1; have q12 : w1.cell? ⟨W.heap.size, 2, none⟩ = some (.slice A2 n2 c2) := HA1.out.cell 2; have p12 : w1.cell? ⟨W.heap.size + 1, 2, none⟩ = some (.slice A2' n2' c2') := HD1.out.cell 2; clear g0 g1 g2 g3 hb tk tk1)
    have tk2 : True := trivial
    go_wp2_with (go_at_call 21; have tk := tk2; have HQ := equalStrings_any A2 A2' n2 n2' c2 c2' x2 y2 _ (HK2.out.go HB1.out) (HJ2.out.go HB1.out); refine Calls.mono HQ ?_; clear HQ; rintro e w2 ⟨rfl, hb⟩; rw [HZ2.out]; have hg := HG1.out; have HA2 := Lib.hid (HA1.out.below hb (by omega)); have HD2 := Lib.hid (HD1.out.below hb (by omega)); have HB2 := Lib.hid (HB1.out.trans (hb.mono HB1.out.size)); have HG2 : Hid (W.heap.size + 2 ≤ w2.heap.size) := (Nat.le_trans hg hb.size); clear hg hb tk tk2)
    go_ret
    exact ⟨rfl, HB2.out⟩
  cases z3
  · skip
    go_enter Try.func8, Try.ntmps8
    have tk1 : True := trivial
    go_wp2_with (go_at_call 21; have tk := tk1; obtain ⟨g0, g1, g2, g3⟩ := HC.out _ rfl; have HQ := equalStrings_any A0 A0' n0 n0' c0 c0' x0 y0 _ (HK0.out.go g2) (HJ0.out.go g2); refine Calls.mono HQ ?_; clear HQ; rintro e w1 ⟨rfl, hb⟩; rw [HZ0.out]; have HA1 := Lib.hid (g0.below hb (by omega)); have HD1 := Lib.hid (g1.below hb (by omega)); have HB1 := Lib.hid (g2.trans (hb.mono g2.size)); have HG1 : Hid (W.heap.size + 2 ≤ w1.heap.size) := (by have := hb.size; show _ ≤ _; omega); have q11 : w1.cell? ⟨W.heap.size, 1, none⟩ = some (.int .i64 x1) := HA1.out.cell 1; have p11 : w1.cell? ⟨W.heap.size + 1, 1, none⟩ = some (.int .i64 y1) := HD1.out.cell 1; have q12 : w1.cell? ⟨W.heap.size, 2, none⟩ = some (.slice A2 n2 c2) := HA1.out.cell 2; have p12 : w1.cell? ⟨W.heap.size + 1, 2, none⟩ = some (.slice A2' n2' c2') := HD1.out.cell 2; clear g0 g1 g2 g3 hb tk tk1)
    have tk2 : True := trivial
    go_wp2_with (go_at_call 21; have tk := tk2; have HQ := equalStrings_any A2 A2' n2 n2' c2 c2' x2 y2 _ (HK2.out.go HB1.out) (HJ2.out.go HB1.out); refine Calls.mono HQ ?_; clear HQ; rintro e w2 ⟨rfl, hb⟩; rw [HZ2.out]; have hg := HG1.out; have HA2 := Lib.hid (HA1.out.below hb (by omega)); have HD2 := Lib.hid (HD1.out.below hb (by omega)); have HB2 := Lib.hid (HB1.out.trans (hb.mono HB1.out.size)); have HG2 : Hid (W.heap.size + 2 ≤ w2.heap.size) := (Nat.le_trans hg hb.size); have q23 : w2.cell? ⟨W.heap.size, 3, none⟩ = some (.slice A3 n3 c3) := HA2.out.cell 3; have p23 : w2.cell? ⟨W.heap.size + 1, 3, none⟩ = some (.slice A3' n3' c3') := HD2.out.cell 3; clear hg hb tk tk2)
    have tk3 : True := trivial
    go_wp2_with (go_at_call 22; have tk := tk3; have HQ := equalFuncFl_any A3 A3' n3 n3' c3 c3' x3 y3 _ (HK3.out.go HB2.out) (HJ3.out.go HB2.out); refine Calls.mono HQ ?_; clear HQ; rintro e w3 ⟨rfl, hb⟩; rw [HZ3.out]; have hg := HG2.out; have HA3 := Lib.hid (HA2.out.below hb (by omega)); have HD3 := Lib.hid (HD2.out.below hb (by omega)); have HB3 := Lib.hid (HB2.out.trans (hb.mono HB2.out.size)); have HG3 : Hid (W.heap.size + 2 ≤ w3.heap.size) := (Nat.le_trans hg hb.size); clear hg hb tk tk3)
    go_ret
    exact ⟨rfl, HB3.out⟩
  cases z4
  · skip
    go_enter Try.func8, Try.ntmps8
    have tk1 : True := trivial
    go_wp2_with (go_at_call 21; have tk := tk1; obtain ⟨g0, g1, g2, g3⟩ := HC.out _ rfl; have HQ := equalStrings_any A0 A0' n0 n0' c0 c0' x0 y0 _ (HK0.out.go g2) (HJ0.out.go g2); refine Calls.mono HQ ?_; clear HQ; rintro e w1 ⟨rfl, hb⟩; rw [HZ0.out]; have HA1 := Lib.hid (g0.below hb (by omega)); have HD1 := Lib.hid (g1.below hb (by omega)); have HB1 := Lib.hid (g2.trans (hb.mono g2.size)); have HG1 : Hid (W.heap.size + 2 ≤ w1.heap.size) := (by have := hb.size; show _ ≤ _; omega); have q11 : w1.cell? ⟨W.heap.size, 1, none⟩ = some (.int .i64 x1) := HA1.out.cell 1; have p11 : w1.cell? ⟨W.heap.size + 1, 1, none⟩ = some (.int .i64 y1) := HD1.out.cell 1; have q12 : w1.cell? ⟨W.heap.size, 2, none⟩ = some (.slice A2 n2 c2) := HA1.out.cell 2; have p12 : w1.cell? ⟨W.heap.size + 1, 2, none⟩ = some (.slice A2' n2' c2') := HD1.out.cell 2; clear g0 g1 g2 g3 hb tk tk1)
    have tk2 : True := trivial
    go_wp2_with (go_at_call 21; have tk := tk2; have HQ := equalStrings_any A2 A2' n2 n2' c2 c2' x2 y2 _ (HK2.out.go HB1.out) (HJ2.out.go HB1.out); refine Calls.mono HQ ?_; clear HQ; rintro e w2 ⟨rfl, hb⟩; rw [HZ2.out]; have hg := HG1.out; have HA2 := Lib.hid (HA1.out.below hb (by omega)); have HD2 := Lib.hid (HD1.out.below hb (by omega)); have HB2 := Lib.hid (HB1.out.trans (hb.mono HB1.out.size)); have HG2 : Hid (W.heap.size + 2 ≤ w2.heap.size) := (Nat.le_trans hg hb.size); have q23 : w2.cell? ⟨W.heap.size, 3, none⟩ = some (.slice A3 n3 c3) := HA2.out.cell 3; have p23 : w2.cell? ⟨W.heap.size + 1, 3, none⟩ = some (.slice A3' n3' c3') := HD2.out.cell 3; clear hg hb tk tk2)
    have tk3 : True := trivial
    go_wp2_with (go_at_call 22; have tk := tk3; have HQ := equalFuncFl_any A3 A3' n3 n3' c3 c3' x3 y3 _ (HK3.out.go HB2.out) (HJ3.out.go HB2.out); refine Calls.mono HQ ?_; clear HQ; rintro e w3 ⟨rfl, hb⟩; rw [HZ3.out]; have hg := HG2.out; have HA3 := Lib.hid (HA2.out.below hb (by omega)); have HD3 := Lib.hid (HD2.out.below hb (by omega)); have HB3 := Lib.hid (HB2.out.trans (hb.mono HB2.out.size)); have HG3 : Hid (W.heap.size + 2 ≤ w3.heap.size) := (Nat.le_trans hg hb.size); have q34 : w3.cell? ⟨W.heap.size, 4, none⟩ = some (.slice A4 n4 c4) := HA3.out.cell 4; have p34 : w3.cell? ⟨W.heap.size + 1, 4, none⟩ = some (.slice A4' n4' c4') := HD3.out.cell 4; clear hg hb tk tk3)
    have tk4 : True := trivial
    go_wp2_with (go_at_call 21; have tk := tk4; have HQ := equalStrings_any A4 A4' n4 n4' c4 c4' x4 y4 _ (HK4.out.go HB3.out) (HJ4.out.go HB3.out); refine Calls.mono HQ ?_; clear HQ; rintro e w4 ⟨rfl, hb⟩; rw [HZ4.out]; have hg := HG3.out; have HA4 := Lib.hid (HA3.out.below hb (by omega)); have HD4 := Lib.hid (HD3.out.below hb (by omega)); have HB4 := Lib.hid (HB3.out.trans (hb.mono HB3.out.size)); have HG4 : Hid (W.heap.size + 2 ≤ w4.heap.size) := (Nat.le_trans hg hb.size); clear hg hb tk tk4)
    go_ret
    exact ⟨rfl, HB4.out⟩
  go_enter Try.func8, Try.ntmps8
  have tk1 : True := trivial
  go_wp2_with (go_at_call 21; have tk := tk1; obtain ⟨g0, g1, g2, g3⟩ := HC.out _ rfl; have HQ := equalStrings_any A0 A0' n0 n0' c0 c0' x0 y0 _ (HK0.out.go g2) (HJ0.out.go g2); refine Calls.mono HQ ?_; clear HQ; rintro e w1 ⟨rfl, hb⟩; rw [HZ0.out]; have HA1 := Lib.hid (g0.below hb (by omega)); have HD1 := Lib.hid (g1.below hb (by omega)); have HB1 := Lib.hid (g2.trans (hb.mono g2.size)); have HG1 : Hid (W.heap.size + 2 ≤ w1.heap.size) := (by have := hb.size; show _ ≤ _; omega); have q11 : w1.cell? ⟨W.heap.size, 1, none⟩ = some (.int .i64 x1) := HA1.out.cell 1; have p11 : w1.cell? ⟨W.heap.size + 1, 1, none⟩ = some (.int .i64 y1) := HD1.out.cell 1; have q12 : w1.cell? ⟨W.heap.size, 2, none⟩ = some (.slice A2 n2 c2) := HA1.out.cell 2; have p12 : w1.cell? ⟨W.heap.size + 1, 2, none⟩ = some (.slice A2' n2' c2') := HD1.out.cell 2; clear g0 g1 g2 g3 hb tk tk1)
  have tk2 : True := trivial
  go_wp2_with (go_at_call 21; have tk := tk2; have HQ := equalStrings_any A2 A2' n2 n2' c2 c2' x2 y2 _ (HK2.out.go HB1.out) (HJ2.out.go HB1.out); refine Calls.mono HQ ?_; clear HQ; rintro e w2 ⟨rfl, hb⟩; rw [HZ2.out]; have hg := HG1.out; have HA2 := Lib.hid (HA1.out.below hb (by omega)); have HD2 := Lib.hid (HD1.out.below hb (by omega)); have HB2 := Lib.hid (HB1.out.trans (hb.mono HB1.out.size)); have HG2 : Hid (W.heap.size + 2 ≤ w2.heap.size) := (Nat.le_trans hg hb.size); have q23 : w2.cell? ⟨W.heap.size, 3, none⟩ = some (.slice A3 n3 c3) := HA2.out.cell 3; have p23 : w2.cell? ⟨W.heap.size + 1, 3, none⟩ = some (.slice A3' n3' c3') := HD2.out.cell 3; clear hg hb tk tk2)
  have tk3 : True := trivial
  go_wp2_with (go_at_call 22; have tk := tk3; have HQ := equalFuncFl_any A3 A3' n3 n3' c3 c3' x3 y3 _ (HK3.out.go HB2.out) (HJ3.out.go HB2.out); refine Calls.mono HQ ?_; clear HQ; rintro e w3 ⟨rfl, hb⟩; rw [HZ3.out]; have hg := HG2.out; have HA3 := Lib.hid (HA2.out.below hb (by omega)); have HD3 := Lib.hid (HD2.out.below hb (by omega)); have HB3 := Lib.hid (HB2.out.trans (hb.mono HB2.out.size)); have HG3 : Hid (W.heap.size + 2 ≤ w3.heap.size) := (Nat.le_trans hg hb.size); have q34 : w3.cell? ⟨W.heap.size, 4, none⟩ = some (.slice A4 n4 c4) := HA3.out.cell 4; have p34 : w3.cell? ⟨W.heap.size + 1, 4, none⟩ = some (.slice A4' n4' c4') := HD3.out.cell 4; clear hg hb tk tk3)
  have tk4 : True := trivial
  go_wp2_with (go_at_call 21; have tk := tk4; have HQ := equalStrings_any A4 A4' n4 n4' c4 c4' x4 y4 _ (HK4.out.go HB3.out) (HJ4.out.go HB3.out); refine Calls.mono HQ ?_; clear HQ; rintro e w4 ⟨rfl, hb⟩; rw [HZ4.out]; have hg := HG3.out; have HA4 := Lib.hid (HA3.out.below hb (by omega)); have HD4 := Lib.hid (HD3.out.below hb (by omega)); have HB4 := Lib.hid (HB3.out.trans (hb.mono HB3.out.size)); have HG4 : Hid (W.heap.size + 2 ≤ w4.heap.size) := (Nat.le_trans hg hb.size); clear hg hb tk tk4)
  go_ret
  exact ⟨rfl, HB4.out⟩
end Go.Proofs.Ytjhemdgeafglhaa

namespace Go.Proofs.Ytjhemdgeafglhaa
open Go Go.RowKit

theorem sameMe_bool (x y : Me) : tt (x = y) = (tt (x.x0 = y.x0 ∧ x.x1 = y.x1) && (tt ((⟨x.x2, x.x3, x.x4⟩ : Sc) = ⟨y.x2, y.x3, y.x4⟩) && tt ((⟨x.x5, x.x6, x.x7, x.x8, x.x9⟩ : Cn) = ⟨y.x5, y.x6, y.x7, y.x8, y.x9⟩))) := by
  rw [Bool.eq_iff_iff]
  simp only [Bool.and_eq_true, tt_iff]
  obtain ⟨x0, x1, x2, x3, x4, x5, x6, x7, x8, x9⟩ := x
  obtain ⟨x0', x1', x2', x3', x4', x5', x6', x7', x8', x9'⟩ := y
  simp only [Me.mk.injEq, Sc.mk.injEq, Cn.mk.injEq]
  constructor
  · rintro ⟨h0, h1, h2, h3, h4, h5, h6, h7, h8, h9⟩
    exact ⟨⟨h0, h1⟩, ⟨h2, h3, h4⟩, h5, h6, h7, h8, h9⟩
  · rintro ⟨⟨h0, h1⟩, ⟨h2, h3, h4⟩, h5, h6, h7, h8, h9⟩
    exact ⟨h0, h1, h2, h3, h4, h5, h6, h7, h8, h9⟩

set_option maxHeartbeats 2000000 in
set_option maxRecDepth 100000 in
theorem spec_SameMemory_any (x y : Me) (l l' : MeLay) (W : World) (hx : MeV W W.heap.size x l) (hy : MeV W W.heap.size y l') :
    Calls Try.prog 11 #[x.ag l, y.ag l'] W fun e w' => e = .returned (.bool (tt (x = y))) ∧ Below W.heap.size W w' := by
  rw [sameMe_bool]
  obtain ⟨x0, x1, x2, x3, x4, x5, x6, x7, x8, x9⟩ := x
  obtain ⟨x0', x1', x2', x3', x4', x5', x6', x7', x8', x9'⟩ := y
  obtain ⟨A1, n1, c1, h1, A2, n2, c2, h2, A3, n3, c3, h3, A4, n4, c4, h4, A5, n5, c5, h5, A7, n7, c7, h7, A8, n8, c8, h8, A9, n9, c9, h9⟩ := l
  obtain ⟨A1', n1', c1', h1', A2', n2', c2', h2', A3', n3', c3', h3', A4', n4', c4', h4', A5', n5', c5', h5', A7', n7', c7', h7', A8', n8', c8', h8', A9', n9', c9', h9'⟩ := l'
  obtain ⟨k0, k1, k2⟩ := hx
  obtain ⟨j0, j1, j2⟩ := hy
  dsimp only at k0 k1 k2 j0 j1 j2 ⊢
  have HQ0 := Lib.hid (fun (w : World) (hb : Below W.heap.size W w) => spec_SameHeap_any x0 x0' A1 A1' n1 n1' c1 c1' x1 x1' w (k0.go hb) (j0.go hb))
  have HQ1 := Lib.hid (fun (w : World) (hb : Below W.heap.size W w) => spec_SameScope_any ⟨x2, x3, x4⟩ ⟨x2', x3', x4'⟩ ⟨A2, n2, c2, h2, A3, n3, c3, h3, A4, n4, c4, h4⟩ ⟨A2', n2', c2', h2', A3', n3', c3', h3', A4', n4', c4', h4'⟩ w (k1.go hb) (j1.go hb))
  have HQ2 := Lib.hid (fun (w : World) (hb : Below W.heap.size W w) => spec_SameConsole_any ⟨x5, x6, x7, x8, x9⟩ ⟨x5', x6', x7', x8', x9'⟩ ⟨A5, n5, c5, h5, A7, n7, c7, h7, A8, n8, c8, h8, A9, n9, c9, h9⟩ ⟨A5', n5', c5', h5', A7', n7', c7', h7', A8', n8', c8', h8', A9', n9', c9', h9'⟩ w (k2.go hb) (j2.go hb))
  clear k0 k1 k2 j0 j1 j2
  obtain ⟨z0, hz0⟩ : ∃ z, tt (x0 = x0' ∧ x1 = x1') = z := ⟨_, rfl⟩
  obtain ⟨z1, hz1⟩ : ∃ z, tt ((⟨x2, x3, x4⟩ : Sc) = ⟨x2', x3', x4'⟩) = z := ⟨_, rfl⟩
  obtain ⟨z2, hz2⟩ : ∃ z, tt ((⟨x5, x6, x7, x8, x9⟩ : Cn) = ⟨x5', x6', x7', x8', x9'⟩) = z := ⟨_, rfl⟩
  have HZ0 := Lib.hid hz0
  have HZ1 := Lib.hid hz1
  have HZ2 := Lib.hid hz2
  rw [hz0, hz1, hz2]
  clear hz0 hz1 hz2
  have HC := Lib.hid (two_new W 54 #[.int .i64 x0, .slice A1 n1 c1, .slice A2 n2 c2, .slice A3 n3 c3, .slice A4 n4 c4, .slice A5 n5 c5, .int .i64 x6, .slice A7 n7 c7, .slice A8 n8 c8, .slice A9 n9 c9] #[.int .i64 x0', .slice A1' n1' c1', .slice A2' n2' c2', .slice A3' n3' c3', .slice A4' n4' c4', .slice A5' n5' c5', .int .i64 x6', .slice A7' n7' c7', .slice A8' n8' c8', .slice A9' n9' c9'])
  show Calls Try.prog 11 #[.agg #[.int .i64 x0, .slice A1 n1 c1, .slice A2 n2 c2, .slice A3 n3 c3, .slice A4 n4 c4, .slice A5 n5 c5, .int .i64 x6, .slice A7 n7 c7, .slice A8 n8 c8, .slice A9 n9 c9], .agg #[.int .i64 x0', .slice A1' n1' c1', .slice A2' n2' c2', .slice A3' n3' c3', .slice A4' n4' c4', .slice A5' n5' c5', .int .i64 x6', .slice A7' n7' c7', .slice A8' n8' c8', .slice A9' n9' c9']] W _
  cases z0
  · skip
    go_enter Try.func11, Try.ntmps11
    go_wp2_with (go_at_call 28; obtain ⟨g0, g1, g2, g3⟩ := HC.out _ rfl; have HQ := HQ0.out _ g2; refine Calls.mono HQ ?_; clear HQ; rintro e w1 ⟨rfl, hb⟩; rw [HZ0.out]; have HA1 := Lib.hid (g0.below hb g0.lt); have HD1 := Lib.hid (g1.below hb g1.lt); have HB1 := Lib.hid (g2.trans (hb.mono g2.size)); have q12 : w1.cell? ⟨W.heap.size, 2, none⟩ = some (.slice A2 n2 c2) := HA1.out.cell 2; have p12 : w1.cell? ⟨W.heap.size + 1, 2, none⟩ = some (.slice A2' n2' c2') := HD1.out.cell 2; have q13 : w1.cell? ⟨W.heap.size, 3, none⟩ = some (.slice A3 n3 c3) := HA1.out.cell 3; have p13 : w1.cell? ⟨W.heap.size + 1, 3, none⟩ = some (.slice A3' n3' c3') := HD1.out.cell 3; have q14 : w1.cell? ⟨W.heap.size, 4, none⟩ = some (.slice A4 n4 c4) := HA1.out.cell 4; have p14 : w1.cell? ⟨W.heap.size + 1, 4, none⟩ = some (.slice A4' n4' c4') := HD1.out.cell 4; clear g0 g1 g2 g3 hb HC HQ0)
    go_ret
    exact ⟨rfl, HB1.out⟩
  cases z1
  · skip
    go_enter Try.func11, Try.ntmps11
    go_wp2_with (go_at_call 28; obtain ⟨g0, g1, g2, g3⟩ := HC.out _ rfl; have HQ := HQ0.out _ g2; refine Calls.mono HQ ?_; clear HQ; rintro e w1 ⟨rfl, hb⟩; rw [HZ0.out]; have HA1 := Lib.hid (g0.below hb g0.lt); have HD1 := Lib.hid (g1.below hb g1.lt); have HB1 := Lib.hid (g2.trans (hb.mono g2.size)); have q12 : w1.cell? ⟨W.heap.size, 2, none⟩ = some (.slice A2 n2 c2) := HA1.out.cell 2; have p12 : w1.cell? ⟨W.heap.size + 1, 2, none⟩ = some (.slice A2' n2' c2') := HD1.out.cell 2; have q13 : w1.cell? ⟨W.heap.size, 3, none⟩ = some (.slice A3 n3 c3) := HA1.out.cell 3; have p13 : w1.cell? ⟨W.heap.size + 1, 3, none⟩ = some (.slice A3' n3' c3') := HD1.out.cell 3; have q14 : w1.cell? ⟨W.heap.size, 4, none⟩ = some (.slice A4 n4 c4) := HA1.out.cell 4; have p14 : w1.cell? ⟨W.heap.size + 1, 4, none⟩ = some (.slice A4' n4' c4') := HD1.out.cell 4; clear g0 g1 g2 g3 hb HC HQ0)
    go_wp2_with (go_at_call 29; have HQ := HQ1.out _ HB1.out; refine Calls.mono HQ ?_; clear HQ; rintro e w2 ⟨rfl, hb⟩; rw [HZ1.out]; have HA2 := Lib.hid (HA1.out.below hb HA1.out.lt); have HD2 := Lib.hid (HD1.out.below hb HD1.out.lt); have HB2 := Lib.hid (HB1.out.trans (hb.mono HB1.out.size)); have q25 : w2.cell? ⟨W.heap.size, 5, none⟩ = some (.slice A5 n5 c5) := HA2.out.cell 5; have p25 : w2.cell? ⟨W.heap.size + 1, 5, none⟩ = some (.slice A5' n5' c5') := HD2.out.cell 5; have q26 : w2.cell? ⟨W.heap.size, 6, none⟩ = some (.int .i64 x6) := HA2.out.cell 6; have p26 : w2.cell? ⟨W.heap.size + 1, 6, none⟩ = some (.int .i64 x6') := HD2.out.cell 6; have q27 : w2.cell? ⟨W.heap.size, 7, none⟩ = some (.slice A7 n7 c7) := HA2.out.cell 7; have p27 : w2.cell? ⟨W.heap.size + 1, 7, none⟩ = some (.slice A7' n7' c7') := HD2.out.cell 7; have q28 : w2.cell? ⟨W.heap.size, 8, none⟩ = some (.slice A8 n8 c8) := HA2.out.cell 8; have p28 : w2.cell? ⟨W.heap.size + 1, 8, none⟩ = some (.slice A8' n8' c8') := HD2.out.cell 8; have q29 : w2.cell? ⟨W.heap.size, 9, none⟩ = some (.slice A9 n9 c9) := HA2.out.cell 9; have p29 : w2.cell? ⟨W.heap.size + 1, 9, none⟩ = some (.slice A9' n9' c9') := HD2.out.cell 9; clear hb HQ1)
    go_ret
    exact ⟨rfl, HB2.out⟩
  cases z2
  all_goals
    go_enter Try.func11, Try.ntmps11
    go_wp2_with (go_at_call 28; obtain ⟨g0, g1, g2, g3⟩ := HC.out _ rfl; have HQ := HQ0.out _ g2; refine Calls.mono HQ ?_; clear HQ; rintro e w1 ⟨rfl, hb⟩; rw [HZ0.out]; have HA1 := Lib.hid (g0.below hb g0.lt); have HD1 := Lib.hid (g1.below hb g1.lt); have HB1 := Lib.hid (g2.trans (hb.mono g2.size)); have q12 : w1.cell? ⟨W.heap.size, 2, none⟩ = some (.slice A2 n2 c2) := HA1.out.cell 2; have p12 : w1.cell? ⟨W.heap.size + 1, 2, none⟩ = some (.slice A2' n2' c2') := HD1.out.cell 2; have q13 : w1.cell? ⟨W.heap.size, 3, none⟩ = some (.slice A3 n3 c3) := HA1.out.cell 3; have p13 : w1.cell? ⟨W.heap.size + 1, 3, none⟩ = some (.slice A3' n3' c3') := HD1.out.cell 3; have q14 : w1.cell? ⟨W.heap.size, 4, none⟩ = some (.slice A4 n4 c4) := HA1.out.cell 4; have p14 : w1.cell? ⟨W.heap.size + 1, 4, none⟩ = some (.slice A4' n4' c4') := HD1.out.cell 4; clear g0 g1 g2 g3 hb HC HQ0)
    go_wp2_with (go_at_call 29; have HQ := HQ1.out _ HB1.out; refine Calls.mono HQ ?_; clear HQ; rintro e w2 ⟨rfl, hb⟩; rw [HZ1.out]; have HA2 := Lib.hid (HA1.out.below hb HA1.out.lt); have HD2 := Lib.hid (HD1.out.below hb HD1.out.lt); have HB2 := Lib.hid (HB1.out.trans (hb.mono HB1.out.size)); have q25 : w2.cell? ⟨W.heap.size, 5, none⟩ = some (.slice A5 n5 c5) := HA2.out.cell 5; have p25 : w2.cell? ⟨W.heap.size + 1, 5, none⟩ = some (.slice A5' n5' c5') := HD2.out.cell 5; have q26 : w2.cell? ⟨W.heap.size, 6, none⟩ = some (.int .i64 x6) := HA2.out.cell 6; have p26 : w2.cell? ⟨W.heap.size + 1, 6, none⟩ = some (.int .i64 x6') := HD2.out.cell 6; have q27 : w2.cell? ⟨W.heap.size, 7, none⟩ = some (.slice A7 n7 c7) := HA2.out.cell 7; have p27 : w2.cell? ⟨W.heap.size + 1, 7, none⟩ = some (.slice A7' n7' c7') := HD2.out.cell 7; have q28 : w2.cell? ⟨W.heap.size, 8, none⟩ = some (.slice A8 n8 c8) := HA2.out.cell 8; have p28 : w2.cell? ⟨W.heap.size + 1, 8, none⟩ = some (.slice A8' n8' c8') := HD2.out.cell 8; have q29 : w2.cell? ⟨W.heap.size, 9, none⟩ = some (.slice A9 n9 c9) := HA2.out.cell 9; have p29 : w2.cell? ⟨W.heap.size + 1, 9, none⟩ = some (.slice A9' n9' c9') := HD2.out.cell 9; clear hb HQ1)
    go_wp2_with (go_at_call 6; have HQ := HQ2.out _ HB2.out; refine Calls.mono HQ ?_; clear HQ; rintro e w3 ⟨rfl, hb⟩; rw [HZ2.out]; have HB3 := Lib.hid (HB2.out.trans (hb.mono HB2.out.size)); clear hb HQ2)
    go_ret
    exact ⟨rfl, HB3.out⟩

set_option maxHeartbeats 2000000 in
set_option maxRecDepth 100000 in
theorem impl_SameMemory_any (x y : Me) (l l' : MeLay) (W : World) (hx : MeV W W.heap.size x l) (hy : MeV W W.heap.size y l') :
    Calls Try.prog 13 #[x.ag l, y.ag l'] W fun e w' => e = .returned (.bool (tt (x = y))) ∧ Below W.heap.size W w' := by
  rw [sameMe_bool]
  obtain ⟨x0, x1, x2, x3, x4, x5, x6, x7, x8, x9⟩ := x
  obtain ⟨x0', x1', x2', x3', x4', x5', x6', x7', x8', x9'⟩ := y
  obtain ⟨A1, n1, c1, h1, A2, n2, c2, h2, A3, n3, c3, h3, A4, n4, c4, h4, A5, n5, c5, h5, A7, n7, c7, h7, A8, n8, c8, h8, A9, n9, c9, h9⟩ := l
  obtain ⟨A1', n1', c1', h1', A2', n2', c2', h2', A3', n3', c3', h3', A4', n4', c4', h4', A5', n5', c5', h5', A7', n7', c7', h7', A8', n8', c8', h8', A9', n9', c9', h9'⟩ := l'
  obtain ⟨k0, k1, k2⟩ := hx
  obtain ⟨j0, j1, j2⟩ := hy
  dsimp only at k0 k1 k2 j0 j1 j2 ⊢
  have HQ0 := Lib.hid (fun (w : World) (hb : Below W.heap.size W w) => impl_SameHeap_any x0 x0' A1 A1' n1 n1' c1 c1' x1 x1' w (k0.go hb) (j0.go hb))
  have HQ1 := Lib.hid (fun (w : World) (hb : Below W.heap.size W w) => impl_SameScope_any ⟨x2, x3, x4⟩ ⟨x2', x3', x4'⟩ ⟨A2, n2, c2, h2, A3, n3, c3, h3, A4, n4, c4, h4⟩ ⟨A2', n2', c2', h2', A3', n3', c3', h3', A4', n4', c4', h4'⟩ w (k1.go hb) (j1.go hb))
  have HQ2 := Lib.hid (fun (w : World) (hb : Below W.heap.size W w) => impl_SameConsole_any ⟨x5, x6, x7, x8, x9⟩ ⟨x5', x6', x7', x8', x9'⟩ ⟨A5, n5, c5, h5, A7, n7, c7, h7, A8, n8, c8, h8, A9, n9, c9, h9⟩ ⟨A5', n5', c5', h5', A7', n7', c7', h7', A8', n8', c8', h8', A9', n9', c9', h9'⟩ w (k2.go hb) (j2.go hb))
  clear k0 k1 k2 j0 j1 j2
  obtain ⟨z0, hz0⟩ : ∃ z, tt (x0 = x0' ∧ x1 = x1') = z := ⟨_, rfl⟩
  obtain ⟨z1, hz1⟩ : ∃ z, tt ((⟨x2, x3, x4⟩ : Sc) = ⟨x2', x3', x4'⟩) = z := ⟨_, rfl⟩
  obtain ⟨z2, hz2⟩ : ∃ z, tt ((⟨x5, x6, x7, x8, x9⟩ : Cn) = ⟨x5', x6', x7', x8', x9'⟩) = z := ⟨_, rfl⟩
  have HZ0 := Lib.hid hz0
  have HZ1 := Lib.hid hz1
  have HZ2 := Lib.hid hz2
  rw [hz0, hz1, hz2]
  clear hz0 hz1 hz2
  have HC := Lib.hid (two_new W 54 #[.int .i64 x0, .slice A1 n1 c1, .slice A2 n2 c2, .slice A3 n3 c3, .slice A4 n4 c4, .slice A5 n5 c5, .int .i64 x6, .slice A7 n7 c7, .slice A8 n8 c8, .slice A9 n9 c9] #[.int .i64 x0', .slice A1' n1' c1', .slice A2' n2' c2', .slice A3' n3' c3', .slice A4' n4' c4', .slice A5' n5' c5', .int .i64 x6', .slice A7' n7' c7', .slice A8' n8' c8', .slice A9' n9' c9'])
  show Calls Try.prog 13 #[.agg #[.int .i64 x0, .slice A1 n1 c1, .slice A2 n2 c2, .slice A3 n3 c3, .slice A4 n4 c4, .slice A5 n5 c5, .int .i64 x6, .slice A7 n7 c7, .slice A8 n8 c8, .slice A9 n9 c9], .agg #[.int .i64 x0', .slice A1' n1' c1', .slice A2' n2' c2', .slice A3' n3' c3', .slice A4' n4' c4', .slice A5' n5' c5', .int .i64 x6', .slice A7' n7' c7', .slice A8' n8' c8', .slice A9' n9' c9']] W _
  cases z0
  · skip
    go_enter Try.func13, Try.ntmps13
    go_wp2_with (go_at_call 32; obtain ⟨g0, g1, g2, g3⟩ := HC.out _ rfl; have HQ := HQ0.out _ g2; refine Calls.mono HQ ?_; clear HQ; rintro e w1 ⟨rfl, hb⟩; rw [HZ0.out]; have HA1 := Lib.hid (g0.below hb g0.lt); have HD1 := Lib.hid (g1.below hb g1.lt); have HB1 := Lib.hid (g2.trans (hb.mono g2.size)); have q12 : w1.cell? ⟨W.heap.size, 2, none⟩ = some (.slice A2 n2 c2) := HA1.out.cell 2; have p12 : w1.cell? ⟨W.heap.size + 1, 2, none⟩ = some (.slice A2' n2' c2') := HD1.out.cell 2; have q13 : w1.cell? ⟨W.heap.size, 3, none⟩ = some (.slice A3 n3 c3) := HA1.out.cell 3; have p13 : w1.cell? ⟨W.heap.size + 1, 3, none⟩ = some (.slice A3' n3' c3') := HD1.out.cell 3; have q14 : w1.cell? ⟨W.heap.size, 4, none⟩ = some (.slice A4 n4 c4) := HA1.out.cell 4; have p14 : w1.cell? ⟨W.heap.size + 1, 4, none⟩ = some (.slice A4' n4' c4') := HD1.out.cell 4; clear g0 g1 g2 g3 hb HC HQ0)
    go_ret
    exact ⟨rfl, HB1.out⟩
  cases z1
  · skip
    go_enter Try.func13, Try.ntmps13
    go_wp2_with (go_at_call 32; obtain ⟨g0, g1, g2, g3⟩ := HC.out _ rfl; have HQ := HQ0.out _ g2; refine Calls.mono HQ ?_; clear HQ; rintro e w1 ⟨rfl, hb⟩; rw [HZ0.out]; have HA1 := Lib.hid (g0.below hb g0.lt); have HD1 := Lib.hid (g1.below hb g1.lt); have HB1 := Lib.hid (g2.trans (hb.mono g2.size)); have q12 : w1.cell? ⟨W.heap.size, 2, none⟩ = some (.slice A2 n2 c2) := HA1.out.cell 2; have p12 : w1.cell? ⟨W.heap.size + 1, 2, none⟩ = some (.slice A2' n2' c2') := HD1.out.cell 2; have q13 : w1.cell? ⟨W.heap.size, 3, none⟩ = some (.slice A3 n3 c3) := HA1.out.cell 3; have p13 : w1.cell? ⟨W.heap.size + 1, 3, none⟩ = some (.slice A3' n3' c3') := HD1.out.cell 3; have q14 : w1.cell? ⟨W.heap.size, 4, none⟩ = some (.slice A4 n4 c4) := HA1.out.cell 4; have p14 : w1.cell? ⟨W.heap.size + 1, 4, none⟩ = some (.slice A4' n4' c4') := HD1.out.cell 4; clear g0 g1 g2 g3 hb HC HQ0)
    go_wp2_with (go_at_call 33; have HQ := HQ1.out _ HB1.out; refine Calls.mono HQ ?_; clear HQ; rintro e w2 ⟨rfl, hb⟩; rw [HZ1.out]; have HA2 := Lib.hid (HA1.out.below hb HA1.out.lt); have HD2 := Lib.hid (HD1.out.below hb HD1.out.lt); have HB2 := Lib.hid (HB1.out.trans (hb.mono HB1.out.size)); have q25 : w2.cell? ⟨W.heap.size, 5, none⟩ = some (.slice A5 n5 c5) := HA2.out.cell 5; have p25 : w2.cell? ⟨W.heap.size + 1, 5, none⟩ = some (.slice A5' n5' c5') := HD2.out.cell 5; have q26 : w2.cell? ⟨W.heap.size, 6, none⟩ = some (.int .i64 x6) := HA2.out.cell 6; have p26 : w2.cell? ⟨W.heap.size + 1, 6, none⟩ = some (.int .i64 x6') := HD2.out.cell 6; have q27 : w2.cell? ⟨W.heap.size, 7, none⟩ = some (.slice A7 n7 c7) := HA2.out.cell 7; have p27 : w2.cell? ⟨W.heap.size + 1, 7, none⟩ = some (.slice A7' n7' c7') := HD2.out.cell 7; have q28 : w2.cell? ⟨W.heap.size, 8, none⟩ = some (.slice A8 n8 c8) := HA2.out.cell 8; have p28 : w2.cell? ⟨W.heap.size + 1, 8, none⟩ = some (.slice A8' n8' c8') := HD2.out.cell 8; have q29 : w2.cell? ⟨W.heap.size, 9, none⟩ = some (.slice A9 n9 c9) := HA2.out.cell 9; have p29 : w2.cell? ⟨W.heap.size + 1, 9, none⟩ = some (.slice A9' n9' c9') := HD2.out.cell 9; clear hb HQ1)
    go_ret
    exact ⟨rfl, HB2.out⟩
  cases z2
  all_goals
    go_enter Try.func13, Try.ntmps13
    go_wp2_with (go_at_call 32; obtain ⟨g0, g1, g2, g3⟩ := HC.out _ rfl; have HQ := HQ0.out _ g2; refine Calls.mono HQ ?_; clear HQ; rintro e w1 ⟨rfl, hb⟩; rw [HZ0.out]; have HA1 := Lib.hid (g0.below hb g0.lt); have HD1 := Lib.hid (g1.below hb g1.lt); have HB1 := Lib.hid (g2.trans (hb.mono g2.size)); have q12 : w1.cell? ⟨W.heap.size, 2, none⟩ = some (.slice A2 n2 c2) := HA1.out.cell 2; have p12 : w1.cell? ⟨W.heap.size + 1, 2, none⟩ = some (.slice A2' n2' c2') := HD1.out.cell 2; have q13 : w1.cell? ⟨W.heap.size, 3, none⟩ = some (.slice A3 n3 c3) := HA1.out.cell 3; have p13 : w1.cell? ⟨W.heap.size + 1, 3, none⟩ = some (.slice A3' n3' c3') := HD1.out.cell 3; have q14 : w1.cell? ⟨W.heap.size, 4, none⟩ = some (.slice A4 n4 c4) := HA1.out.cell 4; have p14 : w1.cell? ⟨W.heap.size + 1, 4, none⟩ = some (.slice A4' n4' c4') := HD1.out.cell 4; clear g0 g1 g2 g3 hb HC HQ0)
    go_wp2_with (go_at_call 33; have HQ := HQ1.out _ HB1.out; refine Calls.mono HQ ?_; clear HQ; rintro e w2 ⟨rfl, hb⟩; rw [HZ1.out]; have HA2 := Lib.hid (HA1.out.below hb HA1.out.lt); have HD2 := Lib.hid (HD1.out.below hb HD1.out.lt); have HB2 := Lib.hid (HB1.out.trans (hb.mono HB1.out.size)); have q25 : w2.cell? ⟨W.heap.size, 5, none⟩ = some (.slice A5 n5 c5) := HA2.out.cell 5; have p25 : w2.cell? ⟨W.heap.size + 1, 5, none⟩ = some (.slice A5' n5' c5') := HD2.out.cell 5; have q26 : w2.cell? ⟨W.heap.size, 6, none⟩ = some (.int .i64 x6) := HA2.out.cell 6; have p26 : w2.cell? ⟨W.heap.size + 1, 6, none⟩ = some (.int .i64 x6') := HD2.out.cell 6; have q27 : w2.cell? ⟨W.heap.size, 7, none⟩ = some (.slice A7 n7 c7) := HA2.out.cell 7; have p27 : w2.cell? ⟨W.heap.size + 1, 7, none⟩ = some (.slice A7' n7' c7') := HD2.out.cell 7; have q28 : w2.cell? ⟨W.heap.size, 8, none⟩ = some (.slice A8 n8 c8) := HA2.out.cell 8; have p28 : w2.cell? ⟨W.heap.size + 1, 8, none⟩ = some (.slice A8' n8' c8') := HD2.out.cell 8; have q29 : w2.cell? ⟨W.heap.size, 9, none⟩ = some (.slice A9 n9 c9) := HA2.out.cell 9; have p29 : w2.cell? ⟨W.heap.size + 1, 9, none⟩ = some (.slice A9' n9' c9') := HD2.out.cell 9; clear hb HQ1)
    go_wp2_with (go_at_call 8; have HQ := HQ2.out _ HB2.out; refine Calls.mono HQ ?_; clear HQ; rintro e w3 ⟨rfl, hb⟩; rw [HZ2.out]; have HB3 := Lib.hid (HB2.out.trans (hb.mono HB2.out.size)); clear hb HQ2)
    go_ret
    exact ⟨rfl, HB3.out⟩

end Go.Proofs.Ytjhemdgeafglhaa

namespace Go.Proofs.Ytjhemdgeafglhaa
open Go Go.RowKit

/-- What toHeap answers. -/
def ToHF (nx : Int) (os : List Ob) (n : Nat) (W : World) (e : Ending) (w' : World) : Prop :=
  ∃ g, e = .returned (.agg #[.int .i64 nx, .slice (some ⟨g, 0, none⟩) n n]) ∧ Hid (FilledO w' g n n os ∧ Below W.heap.size W w' ∧ W.heap.size ≤ g)
set_option maxRecDepth 100000 in
theorem toHeap_far (nx : Int) (A : Option Addr) (n c : Nat) (os : List Ob) (W : World) (hr : OI W W.heap.size A n os) (hs : Small os) (hn : n ≤ 1048576) :
    Calls Try.prog 30 #[.agg #[.int .i64 nx, .slice A n c]] W (ToHF nx os n W) := by
  have HR := Lib.hid hr
  have HS := Lib.hid hs
  have HN := Lib.hid hn
  have HA := Lib.hid (fun (X Y : World) (T T' : TypeId) (c1 c2 : Array Value) (eY : Y = W.alloc (.cells #[.int .i64 nx, .slice A n c] T)) (eX : X = (Y.alloc (.cells c1 T')).alloc (.cells c2 T')) => (show Below W.heap.size W X ∧ RW T' X (W.heap.size + 1 + 1) c2 ∧ RW T' X (W.heap.size + 1) c1 ∧ X.heap.size = W.heap.size + 3 from by
    subst eX; subst eY
    refine ⟨((below_alloc _ _).alloc (by simp) _).alloc (by simp; omega) _, ?_, ?_, by simp⟩
    · have := RW.new ((W.alloc (.cells #[.int .i64 nx, .slice A n c] T)).alloc (.cells c1 T')) c2 T'
      simpa using this
    · have := (RW.new (W.alloc (.cells #[.int .i64 nx, .slice A n c] T)) c1 T').alloc (.cells c2 T')
      simpa using this))
  clear hr hs hn
  go_enter Try.func30, Try.ntmps30
  go_wp2_with (go_at_call 46; obtain ⟨g2, g1, g0, g3⟩ := HA.out _ _ _ _ _ _ rfl rfl; have HQ := toObjectS_any A n c os _ (HR.out.go g2) HS.out HN.out; refine Calls.mono HQ ?_; clear HQ; rintro e w1 ⟨rfl, h⟩; obtain ⟨_, hb, hv⟩ := h.out; rw [g3] at hv; have HB1 := Lib.hid (g2.trans (hb.mono g2.size)); have HV1 := Lib.hid hv; have HR1 := Lib.hid (g1.below hb (by omega)); have HO1 := Lib.hid (g0.below hb (by omega)); have HG1 : Hid (W.heap.size + 3 ≤ w1.heap.size) := (by have := hb.size; show _ ≤ _; omega); have p1 : w1.cell? ⟨W.heap.size + 1 + 1, 1, none⟩ = some (.slice none 0 0) := HR1.out.cell 1; have p0 : w1.cell? ⟨W.heap.size + 1 + 1, 0, none⟩ = some (.int .i64 nx) := HR1.out.cell 0; have f1 := HR1.out.frozen 1; have r0 : w1.cell? ⟨W.heap.size + 1, 0, none⟩ = some (.int .i64 0) := HO1.out.cell 0; have r1 : w1.cell? ⟨W.heap.size + 1, 1, none⟩ = some (.slice none 0 0) := HO1.out.cell 1; have z0 := HO1.out.frozen 0; have z1 := HO1.out.frozen 1; clear g0 g1 g2 g3 h hv hb)
  have hs1 := HG1.out
  have hb1 : Below (W.heap.size + 1) w1 (((w1.setCell ⟨W.heap.size + 1 + 1, 1, none⟩ (.slice (some ⟨W.heap.size + 1 + 1 + 1, 0, none⟩) n n)).setCell ⟨W.heap.size + 1, 0, none⟩ (.int .i64 nx)).setCell ⟨W.heap.size + 1, 1, none⟩ (.slice (some ⟨W.heap.size + 1 + 1 + 1, 0, none⟩) n n)) := ((below_set w1 (p := ⟨W.heap.size + 1 + 1, 1, none⟩) (by simp) _).setCell (by simp) _).setCell (by simp) _
  refine bodyPost_ret (v := .agg #[.int .i64 nx, .slice (some ⟨W.heap.size + 1 + 1 + 1, 0, none⟩) n n]) (results_cell_row Try.results30 _ _ (W.heap.size + 1) 47 _ (0, 0) _ rfl (((HO1.out.other (p := ⟨W.heap.size + 1 + 1, 1, none⟩) (by simp) (.slice (some ⟨W.heap.size + 1 + 1 + 1, 0, none⟩) n n)).set_ 0 (.int .i64 nx)).set_ 1 (.slice (some ⟨W.heap.size + 1 + 1 + 1, 0, none⟩) n n)) Try.underlying47 rfl (by kernel_rfl)) rfl ⟨W.heap.size + 1 + 1 + 1, rfl, Lib.hid ⟨?_, HB1.out.trans (hb1.mono (by omega)), by omega⟩⟩
  exact (((HV1.out.far (by omega) _).far (by omega) _).far (by omega) _)
end Go.Proofs.Ytjhemdgeafglhaa

namespace Go.Proofs.Ytjhemdgeafglhaa
open Go Go.RowKit

/-- What toScope answers. -/
def ToScD (x : Sc) (W : World) (e : Ending) (w' : World) : Prop := ∃ l, e = .returned (x.ag l) ∧ Hid (Det W.heap.size w'.heap.size w' (fun w => ScV w w'.heap.size x l) ∧ Below W.heap.size W w')

set_option maxHeartbeats 2000000 in
set_option maxRecDepth 100000 in
theorem toScope_det (x : Sc) (l : ScLay) (W : World) (ho : ScV W W.heap.size x l) (hsm : ScSmall x) :
    Calls Try.prog 31 #[x.ag l] W (ToScD x W) := by
  obtain ⟨x0, x1, x2⟩ := x
  obtain ⟨A0, n0, c0, h0, A1, n1, c1, h1, A2, n2, c2, h2⟩ := l
  obtain ⟨k0, k1, k2⟩ := ho
  obtain ⟨s0, s1, s2⟩ := hsm
  try unfold ScV at k0 k1 k2
  try unfold ScSmall at s0 s1 s2
  dsimp only at k0 k1 k2 s0 s1 s2
  rw [k0.1] at s0
  have HK0 := Lib.hid k0
  have HS0 := Lib.hid s0
  rw [k1.1] at s1
  have HK1 := Lib.hid k1
  have HS1 := Lib.hid s1
  rw [k2.1] at s2
  have HK2 := Lib.hid k2
  have HS2 := Lib.hid s2
  clear k0 k1 k2 s0 s1 s2
  have HC := Lib.hid (fun (X Y : World) (T T' : TypeId) (c c' : Array Value) (eY : Y = W.alloc (.cells #[.slice A0 n0 c0, .slice A1 n1 c1, .slice A2 n2 c2] T)) (eX : X = (Y.alloc (.cells c T')).alloc (.cells c' T')) =>
    (show RW T X W.heap.size #[.slice A0 n0 c0, .slice A1 n1 c1, .slice A2 n2 c2] ∧ RW T' X (W.heap.size + 1 + 1) c' ∧ RW T' X (W.heap.size + 1) c ∧ Below W.heap.size W X ∧ X.heap.size = W.heap.size + 3 from by
      subst eX; subst eY
      refine ⟨((RW.new W _ T).alloc _).alloc _, ?_, ?_, ((below_alloc _ _).alloc (by simp) _).alloc (by simp; omega) _, by simp⟩
      · have := RW.new ((W.alloc (.cells #[.slice A0 n0 c0, .slice A1 n1 c1, .slice A2 n2 c2] T)).alloc (.cells c T')) c' T'
        simpa using this
      · have := (RW.new (W.alloc (.cells #[.slice A0 n0 c0, .slice A1 n1 c1, .slice A2 n2 c2] T)) c T').alloc (.cells c' T')
        simpa using this))
  show Calls Try.prog 31 #[.agg #[.slice A0 n0 c0, .slice A1 n1 c1, .slice A2 n2 c2]] W _
  go_enter Try.func31, Try.ntmps31
  go_wp2_with (go_at_call 47; obtain ⟨g0, g1, g4, g2, g3⟩ := HC.out _ _ _ _ _ _ rfl rfl; have HQ := toBindingS_any A0 n0 c0 x0 _ (HK0.out.go g2) HS0.out; refine Calls.mono HQ ?_; clear HQ; rintro e w1 ⟨rfl, h⟩; obtain ⟨hv, hb⟩ := h.out; have hd := hv.det; rw [g3] at hv hd; have HA1 := Lib.hid (g0.below hb (by omega)); have HR1 := Lib.hid (g1.below hb (by omega)); have HO1 := Lib.hid (g4.below hb (by omega)); have HB1 := Lib.hid (g2.trans (hb.mono g2.size)); have HV1_0 : Hid (Det (W.heap.size + 1 + 1 + 1) w1.heap.size w1 fun w => BdI w w1.heap.size (some ⟨W.heap.size + 1 + 1 + 1, 0, none⟩) n0 x0) := hd; have HG1 : Hid (W.heap.size + 3 ≤ w1.heap.size) := (by have := hb.size; show _ ≤ _; omega); clear g0 g1 g2 g3 g4 h hv hd hb HK0; have q11 : w1.cell? ⟨W.heap.size, 1, none⟩ = some (.slice A1 n1 c1) := HA1.out.cell 1; have p10 : w1.cell? ⟨W.heap.size + 1 + 1, 0, none⟩ = some (.slice none 0 0) := HR1.out.cell 0; have f10 := HR1.out.frozen 0)
  go_wp2_with (go_at_call 48; have hbs : Below (W.heap.size + 2) w1 (w1.setCell ⟨W.heap.size + 1 + 1, 0, none⟩ (.slice (some ⟨W.heap.size + 1 + 1 + 1, 0, none⟩) n0 n0)) := below_set w1 (p := ⟨W.heap.size + 1 + 1, 0, none⟩) (B := W.heap.size + 2) (Nat.le_refl _) (.slice (some ⟨W.heap.size + 1 + 1 + 1, 0, none⟩) n0 n0); have hzz : (w1.setCell ⟨W.heap.size + 1 + 1, 0, none⟩ (.slice (some ⟨W.heap.size + 1 + 1 + 1, 0, none⟩) n0 n0)).heap.size = w1.heap.size := (by simp [World.setCell]); have HQ := toFunctionS_any A1 n1 c1 x1 (w1.setCell ⟨W.heap.size + 1 + 1, 0, none⟩ (.slice (some ⟨W.heap.size + 1 + 1 + 1, 0, none⟩) n0 n0)) (HK1.out.go (HB1.out.trans (hbs.mono (by omega)))) HS1.out.1 HS1.out.2; refine Calls.mono HQ ?_; clear HQ; rintro e w2 ⟨rfl, h⟩; obtain ⟨hv, hb, hd⟩ := h.out; rw [hzz] at hb hv hd; have hsz := hb.size; rw [hzz] at hsz; have hs1 := HG1.out; have HA2 := Lib.hid ((HA1.out.below hbs (by omega)).below hb (by omega)); have HR2 := Lib.hid (((HR1.out).set_ 0 (.slice (some ⟨W.heap.size + 1 + 1 + 1, 0, none⟩) n0 n0)).below hb (by omega)); have HO2 := Lib.hid ((HO1.out.below hbs (by omega)).below hb (by omega)); have HB2 := Lib.hid ((HB1.out.trans (hbs.mono (by omega))).trans (hb.mono (by omega))); have HG2 : Hid (W.heap.size + 3 ≤ w2.heap.size) := (Nat.le_trans hs1 hsz); have HV2_1 : Hid (Det (w1.heap.size) w2.heap.size w2 fun w => FnI w w2.heap.size (some ⟨w1.heap.size, 0, none⟩) n1 x1) := hd; have HZ2 : Hid (w1.heap.size ≠ W.heap.size + 1 + 1) := (by show _ ≠ _; omega); have HV2_0 := Lib.hid (((((HV1_0.out).set (p := ⟨W.heap.size + 1 + 1, 0, none⟩) (by have := HG1.out; dsimp only; omega) (.slice (some ⟨W.heap.size + 1 + 1 + 1, 0, none⟩) n0 n0)).below hb (by omega)).wide (Nat.le_refl _) hsz).imp fun w h => h.more hsz); clear hbs hzz hb hv hd h hsz hs1 HK1; have q22 : w2.cell? ⟨W.heap.size, 2, none⟩ = some (.slice A2 n2 c2) := HA2.out.cell 2; have p21 : w2.cell? ⟨W.heap.size + 1 + 1, 1, none⟩ = some (.slice none 0 0) := HR2.out.cell 1; have f21 := HR2.out.frozen 1)
  go_wp2_with (go_at_call 49; have hbs : Below (W.heap.size + 2) w2 (w2.setCell ⟨W.heap.size + 1 + 1, 1, none⟩ (.slice (some ⟨w1.heap.size, 0, none⟩) n1 n1)) := below_set w2 (p := ⟨W.heap.size + 1 + 1, 1, none⟩) (B := W.heap.size + 2) (Nat.le_refl _) (.slice (some ⟨w1.heap.size, 0, none⟩) n1 n1); have hzz : (w2.setCell ⟨W.heap.size + 1 + 1, 1, none⟩ (.slice (some ⟨w1.heap.size, 0, none⟩) n1 n1)).heap.size = w2.heap.size := (by simp [World.setCell]); have HQ := toRecordTypeS_any A2 n2 c2 x2 (w2.setCell ⟨W.heap.size + 1 + 1, 1, none⟩ (.slice (some ⟨w1.heap.size, 0, none⟩) n1 n1)) (HK2.out.go (HB2.out.trans (hbs.mono (by omega)))) HS2.out.1 HS2.out.2; refine Calls.mono HQ ?_; clear HQ; rintro e w3 ⟨rfl, h⟩; obtain ⟨hv, hb, hd⟩ := h.out; rw [hzz] at hb hv hd; have hsz := hb.size; rw [hzz] at hsz; have hs1 := HG2.out; have HA3 := Lib.hid ((HA2.out.below hbs (by omega)).below hb (by omega)); have HR3 := Lib.hid (((HR2.out).set_ 1 (.slice (some ⟨w1.heap.size, 0, none⟩) n1 n1)).below hb (by omega)); have HO3 := Lib.hid ((HO2.out.below hbs (by omega)).below hb (by omega)); have HB3 := Lib.hid ((HB2.out.trans (hbs.mono (by omega))).trans (hb.mono (by omega))); have HG3 : Hid (W.heap.size + 3 ≤ w3.heap.size) := (Nat.le_trans hs1 hsz); have HV3_2 : Hid (Det (w2.heap.size) w3.heap.size w3 fun w => RtI w w3.heap.size (some ⟨w2.heap.size, 0, none⟩) n2 x2) := hd; have HZ3 : Hid (w2.heap.size ≠ W.heap.size + 1 + 1) := (by show _ ≠ _; omega); have HV3_0 := Lib.hid (((((HV2_0.out).set (p := ⟨W.heap.size + 1 + 1, 1, none⟩) (by have := HG2.out; dsimp only; omega) (.slice (some ⟨w1.heap.size, 0, none⟩) n1 n1)).below hb (by omega)).wide (Nat.le_refl _) hsz).imp fun w h => h.more hsz); have HV3_1 := Lib.hid (((((HV2_1.out).set (p := ⟨W.heap.size + 1 + 1, 1, none⟩) (by have := HG1.out; dsimp only; omega) (.slice (some ⟨w1.heap.size, 0, none⟩) n1 n1)).below hb (by omega)).wide (Nat.le_refl _) hsz).imp fun w h => h.more hsz); clear hbs hzz hb hv hd h hsz hs1 HK2; have p32 : w3.cell? ⟨W.heap.size + 1 + 1, 2, none⟩ = some (.slice none 0 0) := HR3.out.cell 2; have f32 := HR3.out.frozen 2; have p30 : w3.cell? ⟨W.heap.size + 1 + 1, 0, none⟩ = some (.slice (some ⟨W.heap.size + 1 + 1 + 1, 0, none⟩) n0 n0) := HR3.out.cell 0; have p31 : w3.cell? ⟨W.heap.size + 1 + 1, 1, none⟩ = some (.slice (some ⟨w1.heap.size, 0, none⟩) n1 n1) := HR3.out.cell 1; have r0 : w3.cell? ⟨W.heap.size + 1, 0, none⟩ = some (.slice none 0 0) := HO3.out.cell 0; have z0 := HO3.out.frozen 0; have r1 : w3.cell? ⟨W.heap.size + 1, 1, none⟩ = some (.slice none 0 0) := HO3.out.cell 1; have z1 := HO3.out.frozen 1; have r2 : w3.cell? ⟨W.heap.size + 1, 2, none⟩ = some (.slice none 0 0) := HO3.out.cell 2; have z2 := HO3.out.frozen 2)
  have hs1 := HG3.out
  have hb1 : Below (W.heap.size + 1) w3 ((((w3.setCell ⟨W.heap.size + 1 + 1, 2, none⟩ (.slice (some ⟨w2.heap.size, 0, none⟩) n2 n2)).setCell ⟨W.heap.size + 1, 0, none⟩ (.slice (some ⟨W.heap.size + 1 + 1 + 1, 0, none⟩) n0 n0)).setCell ⟨W.heap.size + 1, 1, none⟩ (.slice (some ⟨w1.heap.size, 0, none⟩) n1 n1)).setCell ⟨W.heap.size + 1, 2, none⟩ (.slice (some ⟨w2.heap.size, 0, none⟩) n2 n2)) := ((((below_set w3 (p := ⟨W.heap.size + 1 + 1, 2, none⟩) (by simp) _).setCell (by simp) _).setCell (by simp) _).setCell (by simp) _)
  have hzz : ((((w3.setCell ⟨W.heap.size + 1 + 1, 2, none⟩ (.slice (some ⟨w2.heap.size, 0, none⟩) n2 n2)).setCell ⟨W.heap.size + 1, 0, none⟩ (.slice (some ⟨W.heap.size + 1 + 1 + 1, 0, none⟩) n0 n0)).setCell ⟨W.heap.size + 1, 1, none⟩ (.slice (some ⟨w1.heap.size, 0, none⟩) n1 n1)).setCell ⟨W.heap.size + 1, 2, none⟩ (.slice (some ⟨w2.heap.size, 0, none⟩) n2 n2)).heap.size = w3.heap.size := by simp [World.setCell]
  refine bodyPost_ret (v := .agg #[.slice (some ⟨W.heap.size + 1 + 1 + 1, 0, none⟩) n0 n0, .slice (some ⟨w1.heap.size, 0, none⟩) n1 n1, .slice (some ⟨w2.heap.size, 0, none⟩) n2 n2]) (results_cell_row Try.results31 _ _ (W.heap.size + 1) 52 _ (0, 0) _ rfl ((((((((HO3.out).other (p := ⟨W.heap.size + 1 + 1, 2, none⟩) (by simp) (.slice (some ⟨w2.heap.size, 0, none⟩) n2 n2))).set_ 0 (.slice (some ⟨W.heap.size + 1 + 1 + 1, 0, none⟩) n0 n0))).set_ 1 (.slice (some ⟨w1.heap.size, 0, none⟩) n1 n1))).set_ 2 (.slice (some ⟨w2.heap.size, 0, none⟩) n2 n2)) Try.underlying52 rfl (by kernel_rfl)) rfl ⟨⟨some ⟨W.heap.size + 1 + 1 + 1, 0, none⟩, n0, n0, Nat.le_refl _, some ⟨w1.heap.size, 0, none⟩, n1, n1, Nat.le_refl _, some ⟨w2.heap.size, 0, none⟩, n2, n2, Nat.le_refl _⟩, rfl, Lib.hid ⟨?_, HB3.out.trans (hb1.mono (by omega))⟩⟩
  show Det W.heap.size ((((w3.setCell ⟨W.heap.size + 1 + 1, 2, none⟩ (.slice (some ⟨w2.heap.size, 0, none⟩) n2 n2)).setCell ⟨W.heap.size + 1, 0, none⟩ (.slice (some ⟨W.heap.size + 1 + 1 + 1, 0, none⟩) n0 n0)).setCell ⟨W.heap.size + 1, 1, none⟩ (.slice (some ⟨w1.heap.size, 0, none⟩) n1 n1)).setCell ⟨W.heap.size + 1, 2, none⟩ (.slice (some ⟨w2.heap.size, 0, none⟩) n2 n2)).heap.size ((((w3.setCell ⟨W.heap.size + 1 + 1, 2, none⟩ (.slice (some ⟨w2.heap.size, 0, none⟩) n2 n2)).setCell ⟨W.heap.size + 1, 0, none⟩ (.slice (some ⟨W.heap.size + 1 + 1 + 1, 0, none⟩) n0 n0)).setCell ⟨W.heap.size + 1, 1, none⟩ (.slice (some ⟨w1.heap.size, 0, none⟩) n1 n1)).setCell ⟨W.heap.size + 1, 2, none⟩ (.slice (some ⟨w2.heap.size, 0, none⟩) n2 n2)) (fun w => ScV w ((((w3.setCell ⟨W.heap.size + 1 + 1, 2, none⟩ (.slice (some ⟨w2.heap.size, 0, none⟩) n2 n2)).setCell ⟨W.heap.size + 1, 0, none⟩ (.slice (some ⟨W.heap.size + 1 + 1 + 1, 0, none⟩) n0 n0)).setCell ⟨W.heap.size + 1, 1, none⟩ (.slice (some ⟨w1.heap.size, 0, none⟩) n1 n1)).setCell ⟨W.heap.size + 1, 2, none⟩ (.slice (some ⟨w2.heap.size, 0, none⟩) n2 n2)).heap.size ⟨x0, x1, x2⟩ ⟨some ⟨W.heap.size + 1 + 1 + 1, 0, none⟩, n0, n0, Nat.le_refl _, some ⟨w1.heap.size, 0, none⟩, n1, n1, Nat.le_refl _, some ⟨w2.heap.size, 0, none⟩, n2, n2, Nat.le_refl _⟩)
  rw [hzz]
  exact fun w' k => ⟨((((((((HV3_0.out).set (p := ⟨W.heap.size + 1 + 1, 2, none⟩) (by first | (dsimp only; omega) | omega) _)).set (p := ⟨W.heap.size + 1, 0, none⟩) (by first | (dsimp only; omega) | omega) _)).set (p := ⟨W.heap.size + 1, 1, none⟩) (by first | (dsimp only; omega) | omega) _)).set (p := ⟨W.heap.size + 1, 2, none⟩) (by first | (dsimp only; omega) | omega) _) w' (fun g h1 h2 => k g (by have := HG1.out; have := HG2.out; have := HG3.out; omega) h2), ((((((((HV3_1.out).set (p := ⟨W.heap.size + 1 + 1, 2, none⟩) (by have := HG1.out; first | (dsimp only; omega) | omega) _)).set (p := ⟨W.heap.size + 1, 0, none⟩) (by have := HG1.out; first | (dsimp only; omega) | omega) _)).set (p := ⟨W.heap.size + 1, 1, none⟩) (by have := HG1.out; first | (dsimp only; omega) | omega) _)).set (p := ⟨W.heap.size + 1, 2, none⟩) (by have := HG1.out; first | (dsimp only; omega) | omega) _) w' (fun g h1 h2 => k g (by have := HG1.out; have := HG2.out; have := HG3.out; omega) h2), ((((((((HV3_2.out).set (p := ⟨W.heap.size + 1 + 1, 2, none⟩) (by have := HG2.out; first | (dsimp only; omega) | omega) _)).set (p := ⟨W.heap.size + 1, 0, none⟩) (by have := HG2.out; first | (dsimp only; omega) | omega) _)).set (p := ⟨W.heap.size + 1, 1, none⟩) (by have := HG2.out; first | (dsimp only; omega) | omega) _)).set (p := ⟨W.heap.size + 1, 2, none⟩) (by have := HG2.out; first | (dsimp only; omega) | omega) _) w' (fun g h1 h2 => k g (by have := HG1.out; have := HG2.out; have := HG3.out; omega) h2)⟩

end Go.Proofs.Ytjhemdgeafglhaa

namespace Go.Proofs.Ytjhemdgeafglhaa
open Go Go.RowKit

/-- What toConsole answers. -/
def ToCnD (x : Cn) (W : World) (e : Ending) (w' : World) : Prop := ∃ l, e = .returned (x.ag l) ∧ Hid (Det W.heap.size w'.heap.size w' (fun w => CnV w w'.heap.size x l) ∧ Below W.heap.size W w')

set_option maxHeartbeats 2000000 in
set_option maxRecDepth 100000 in
theorem toConsole_det (x : Cn) (l : CnLay) (W : World) (ho : CnV W W.heap.size x l) (hsm : CnSmall x) :
    Calls Try.prog 7 #[x.ag l] W (ToCnD x W) := by
  obtain ⟨x0, x1, x2, x3, x4⟩ := x
  obtain ⟨A0, n0, c0, h0, A2, n2, c2, h2, A3, n3, c3, h3, A4, n4, c4, h4⟩ := l
  obtain ⟨k0, k2, k3, k4⟩ := ho
  obtain ⟨s0, s2, s3, s4⟩ := hsm
  try unfold CnV at k0 k2 k3 k4
  try unfold CnSmall at s0 s2 s3 s4
  dsimp only at k0 k2 k3 k4 s0 s2 s3 s4
  rw [k0.1] at s0
  have HK0 := Lib.hid k0
  have HS0 := Lib.hid s0
  rw [k2.1] at s2
  have HK2 := Lib.hid k2
  have HS2 := Lib.hid s2
  rw [k3.1] at s3
  have HK3 := Lib.hid k3
  have HS3 := Lib.hid s3
  rw [k4.1] at s4
  have HK4 := Lib.hid k4
  have HS4 := Lib.hid s4
  clear k0 k2 k3 k4 s0 s2 s3 s4
  have HC := Lib.hid (fun (X Y : World) (T T' : TypeId) (c c' : Array Value) (eY : Y = W.alloc (.cells #[.slice A0 n0 c0, .int .i64 x1, .slice A2 n2 c2, .slice A3 n3 c3, .slice A4 n4 c4] T)) (eX : X = (Y.alloc (.cells c T')).alloc (.cells c' T')) =>
    (show RW T X W.heap.size #[.slice A0 n0 c0, .int .i64 x1, .slice A2 n2 c2, .slice A3 n3 c3, .slice A4 n4 c4] ∧ RW T' X (W.heap.size + 1 + 1) c' ∧ RW T' X (W.heap.size + 1) c ∧ Below W.heap.size W X ∧ X.heap.size = W.heap.size + 3 from by
      subst eX; subst eY
      refine ⟨((RW.new W _ T).alloc _).alloc _, ?_, ?_, ((below_alloc _ _).alloc (by simp) _).alloc (by simp; omega) _, by simp⟩
      · have := RW.new ((W.alloc (.cells #[.slice A0 n0 c0, .int .i64 x1, .slice A2 n2 c2, .slice A3 n3 c3, .slice A4 n4 c4] T)).alloc (.cells c T')) c' T'
        simpa using this
      · have := (RW.new (W.alloc (.cells #[.slice A0 n0 c0, .int .i64 x1, .slice A2 n2 c2, .slice A3 n3 c3, .slice A4 n4 c4] T)) c T').alloc (.cells c' T')
        simpa using this))
  show Calls Try.prog 7 #[.agg #[.slice A0 n0 c0, .int .i64 x1, .slice A2 n2 c2, .slice A3 n3 c3, .slice A4 n4 c4]] W _
  go_enter Try.func7, Try.ntmps7
  go_wp2_with (go_at_call 19; obtain ⟨g0, g1, g4, g2, g3⟩ := HC.out _ _ _ _ _ _ rfl rfl; have HQ := toStringS_any A0 n0 c0 x0 _ (HK0.out.go g2) HS0.out; refine Calls.mono HQ ?_; clear HQ; rintro e w1 ⟨rfl, h⟩; obtain ⟨hv, hb⟩ := h.out; have hd := hv.det; rw [g3] at hv hd; have HA1 := Lib.hid (g0.below hb (by omega)); have HR1 := Lib.hid (g1.below hb (by omega)); have HO1 := Lib.hid (g4.below hb (by omega)); have HB1 := Lib.hid (g2.trans (hb.mono g2.size)); have HV1_0 : Hid (Det (W.heap.size + 1 + 1 + 1) w1.heap.size w1 fun w => StI w w1.heap.size (some ⟨W.heap.size + 1 + 1 + 1, 0, none⟩) n0 x0) := hd; have HG1 : Hid (W.heap.size + 3 ≤ w1.heap.size) := (by have := hb.size; show _ ≤ _; omega); clear g0 g1 g2 g3 g4 h hv hd hb HK0; have q11 : w1.cell? ⟨W.heap.size, 1, none⟩ = some (.int .i64 x1) := HA1.out.cell 1; have q12 : w1.cell? ⟨W.heap.size, 2, none⟩ = some (.slice A2 n2 c2) := HA1.out.cell 2; have p10 : w1.cell? ⟨W.heap.size + 1 + 1, 0, none⟩ = some (.slice none 0 0) := HR1.out.cell 0; have f10 := HR1.out.frozen 0; have p11 : w1.cell? ⟨W.heap.size + 1 + 1, 1, none⟩ = some (.int .i64 0) := HR1.out.cell 1; have f11 := HR1.out.frozen 1)
  go_wp2_with (go_at_call 19; have hbs : Below (W.heap.size + 2) w1 ((w1.setCell ⟨W.heap.size + 1 + 1, 0, none⟩ (.slice (some ⟨W.heap.size + 1 + 1 + 1, 0, none⟩) n0 n0)).setCell ⟨W.heap.size + 1 + 1, 1, none⟩ (.int .i64 x1)) := (below_set w1 (p := ⟨W.heap.size + 1 + 1, 0, none⟩) (B := W.heap.size + 2) (Nat.le_refl _) (.slice (some ⟨W.heap.size + 1 + 1 + 1, 0, none⟩) n0 n0)).setCell (Nat.le_refl _) (.int .i64 x1); have hzz : ((w1.setCell ⟨W.heap.size + 1 + 1, 0, none⟩ (.slice (some ⟨W.heap.size + 1 + 1 + 1, 0, none⟩) n0 n0)).setCell ⟨W.heap.size + 1 + 1, 1, none⟩ (.int .i64 x1)).heap.size = w1.heap.size := (by simp [World.setCell]); have HQ := toStringS_any A2 n2 c2 x2 ((w1.setCell ⟨W.heap.size + 1 + 1, 0, none⟩ (.slice (some ⟨W.heap.size + 1 + 1 + 1, 0, none⟩) n0 n0)).setCell ⟨W.heap.size + 1 + 1, 1, none⟩ (.int .i64 x1)) (HK2.out.go (HB1.out.trans (hbs.mono (by omega)))) HS2.out; refine Calls.mono HQ ?_; clear HQ; rintro e w2 ⟨rfl, h⟩; obtain ⟨hv, hb⟩ := h.out; have hd := hv.det; rw [hzz] at hb hv hd; have hsz := hb.size; rw [hzz] at hsz; have hs1 := HG1.out; have HA2 := Lib.hid ((HA1.out.below hbs (by omega)).below hb (by omega)); have HR2 := Lib.hid ((((HR1.out).set_ 0 (.slice (some ⟨W.heap.size + 1 + 1 + 1, 0, none⟩) n0 n0)).set_ 1 (.int .i64 x1)).below hb (by omega)); have HO2 := Lib.hid ((HO1.out.below hbs (by omega)).below hb (by omega)); have HB2 := Lib.hid ((HB1.out.trans (hbs.mono (by omega))).trans (hb.mono (by omega))); have HG2 : Hid (W.heap.size + 3 ≤ w2.heap.size) := (Nat.le_trans hs1 hsz); have HV2_2 : Hid (Det (w1.heap.size) w2.heap.size w2 fun w => StI w w2.heap.size (some ⟨w1.heap.size, 0, none⟩) n2 x2) := hd; have HZ2 : Hid (w1.heap.size ≠ W.heap.size + 1 + 1) := (by show _ ≠ _; omega); have HV2_0 := Lib.hid ((((((HV1_0.out).set (p := ⟨W.heap.size + 1 + 1, 0, none⟩) (by have := HG1.out; dsimp only; omega) (.slice (some ⟨W.heap.size + 1 + 1 + 1, 0, none⟩) n0 n0)).set (p := ⟨W.heap.size + 1 + 1, 1, none⟩) (by have := HG1.out; dsimp only; omega) (.int .i64 x1)).below hb (by omega)).wide (Nat.le_refl _) hsz).imp fun w h => h.more hsz); clear hbs hzz hb hv hd h hsz hs1 HK2; have q23 : w2.cell? ⟨W.heap.size, 3, none⟩ = some (.slice A3 n3 c3) := HA2.out.cell 3; have p22 : w2.cell? ⟨W.heap.size + 1 + 1, 2, none⟩ = some (.slice none 0 0) := HR2.out.cell 2; have f22 := HR2.out.frozen 2)
  go_wp2_with (go_at_call 20; have hbs : Below (W.heap.size + 2) w2 (w2.setCell ⟨W.heap.size + 1 + 1, 2, none⟩ (.slice (some ⟨w1.heap.size, 0, none⟩) n2 n2)) := below_set w2 (p := ⟨W.heap.size + 1 + 1, 2, none⟩) (B := W.heap.size + 2) (Nat.le_refl _) (.slice (some ⟨w1.heap.size, 0, none⟩) n2 n2); have hzz : (w2.setCell ⟨W.heap.size + 1 + 1, 2, none⟩ (.slice (some ⟨w1.heap.size, 0, none⟩) n2 n2)).heap.size = w2.heap.size := (by simp [World.setCell]); have HQ := toFileS_any A3 n3 c3 x3 (w2.setCell ⟨W.heap.size + 1 + 1, 2, none⟩ (.slice (some ⟨w1.heap.size, 0, none⟩) n2 n2)) (HK3.out.go (HB2.out.trans (hbs.mono (by omega)))) HS3.out.1 HS3.out.2; refine Calls.mono HQ ?_; clear HQ; rintro e w3 ⟨rfl, h⟩; obtain ⟨hv, hb, hd⟩ := h.out; rw [hzz] at hb hv hd; have hsz := hb.size; rw [hzz] at hsz; have hs1 := HG2.out; have HA3 := Lib.hid ((HA2.out.below hbs (by omega)).below hb (by omega)); have HR3 := Lib.hid (((HR2.out).set_ 2 (.slice (some ⟨w1.heap.size, 0, none⟩) n2 n2)).below hb (by omega)); have HO3 := Lib.hid ((HO2.out.below hbs (by omega)).below hb (by omega)); have HB3 := Lib.hid ((HB2.out.trans (hbs.mono (by omega))).trans (hb.mono (by omega))); have HG3 : Hid (W.heap.size + 3 ≤ w3.heap.size) := (Nat.le_trans hs1 hsz); have HV3_3 : Hid (Det (w2.heap.size) w3.heap.size w3 fun w => FlI w w3.heap.size (some ⟨w2.heap.size, 0, none⟩) n3 x3) := hd; have HZ3 : Hid (w2.heap.size ≠ W.heap.size + 1 + 1) := (by show _ ≠ _; omega); have HV3_0 := Lib.hid (((((HV2_0.out).set (p := ⟨W.heap.size + 1 + 1, 2, none⟩) (by have := HG2.out; dsimp only; omega) (.slice (some ⟨w1.heap.size, 0, none⟩) n2 n2)).below hb (by omega)).wide (Nat.le_refl _) hsz).imp fun w h => h.more hsz); have HV3_2 := Lib.hid (((((HV2_2.out).set (p := ⟨W.heap.size + 1 + 1, 2, none⟩) (by have := HG1.out; dsimp only; omega) (.slice (some ⟨w1.heap.size, 0, none⟩) n2 n2)).below hb (by omega)).wide (Nat.le_refl _) hsz).imp fun w h => h.more hsz); clear hbs hzz hb hv hd h hsz hs1 HK3; have q34 : w3.cell? ⟨W.heap.size, 4, none⟩ = some (.slice A4 n4 c4) := HA3.out.cell 4; have p33 : w3.cell? ⟨W.heap.size + 1 + 1, 3, none⟩ = some (.slice none 0 0) := HR3.out.cell 3; have f33 := HR3.out.frozen 3)
  go_wp2_with (go_at_call 19; have hbs : Below (W.heap.size + 2) w3 (w3.setCell ⟨W.heap.size + 1 + 1, 3, none⟩ (.slice (some ⟨w2.heap.size, 0, none⟩) n3 n3)) := below_set w3 (p := ⟨W.heap.size + 1 + 1, 3, none⟩) (B := W.heap.size + 2) (Nat.le_refl _) (.slice (some ⟨w2.heap.size, 0, none⟩) n3 n3); have hzz : (w3.setCell ⟨W.heap.size + 1 + 1, 3, none⟩ (.slice (some ⟨w2.heap.size, 0, none⟩) n3 n3)).heap.size = w3.heap.size := (by simp [World.setCell]); have HQ := toStringS_any A4 n4 c4 x4 (w3.setCell ⟨W.heap.size + 1 + 1, 3, none⟩ (.slice (some ⟨w2.heap.size, 0, none⟩) n3 n3)) (HK4.out.go (HB3.out.trans (hbs.mono (by omega)))) HS4.out; refine Calls.mono HQ ?_; clear HQ; rintro e w4 ⟨rfl, h⟩; obtain ⟨hv, hb⟩ := h.out; have hd := hv.det; rw [hzz] at hb hv hd; have hsz := hb.size; rw [hzz] at hsz; have hs1 := HG3.out; have HA4 := Lib.hid ((HA3.out.below hbs (by omega)).below hb (by omega)); have HR4 := Lib.hid (((HR3.out).set_ 3 (.slice (some ⟨w2.heap.size, 0, none⟩) n3 n3)).below hb (by omega)); have HO4 := Lib.hid ((HO3.out.below hbs (by omega)).below hb (by omega)); have HB4 := Lib.hid ((HB3.out.trans (hbs.mono (by omega))).trans (hb.mono (by omega))); have HG4 : Hid (W.heap.size + 3 ≤ w4.heap.size) := (Nat.le_trans hs1 hsz); have HV4_4 : Hid (Det (w3.heap.size) w4.heap.size w4 fun w => StI w w4.heap.size (some ⟨w3.heap.size, 0, none⟩) n4 x4) := hd; have HZ4 : Hid (w3.heap.size ≠ W.heap.size + 1 + 1) := (by show _ ≠ _; omega); have HV4_0 := Lib.hid (((((HV3_0.out).set (p := ⟨W.heap.size + 1 + 1, 3, none⟩) (by have := HG3.out; dsimp only; omega) (.slice (some ⟨w2.heap.size, 0, none⟩) n3 n3)).below hb (by omega)).wide (Nat.le_refl _) hsz).imp fun w h => h.more hsz); have HV4_2 := Lib.hid (((((HV3_2.out).set (p := ⟨W.heap.size + 1 + 1, 3, none⟩) (by have := HG1.out; dsimp only; omega) (.slice (some ⟨w2.heap.size, 0, none⟩) n3 n3)).below hb (by omega)).wide (Nat.le_refl _) hsz).imp fun w h => h.more hsz); have HV4_3 := Lib.hid (((((HV3_3.out).set (p := ⟨W.heap.size + 1 + 1, 3, none⟩) (by have := HG2.out; dsimp only; omega) (.slice (some ⟨w2.heap.size, 0, none⟩) n3 n3)).below hb (by omega)).wide (Nat.le_refl _) hsz).imp fun w h => h.more hsz); clear hbs hzz hb hv hd h hsz hs1 HK4; have p44 : w4.cell? ⟨W.heap.size + 1 + 1, 4, none⟩ = some (.slice none 0 0) := HR4.out.cell 4; have f44 := HR4.out.frozen 4; have p40 : w4.cell? ⟨W.heap.size + 1 + 1, 0, none⟩ = some (.slice (some ⟨W.heap.size + 1 + 1 + 1, 0, none⟩) n0 n0) := HR4.out.cell 0; have p41 : w4.cell? ⟨W.heap.size + 1 + 1, 1, none⟩ = some (.int .i64 x1) := HR4.out.cell 1; have p42 : w4.cell? ⟨W.heap.size + 1 + 1, 2, none⟩ = some (.slice (some ⟨w1.heap.size, 0, none⟩) n2 n2) := HR4.out.cell 2; have p43 : w4.cell? ⟨W.heap.size + 1 + 1, 3, none⟩ = some (.slice (some ⟨w2.heap.size, 0, none⟩) n3 n3) := HR4.out.cell 3; have r0 : w4.cell? ⟨W.heap.size + 1, 0, none⟩ = some (.slice none 0 0) := HO4.out.cell 0; have z0 := HO4.out.frozen 0; have r1 : w4.cell? ⟨W.heap.size + 1, 1, none⟩ = some (.int .i64 0) := HO4.out.cell 1; have z1 := HO4.out.frozen 1; have r2 : w4.cell? ⟨W.heap.size + 1, 2, none⟩ = some (.slice none 0 0) := HO4.out.cell 2; have z2 := HO4.out.frozen 2; have r3 : w4.cell? ⟨W.heap.size + 1, 3, none⟩ = some (.slice none 0 0) := HO4.out.cell 3; have z3 := HO4.out.frozen 3; have r4 : w4.cell? ⟨W.heap.size + 1, 4, none⟩ = some (.slice none 0 0) := HO4.out.cell 4; have z4 := HO4.out.frozen 4)
  have hs1 := HG4.out
  have hb1 : Below (W.heap.size + 1) w4 ((((((w4.setCell ⟨W.heap.size + 1 + 1, 4, none⟩ (.slice (some ⟨w3.heap.size, 0, none⟩) n4 n4)).setCell ⟨W.heap.size + 1, 0, none⟩ (.slice (some ⟨W.heap.size + 1 + 1 + 1, 0, none⟩) n0 n0)).setCell ⟨W.heap.size + 1, 1, none⟩ (.int .i64 x1)).setCell ⟨W.heap.size + 1, 2, none⟩ (.slice (some ⟨w1.heap.size, 0, none⟩) n2 n2)).setCell ⟨W.heap.size + 1, 3, none⟩ (.slice (some ⟨w2.heap.size, 0, none⟩) n3 n3)).setCell ⟨W.heap.size + 1, 4, none⟩ (.slice (some ⟨w3.heap.size, 0, none⟩) n4 n4)) := ((((((below_set w4 (p := ⟨W.heap.size + 1 + 1, 4, none⟩) (by simp) _).setCell (by simp) _).setCell (by simp) _).setCell (by simp) _).setCell (by simp) _).setCell (by simp) _)
  have hzz : ((((((w4.setCell ⟨W.heap.size + 1 + 1, 4, none⟩ (.slice (some ⟨w3.heap.size, 0, none⟩) n4 n4)).setCell ⟨W.heap.size + 1, 0, none⟩ (.slice (some ⟨W.heap.size + 1 + 1 + 1, 0, none⟩) n0 n0)).setCell ⟨W.heap.size + 1, 1, none⟩ (.int .i64 x1)).setCell ⟨W.heap.size + 1, 2, none⟩ (.slice (some ⟨w1.heap.size, 0, none⟩) n2 n2)).setCell ⟨W.heap.size + 1, 3, none⟩ (.slice (some ⟨w2.heap.size, 0, none⟩) n3 n3)).setCell ⟨W.heap.size + 1, 4, none⟩ (.slice (some ⟨w3.heap.size, 0, none⟩) n4 n4)).heap.size = w4.heap.size := by simp [World.setCell]
  refine bodyPost_ret (v := .agg #[.slice (some ⟨W.heap.size + 1 + 1 + 1, 0, none⟩) n0 n0, .int .i64 x1, .slice (some ⟨w1.heap.size, 0, none⟩) n2 n2, .slice (some ⟨w2.heap.size, 0, none⟩) n3 n3, .slice (some ⟨w3.heap.size, 0, none⟩) n4 n4]) (results_cell_row Try.results7 _ _ (W.heap.size + 1) 30 _ (0, 0) _ rfl ((((((((((((HO4.out).other (p := ⟨W.heap.size + 1 + 1, 4, none⟩) (by simp) (.slice (some ⟨w3.heap.size, 0, none⟩) n4 n4))).set_ 0 (.slice (some ⟨W.heap.size + 1 + 1 + 1, 0, none⟩) n0 n0))).set_ 1 (.int .i64 x1))).set_ 2 (.slice (some ⟨w1.heap.size, 0, none⟩) n2 n2))).set_ 3 (.slice (some ⟨w2.heap.size, 0, none⟩) n3 n3))).set_ 4 (.slice (some ⟨w3.heap.size, 0, none⟩) n4 n4)) Try.underlying30 rfl (by kernel_rfl)) rfl ⟨⟨some ⟨W.heap.size + 1 + 1 + 1, 0, none⟩, n0, n0, Nat.le_refl _, some ⟨w1.heap.size, 0, none⟩, n2, n2, Nat.le_refl _, some ⟨w2.heap.size, 0, none⟩, n3, n3, Nat.le_refl _, some ⟨w3.heap.size, 0, none⟩, n4, n4, Nat.le_refl _⟩, rfl, Lib.hid ⟨?_, HB4.out.trans (hb1.mono (by omega))⟩⟩
  show Det W.heap.size ((((((w4.setCell ⟨W.heap.size + 1 + 1, 4, none⟩ (.slice (some ⟨w3.heap.size, 0, none⟩) n4 n4)).setCell ⟨W.heap.size + 1, 0, none⟩ (.slice (some ⟨W.heap.size + 1 + 1 + 1, 0, none⟩) n0 n0)).setCell ⟨W.heap.size + 1, 1, none⟩ (.int .i64 x1)).setCell ⟨W.heap.size + 1, 2, none⟩ (.slice (some ⟨w1.heap.size, 0, none⟩) n2 n2)).setCell ⟨W.heap.size + 1, 3, none⟩ (.slice (some ⟨w2.heap.size, 0, none⟩) n3 n3)).setCell ⟨W.heap.size + 1, 4, none⟩ (.slice (some ⟨w3.heap.size, 0, none⟩) n4 n4)).heap.size ((((((w4.setCell ⟨W.heap.size + 1 + 1, 4, none⟩ (.slice (some ⟨w3.heap.size, 0, none⟩) n4 n4)).setCell ⟨W.heap.size + 1, 0, none⟩ (.slice (some ⟨W.heap.size + 1 + 1 + 1, 0, none⟩) n0 n0)).setCell ⟨W.heap.size + 1, 1, none⟩ (.int .i64 x1)).setCell ⟨W.heap.size + 1, 2, none⟩ (.slice (some ⟨w1.heap.size, 0, none⟩) n2 n2)).setCell ⟨W.heap.size + 1, 3, none⟩ (.slice (some ⟨w2.heap.size, 0, none⟩) n3 n3)).setCell ⟨W.heap.size + 1, 4, none⟩ (.slice (some ⟨w3.heap.size, 0, none⟩) n4 n4)) (fun w => CnV w ((((((w4.setCell ⟨W.heap.size + 1 + 1, 4, none⟩ (.slice (some ⟨w3.heap.size, 0, none⟩) n4 n4)).setCell ⟨W.heap.size + 1, 0, none⟩ (.slice (some ⟨W.heap.size + 1 + 1 + 1, 0, none⟩) n0 n0)).setCell ⟨W.heap.size + 1, 1, none⟩ (.int .i64 x1)).setCell ⟨W.heap.size + 1, 2, none⟩ (.slice (some ⟨w1.heap.size, 0, none⟩) n2 n2)).setCell ⟨W.heap.size + 1, 3, none⟩ (.slice (some ⟨w2.heap.size, 0, none⟩) n3 n3)).setCell ⟨W.heap.size + 1, 4, none⟩ (.slice (some ⟨w3.heap.size, 0, none⟩) n4 n4)).heap.size ⟨x0, x1, x2, x3, x4⟩ ⟨some ⟨W.heap.size + 1 + 1 + 1, 0, none⟩, n0, n0, Nat.le_refl _, some ⟨w1.heap.size, 0, none⟩, n2, n2, Nat.le_refl _, some ⟨w2.heap.size, 0, none⟩, n3, n3, Nat.le_refl _, some ⟨w3.heap.size, 0, none⟩, n4, n4, Nat.le_refl _⟩)
  rw [hzz]
  exact fun w' k => ⟨((((((((((((HV4_0.out).set (p := ⟨W.heap.size + 1 + 1, 4, none⟩) (by first | (dsimp only; omega) | omega) _)).set (p := ⟨W.heap.size + 1, 0, none⟩) (by first | (dsimp only; omega) | omega) _)).set (p := ⟨W.heap.size + 1, 1, none⟩) (by first | (dsimp only; omega) | omega) _)).set (p := ⟨W.heap.size + 1, 2, none⟩) (by first | (dsimp only; omega) | omega) _)).set (p := ⟨W.heap.size + 1, 3, none⟩) (by first | (dsimp only; omega) | omega) _)).set (p := ⟨W.heap.size + 1, 4, none⟩) (by first | (dsimp only; omega) | omega) _) w' (fun g h1 h2 => k g (by have := HG1.out; have := HG2.out; have := HG3.out; have := HG4.out; omega) h2), ((((((((((((HV4_2.out).set (p := ⟨W.heap.size + 1 + 1, 4, none⟩) (by have := HG1.out; first | (dsimp only; omega) | omega) _)).set (p := ⟨W.heap.size + 1, 0, none⟩) (by have := HG1.out; first | (dsimp only; omega) | omega) _)).set (p := ⟨W.heap.size + 1, 1, none⟩) (by have := HG1.out; first | (dsimp only; omega) | omega) _)).set (p := ⟨W.heap.size + 1, 2, none⟩) (by have := HG1.out; first | (dsimp only; omega) | omega) _)).set (p := ⟨W.heap.size + 1, 3, none⟩) (by have := HG1.out; first | (dsimp only; omega) | omega) _)).set (p := ⟨W.heap.size + 1, 4, none⟩) (by have := HG1.out; first | (dsimp only; omega) | omega) _) w' (fun g h1 h2 => k g (by have := HG1.out; have := HG2.out; have := HG3.out; have := HG4.out; omega) h2), ((((((((((((HV4_3.out).set (p := ⟨W.heap.size + 1 + 1, 4, none⟩) (by have := HG2.out; first | (dsimp only; omega) | omega) _)).set (p := ⟨W.heap.size + 1, 0, none⟩) (by have := HG2.out; first | (dsimp only; omega) | omega) _)).set (p := ⟨W.heap.size + 1, 1, none⟩) (by have := HG2.out; first | (dsimp only; omega) | omega) _)).set (p := ⟨W.heap.size + 1, 2, none⟩) (by have := HG2.out; first | (dsimp only; omega) | omega) _)).set (p := ⟨W.heap.size + 1, 3, none⟩) (by have := HG2.out; first | (dsimp only; omega) | omega) _)).set (p := ⟨W.heap.size + 1, 4, none⟩) (by have := HG2.out; first | (dsimp only; omega) | omega) _) w' (fun g h1 h2 => k g (by have := HG1.out; have := HG2.out; have := HG3.out; have := HG4.out; omega) h2), ((((((((((((HV4_4.out).set (p := ⟨W.heap.size + 1 + 1, 4, none⟩) (by have := HG3.out; first | (dsimp only; omega) | omega) _)).set (p := ⟨W.heap.size + 1, 0, none⟩) (by have := HG3.out; first | (dsimp only; omega) | omega) _)).set (p := ⟨W.heap.size + 1, 1, none⟩) (by have := HG3.out; first | (dsimp only; omega) | omega) _)).set (p := ⟨W.heap.size + 1, 2, none⟩) (by have := HG3.out; first | (dsimp only; omega) | omega) _)).set (p := ⟨W.heap.size + 1, 3, none⟩) (by have := HG3.out; first | (dsimp only; omega) | omega) _)).set (p := ⟨W.heap.size + 1, 4, none⟩) (by have := HG3.out; first | (dsimp only; omega) | omega) _) w' (fun g h1 h2 => k g (by have := HG1.out; have := HG2.out; have := HG3.out; have := HG4.out; omega) h2)⟩


end Go.Proofs.Ytjhemdgeafglhaa

namespace Go.Proofs.Ytjhemdgeafglhaa
open Go Go.RowKit

theorem putL_mid : ∀ (vs b a c : List Value), b.length = vs.length → putL (a ++ (b ++ c)).toArray a.length vs = (a ++ (vs ++ c)).toArray
  | [], b, a, c, h => by rw [List.eq_nil_of_length_eq_zero h]; rfl
  | v :: r, [], a, c, h => by simp at h
  | v :: r, u :: b, a, c, h => by
    have e : ((a ++ (u :: b ++ c)).toArray).setIfInBounds a.length v = ((a ++ [v]) ++ (b ++ c)).toArray := by simp
    have := putL_mid r b (a ++ [v]) c (by simpa using h)
    rw [List.length_append, List.length_singleton] at this
    rw [putL, e, this]
    simp
end Go.Proofs.Ytjhemdgeafglhaa

namespace Go.Proofs.Ytjhemdgeafglhaa
open Go Go.RowKit

theorem FilledO.fars {g j n b : Nat} {os : List Ob} (hb : b < g) : ∀ (vs : List Value) (w : World) (i : Nat), FilledO w g j n os → FilledO (w.setCells b i vs) g j n os
  | [], _, _, h => h
  | v :: r, w, i, h => FilledO.fars hb r (w.setCell ⟨b, i, none⟩ v) (i + 1) (h.far hb v)
theorem Det.sets {a b g : Nat} {P : World → Prop} (hg : g < a) : ∀ (vs : List Value) (w : World) (i : Nat), Det a b w P → Det a b (w.setCells g i vs) P
  | [], _, _, h => h
  | v :: r, w, i, h => Det.sets hg r (w.setCell ⟨g, i, none⟩ v) (i + 1) (h.set (p := ⟨g, i, none⟩) hg v)
theorem size_setsMe (vs : List Value) (w : World) (g k : Nat) : (w.setCells g k vs).heap.size = w.heap.size := by
  induction vs generalizing w k with
  | nil => rfl
  | cons v r ih => exact (ih _ _).trans (size_set _ _ _)
theorem row_of {T : TypeId} {w : World} {g o : Nat} {cs cs' : Array Value} {vs : List Value} (h : RW T w g cs) (e : putL cs o vs = cs') : RW T (w.setCells g o vs) g cs' := by rw [← e]; exact h.cells
/-- What toMemory answers. -/
def ToMe (x : Me) (W : World) (e : Ending) (w' : World) : Prop := ∃ l, e = .returned (x.ag l) ∧ Hid (MeV w' w'.heap.size x l ∧ Below W.heap.size W w' ∧ True)

set_option maxHeartbeats 1000000 in
set_option maxRecDepth 100000 in
theorem toMemory_any (x : Me) (l : MeLay) (W : World) (ho : MeV W W.heap.size x l) (hsm : MeSmall x) :
    Calls Try.prog 12 #[x.ag l] W (ToMe x W) := by
  obtain ⟨x0, x1, x2, x3, x4, x5, x6, x7, x8, x9⟩ := x
  obtain ⟨A1, n1, c1, h1, A2, n2, c2, h2, A3, n3, c3, h3, A4, n4, c4, h4, A5, n5, c5, h5, A7, n7, c7, h7, A8, n8, c8, h8, A9, n9, c9, h9⟩ := l
  obtain ⟨k0, k1, k2⟩ := ho
  obtain ⟨s0, s1, s2, s3⟩ := hsm
  dsimp only at k0 k1 k2 s0 s1 s2 s3
  have HN1 := Lib.hid k0.1
  have HM1 := Lib.hid k0.2.1
  have HQ0 := Lib.hid (fun (w : World) (hb : Below W.heap.size W w) => toHeap_far x0 A1 n1 c1 x1 w (k0.go hb) s0 (by rw [← k0.1]; exact s1))
  have HQ1 := Lib.hid (fun (w : World) (hb : Below W.heap.size W w) => toScope_det ⟨x2, x3, x4⟩ ⟨A2, n2, c2, h2, A3, n3, c3, h3, A4, n4, c4, h4⟩ w (k1.go hb) s2)
  have HQ2 := Lib.hid (fun (w : World) (hb : Below W.heap.size W w) => toConsole_det ⟨x5, x6, x7, x8, x9⟩ ⟨A5, n5, c5, h5, A7, n7, c7, h7, A8, n8, c8, h8, A9, n9, c9, h9⟩ w (k2.go hb) s3)
  clear k0 k1 k2 s0 s1 s2 s3
  have HC := Lib.hid (fun (X Y : World) (T T' : TypeId) (c c' : Array Value) (eY : Y = W.alloc (.cells #[.int .i64 x0, .slice A1 n1 c1, .slice A2 n2 c2, .slice A3 n3 c3, .slice A4 n4 c4, .slice A5 n5 c5, .int .i64 x6, .slice A7 n7 c7, .slice A8 n8 c8, .slice A9 n9 c9] T)) (eX : X = (Y.alloc (.cells c T')).alloc (.cells c' T')) =>
    (show RW T X W.heap.size #[.int .i64 x0, .slice A1 n1 c1, .slice A2 n2 c2, .slice A3 n3 c3, .slice A4 n4 c4, .slice A5 n5 c5, .int .i64 x6, .slice A7 n7 c7, .slice A8 n8 c8, .slice A9 n9 c9] ∧ RW T' X (W.heap.size + 1 + 1) c' ∧ RW T' X (W.heap.size + 1) c ∧ Below W.heap.size W X ∧ X.heap.size = W.heap.size + 3 from by
      subst eX; subst eY
      refine ⟨((RW.new W _ T).alloc _).alloc _, ?_, ?_, ((below_alloc _ _).alloc (by simp) _).alloc (by simp; omega) _, by simp⟩
      · have := RW.new ((W.alloc (.cells #[.int .i64 x0, .slice A1 n1 c1, .slice A2 n2 c2, .slice A3 n3 c3, .slice A4 n4 c4, .slice A5 n5 c5, .int .i64 x6, .slice A7 n7 c7, .slice A8 n8 c8, .slice A9 n9 c9] T)).alloc (.cells c T')) c' T'
        simpa using this
      · have := (RW.new (W.alloc (.cells #[.int .i64 x0, .slice A1 n1 c1, .slice A2 n2 c2, .slice A3 n3 c3, .slice A4 n4 c4, .slice A5 n5 c5, .int .i64 x6, .slice A7 n7 c7, .slice A8 n8 c8, .slice A9 n9 c9] T)) c T').alloc (.cells c' T')
        simpa using this))
  have tkS1 : True := trivial
  have HE1 := Lib.hid (fun gH : Nat => (show putL #[.int .i64 0, .slice none 0 0, .slice none 0 0, .slice none 0 0, .slice none 0 0, .slice none 0 0, .int .i64 0, .slice none 0 0, .slice none 0 0, .slice none 0 0] 0 [.int .i64 x0, .slice (some ⟨gH, 0, none⟩) n1 n1] = #[.int .i64 x0, .slice (some ⟨gH, 0, none⟩) n1 n1, .slice none 0 0, .slice none 0 0, .slice none 0 0, .slice none 0 0, .int .i64 0, .slice none 0 0, .slice none 0 0, .slice none 0 0] from putL_mid [.int .i64 x0, .slice (some ⟨gH, 0, none⟩) n1 n1] [.int .i64 0, .slice none 0 0] [] [.slice none 0 0, .slice none 0 0, .slice none 0 0, .slice none 0 0, .int .i64 0, .slice none 0 0, .slice none 0 0, .slice none 0 0] rfl))
  have HE2 := Lib.hid (fun (gH : Nat) (A2m A3m A4m : Option Addr) (n2m c2m n3m c3m n4m c4m : Nat) => (show putL #[.int .i64 x0, .slice (some ⟨gH, 0, none⟩) n1 n1, .slice none 0 0, .slice none 0 0, .slice none 0 0, .slice none 0 0, .int .i64 0, .slice none 0 0, .slice none 0 0, .slice none 0 0] 2 [.slice A2m n2m c2m, .slice A3m n3m c3m, .slice A4m n4m c4m] = #[.int .i64 x0, .slice (some ⟨gH, 0, none⟩) n1 n1, .slice A2m n2m c2m, .slice A3m n3m c3m, .slice A4m n4m c4m, .slice none 0 0, .int .i64 0, .slice none 0 0, .slice none 0 0, .slice none 0 0] from putL_mid [.slice A2m n2m c2m, .slice A3m n3m c3m, .slice A4m n4m c4m] [.slice none 0 0, .slice none 0 0, .slice none 0 0] [.int .i64 x0, .slice (some ⟨gH, 0, none⟩) n1 n1] [.slice none 0 0, .int .i64 0, .slice none 0 0, .slice none 0 0, .slice none 0 0] rfl))
  have HE3 := Lib.hid (fun (gH : Nat) (A2m A3m A4m A5m A7m A8m A9m : Option Addr) (n2m c2m n3m c3m n4m c4m n5m c5m n7m c7m n8m c8m n9m c9m : Nat) => (show putL #[.int .i64 x0, .slice (some ⟨gH, 0, none⟩) n1 n1, .slice A2m n2m c2m, .slice A3m n3m c3m, .slice A4m n4m c4m, .slice none 0 0, .int .i64 0, .slice none 0 0, .slice none 0 0, .slice none 0 0] 5 [.slice A5m n5m c5m, .int .i64 x6, .slice A7m n7m c7m, .slice A8m n8m c8m, .slice A9m n9m c9m] = #[.int .i64 x0, .slice (some ⟨gH, 0, none⟩) n1 n1, .slice A2m n2m c2m, .slice A3m n3m c3m, .slice A4m n4m c4m, .slice A5m n5m c5m, .int .i64 x6, .slice A7m n7m c7m, .slice A8m n8m c8m, .slice A9m n9m c9m] from putL_mid [.slice A5m n5m c5m, .int .i64 x6, .slice A7m n7m c7m, .slice A8m n8m c8m, .slice A9m n9m c9m] [.slice none 0 0, .int .i64 0, .slice none 0 0, .slice none 0 0, .slice none 0 0] [.int .i64 x0, .slice (some ⟨gH, 0, none⟩) n1 n1, .slice A2m n2m c2m, .slice A3m n3m c3m, .slice A4m n4m c4m] [] rfl))
  have HE4 := Lib.hid (fun (gH : Nat) (A2m A3m A4m A5m A7m A8m A9m : Option Addr) (n2m c2m n3m c3m n4m c4m n5m c5m n7m c7m n8m c8m n9m c9m : Nat) => (show putL #[.int .i64 0, .slice none 0 0, .slice none 0 0, .slice none 0 0, .slice none 0 0, .slice none 0 0, .int .i64 0, .slice none 0 0, .slice none 0 0, .slice none 0 0] 0 [.int .i64 x0, .slice (some ⟨gH, 0, none⟩) n1 n1, .slice A2m n2m c2m, .slice A3m n3m c3m, .slice A4m n4m c4m, .slice A5m n5m c5m, .int .i64 x6, .slice A7m n7m c7m, .slice A8m n8m c8m, .slice A9m n9m c9m] = #[.int .i64 x0, .slice (some ⟨gH, 0, none⟩) n1 n1, .slice A2m n2m c2m, .slice A3m n3m c3m, .slice A4m n4m c4m, .slice A5m n5m c5m, .int .i64 x6, .slice A7m n7m c7m, .slice A8m n8m c8m, .slice A9m n9m c9m] from putL_mid [.int .i64 x0, .slice (some ⟨gH, 0, none⟩) n1 n1, .slice A2m n2m c2m, .slice A3m n3m c3m, .slice A4m n4m c4m, .slice A5m n5m c5m, .int .i64 x6, .slice A7m n7m c7m, .slice A8m n8m c8m, .slice A9m n9m c9m] [.int .i64 0, .slice none 0 0, .slice none 0 0, .slice none 0 0, .slice none 0 0, .slice none 0 0, .int .i64 0, .slice none 0 0, .slice none 0 0, .slice none 0 0] [] [] rfl))
  show Calls Try.prog 12 #[.agg #[.int .i64 x0, .slice A1 n1 c1, .slice A2 n2 c2, .slice A3 n3 c3, .slice A4 n4 c4, .slice A5 n5 c5, .int .i64 x6, .slice A7 n7 c7, .slice A8 n8 c8, .slice A9 n9 c9]] W _
  go_enter Try.func12, Try.ntmps12
  go_wp2_with (first
    | (go_at_call 30; obtain ⟨g0, g1, g4, g2, g3⟩ := HC.out _ _ _ _ _ _ rfl rfl; have HQ := HQ0.out _ g2; refine Calls.mono HQ ?_; clear HQ; rintro e w1 ⟨gH, rfl, h⟩; obtain ⟨hv, hb, hg⟩ := h.out; rw [g3] at hg; have HGH : Hid (W.heap.size + 3 ≤ gH) := hg; have HA1 := Lib.hid (g0.below hb (by omega)); have HR1 : Hid (RW 54 w1 (W.heap.size + 1 + 1) #[.int .i64 0, .slice none 0 0, .slice none 0 0, .slice none 0 0, .slice none 0 0, .slice none 0 0, .int .i64 0, .slice none 0 0, .slice none 0 0, .slice none 0 0]) := g1.below hb (by omega); have HO1 := Lib.hid (g4.below hb (by omega)); have HB1 := Lib.hid (g2.trans (hb.mono g2.size)); have HG1 : Hid (W.heap.size + 3 ≤ w1.heap.size) := (by have := hb.size; show _ ≤ _; omega); have HF1 := Lib.hid (hv.fars (b := W.heap.size + 1 + 1) (by omega) [.int .i64 x0, .slice (some ⟨gH, 0, none⟩) n1 n1] _ 0); have HT1 := Lib.hid (HR1.out.there (o := 0) (n := 2) (by show 0 + 2 ≤ 10; omega)); have HR2 : Hid (RW 54 (w1.setCells (W.heap.size + 1 + 1) 0 [.int .i64 x0, .slice (some ⟨gH, 0, none⟩) n1 n1]) (W.heap.size + 1 + 1) #[.int .i64 x0, .slice (some ⟨gH, 0, none⟩) n1 n1, .slice none 0 0, .slice none 0 0, .slice none 0 0, .slice none 0 0, .int .i64 0, .slice none 0 0, .slice none 0 0, .slice none 0 0]) := row_of HR1.out (HE1.out gH); have HA2 : Hid (RW 42 (w1.setCells (W.heap.size + 1 + 1) 0 [.int .i64 x0, .slice (some ⟨gH, 0, none⟩) n1 n1]) W.heap.size #[.int .i64 x0, .slice A1 n1 c1, .slice A2 n2 c2, .slice A3 n3 c3, .slice A4 n4 c4, .slice A5 n5 c5, .int .i64 x6, .slice A7 n7 c7, .slice A8 n8 c8, .slice A9 n9 c9]) := HA1.out.others (by omega); have HO2 := Lib.hid (HO1.out.others (b := W.heap.size + 1 + 1) (vs := [.int .i64 x0, .slice (some ⟨gH, 0, none⟩) n1 n1]) (o := 0) (by omega)); have HB2 : Hid (Below W.heap.size W (w1.setCells (W.heap.size + 1 + 1) 0 [.int .i64 x0, .slice (some ⟨gH, 0, none⟩) n1 n1])) := HB1.out.trans (below_cells (by omega) _ _ _); have HG2 : Hid (W.heap.size + 3 ≤ (w1.setCells (W.heap.size + 1 + 1) 0 [.int .i64 x0, .slice (some ⟨gH, 0, none⟩) n1 n1]).heap.size) := (by show _ ≤ _; rw [size_setsMe]; exact HG1.out); have tkS2 : True := trivial; clear g0 g1 g2 g3 g4 h hv hb hg HC HQ0 HR1 HA1 HO1 HB1 HG1)
    | (clear tkS2; refine wpList_store_mid rfl 47 (.tmp 7) (.tmp 6) rfl (W.heap.size + 1 + 1) 0 #[.int .i64 x0, .slice (some ⟨gH, 0, none⟩) n1 n1] rfl rfl HT1.out (by kernel_rfl) (by kernel_rfl) ?_; go_frame; clear HT1; generalize w1.setCells (W.heap.size + 1 + 1) 0 [.int .i64 x0, .slice (some ⟨gH, 0, none⟩) n1 n1] = w2 at HF1 HR2 HA2 HO2 HB2 HG2 ⊢; have q2 : w2.cell? ⟨W.heap.size, 2, none⟩ = some (.slice A2 n2 c2) := HA2.out.cell 2; have q3 : w2.cell? ⟨W.heap.size, 3, none⟩ = some (.slice A3 n3 c3) := HA2.out.cell 3; have q4 : w2.cell? ⟨W.heap.size, 4, none⟩ = some (.slice A4 n4 c4) := HA2.out.cell 4)
    | (go_at_call 31; have HQ := HQ1.out _ HB2.out; refine Calls.mono HQ ?_; clear HQ; rintro e w3 ⟨⟨A2m, n2m, c2m, h2m, A3m, n3m, c3m, h3m, A4m, n4m, c4m, h4m⟩, he, h⟩; obtain rfl : e = .returned (.agg #[.slice A2m n2m c2m, .slice A3m n3m c3m, .slice A4m n4m c4m]) := he; obtain ⟨hv, hb⟩ := h.out; have hz := HG2.out; have hzz := hb.size; have HF3 := Lib.hid ((HF1.out.below hb).fars (b := W.heap.size + 1 + 1) (by have := HGH.out; omega) [.slice A2m n2m c2m, .slice A3m n3m c3m, .slice A4m n4m c4m] _ 2); have HD3 := Lib.hid (hv.sets (g := W.heap.size + 1 + 1) (by omega) [.slice A2m n2m c2m, .slice A3m n3m c3m, .slice A4m n4m c4m] _ 2); have HR3 : Hid (RW 54 w3 (W.heap.size + 1 + 1) #[.int .i64 x0, .slice (some ⟨gH, 0, none⟩) n1 n1, .slice none 0 0, .slice none 0 0, .slice none 0 0, .slice none 0 0, .int .i64 0, .slice none 0 0, .slice none 0 0, .slice none 0 0]) := HR2.out.below hb (by omega); have HT3 := Lib.hid (HR3.out.there (o := 2) (n := 3) (by show 2 + 3 ≤ 10; omega)); have HR4 : Hid (RW 54 (w3.setCells (W.heap.size + 1 + 1) 2 [.slice A2m n2m c2m, .slice A3m n3m c3m, .slice A4m n4m c4m]) (W.heap.size + 1 + 1) #[.int .i64 x0, .slice (some ⟨gH, 0, none⟩) n1 n1, .slice A2m n2m c2m, .slice A3m n3m c3m, .slice A4m n4m c4m, .slice none 0 0, .int .i64 0, .slice none 0 0, .slice none 0 0, .slice none 0 0]) := row_of HR3.out (HE2.out _ _ _ _ _ _ _ _ _ _); have HA4 : Hid (RW 42 (w3.setCells (W.heap.size + 1 + 1) 2 [.slice A2m n2m c2m, .slice A3m n3m c3m, .slice A4m n4m c4m]) W.heap.size #[.int .i64 x0, .slice A1 n1 c1, .slice A2 n2 c2, .slice A3 n3 c3, .slice A4 n4 c4, .slice A5 n5 c5, .int .i64 x6, .slice A7 n7 c7, .slice A8 n8 c8, .slice A9 n9 c9]) := (HA2.out.below hb (by omega)).others (by omega); have HO4 := Lib.hid ((HO2.out.below hb (by omega)).others (b := W.heap.size + 1 + 1) (vs := [.slice A2m n2m c2m, .slice A3m n3m c3m, .slice A4m n4m c4m]) (o := 2) (by omega)); have HB4 : Hid (Below W.heap.size W (w3.setCells (W.heap.size + 1 + 1) 2 [.slice A2m n2m c2m, .slice A3m n3m c3m, .slice A4m n4m c4m])) := (HB2.out.trans (hb.mono HB2.out.size)).trans (below_cells (by omega) _ _ _); have HS4 : Hid ((w3.setCells (W.heap.size + 1 + 1) 2 [.slice A2m n2m c2m, .slice A3m n3m c3m, .slice A4m n4m c4m]).heap.size = w3.heap.size) := size_setsMe _ _ _ _; have HG4 : Hid (W.heap.size + 3 ≤ w2.heap.size ∧ w2.heap.size ≤ w3.heap.size) := ⟨hz, hzz⟩; have tkS4 : True := trivial; clear h hv hb hz hzz HQ1 HR2 HA2 HO2 HB2 HG2 HF1 HR3 q2 q3 q4)
    | (clear tkS4; refine wpList_store_mid rfl 52 (.tmp 11) (.tmp 10) rfl (W.heap.size + 1 + 1) 2 #[.slice A2m n2m c2m, .slice A3m n3m c3m, .slice A4m n4m c4m] rfl rfl HT3.out (by kernel_rfl) (by kernel_rfl) ?_; go_frame; clear HT3; generalize w3.setCells (W.heap.size + 1 + 1) 2 [.slice A2m n2m c2m, .slice A3m n3m c3m, .slice A4m n4m c4m] = w4 at HF3 HD3 HR4 HA4 HO4 HB4 HS4 ⊢; have q5 : w4.cell? ⟨W.heap.size, 5, none⟩ = some (.slice A5 n5 c5) := HA4.out.cell 5; have q6 : w4.cell? ⟨W.heap.size, 6, none⟩ = some (.int .i64 x6) := HA4.out.cell 6; have q7 : w4.cell? ⟨W.heap.size, 7, none⟩ = some (.slice A7 n7 c7) := HA4.out.cell 7; have q8 : w4.cell? ⟨W.heap.size, 8, none⟩ = some (.slice A8 n8 c8) := HA4.out.cell 8; have q9 : w4.cell? ⟨W.heap.size, 9, none⟩ = some (.slice A9 n9 c9) := HA4.out.cell 9)
    | (go_at_call 7; have HQ := HQ2.out _ HB4.out; refine Calls.mono HQ ?_; clear HQ; rintro e w5 ⟨⟨A5m, n5m, c5m, h5m, A7m, n7m, c7m, h7m, A8m, n8m, c8m, h8m, A9m, n9m, c9m, h9m⟩, he, h⟩; obtain rfl : e = .returned (.agg #[.slice A5m n5m c5m, .int .i64 x6, .slice A7m n7m c7m, .slice A8m n8m c8m, .slice A9m n9m c9m]) := he; obtain ⟨hv, hb⟩ := h.out; have hz := HG4.out; have hs4 := HS4.out; have hzz := hb.size; have HF5 := Lib.hid ((HF3.out.below hb).fars (b := W.heap.size + 1 + 1) (by have := HGH.out; omega) [.slice A5m n5m c5m, .int .i64 x6, .slice A7m n7m c7m, .slice A8m n8m c8m, .slice A9m n9m c9m] _ 5); have HD5 := Lib.hid ((HD3.out.below hb (by omega)).sets (g := W.heap.size + 1 + 1) (by omega) [.slice A5m n5m c5m, .int .i64 x6, .slice A7m n7m c7m, .slice A8m n8m c8m, .slice A9m n9m c9m] _ 5); have HC5 := Lib.hid (hv.sets (g := W.heap.size + 1 + 1) (by omega) [.slice A5m n5m c5m, .int .i64 x6, .slice A7m n7m c7m, .slice A8m n8m c8m, .slice A9m n9m c9m] _ 5); have HR5 : Hid (RW 54 w5 (W.heap.size + 1 + 1) #[.int .i64 x0, .slice (some ⟨gH, 0, none⟩) n1 n1, .slice A2m n2m c2m, .slice A3m n3m c3m, .slice A4m n4m c4m, .slice none 0 0, .int .i64 0, .slice none 0 0, .slice none 0 0, .slice none 0 0]) := HR4.out.below hb (by omega); have HT5 := Lib.hid (HR5.out.there (o := 5) (n := 5) (by show 5 + 5 ≤ 10; omega)); have HR6 : Hid (RW 54 (w5.setCells (W.heap.size + 1 + 1) 5 [.slice A5m n5m c5m, .int .i64 x6, .slice A7m n7m c7m, .slice A8m n8m c8m, .slice A9m n9m c9m]) (W.heap.size + 1 + 1) #[.int .i64 x0, .slice (some ⟨gH, 0, none⟩) n1 n1, .slice A2m n2m c2m, .slice A3m n3m c3m, .slice A4m n4m c4m, .slice A5m n5m c5m, .int .i64 x6, .slice A7m n7m c7m, .slice A8m n8m c8m, .slice A9m n9m c9m]) := row_of HR5.out (HE3.out _ _ _ _ _ _ _ _ _ _ _ _ _ _ _ _ _ _ _ _ _ _); have HO6 := Lib.hid ((HO4.out.below hb (by omega)).others (b := W.heap.size + 1 + 1) (vs := [.slice A5m n5m c5m, .int .i64 x6, .slice A7m n7m c7m, .slice A8m n8m c8m, .slice A9m n9m c9m]) (o := 5) (by omega)); have HB6 : Hid (Below W.heap.size W (w5.setCells (W.heap.size + 1 + 1) 5 [.slice A5m n5m c5m, .int .i64 x6, .slice A7m n7m c7m, .slice A8m n8m c8m, .slice A9m n9m c9m])) := (HB4.out.trans (hb.mono HB4.out.size)).trans (below_cells (by omega) _ _ _); have HS6 : Hid ((w5.setCells (W.heap.size + 1 + 1) 5 [.slice A5m n5m c5m, .int .i64 x6, .slice A7m n7m c7m, .slice A8m n8m c8m, .slice A9m n9m c9m]).heap.size = w5.heap.size ∧ w3.heap.size ≤ w5.heap.size) := ⟨size_setsMe _ _ _ _, by omega⟩; have tkS6 : True := trivial; clear h hv hb hz hzz hs4 HQ2 HR4 HA4 HO4 HB4 HF3 HD3 HR5 q5 q6 q7 q8 q9)
    | (clear tkS6; refine wpList_store_mid rfl 30 (.tmp 15) (.tmp 14) rfl (W.heap.size + 1 + 1) 5 #[.slice A5m n5m c5m, .int .i64 x6, .slice A7m n7m c7m, .slice A8m n8m c8m, .slice A9m n9m c9m] rfl rfl HT5.out (by kernel_rfl) (by kernel_rfl) ?_; go_frame; clear HT5; have HS4' := HS4; clear HS4; generalize w5.setCells (W.heap.size + 1 + 1) 5 [.slice A5m n5m c5m, .int .i64 x6, .slice A7m n7m c7m, .slice A8m n8m c8m, .slice A9m n9m c9m] = w6 at HF5 HD5 HC5 HR6 HO6 HB6 HS6 ⊢; have hz := HG4.out; have HT7 := Lib.hid (HO6.out.there (o := 0) (n := 10) (by show 0 + 10 ≤ 10; omega)); have HR8 : Hid (RW 54 (w6.setCells (W.heap.size + 1) 0 [.int .i64 x0, .slice (some ⟨gH, 0, none⟩) n1 n1, .slice A2m n2m c2m, .slice A3m n3m c3m, .slice A4m n4m c4m, .slice A5m n5m c5m, .int .i64 x6, .slice A7m n7m c7m, .slice A8m n8m c8m, .slice A9m n9m c9m]) (W.heap.size + 1) #[.int .i64 x0, .slice (some ⟨gH, 0, none⟩) n1 n1, .slice A2m n2m c2m, .slice A3m n3m c3m, .slice A4m n4m c4m, .slice A5m n5m c5m, .int .i64 x6, .slice A7m n7m c7m, .slice A8m n8m c8m, .slice A9m n9m c9m]) := row_of HO6.out (HE4.out _ _ _ _ _ _ _ _ _ _ _ _ _ _ _ _ _ _ _ _ _ _); have HF8 := Lib.hid (HF5.out.fars (b := W.heap.size + 1) (by have := HGH.out; omega) [.int .i64 x0, .slice (some ⟨gH, 0, none⟩) n1 n1, .slice A2m n2m c2m, .slice A3m n3m c3m, .slice A4m n4m c4m, .slice A5m n5m c5m, .int .i64 x6, .slice A7m n7m c7m, .slice A8m n8m c8m, .slice A9m n9m c9m] _ 0); have HD8 := Lib.hid (HD5.out.sets (g := W.heap.size + 1) (by omega) [.int .i64 x0, .slice (some ⟨gH, 0, none⟩) n1 n1, .slice A2m n2m c2m, .slice A3m n3m c3m, .slice A4m n4m c4m, .slice A5m n5m c5m, .int .i64 x6, .slice A7m n7m c7m, .slice A8m n8m c8m, .slice A9m n9m c9m] _ 0); have HC8 := Lib.hid (HC5.out.sets (g := W.heap.size + 1) (by have := HS4'.out; omega) [.int .i64 x0, .slice (some ⟨gH, 0, none⟩) n1 n1, .slice A2m n2m c2m, .slice A3m n3m c3m, .slice A4m n4m c4m, .slice A5m n5m c5m, .int .i64 x6, .slice A7m n7m c7m, .slice A8m n8m c8m, .slice A9m n9m c9m] _ 0); have HB8 : Hid (Below W.heap.size W (w6.setCells (W.heap.size + 1) 0 [.int .i64 x0, .slice (some ⟨gH, 0, none⟩) n1 n1, .slice A2m n2m c2m, .slice A3m n3m c3m, .slice A4m n4m c4m, .slice A5m n5m c5m, .int .i64 x6, .slice A7m n7m c7m, .slice A8m n8m c8m, .slice A9m n9m c9m])) := HB6.out.trans (below_cells (by omega) _ _ _); have HS8 : Hid ((w6.setCells (W.heap.size + 1) 0 [.int .i64 x0, .slice (some ⟨gH, 0, none⟩) n1 n1, .slice A2m n2m c2m, .slice A3m n3m c3m, .slice A4m n4m c4m, .slice A5m n5m c5m, .int .i64 x6, .slice A7m n7m c7m, .slice A8m n8m c8m, .slice A9m n9m c9m]).heap.size = w5.heap.size ∧ w3.heap.size ≤ w5.heap.size) := ⟨(size_setsMe _ _ _ _).trans HS6.out.1, HS6.out.2⟩; have tkL : True := trivial; clear hz HF5 HD5 HC5 HB6 HS6)
    | (clear tkL; refine wpList_load_row rfl 54 (.tmp 3) rfl (W.heap.size + 1 + 1) rfl 54 #[.int .i64 x0, .slice (some ⟨gH, 0, none⟩) n1 n1, .slice A2m n2m c2m, .slice A3m n3m c3m, .slice A4m n4m c4m, .slice A5m n5m c5m, .int .i64 x6, .slice A7m n7m c7m, .slice A8m n8m c8m, .slice A9m n9m c9m] (0, 0) _ HR6.out Try.underlying54 rfl (by kernel_rfl) ?_; have tkS8 : True := trivial)
    | (clear tkS8; refine wpList_store_mid rfl 54 (.tmp 2) (.tmp 16) rfl (W.heap.size + 1) 0 #[.int .i64 x0, .slice (some ⟨gH, 0, none⟩) n1 n1, .slice A2m n2m c2m, .slice A3m n3m c3m, .slice A4m n4m c4m, .slice A5m n5m c5m, .int .i64 x6, .slice A7m n7m c7m, .slice A8m n8m c8m, .slice A9m n9m c9m] rfl rfl HT7.out (by kernel_rfl) (by kernel_rfl) ?_; go_frame; clear HT7 HR6 HO6; generalize w6.setCells (W.heap.size + 1) 0 [.int .i64 x0, .slice (some ⟨gH, 0, none⟩) n1 n1, .slice A2m n2m c2m, .slice A3m n3m c3m, .slice A4m n4m c4m, .slice A5m n5m c5m, .int .i64 x6, .slice A7m n7m c7m, .slice A8m n8m c8m, .slice A9m n9m c9m] = w8 at HR8 HF8 HD8 HC8 HB8 HS8 ⊢))
  have hs8 := HS8.out
  refine bodyPost_ret (v := .agg #[.int .i64 x0, .slice (some ⟨gH, 0, none⟩) n1 n1, .slice A2m n2m c2m, .slice A3m n3m c3m, .slice A4m n4m c4m, .slice A5m n5m c5m, .int .i64 x6, .slice A7m n7m c7m, .slice A8m n8m c8m, .slice A9m n9m c9m]) (results_cell_row Try.results12 _ _ (W.heap.size + 1) 54 _ (0, 0) _ rfl HR8.out Try.underlying54 rfl (by kernel_rfl)) rfl ⟨⟨some ⟨gH, 0, none⟩, n1, n1, Nat.le_refl _, A2m, n2m, c2m, h2m, A3m, n3m, c3m, h3m, A4m, n4m, c4m, h4m, A5m, n5m, c5m, h5m, A7m, n7m, c7m, h7m, A8m, n8m, c8m, h8m, A9m, n9m, c9m, h9m⟩, rfl, Lib.hid ⟨⟨?_, ?_, ?_⟩, HB8.out, trivial⟩⟩
  · exact HF8.out.all HN1.out HM1.out
  · exact HD8.out.self.more (by omega)
  · exact HC8.out.self.more (by omega)
end Go.Proofs.Ytjhemdgeafglhaa

namespace Go.Proofs.Ytjhemdgeafglhaa
open Go Go.RowKit

set_option maxHeartbeats 2000000 in
set_option maxRecDepth 100000 in
theorem eqMemory_same (x : Me) (l l' : MeLay) (W : World) (ho : MeV W W.heap.size x l) (ho' : MeV W W.heap.size x l') :
    Calls Try.prog 14 #[x.ag l, x.ag l'] W fun e w' => e = .returned (.bool true) ∧ Below W.heap.size W w' := by
  obtain ⟨x0, x1, x2, x3, x4, x5, x6, x7, x8, x9⟩ := x
  obtain ⟨A1, n1, c1, h1, A2, n2, c2, h2, A3, n3, c3, h3, A4, n4, c4, h4, A5, n5, c5, h5, A7, n7, c7, h7, A8, n8, c8, h8, A9, n9, c9, h9⟩ := l
  obtain ⟨A1', n1', c1', h1', A2', n2', c2', h2', A3', n3', c3', h3', A4', n4', c4', h4', A5', n5', c5', h5', A7', n7', c7', h7', A8', n8', c8', h8', A9', n9', c9', h9'⟩ := l'
  obtain ⟨k0, k1, k2⟩ := ho
  obtain ⟨j0, j1, j2⟩ := ho'
  dsimp only at k0 k1 k2 j0 j1 j2
  obtain rfl : n1 = n1' := k0.1.symm.trans j0.1
  have HQ0 := Lib.hid (fun (w : World) (hb : Below W.heap.size W w) => eqHeap_same x0 A1 A1' n1 c1 c1' x1 w (k0.go hb) (j0.go hb))
  have HQ1 := Lib.hid (fun (w : World) (hb : Below W.heap.size W w) => eqScope_same ⟨x2, x3, x4⟩ ⟨A2, n2, c2, h2, A3, n3, c3, h3, A4, n4, c4, h4⟩ ⟨A2', n2', c2', h2', A3', n3', c3', h3', A4', n4', c4', h4'⟩ w (k1.go hb) (j1.go hb))
  have HQ2 := Lib.hid (fun (w : World) (hb : Below W.heap.size W w) => eqConsole_same ⟨x5, x6, x7, x8, x9⟩ ⟨A5, n5, c5, h5, A7, n7, c7, h7, A8, n8, c8, h8, A9, n9, c9, h9⟩ ⟨A5', n5', c5', h5', A7', n7', c7', h7', A8', n8', c8', h8', A9', n9', c9', h9'⟩ w (k2.go hb) (j2.go hb))
  clear k0 k1 k2 j0 j1 j2
  have HC := Lib.hid (two_new W 54 #[.int .i64 x0, .slice A1 n1 c1, .slice A2 n2 c2, .slice A3 n3 c3, .slice A4 n4 c4, .slice A5 n5 c5, .int .i64 x6, .slice A7 n7 c7, .slice A8 n8 c8, .slice A9 n9 c9] #[.int .i64 x0, .slice A1' n1 c1', .slice A2' n2' c2', .slice A3' n3' c3', .slice A4' n4' c4', .slice A5' n5' c5', .int .i64 x6, .slice A7' n7' c7', .slice A8' n8' c8', .slice A9' n9' c9'])
  show Calls Try.prog 14 #[.agg #[.int .i64 x0, .slice A1 n1 c1, .slice A2 n2 c2, .slice A3 n3 c3, .slice A4 n4 c4, .slice A5 n5 c5, .int .i64 x6, .slice A7 n7 c7, .slice A8 n8 c8, .slice A9 n9 c9], .agg #[.int .i64 x0, .slice A1' n1 c1', .slice A2' n2' c2', .slice A3' n3' c3', .slice A4' n4' c4', .slice A5' n5' c5', .int .i64 x6, .slice A7' n7' c7', .slice A8' n8' c8', .slice A9' n9' c9']] W _
  go_enter Try.func14, Try.ntmps14
  go_wp2_with (go_at_call 34; obtain ⟨g0, g1, g2, g3⟩ := HC.out _ rfl; have HQ := HQ0.out _ g2; refine Calls.mono HQ ?_; clear HQ; rintro e w1 ⟨rfl, hb⟩; have HA1 := Lib.hid (g0.below hb g0.lt); have HD1 := Lib.hid (g1.below hb g1.lt); have HB1 := Lib.hid (g2.trans (hb.mono g2.size)); have q12 : w1.cell? ⟨W.heap.size, 2, none⟩ = some (.slice A2 n2 c2) := HA1.out.cell 2; have p12 : w1.cell? ⟨W.heap.size + 1, 2, none⟩ = some (.slice A2' n2' c2') := HD1.out.cell 2; have q13 : w1.cell? ⟨W.heap.size, 3, none⟩ = some (.slice A3 n3 c3) := HA1.out.cell 3; have p13 : w1.cell? ⟨W.heap.size + 1, 3, none⟩ = some (.slice A3' n3' c3') := HD1.out.cell 3; have q14 : w1.cell? ⟨W.heap.size, 4, none⟩ = some (.slice A4 n4 c4) := HA1.out.cell 4; have p14 : w1.cell? ⟨W.heap.size + 1, 4, none⟩ = some (.slice A4' n4' c4') := HD1.out.cell 4; clear g0 g1 g2 g3 hb HC HQ0)
  go_wp2_with (go_at_call 35; have HQ := HQ1.out _ HB1.out; refine Calls.mono HQ ?_; clear HQ; rintro e w2 ⟨rfl, hb⟩; have HA2 := Lib.hid (HA1.out.below hb HA1.out.lt); have HD2 := Lib.hid (HD1.out.below hb HD1.out.lt); have HB2 := Lib.hid (HB1.out.trans (hb.mono HB1.out.size)); have q25 : w2.cell? ⟨W.heap.size, 5, none⟩ = some (.slice A5 n5 c5) := HA2.out.cell 5; have p25 : w2.cell? ⟨W.heap.size + 1, 5, none⟩ = some (.slice A5' n5' c5') := HD2.out.cell 5; have q26 : w2.cell? ⟨W.heap.size, 6, none⟩ = some (.int .i64 x6) := HA2.out.cell 6; have p26 : w2.cell? ⟨W.heap.size + 1, 6, none⟩ = some (.int .i64 x6) := HD2.out.cell 6; have q27 : w2.cell? ⟨W.heap.size, 7, none⟩ = some (.slice A7 n7 c7) := HA2.out.cell 7; have p27 : w2.cell? ⟨W.heap.size + 1, 7, none⟩ = some (.slice A7' n7' c7') := HD2.out.cell 7; have q28 : w2.cell? ⟨W.heap.size, 8, none⟩ = some (.slice A8 n8 c8) := HA2.out.cell 8; have p28 : w2.cell? ⟨W.heap.size + 1, 8, none⟩ = some (.slice A8' n8' c8') := HD2.out.cell 8; have q29 : w2.cell? ⟨W.heap.size, 9, none⟩ = some (.slice A9 n9 c9) := HA2.out.cell 9; have p29 : w2.cell? ⟨W.heap.size + 1, 9, none⟩ = some (.slice A9' n9' c9') := HD2.out.cell 9; clear hb HQ1)
  go_wp2_with (go_at_call 9; have HQ := HQ2.out _ HB2.out; refine Calls.mono HQ ?_; clear HQ; rintro e w3 ⟨rfl, hb⟩; have HB3 := Lib.hid (HB2.out.trans (hb.mono HB2.out.size)); clear hb HQ2)
  go_ret
  exact ⟨rfl, HB3.out⟩
end Go.Proofs.Ytjhemdgeafglhaa
