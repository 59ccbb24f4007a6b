/- Contracts: loop.example/g00873/spec.l18SameTexts, slices.Equal[[]string,string]: two slices of strings are the same. No condition. Contract: loop.example/g00873/impl.sameFunction. No condition. Contract: loop.example/g00873/impl.sameType. No condition. Contract: the model's SameScope. No condition. Contracts: slices.EqualFunc[[]loop.example/g00873/impl.Function,[]loop.example/g00873/impl.Function,loop.example/g00873/impl.Function,loop.example/g00873/impl.Function]. No condition. Contracts: slices.EqualFunc[[]loop.example/g00873/impl.RecordType,[]loop.example/g00873/impl.RecordType,loop.example/g00873/impl.RecordType,loop.example/g00873/impl.RecordType]. No condition. Contract: loop.example/g00873/impl.SameScope. No condition. toConsole, toConsoleS of the laws. No condition. laws.eqConsole, laws.eqConsoleS where both are the same. No condition. Contracts: loop.example/g00873/spec.l21SameTexts: two slices of strings are the same. No condition. Contract: loop.example/g00873/spec.l21SameFile. No condition. Contract: the model's SameConsole. No condition. Contract: loop.example/g00873/impl.sameFile. No condition. -/
import Derived.Test.YtjhemdgeafglhaaSameMemoryM2
import Derived.Test.YtjhemdgeafglhaaSameMemoryM3
import Derived.Test.YtjhemdgeafglhaaSameMemoryM4
import Derived.Lib.QuietBelow
import Derived.BigQuiet
namespace Go.Proofs.Ytjhemdgeafglhaa
open Go Go.RowKit

theorem sameSt_iff (x y : ByteArray) : (x.toList == y.toList) = true ↔ x = y := by
  rw [beq_iff_eq]
  exact ⟨fun h => WideShapes.bytes_inj (by rw [← ByteArray.toList_eq, ← ByteArray.toList_eq]; exact h), fun h => by rw [h]⟩

set_option maxHeartbeats 2000000 in
set_option maxRecDepth 100000 in
theorem l18SameTexts_any (A A' : Option Addr) (n n' c c' : Nat) (xs ys : List St) (W : World) (ha : StI W W.heap.size A n xs) (hb : StI W W.heap.size A' n' ys) :
    Calls Try.prog 45 #[.slice A n c, .slice A' n' c'] W fun e w' => e = .returned (.bool (tt (xs = ys))) ∧ Below W.heap.size W w' := by
  have HA := Lib.hid ha
  have HB := Lib.hid hb
  have hn := ha.2.1
  have hn' := hb.2.1
  have HN := Lib.hid ha.1
  have HN' := Lib.hid hb.1
  unfold maxLen at hn hn'
  clear ha hb
  obtain ⟨P, hP⟩ : ∃ P, tt (xs = ys) = P := ⟨_, rfl⟩
  have HP := Lib.hid hP
  rw [hP]
  clear hP
  by_cases hl : n = n'
  · subst hl
    go_enter Try.func45, Try.ntmps45
    go_wp2_with fail
    go_loopw [5] (fun i wr => ∃ k : Nat, k ≤ n ∧ i = .int .i64 k ∧ Hid (Below W.heap.size W wr) ∧ Hid (∀ (j : Nat), j < k → xs[j]? = ys[j]?)) (fun i _ => n - (intOf i).toNat)
    case atStart => exact ⟨0, Nat.zero_le _, rfl, Below.refl _ _, fun j hj => absurd hj (by omega)⟩
    case round =>
      obtain ⟨k, hk, rfl, HW, HV⟩ := hrel
      by_cases hlt : k < n
      · have b0 : (0 : Int) ≤ (k : Int) := by omega
        have b1 : (k : Int) < (n : Int) := by omega
        obtain ⟨b, off, x, rfl, hg, hx, h1, _⟩ := HA.out.at_ hlt
        obtain ⟨b', off', y, rfl, hg', hy, h2, _⟩ := HB.out.at_ hlt
        have q1 := (HW.out.cell (p := ⟨b, off + k, none⟩) hg).trans h1
        have q2 := (HW.out.cell (p := ⟨b', off' + k, none⟩) hg').trans h2
        have HX := Lib.hid hx
        have HY := Lib.hid hy
        have HS := Lib.hid (sameSt_iff x y)
        clear hx hy h1 h2 hg hg'
        obtain ⟨z, hz⟩ : ∃ z, (x.toList == y.toList) = z := ⟨_, rfl⟩
        have HZ := Lib.hid hz
        have HF : Hid (z = false → P = false) := by
          show _ → _
          intro h
          rw [← HP.out]
          refine tt_false fun e => ?_
          have e2 : some x = some y := by rw [← HX.out, ← HY.out, e]
          rw [← HZ.out, HS.out.2 (Option.some.inj e2)] at h
          cases h
        have HT : Hid (z = true → ∀ (j : Nat), j < k + 1 → xs[j]? = ys[j]?) := by
          show _ → _
          intro h j hj
          by_cases e : j = k
          · rw [e, HX.out, HY.out, HS.out.1 (by rw [HZ.out, h])]
          · exact HV.out j (by omega)
        clear HS HX HY HZ
        cases z
        · have HF1 := Lib.hid (HF.out rfl)
          clear HF HT
          go_wp2_with fail
          go_quiet (fail)
          go_wp2_with fail
          go_ret
          exact ⟨by rw [HF1.out]; rfl, below_drewN HW.out _⟩
        · have HT1 := Lib.hid (HT.out rfl)
          clear HF HT
          go_wp2_with fail
          go_quiet (fail)
          go_wp2_with fail
          go_roundw
          case rel => exact ⟨k + 1, by omega, by go_num, below_drewN HW.out _, HT1⟩
          case measure => simp [intOf]; omega
      · have hkn : k = n := by omega
        have HT : Hid (P = true) := by
          show _ = _
          rw [← HP.out]
          refine tt_true (List.ext_getElem? fun j => ?_)
          by_cases e : j < n
          · exact HV.out j (by omega)
          · rw [List.getElem?_eq_none (by have := HN.out; omega), List.getElem?_eq_none (by have := HN'.out; omega)]
        go_wp2_with fail
        go_ret
        exact ⟨by rw [HT.out]; rfl, HW.out⟩
  · have HF : Hid (P = false) := by
      show _ = _
      rw [← HP.out]
      exact tt_false fun e => hl (by rw [← HN.out, ← HN'.out, e])
    have hne : ¬ (n : Int) = (n' : Int) := by omega
    go_enter Try.func45, Try.ntmps45
    go_wp2_with fail
    go_ret
    exact ⟨by rw [HF.out]; rfl, Below.refl _ _⟩

set_option maxHeartbeats 2000000 in
set_option maxRecDepth 100000 in
theorem equalStrings_any (A A' : Option Addr) (n n' c c' : Nat) (xs ys : List St) (W : World) (ha : StI W W.heap.size A n xs) (hb : StI W W.heap.size A' n' ys) :
    Calls Try.prog 21 #[.slice A n c, .slice A' n' c'] W fun e w' => e = .returned (.bool (tt (xs = ys))) ∧ Below W.heap.size W w' := by
  have HA := Lib.hid ha
  have HB := Lib.hid hb
  have hn := ha.2.1
  have hn' := hb.2.1
  have HN := Lib.hid ha.1
  have HN' := Lib.hid hb.1
  unfold maxLen at hn hn'
  clear ha hb
  obtain ⟨P, hP⟩ : ∃ P, tt (xs = ys) = P := ⟨_, rfl⟩
  have HP := Lib.hid hP
  rw [hP]
  clear hP
  by_cases hl : n = n'
  · subst hl
    go_enter Try.func21, Try.ntmps21
    go_wp2_with fail
    go_loopw [13] (fun i wr => ∃ k : Nat, k ≤ n ∧ i = .int .i64 k ∧ Hid (Below W.heap.size W wr) ∧ Hid (∀ (j : Nat), j < k → xs[j]? = ys[j]?)) (fun i _ => n - (intOf i).toNat)
    case atStart => exact ⟨0, Nat.zero_le _, rfl, Below.refl _ _, fun j hj => absurd hj (by omega)⟩
    case round =>
      obtain ⟨k, hk, rfl, HW, HV⟩ := hrel
      by_cases hlt : k < n
      · have b0 : (0 : Int) ≤ (k : Int) := by omega
        have b1 : (k : Int) < (n : Int) := by omega
        obtain ⟨b, off, x, rfl, hg, hx, h1, _⟩ := HA.out.at_ hlt
        obtain ⟨b', off', y, rfl, hg', hy, h2, _⟩ := HB.out.at_ hlt
        have q1 := (HW.out.cell (p := ⟨b, off + k, none⟩) hg).trans h1
        have q2 := (HW.out.cell (p := ⟨b', off' + k, none⟩) hg').trans h2
        have HX := Lib.hid hx
        have HY := Lib.hid hy
        have HS := Lib.hid (sameSt_iff x y)
        clear hx hy h1 h2 hg hg'
        obtain ⟨z, hz⟩ : ∃ z, (x.toList == y.toList) = z := ⟨_, rfl⟩
        have HZ := Lib.hid hz
        have HF : Hid (z = false → P = false) := by
          show _ → _
          intro h
          rw [← HP.out]
          refine tt_false fun e => ?_
          have e2 : some x = some y := by rw [← HX.out, ← HY.out, e]
          rw [← HZ.out, HS.out.2 (Option.some.inj e2)] at h
          cases h
        have HT : Hid (z = true → ∀ (j : Nat), j < k + 1 → xs[j]? = ys[j]?) := by
          show _ → _
          intro h j hj
          by_cases e : j = k
          · rw [e, HX.out, HY.out, HS.out.1 (by rw [HZ.out, h])]
          · exact HV.out j (by omega)
        clear HS HX HY HZ
        cases z
        · have HF1 := Lib.hid (HF.out rfl)
          clear HF HT
          go_wp2_with fail
          go_quiet (fail)
          go_wp2_with fail
          go_ret
          exact ⟨by rw [HF1.out]; rfl, below_drewN HW.out _⟩
        · have HT1 := Lib.hid (HT.out rfl)
          clear HF HT
          go_wp2_with fail
          go_quiet (fail)
          go_wp2_with fail
          go_roundw
          case rel => exact ⟨k + 1, by omega, by go_num, below_drewN HW.out _, HT1⟩
          case measure => simp [intOf]; omega
      · have hkn : k = n := by omega
        have HT : Hid (P = true) := by
          show _ = _
          rw [← HP.out]
          refine tt_true (List.ext_getElem? fun j => ?_)
          by_cases e : j < n
          · exact HV.out j (by omega)
          · rw [List.getElem?_eq_none (by have := HN.out; omega), List.getElem?_eq_none (by have := HN'.out; omega)]
        go_wp2_with fail
        go_ret
        exact ⟨by rw [HT.out]; rfl, HW.out⟩
  · have HF : Hid (P = false) := by
      show _ = _
      rw [← HP.out]
      exact tt_false fun e => hl (by rw [← HN.out, ← HN'.out, e])
    have hne : ¬ (n : Int) = (n' : Int) := by omega
    go_enter Try.func21, Try.ntmps21
    go_wp2_with fail
    go_ret
    exact ⟨by rw [HF.out]; rfl, Below.refl _ _⟩

end Go.Proofs.Ytjhemdgeafglhaa

namespace Go.Proofs.Ytjhemdgeafglhaa
open Go Go.RowKit

theorem sameFn_bool_sameFunction_any (x y : Fn) : tt (x = y) = ((x.name_.toList == y.name_.toList) && (tt (x.params_ = y.params_) && (tt (x.locals_ = y.locals_) && ((x.label_.toList == y.label_.toList))))) := by
  rw [Bool.eq_iff_iff]
  simp only [Bool.and_eq_true, tt_iff, beq_iff_eq]
  obtain ⟨a0, a1, a2, a3⟩ := x
  obtain ⟨b0, b1, b2, b3⟩ := y
  simp only [Fn.mk.injEq]
  constructor
  · rintro ⟨h0, h1, h2, h3⟩
    exact ⟨by rw [h0], h1, h2, by rw [h3]⟩
  · rintro ⟨h0, h1, h2, h3⟩
    exact ⟨WideShapes.bytes_inj (by rw [← ByteArray.toList_eq, ← ByteArray.toList_eq]; exact h0), h1, h2, WideShapes.bytes_inj (by rw [← ByteArray.toList_eq, ← ByteArray.toList_eq]; exact h3)⟩

set_option maxHeartbeats 4000000 in
set_option maxRecDepth 100000 in
theorem sameFunction_any (x y : Fn) (l l' : FnLay) (W : World) (hx : FnV W W.heap.size x l) (hy : FnV W W.heap.size y l') :
    Calls Try.prog 54 #[x.ag l, y.ag l'] W fun e w' => e = .returned (.bool (tt (x = y))) ∧ Below W.heap.size W w' := by
  rw [sameFn_bool_sameFunction_any]
  obtain ⟨x0, x1, x2, x3⟩ := x
  obtain ⟨y0, y1, y2, y3⟩ := y
  obtain ⟨A1, n1, c1, h1, A2, n2, c2, h2⟩ := l
  obtain ⟨A1', n1', c1', h1', A2', n2', c2', h2'⟩ := l'
  obtain ⟨k1, k2, k0, k3⟩ := hx
  obtain ⟨j1, j2, j0, j3⟩ := hy
  try unfold FnV at k1 j1 k2 j2 k0 j0 k3 j3
  dsimp only at k1 j1 k2 j2 k0 j0 k3 j3 ⊢
  have HK1 := Lib.hid k1
  have HJ1 := Lib.hid j1
  have HK2 := Lib.hid k2
  have HJ2 := Lib.hid j2
  clear k1 j1 k2 j2 k0 j0 k3 j3
  have HC := Lib.hid (two_new W 84 #[.string x0, .slice A1 n1 c1, .slice A2 n2 c2, .string x3] #[.string y0, .slice A1' n1' c1', .slice A2' n2' c2', .string y3])
  obtain ⟨z0, hz0⟩ : ∃ z, (x0.toList == y0.toList) = z := ⟨_, rfl⟩
  obtain ⟨z1, hz1⟩ : ∃ z, tt (x1 = y1) = z := ⟨_, rfl⟩
  have HZ1 := Lib.hid hz1
  obtain ⟨z2, hz2⟩ : ∃ z, tt (x2 = y2) = z := ⟨_, rfl⟩
  have HZ2 := Lib.hid hz2
  obtain ⟨z3, hz3⟩ : ∃ z, (x3.toList == y3.toList) = z := ⟨_, rfl⟩
  rw [hz0, hz1, hz2, hz3]
  clear hz1 hz2
  show Calls Try.prog 54 #[.agg #[.string x0, .slice A1 n1 c1, .slice A2 n2 c2, .string x3], .agg #[.string y0, .slice A1' n1' c1', .slice A2' n2' c2', .string y3]] W _
  cases z0
  · skip
    go_enter Try.func54, Try.ntmps54
    go_wp2_with fail
    go_ret
    exact ⟨rfl, (below_alloc _ _).alloc (by simp) _⟩
  cases z1
  · skip
    go_enter Try.func54, Try.ntmps54
    have tk1 : True := trivial
    go_wp2_with (go_at_call 21; have tk := tk1; obtain ⟨g0, g1, g2, g3⟩ := HC.out _ rfl; have HQ := equalStrings_any A1 A1' n1 n1' c1 c1' x1 y1 _ (HK1.out.go g2) (HJ1.out.go g2); refine Calls.mono HQ ?_; clear HQ; rintro e w1 ⟨rfl, hb⟩; rw [HZ1.out]; have HA1 := Lib.hid (g0.below hb (by omega)); have HD1 := Lib.hid (g1.below hb (by omega)); have HB1 := Lib.hid (g2.trans (hb.mono g2.size)); have HG1 : Hid (W.heap.size + 2 ≤ w1.heap.size) := (by have := hb.size; show _ ≤ _; omega); clear g0 g1 g2 g3 hb tk tk1)
    go_ret
    exact ⟨rfl, HB1.out⟩
  cases z2
  · skip
    go_enter Try.func54, Try.ntmps54
    have tk1 : True := trivial
    go_wp2_with (go_at_call 21; have tk := tk1; obtain ⟨g0, g1, g2, g3⟩ := HC.out _ rfl; have HQ := equalStrings_any A1 A1' n1 n1' c1 c1' x1 y1 _ (HK1.out.go g2) (HJ1.out.go g2); refine Calls.mono HQ ?_; clear HQ; rintro e w1 ⟨rfl, hb⟩; rw [HZ1.out]; have HA1 := Lib.hid (g0.below hb (by omega)); have HD1 := Lib.hid (g1.below hb (by omega)); have HB1 := Lib.hid (g2.trans (hb.mono g2.size)); have HG1 : Hid (W.heap.size + 2 ≤ w1.heap.size) := (by have := hb.size; show _ ≤ _; omega); have q12 : w1.cell? ⟨W.heap.size, 2, none⟩ = some (.slice A2 n2 c2) := HA1.out.cell 2; have p12 : w1.cell? ⟨W.heap.size + 1, 2, none⟩ = some (.slice A2' n2' c2') := HD1.out.cell 2; clear g0 g1 g2 g3 hb tk tk1)
    have tk2 : True := trivial
    go_wp2_with (go_at_call 21; have tk := tk2; have HQ := equalStrings_any A2 A2' n2 n2' c2 c2' x2 y2 _ (HK2.out.go HB1.out) (HJ2.out.go HB1.out); refine Calls.mono HQ ?_; clear HQ; rintro e w2 ⟨rfl, hb⟩; rw [HZ2.out]; have hg := HG1.out; have HA2 := Lib.hid (HA1.out.below hb (by omega)); have HD2 := Lib.hid (HD1.out.below hb (by omega)); have HB2 := Lib.hid (HB1.out.trans (hb.mono HB1.out.size)); have HG2 : Hid (W.heap.size + 2 ≤ w2.heap.size) := (Nat.le_trans hg hb.size); clear hg hb tk tk2)
    go_ret
    exact ⟨rfl, HB2.out⟩
  cases z3
  · skip
    go_enter Try.func54, Try.ntmps54
    have tk1 : True := trivial
    go_wp2_with (go_at_call 21; have tk := tk1; obtain ⟨g0, g1, g2, g3⟩ := HC.out _ rfl; have HQ := equalStrings_any A1 A1' n1 n1' c1 c1' x1 y1 _ (HK1.out.go g2) (HJ1.out.go g2); refine Calls.mono HQ ?_; clear HQ; rintro e w1 ⟨rfl, hb⟩; rw [HZ1.out]; have HA1 := Lib.hid (g0.below hb (by omega)); have HD1 := Lib.hid (g1.below hb (by omega)); have HB1 := Lib.hid (g2.trans (hb.mono g2.size)); have HG1 : Hid (W.heap.size + 2 ≤ w1.heap.size) := (by have := hb.size; show _ ≤ _; omega); have q12 : w1.cell? ⟨W.heap.size, 2, none⟩ = some (.slice A2 n2 c2) := HA1.out.cell 2; have p12 : w1.cell? ⟨W.heap.size + 1, 2, none⟩ = some (.slice A2' n2' c2') := HD1.out.cell 2; clear g0 g1 g2 g3 hb tk tk1)
    have tk2 : True := trivial
    go_wp2_with (go_at_call 21; have tk := tk2; have HQ := equalStrings_any A2 A2' n2 n2' c2 c2' x2 y2 _ (HK2.out.go HB1.out) (HJ2.out.go HB1.out); refine Calls.mono HQ ?_; clear HQ; rintro e w2 ⟨rfl, hb⟩; rw [HZ2.out]; have hg := HG1.out; have HA2 := Lib.hid (HA1.out.below hb (by omega)); have HD2 := Lib.hid (HD1.out.below hb (by omega)); have HB2 := Lib.hid (HB1.out.trans (hb.mono HB1.out.size)); have HG2 : Hid (W.heap.size + 2 ≤ w2.heap.size) := (Nat.le_trans hg hb.size); have q23 : w2.cell? ⟨W.heap.size, 3, none⟩ = some (.string x3) := HA2.out.cell 3; have p23 : w2.cell? ⟨W.heap.size + 1, 3, none⟩ = some (.string y3) := HD2.out.cell 3; clear hg hb tk tk2)
    go_ret
    exact ⟨rfl, HB2.out⟩
  go_enter Try.func54, Try.ntmps54
  have tk1 : True := trivial
  go_wp2_with (go_at_call 21; have tk := tk1; obtain ⟨g0, g1, g2, g3⟩ := HC.out _ rfl; have HQ := equalStrings_any A1 A1' n1 n1' c1 c1' x1 y1 _ (HK1.out.go g2) (HJ1.out.go g2); refine Calls.mono HQ ?_; clear HQ; rintro e w1 ⟨rfl, hb⟩; rw [HZ1.out]; have HA1 := Lib.hid (g0.below hb (by omega)); have HD1 := Lib.hid (g1.below hb (by omega)); have HB1 := Lib.hid (g2.trans (hb.mono g2.size)); have HG1 : Hid (W.heap.size + 2 ≤ w1.heap.size) := (by have := hb.size; show _ ≤ _; omega); have q12 : w1.cell? ⟨W.heap.size, 2, none⟩ = some (.slice A2 n2 c2) := HA1.out.cell 2; have p12 : w1.cell? ⟨W.heap.size + 1, 2, none⟩ = some (.slice A2' n2' c2') := HD1.out.cell 2; clear g0 g1 g2 g3 hb tk tk1)
  have tk2 : True := trivial
  go_wp2_with (go_at_call 21; have tk := tk2; have HQ := equalStrings_any A2 A2' n2 n2' c2 c2' x2 y2 _ (HK2.out.go HB1.out) (HJ2.out.go HB1.out); refine Calls.mono HQ ?_; clear HQ; rintro e w2 ⟨rfl, hb⟩; rw [HZ2.out]; have hg := HG1.out; have HA2 := Lib.hid (HA1.out.below hb (by omega)); have HD2 := Lib.hid (HD1.out.below hb (by omega)); have HB2 := Lib.hid (HB1.out.trans (hb.mono HB1.out.size)); have HG2 : Hid (W.heap.size + 2 ≤ w2.heap.size) := (Nat.le_trans hg hb.size); have q23 : w2.cell? ⟨W.heap.size, 3, none⟩ = some (.string x3) := HA2.out.cell 3; have p23 : w2.cell? ⟨W.heap.size + 1, 3, none⟩ = some (.string y3) := HD2.out.cell 3; clear hg hb tk tk2)
  go_ret
  exact ⟨rfl, HB2.out⟩
end Go.Proofs.Ytjhemdgeafglhaa

namespace Go.Proofs.Ytjhemdgeafglhaa
open Go Go.RowKit

theorem sameRt_bool_sameType_any (x y : Rt) : tt (x = y) = ((x.name_.toList == y.name_.toList) && (tt (x.fields_ = y.fields_))) := by
  rw [Bool.eq_iff_iff]
  simp only [Bool.and_eq_true, tt_iff, beq_iff_eq]
  obtain ⟨a0, a1⟩ := x
  obtain ⟨b0, b1⟩ := y
  simp only [Rt.mk.injEq]
  constructor
  · rintro ⟨h0, h1⟩
    exact ⟨by rw [h0], h1⟩
  · rintro ⟨h0, h1⟩
    exact ⟨WideShapes.bytes_inj (by rw [← ByteArray.toList_eq, ← ByteArray.toList_eq]; exact h0), h1⟩

set_option maxHeartbeats 4000000 in
set_option maxRecDepth 100000 in
theorem sameType_any (x y : Rt) (l l' : RtLay) (W : World) (hx : RtV W W.heap.size x l) (hy : RtV W W.heap.size y l') :
    Calls Try.prog 56 #[x.ag l, y.ag l'] W fun e w' => e = .returned (.bool (tt (x = y))) ∧ Below W.heap.size W w' := by
  rw [sameRt_bool_sameType_any]
  obtain ⟨x0, x1⟩ := x
  obtain ⟨y0, y1⟩ := y
  obtain ⟨A1, n1, c1, h1⟩ := l
  obtain ⟨A1', n1', c1', h1'⟩ := l'
  obtain ⟨k1, k0⟩ := hx
  obtain ⟨j1, j0⟩ := hy
  try unfold RtV at k1 j1 k0 j0
  dsimp only at k1 j1 k0 j0 ⊢
  have HK1 := Lib.hid k1
  have HJ1 := Lib.hid j1
  clear k1 j1 k0 j0
  have HC := Lib.hid (two_new W 86 #[.string x0, .slice A1 n1 c1] #[.string y0, .slice A1' n1' c1'])
  obtain ⟨z0, hz0⟩ : ∃ z, (x0.toList == y0.toList) = z := ⟨_, rfl⟩
  obtain ⟨z1, hz1⟩ : ∃ z, tt (x1 = y1) = z := ⟨_, rfl⟩
  have HZ1 := Lib.hid hz1
  rw [hz0, hz1]
  clear hz1
  show Calls Try.prog 56 #[.agg #[.string x0, .slice A1 n1 c1], .agg #[.string y0, .slice A1' n1' c1']] W _
  cases z0
  · skip
    go_enter Try.func56, Try.ntmps56
    go_wp2_with fail
    go_ret
    exact ⟨rfl, (below_alloc _ _).alloc (by simp) _⟩
  cases z1
  · skip
    go_enter Try.func56, Try.ntmps56
    have tk1 : True := trivial
    go_wp2_with (go_at_call 21; have tk := tk1; obtain ⟨g0, g1, g2, g3⟩ := HC.out _ rfl; have HQ := equalStrings_any A1 A1' n1 n1' c1 c1' x1 y1 _ (HK1.out.go g2) (HJ1.out.go g2); refine Calls.mono HQ ?_; clear HQ; rintro e w1 ⟨rfl, hb⟩; rw [HZ1.out]; have HA1 := Lib.hid (g0.below hb (by omega)); have HD1 := Lib.hid (g1.below hb (by omega)); have HB1 := Lib.hid (g2.trans (hb.mono g2.size)); have HG1 : Hid (W.heap.size + 2 ≤ w1.heap.size) := (by have := hb.size; show _ ≤ _; omega); clear g0 g1 g2 g3 hb tk tk1)
    go_ret
    exact ⟨rfl, HB1.out⟩
  go_enter Try.func56, Try.ntmps56
  have tk1 : True := trivial
  go_wp2_with (go_at_call 21; have tk := tk1; obtain ⟨g0, g1, g2, g3⟩ := HC.out _ rfl; have HQ := equalStrings_any A1 A1' n1 n1' c1 c1' x1 y1 _ (HK1.out.go g2) (HJ1.out.go g2); refine Calls.mono HQ ?_; clear HQ; rintro e w1 ⟨rfl, hb⟩; rw [HZ1.out]; have HA1 := Lib.hid (g0.below hb (by omega)); have HD1 := Lib.hid (g1.below hb (by omega)); have HB1 := Lib.hid (g2.trans (hb.mono g2.size)); have HG1 : Hid (W.heap.size + 2 ≤ w1.heap.size) := (by have := hb.size; show _ ≤ _; omega); clear g0 g1 g2 g3 hb tk tk1)
  go_ret
  exact ⟨rfl, HB1.out⟩
end Go.Proofs.Ytjhemdgeafglhaa

namespace Go.Proofs.Ytjhemdgeafglhaa
open Go Go.RowKit Go.Sort

theorem bytes_beq (a b : ByteArray) : (a.toList == b.toList) = true ↔ a = b := sameSt_iff a b
theorem fnS_bool (x y : Fn) : tt (x = y) = ((x.name_.toList == y.name_.toList) && ((x.label_.toList == y.label_.toList) && (tt (x.params_ = y.params_) && tt (x.locals_ = y.locals_)))) := by
  rw [Bool.eq_iff_iff]
  simp only [Bool.and_eq_true, tt_iff, bytes_beq]
  obtain ⟨a0, a1, a2, a3⟩ := x
  obtain ⟨b0, b1, b2, b3⟩ := y
  simp only [Fn.mk.injEq]
  constructor
  · rintro ⟨h0, h1, h2, h3⟩
    exact ⟨h0, h3, h1, h2⟩
  · rintro ⟨h0, h3, h1, h2⟩
    exact ⟨h0, h1, h2, h3⟩
theorem rtS_bool (x y : Rt) : tt (x = y) = ((x.name_.toList == y.name_.toList) && tt (x.fields_ = y.fields_)) := by
  rw [Bool.eq_iff_iff]
  simp only [Bool.and_eq_true, tt_iff, bytes_beq]
  obtain ⟨a0, a1⟩ := x
  obtain ⟨b0, b1⟩ := y
  simp only [Rt.mk.injEq]
/-- Both boxes. -/
def BoxS (W : World) (X Y : Array Value) (w : World) : Prop := RW 52 w W.heap.size X ∧ RW 52 w (W.heap.size + 1) Y ∧ Below W.heap.size W w
theorem BoxS.grow {W w w' : World} {X Y : Array Value} (h : BoxS W X Y w) (hb : Below w.heap.size w w') : BoxS W X Y w' :=
  ⟨h.1.below hb h.1.lt, h.2.1.below hb h.2.1.lt, h.2.2.trans (hb.mono h.2.2.size)⟩
abbrev FlatBS (W : World) (A1 A2 A1' A2' : Option Addr) (n1 c1 n2 c2 c1' c2' : Nat) (w : World) : Prop :=
  w.cell? ⟨W.heap.size, 1, none⟩ = some (.slice A1 n1 c1) ∧ w.cell? ⟨W.heap.size, 2, none⟩ = some (.slice A2 n2 c2) ∧ w.cell? ⟨W.heap.size + 1, 1, none⟩ = some (.slice A1' n1 c1') ∧ w.cell? ⟨W.heap.size + 1, 2, none⟩ = some (.slice A2' n2 c2')
theorem BoxS.flat {W w : World} {A0 A1 A2 A0' A1' A2' : Option Addr} {n0 c0 n1 c1 n2 c2 n0' c0' c1' c2' : Nat} (h : BoxS W #[.slice A0 n0 c0, .slice A1 n1 c1, .slice A2 n2 c2] #[.slice A0' n0' c0', .slice A1' n1 c1', .slice A2' n2 c2'] w) : FlatBS W A1 A2 A1' A2' n1 c1 n2 c2 c1' c2' w :=
  ⟨h.1.cell 1, h.1.cell 2, h.2.1.cell 1, h.2.1.cell 2⟩

set_option maxHeartbeats 8000000 in
set_option maxRecDepth 100000 in
theorem spec_SameScope_any (x y : Sc) (l l' : ScLay) (W : World) (hx : ScV W W.heap.size x l) (hy : ScV W W.heap.size y l') :
    Calls Try.prog 29 #[x.ag l, y.ag l'] W fun e w' => e = .returned (.bool (tt (x = y))) ∧ Below W.heap.size W w' := by
  obtain ⟨x0, x1, x2⟩ := x
  obtain ⟨y0, y1, y2⟩ := y
  obtain ⟨A0, n0, c0, h0, A1, n1, c1, h1, A2, n2, c2, h2⟩ := l
  obtain ⟨A0', n0', c0', h0', A1', n1', c1', h1', A2', n2', c2', h2'⟩ := l'
  obtain ⟨k0, k1, k2⟩ := hx
  obtain ⟨j0, j1, j2⟩ := hy
  dsimp only at k0 k1 k2 j0 j1 j2
  have hn1 := k1.2.1
  have hn1' := j1.2.1
  have hn2 := k2.2.1
  have hn2' := j2.2.1
  unfold maxLen at hn1 hn1' hn2 hn2'
  have HK0 := Lib.hid k0
  have HK1 := Lib.hid k1
  have HK2 := Lib.hid k2
  have HJ0 := Lib.hid j0
  have HJ1 := Lib.hid j1
  have HJ2 := Lib.hid j2
  clear k0 k1 k2 j0 j1 j2
  obtain ⟨P, hP⟩ : ∃ P, tt ((⟨x0, x1, x2⟩ : Sc) = ⟨y0, y1, y2⟩) = P := ⟨_, rfl⟩
  have HP := Lib.hid hP
  rw [hP]
  clear hP
  have HNE : Hid ((x0 ≠ y0 ∨ x1 ≠ y1 ∨ x2 ≠ y2) → P = false) := by
    show _ → _
    intro h
    rw [← HP.out]
    refine tt_false fun e => ?_
    simp only [Sc.mk.injEq] at e
    rcases h with h | h | h
    · exact h e.1
    · exact h e.2.1
    · exact h e.2.2
  have HEQ : Hid (x0 = y0 → x1 = y1 → x2 = y2 → P = true) := by
    show _ → _ → _ → _
    intro e0 e1 e2
    rw [← HP.out, e0, e1, e2]
    exact tt_true rfl
  clear HP
  have HC := Lib.hid (two_new W 52 #[.slice A0 n0 c0, .slice A1 n1 c1, .slice A2 n2 c2] #[.slice A0' n0' c0', .slice A1' n1' c1', .slice A2' n2' c2'])
  obtain ⟨z0, hz0⟩ : ∃ z, tt (x0 = y0) = z := ⟨_, rfl⟩
  have HZ0 := Lib.hid hz0
  clear hz0
  show Calls Try.prog 29 #[.agg #[.slice A0 n0 c0, .slice A1 n1 c1, .slice A2 n2 c2], .agg #[.slice A0' n0' c0', .slice A1' n1' c1', .slice A2' n2' c2']] W _
  cases z0
  · have HF : Hid (P = false) := HNE.out (.inl (of_tt_false HZ0.out))
    go_enter Try.func29, Try.ntmps29
    go_wp2_with (go_at_call 44; obtain ⟨g0, g1, g2, g3⟩ := HC.out _ rfl; have HQ := l18SameBindings_any A0 A0' n0 n0' c0 c0' x0 y0 _ (HK0.out.go g2) (HJ0.out.go g2); refine Calls.mono HQ ?_; clear HQ; rintro e w1 ⟨rfl, hb⟩; rw [HZ0.out]; have HB1 := Lib.hid (g2.trans (hb.mono g2.size)); clear g0 g1 g2 g3 hb)
    go_ret
    exact ⟨by rw [HF.out]; rfl, HB1.out⟩
  have HE0 := Lib.hid (of_tt HZ0.out)
  have ARM : Hid (∀ X Y : Array Value, ∀ T : TypeId, True) := fun _ _ _ => trivial
  clear ARM
  by_cases hl1 : n1 = n1'
  case neg =>
    have HF : Hid (P = false) := HNE.out (.inr (.inl fun e => hl1 (by rw [← HK1.out.1, ← HJ1.out.1, e])))
    have hne : ¬ (n1 : Int) = (n1' : Int) := by omega
    go_enter Try.func29, Try.ntmps29
    go_wp2_with (go_at_call 44; obtain ⟨g0, g1, g2, g3⟩ := HC.out _ rfl; have HQ := l18SameBindings_any A0 A0' n0 n0' c0 c0' x0 y0 _ (HK0.out.go g2) (HJ0.out.go g2); refine Calls.mono HQ ?_; clear HQ; rintro e w1 ⟨rfl, hb⟩; rw [HZ0.out]; have HX1 : Hid (BoxS W #[.slice A0 n0 c0, .slice A1 n1 c1, .slice A2 n2 c2] #[.slice A0' n0' c0', .slice A1' n1' c1', .slice A2' n2' c2'] w1) := ⟨g0.below hb (by omega), g1.below hb (by omega), g2.trans (hb.mono g2.size)⟩; have r0 : w1.cell? ⟨W.heap.size, 1, none⟩ = some (.slice A1 n1 c1) := HX1.out.1.cell 1; have r1 : w1.cell? ⟨W.heap.size, 2, none⟩ = some (.slice A2 n2 c2) := HX1.out.1.cell 2; have r2 : w1.cell? ⟨W.heap.size + 1, 1, none⟩ = some (.slice A1' n1' c1') := HX1.out.2.1.cell 1; have r3 : w1.cell? ⟨W.heap.size + 1, 2, none⟩ = some (.slice A2' n2' c2') := HX1.out.2.1.cell 2; clear g0 g1 g2 g3 hb HC)
    go_ret
    exact ⟨by rw [HF.out]; rfl, HX1.out.2.2⟩
  subst hl1
  by_cases hl2 : n2 = n2'
  case neg =>
    have HF : Hid (P = false) := HNE.out (.inr (.inr fun e => hl2 (by rw [← HK2.out.1, ← HJ2.out.1, e])))
    have hne : ¬ (n2 : Int) = (n2' : Int) := by omega
    go_enter Try.func29, Try.ntmps29
    go_wp2_with (go_at_call 44; obtain ⟨g0, g1, g2, g3⟩ := HC.out _ rfl; have HQ := l18SameBindings_any A0 A0' n0 n0' c0 c0' x0 y0 _ (HK0.out.go g2) (HJ0.out.go g2); refine Calls.mono HQ ?_; clear HQ; rintro e w1 ⟨rfl, hb⟩; rw [HZ0.out]; have HX1 : Hid (BoxS W #[.slice A0 n0 c0, .slice A1 n1 c1, .slice A2 n2 c2] #[.slice A0' n0' c0', .slice A1' n1 c1', .slice A2' n2' c2'] w1) := ⟨g0.below hb (by omega), g1.below hb (by omega), g2.trans (hb.mono g2.size)⟩; have r0 : w1.cell? ⟨W.heap.size, 1, none⟩ = some (.slice A1 n1 c1) := HX1.out.1.cell 1; have r1 : w1.cell? ⟨W.heap.size, 2, none⟩ = some (.slice A2 n2 c2) := HX1.out.1.cell 2; have r2 : w1.cell? ⟨W.heap.size + 1, 1, none⟩ = some (.slice A1' n1 c1') := HX1.out.2.1.cell 1; have r3 : w1.cell? ⟨W.heap.size + 1, 2, none⟩ = some (.slice A2' n2' c2') := HX1.out.2.1.cell 2; clear g0 g1 g2 g3 hb HC)
    go_ret
    exact ⟨by rw [HF.out]; rfl, HX1.out.2.2⟩
  subst hl2
  go_enter Try.func29, Try.ntmps29
  go_wp2_with (go_at_call 44; obtain ⟨g0, g1, g2, g3⟩ := HC.out _ rfl; have HQ := l18SameBindings_any A0 A0' n0 n0' c0 c0' x0 y0 _ (HK0.out.go g2) (HJ0.out.go g2); refine Calls.mono HQ ?_; clear HQ; rintro e w1 ⟨rfl, hb⟩; rw [HZ0.out]; have HX1 : Hid (BoxS W #[.slice A0 n0 c0, .slice A1 n1 c1, .slice A2 n2 c2] #[.slice A0' n0' c0', .slice A1' n1 c1', .slice A2' n2 c2'] w1) := ⟨g0.below hb (by omega), g1.below hb (by omega), g2.trans (hb.mono g2.size)⟩; have r0 : w1.cell? ⟨W.heap.size, 1, none⟩ = some (.slice A1 n1 c1) := HX1.out.1.cell 1; have r1 : w1.cell? ⟨W.heap.size, 2, none⟩ = some (.slice A2 n2 c2) := HX1.out.1.cell 2; have r2 : w1.cell? ⟨W.heap.size + 1, 1, none⟩ = some (.slice A1' n1 c1') := HX1.out.2.1.cell 1; have r3 : w1.cell? ⟨W.heap.size + 1, 2, none⟩ = some (.slice A2' n2 c2') := HX1.out.2.1.cell 2; clear g0 g1 g2 g3 hb HC)
  go_loopw [5] (fun i wr => ∃ k : Nat, k ≤ n1 ∧ i = .int .i64 k ∧ FlatBS W A1 A2 A1' A2' n1 c1 n2 c2 c1' c2' wr ∧ Hid (BoxS W #[.slice A0 n0 c0, .slice A1 n1 c1, .slice A2 n2 c2] #[.slice A0' n0' c0', .slice A1' n1 c1', .slice A2' n2 c2'] wr) ∧ Hid (∀ (j : Nat), j < k → x1[j]? = y1[j]?)) (fun i _ => n1 - (intOf i).toNat)
  case atStart => exact ⟨0, Nat.zero_le _, rfl, ⟨r0, r1, r2, r3⟩, HX1, Lib.hid (fun j hj => absurd hj (by omega))⟩
  case round =>
    obtain ⟨k, hk, rfl, ⟨r0, r1, r2, r3⟩, HX, HV⟩ := hrel
    by_cases hlt : k < n1
    · have b0 : (0 : Int) ≤ (k : Int) := by omega
      have b1 : (k : Int) < (n1 : Int) := by omega
      obtain ⟨b, off, u, m, rfl, hg, hu, hh1, hv1⟩ := (HK1.out.go HX.out.2.2).at_ hlt
      obtain ⟨b', off', v, m', rfl, hg', hv, hh2, hv2⟩ := (HJ1.out.go HX.out.2.2).at_ hlt
      have HU := Lib.hid hu
      have HW := Lib.hid hv
      have HFB := Lib.hid (fnS_bool u v)
      obtain ⟨u0, u1, u2, u3⟩ := u
      obtain ⟨v0, v1, v2, v3⟩ := v
      obtain ⟨a1, s1, d1, e1, a2, s2, d2, e2⟩ := m
      obtain ⟨a1', s1', d1', e1', a2', s2', d2', e2'⟩ := m'
      have f1 := fun (o : Obj) => (FnAt.below hh2 (below_alloc wr o) hg')
      have HT2 := Lib.hid (two_new wr 84 #[.string u0, .slice a1 s1 d1, .slice a2 s2 d2, .string u3] #[.string v0, .slice a1' s1' d1', .slice a2' s2' d2', .string v3])
      obtain ⟨p0, p1, p2, p3⟩ := hh1
      obtain ⟨q0, q1, q2, q3⟩ := f1 (.cells #[.string u0, .slice a1 s1 d1, .slice a2 s2 d2, .string u3] 84)
      have rr2 : (wr.alloc (.cells #[.string u0, .slice a1 s1 d1, .slice a2 s2 d2, .string u3] 84)).cell? ⟨W.heap.size + 1, 1, none⟩ = some (.slice (some ⟨b', off', none⟩) n1 c1') := (HX.out.grow (below_alloc wr _)).2.1.cell 1
      obtain ⟨hx1, hx2, _, _⟩ := hv1
      obtain ⟨hy1, hy2, _, _⟩ := hv2
      have HX1 := Lib.hid hx1
      have HX2 := Lib.hid hx2
      have HY1 := Lib.hid hy1
      have HY2 := Lib.hid hy2
      clear hx1 hx2 hy1 hy2 hu hv f1 hh2 hg hg'
      dsimp only at p0 p1 p2 p3 q0 q1 q2 q3 HFB HX1 HX2 HY1 HY2
      obtain ⟨z0, hz0⟩ : ∃ z, (u0.toList == v0.toList) = z := ⟨_, rfl⟩
      obtain ⟨z3, hz3⟩ : ∃ z, (u3.toList == v3.toList) = z := ⟨_, rfl⟩
      obtain ⟨z1, hz1⟩ : ∃ z, tt (u1 = v1) = z := ⟨_, rfl⟩
      obtain ⟨z2, hz2⟩ : ∃ z, tt (u2 = v2) = z := ⟨_, rfl⟩
      have HFB2 : Hid (tt ((⟨u0, u1, u2, u3⟩ : Fn) = ⟨v0, v1, v2, v3⟩) = (z0 && (z3 && (z1 && z2)))) := by show _ = _; rw [HFB.out, hz0, hz3, hz1, hz2]
      have HZ1 := Lib.hid hz1
      have HZ2 := Lib.hid hz2
      have HF : Hid ((z0 && (z3 && (z1 && z2))) = false → P = false) := by
        show _ → _
        intro h
        refine HNE.out (.inr (.inl fun e => ?_))
        have e2 : some (⟨u0, u1, u2, u3⟩ : Fn) = some ⟨v0, v1, v2, v3⟩ := by rw [← HU.out, ← HW.out, e]
        have e3 := HFB2.out
        rw [h, Option.some.inj e2, tt_true rfl] at e3
        cases e3
      have HT : Hid ((z0 && (z3 && (z1 && z2))) = true → ∀ (j : Nat), j < k + 1 → x1[j]? = y1[j]?) := by
        show _ → _
        intro h j hj
        by_cases e : j = k
        · have e3 := HFB2.out
          rw [h] at e3
          rw [e, HU.out, HW.out, of_tt e3]
        · exact HV.out j (by omega)
      clear hz1 hz2 HFB HFB2
      cases z0
      · skip
        have HE1 := Lib.hid (HF.out (by simp))
        clear HF HT
        go_wp2_with fail
        go_ret
        exact ⟨by rw [HE1.out]; rfl, HX.out.2.2.trans (((below_alloc _ _).alloc (by simp) _).mono HX.out.2.2.size)⟩
      cases z3
      · skip
        have HE1 := Lib.hid (HF.out (by simp))
        clear HF HT
        go_wp2_with fail
        go_ret
        exact ⟨by rw [HE1.out]; rfl, HX.out.2.2.trans (((below_alloc _ _).alloc (by simp) _).mono HX.out.2.2.size)⟩
      cases z1
      · skip
        have HE1 := Lib.hid (HF.out (by simp))
        clear HF HT
        have tk1 : True := trivial
        go_wp2_with (go_at_call 45; have tk := tk1; obtain ⟨g0, g1, g2, g3⟩ := HT2.out _ rfl; have HQ := l18SameTexts_any a1 a1' s1 s1' d1 d1' u1 v1 _ (HX1.out.go g2) (HY1.out.go g2); refine Calls.mono HQ ?_; clear HQ; rintro e wy1 ⟨rfl, hb⟩; rw [HZ1.out]; have HA1 := Lib.hid (g0.below hb (by omega)); have HD1 := Lib.hid (g1.below hb (by omega)); have HB1 := Lib.hid (g2.trans (hb.mono g2.size)); have HG1 : Hid (wr.heap.size + 2 ≤ wy1.heap.size) := (by have := hb.size; show _ ≤ _; omega); clear g0 g1 g2 g3 hb tk tk1)
        go_ret
        exact ⟨by rw [HE1.out]; rfl, HX.out.2.2.trans (HB1.out.mono HX.out.2.2.size)⟩
      cases z2
      · skip
        have HE1 := Lib.hid (HF.out (by simp))
        clear HF HT
        have tk1 : True := trivial
        go_wp2_with (go_at_call 45; have tk := tk1; obtain ⟨g0, g1, g2, g3⟩ := HT2.out _ rfl; have HQ := l18SameTexts_any a1 a1' s1 s1' d1 d1' u1 v1 _ (HX1.out.go g2) (HY1.out.go g2); refine Calls.mono HQ ?_; clear HQ; rintro e wy1 ⟨rfl, hb⟩; rw [HZ1.out]; have HA1 := Lib.hid (g0.below hb (by omega)); have HD1 := Lib.hid (g1.below hb (by omega)); have HB1 := Lib.hid (g2.trans (hb.mono g2.size)); have HG1 : Hid (wr.heap.size + 2 ≤ wy1.heap.size) := (by have := hb.size; show _ ≤ _; omega); have qq2 : wy1.cell? ⟨wr.heap.size, 2, none⟩ = some (.slice a2 s2 d2) := HA1.out.cell 2; have pp2 : wy1.cell? ⟨wr.heap.size + 1, 2, none⟩ = some (.slice a2' s2' d2') := HD1.out.cell 2; clear g0 g1 g2 g3 hb tk tk1)
        have tk2 : True := trivial
        go_wp2_with (go_at_call 45; have tk := tk2; have HQ := l18SameTexts_any a2 a2' s2 s2' d2 d2' u2 v2 _ (HX2.out.go HB1.out) (HY2.out.go HB1.out); refine Calls.mono HQ ?_; clear HQ; rintro e wy2 ⟨rfl, hb⟩; rw [HZ2.out]; have HB2 := Lib.hid (HB1.out.trans (hb.mono HB1.out.size)); clear hb tk tk2)
        go_ret
        exact ⟨by rw [HE1.out]; rfl, HX.out.2.2.trans (HB2.out.mono HX.out.2.2.size)⟩
      have HE1 := Lib.hid (HT.out (by simp))
      clear HF HT
      have tk1 : True := trivial
      go_wp2_with (go_at_call 45; have tk := tk1; obtain ⟨g0, g1, g2, g3⟩ := HT2.out _ rfl; have HQ := l18SameTexts_any a1 a1' s1 s1' d1 d1' u1 v1 _ (HX1.out.go g2) (HY1.out.go g2); refine Calls.mono HQ ?_; clear HQ; rintro e wy1 ⟨rfl, hb⟩; rw [HZ1.out]; have HA1 := Lib.hid (g0.below hb (by omega)); have HD1 := Lib.hid (g1.below hb (by omega)); have HB1 := Lib.hid (g2.trans (hb.mono g2.size)); have HG1 : Hid (wr.heap.size + 2 ≤ wy1.heap.size) := (by have := hb.size; show _ ≤ _; omega); have qq2 : wy1.cell? ⟨wr.heap.size, 2, none⟩ = some (.slice a2 s2 d2) := HA1.out.cell 2; have pp2 : wy1.cell? ⟨wr.heap.size + 1, 2, none⟩ = some (.slice a2' s2' d2') := HD1.out.cell 2; clear g0 g1 g2 g3 hb tk tk1)
      have tk2 : True := trivial
      go_wp2_with (go_at_call 45; have tk := tk2; have HQ := l18SameTexts_any a2 a2' s2 s2' d2 d2' u2 v2 _ (HX2.out.go HB1.out) (HY2.out.go HB1.out); refine Calls.mono HQ ?_; clear HQ; rintro e wy2 ⟨rfl, hb⟩; rw [HZ2.out]; have HB2 := Lib.hid (HB1.out.trans (hb.mono HB1.out.size)); clear hb tk tk2)
      have HX3 := Lib.hid (HX.out.grow HB2.out)
      go_roundw
      case rel => exact ⟨k + 1, by omega, by go_num, HX3.out.flat, HX3, HE1⟩
      case measure => simp [intOf]; omega
    · have hkn : k = n1 := by omega
      have HE1 : Hid (x1 = y1) := by
        show _ = _
        refine List.ext_getElem? fun j => ?_
        by_cases e : j < n1
        · exact HV.out j (by omega)
        · rw [List.getElem?_eq_none (by have := HK1.out.1; omega), List.getElem?_eq_none (by have := HJ1.out.1; omega)]
      clear HV
      subst hkn
      have hkk : ¬ (k : Int) < (k : Int) := by omega
      clear hlt
      go_wp2_with fail
      go_loopw [8] (fun i wr => ∃ q : Nat, q ≤ n2 ∧ i = .int .i64 q ∧ FlatBS W A1 A2 A1' A2' k c1 n2 c2 c1' c2' wr ∧ Hid (BoxS W #[.slice A0 n0 c0, .slice A1 k c1, .slice A2 n2 c2] #[.slice A0' n0' c0', .slice A1' k c1', .slice A2' n2 c2'] wr) ∧ Hid (∀ (j : Nat), j < q → x2[j]? = y2[j]?)) (fun i _ => n2 - (intOf i).toNat)
      case atStart => exact ⟨0, Nat.zero_le _, rfl, ⟨r0, r1, r2, r3⟩, HX, Lib.hid (fun j hj => absurd hj (by omega))⟩
      case round =>
        obtain ⟨q, hq, rfl, ⟨r0, r1, r2, r3⟩, HX, HV⟩ := hrel
        by_cases hlt : q < n2
        · have b0 : (0 : Int) ≤ (q : Int) := by omega
          have b1 : (q : Int) < (n2 : Int) := by omega
          obtain ⟨b, off, u, m, rfl, hg, hu, hh1, hv1⟩ := (HK2.out.go HX.out.2.2).at_ hlt
          obtain ⟨b', off', v, m', rfl, hg', hv, hh2, hv2⟩ := (HJ2.out.go HX.out.2.2).at_ hlt
          have HU := Lib.hid hu
          have HW := Lib.hid hv
          have HFB := Lib.hid (rtS_bool u v)
          obtain ⟨u0, u1⟩ := u
          obtain ⟨v0, v1⟩ := v
          obtain ⟨a1, s1, d1, e1⟩ := m
          obtain ⟨a1', s1', d1', e1'⟩ := m'
          obtain ⟨p0, p1⟩ := hh1
          obtain ⟨q0, q1⟩ := hh2
          have HX1 := Lib.hid hv1.1
          have HY1 := Lib.hid hv2.1
          clear hv1 hv2 hu hv hg hg'
          dsimp only at p0 p1 q0 q1 HFB HX1 HY1
          obtain ⟨z0, hz0⟩ : ∃ z, (u0.toList == v0.toList) = z := ⟨_, rfl⟩
          obtain ⟨z1, hz1⟩ : ∃ z, tt (u1 = v1) = z := ⟨_, rfl⟩
          have HFB2 : Hid (tt ((⟨u0, u1⟩ : Rt) = ⟨v0, v1⟩) = (z0 && z1)) := by show _ = _; rw [HFB.out, hz0, hz1]
          have HZ1 := Lib.hid hz1
          have HF : Hid ((z0 && z1) = false → P = false) := by
            show _ → _
            intro h
            refine HNE.out (.inr (.inr fun e => ?_))
            have e2 : some (⟨u0, u1⟩ : Rt) = some ⟨v0, v1⟩ := by rw [← HU.out, ← HW.out, e]
            have e3 := HFB2.out
            rw [h, Option.some.inj e2, tt_true rfl] at e3
            cases e3
          have HT : Hid ((z0 && z1) = true → ∀ (j : Nat), j < q + 1 → x2[j]? = y2[j]?) := by
            show _ → _
            intro h j hj
            by_cases e : j = q
            · have e3 := HFB2.out
              rw [h] at e3
              rw [e, HU.out, HW.out, of_tt e3]
            · exact HV.out j (by omega)
          clear hz1 HFB HFB2
          go_wp2_with fail
          have xr1 := cell_regrown r1
          have xr3 := cell_regrown r3
          have xp0 := cell_regrown p0
          have xp1 := cell_regrown p1
          have xq0 := cell_regrown q0
          have xq1 := cell_regrown q1
          have cw : ∀ d os, Calls Try.prog 45 #[.slice a1 s1 d1, .slice a1' s1' d1'] (grow (redrawn wr d) os) (fun e w'' => e = .returned (.bool z1) ∧ ∃ q : Regrown, w'' = grow (redrawn wr q.d) q.os) := fun d os => Calls.regrown_of (by have h := l18SameTexts_any a1 a1' s1 s1' d1 d1' u1 v1 (grow (redrawn wr d) os) (HX1.out.go (below_regrown wr d os)) (HY1.out.go (below_regrown wr d os)); rw [HZ1.out] at h; exact h)
          cases z0
          · have HE3 := Lib.hid (HF.out (by simp))
            clear HF HT
            have hb0 : (u0.toList != v0.toList) = true := by rw [bne, hz0]; rfl
            refine wp_region_quiet_below (by kernel_rfl) (by kernel_rfl) ?_
            repeat (first | go_big_quiet_step (with_reducible exact cw _ _) | quiet_step (with_reducible exact cw _ _))
            refine wpQuiet_nil ?_
            intro w4 hw'
            obtain ⟨⟨dq, osq⟩, hw''⟩ := hw'
            have HB4 : Hid (BoxS W #[.slice A0 n0 c0, .slice A1 k c1, .slice (some ⟨b, off, none⟩) n2 c2] #[.slice A0' n0' c0', .slice A1' k c1', .slice (some ⟨b', off', none⟩) n2 c2'] w4) := by show BoxS W #[.slice A0 n0 c0, .slice A1 k c1, .slice (some ⟨b, off, none⟩) n2 c2] #[.slice A0' n0' c0', .slice A1' k c1', .slice (some ⟨b', off', none⟩) n2 c2'] w4; rw [hw'']; exact HX.out.grow (below_regrown wr dq osq)
            clear hw'' xr1 xr3 xp0 xp1 xq0 xq1 cw r0 r1 r2 r3 p0 p1 q0 q1 hz0 hb0
            go_wp2_with fail
            go_ret
            exact ⟨by rw [HE3.out]; rfl, HB4.out.2.2⟩
          have hb0 : (u0.toList != v0.toList) = false := by rw [bne, hz0]; rfl
          cases z1
          · have HE3 := Lib.hid (HF.out (by simp))
            clear HF HT
            refine wp_region_quiet_below (by kernel_rfl) (by kernel_rfl) ?_
            repeat (first | go_big_quiet_step (with_reducible exact cw _ _) | quiet_step (with_reducible exact cw _ _))
            refine wpQuiet_nil ?_
            intro w4 hw'
            obtain ⟨⟨dq, osq⟩, hw''⟩ := hw'
            have HB4 : Hid (BoxS W #[.slice A0 n0 c0, .slice A1 k c1, .slice (some ⟨b, off, none⟩) n2 c2] #[.slice A0' n0' c0', .slice A1' k c1', .slice (some ⟨b', off', none⟩) n2 c2'] w4) := by show BoxS W #[.slice A0 n0 c0, .slice A1 k c1, .slice (some ⟨b, off, none⟩) n2 c2] #[.slice A0' n0' c0', .slice A1' k c1', .slice (some ⟨b', off', none⟩) n2 c2'] w4; rw [hw'']; exact HX.out.grow (below_regrown wr dq osq)
            clear hw'' xr1 xr3 xp0 xp1 xq0 xq1 cw r0 r1 r2 r3 p0 p1 q0 q1 hz0 hb0
            go_wp2_with fail
            go_ret
            exact ⟨by rw [HE3.out]; rfl, HB4.out.2.2⟩
          have HE3 := Lib.hid (HT.out (by simp))
          clear HF HT
          refine wp_region_quiet_below (by kernel_rfl) (by kernel_rfl) ?_
          repeat (first | go_big_quiet_step (with_reducible exact cw _ _) | quiet_step (with_reducible exact cw _ _))
          refine wpQuiet_nil ?_
          intro w4 hw'
          obtain ⟨⟨dq, osq⟩, hw''⟩ := hw'
          have HB4 : Hid (BoxS W #[.slice A0 n0 c0, .slice A1 k c1, .slice (some ⟨b, off, none⟩) n2 c2] #[.slice A0' n0' c0', .slice A1' k c1', .slice (some ⟨b', off', none⟩) n2 c2'] w4) := by show BoxS W #[.slice A0 n0 c0, .slice A1 k c1, .slice (some ⟨b, off, none⟩) n2 c2] #[.slice A0' n0' c0', .slice A1' k c1', .slice (some ⟨b', off', none⟩) n2 c2'] w4; rw [hw'']; exact HX.out.grow (below_regrown wr dq osq)
          clear hw'' xr1 xr3 xp0 xp1 xq0 xq1 cw r0 r1 r2 r3 p0 p1 q0 q1 hz0 hb0
          go_wp2_with fail
          go_roundw
          case rel => exact ⟨q + 1, by omega, by go_num, HB4.out.flat, HB4, HE3⟩
          case measure => simp [intOf]; omega
        · have hqn : q = n2 := by omega
          have HE2 : Hid (P = true) := by
            refine HEQ.out HE0.out HE1.out (List.ext_getElem? fun j => ?_)
            by_cases e : j < n2
            · exact HV.out j (by omega)
            · rw [List.getElem?_eq_none (by have := HK2.out.1; omega), List.getElem?_eq_none (by have := HJ2.out.1; omega)]
          go_wp2_with fail
          go_ret
          exact ⟨by rw [HE2.out]; rfl, HX.out.2.2⟩
end Go.Proofs.Ytjhemdgeafglhaa

namespace Go.Proofs.Ytjhemdgeafglhaa
open Go Go.RowKit

set_option maxHeartbeats 4000000 in
set_option maxRecDepth 100000 in
theorem equalFuncF_any (A A' : Option Addr) (n n' c c' : Nat) (xs ys : List Fn) (W : World) (ha : FnI W W.heap.size A n xs) (hb : FnI W W.heap.size A' n' ys) :
    Calls Try.prog 53 #[.slice A n c, .slice A' n' c', .func (.func 54) #[] #[]] W fun e w' => e = .returned (.bool (tt (xs = ys))) ∧ Below W.heap.size W w' := by
  have HA := Lib.hid ha
  have HB := Lib.hid hb
  have hn := ha.2.1
  have hn' := hb.2.1
  have HN := Lib.hid ha.1
  have HN' := Lib.hid hb.1
  unfold maxLen at hn hn'
  clear ha hb
  obtain ⟨P, hP⟩ : ∃ P, tt (xs = ys) = P := ⟨_, rfl⟩
  have HP := Lib.hid hP
  rw [hP]
  clear hP
  by_cases hl : n = n'
  · subst hl
    go_enter Try.func53, Try.ntmps53
    go_wp2_with fail
    go_loopw [17] (fun i wr => ∃ k : Nat, k ≤ n ∧ i = .int .i64 k ∧ Hid (Below W.heap.size W wr) ∧ Hid (∀ (j : Nat), j < k → xs[j]? = ys[j]?)) (fun i _ => n - (intOf i).toNat)
    case atStart => exact ⟨0, Nat.zero_le _, rfl, Below.refl _ _, fun j hj => absurd hj (by omega)⟩
    case round =>
      obtain ⟨k, hk, rfl, HW, HV⟩ := hrel
      by_cases hlt : k < n
      · have b0 : (0 : Int) ≤ (k : Int) := by omega
        have b1 : (k : Int) < (n : Int) := by omega
        obtain ⟨b, off, x, l, rfl, hg, hx, h1, hv1⟩ := (HA.out.go HW.out).at_ hlt
        obtain ⟨b', off', y, l', rfl, hg', hx', h2, hv2⟩ := (HB.out.go HW.out).at_ hlt
        have HX := Lib.hid hx
        have HX' := Lib.hid hx'
        obtain ⟨z, hz⟩ : ∃ z, tt (x = y) = z := ⟨_, rfl⟩
        have HZ := Lib.hid hz
        have HO := Lib.hid hv1
        have HO' := Lib.hid hv2
        obtain ⟨q0, q1, q2, q3⟩ := h1
        have a1 := fun (o : Obj) => (FnAt.below h2 (below_alloc wr o) hg')
        have HT2 := Lib.hid (two_new wr 84 (x.vs l).toArray (y.vs l').toArray)
        clear hx hx' hv1 hv2 hg hg' h2 hz
        have HF : Hid (z = false → P = false) := by
          show _ → _
          intro h
          rw [← HP.out]
          refine tt_false fun e => ?_
          have e2 : some x = some y := by rw [← HX.out, ← HX'.out, e]
          rw [h, Option.some.inj e2] at HZ
          have := HZ.out
          rw [tt_true rfl] at this
          cases this
        have HT : Hid (z = true → ∀ (j : Nat), j < k + 1 → xs[j]? = ys[j]?) := by
          show _ → _
          intro h j hj
          by_cases e : j = k
          · rw [h] at HZ
            rw [e, HX.out, HX'.out, of_tt HZ.out]
          · exact HV.out j (by omega)
        obtain ⟨p0, p1, p2, p3⟩ := a1 (.cells (x.vs l).toArray 84)
        clear a1
        unfold Fn.vs at p0 p1 p2 p3 HT2
        cases z
        · have HF1 := Lib.hid (HF.out rfl)
          clear HF HT
          go_wp2_with (go_at_call 54; obtain ⟨_, _, g2, _⟩ := HT2.out _ rfl; have HQ := sameFunction_any x y l l' _ (HO.out.go g2) (HO'.out.go g2); refine Calls.mono HQ ?_; clear HQ; rintro e w1 ⟨rfl, hb⟩; rw [HZ.out]; have HW1 : Hid (Below W.heap.size W w1) := HW.out.trans ((g2.trans (hb.mono g2.size)).mono HW.out.size); clear g2 hb p0 p1 p2 p3 q0 q1 q2 q3)
          go_ret
          exact ⟨by rw [HF1.out]; rfl, HW1.out⟩
        · have HT1 := Lib.hid (HT.out rfl)
          clear HF HT
          go_wp2_with (go_at_call 54; obtain ⟨_, _, g2, _⟩ := HT2.out _ rfl; have HQ := sameFunction_any x y l l' _ (HO.out.go g2) (HO'.out.go g2); refine Calls.mono HQ ?_; clear HQ; rintro e w1 ⟨rfl, hb⟩; rw [HZ.out]; have HW1 : Hid (Below W.heap.size W w1) := HW.out.trans ((g2.trans (hb.mono g2.size)).mono HW.out.size); clear g2 hb p0 p1 p2 p3 q0 q1 q2 q3)
          go_roundw
          case rel => exact ⟨k + 1, by omega, by go_num, HW1, HT1⟩
          case measure => simp [intOf]; omega
      · have hkn : k = n := by omega
        have HT : Hid (P = true) := by
          show _ = _
          rw [← HP.out]
          refine tt_true (List.ext_getElem? fun j => ?_)
          by_cases e : j < n
          · exact HV.out j (by omega)
          · rw [List.getElem?_eq_none (by have := HN.out; omega), List.getElem?_eq_none (by have := HN'.out; omega)]
        go_wp2_with fail
        go_ret
        exact ⟨by rw [HT.out]; rfl, HW.out⟩
  · have HF : Hid (P = false) := by
      show _ = _
      rw [← HP.out]
      exact tt_false fun e => hl (by rw [← HN.out, ← HN'.out, e])
    have hne : ¬ (n : Int) = (n' : Int) := by omega
    go_enter Try.func53, Try.ntmps53
    go_wp2_with fail
    go_ret
    exact ⟨by rw [HF.out]; rfl, Below.refl _ _⟩

end Go.Proofs.Ytjhemdgeafglhaa

namespace Go.Proofs.Ytjhemdgeafglhaa
open Go Go.RowKit

set_option maxHeartbeats 4000000 in
set_option maxRecDepth 100000 in
theorem equalFuncT_any (A A' : Option Addr) (n n' c c' : Nat) (xs ys : List Rt) (W : World) (ha : RtI W W.heap.size A n xs) (hb : RtI W W.heap.size A' n' ys) :
    Calls Try.prog 55 #[.slice A n c, .slice A' n' c', .func (.func 56) #[] #[]] W fun e w' => e = .returned (.bool (tt (xs = ys))) ∧ Below W.heap.size W w' := by
  have HA := Lib.hid ha
  have HB := Lib.hid hb
  have hn := ha.2.1
  have hn' := hb.2.1
  have HN := Lib.hid ha.1
  have HN' := Lib.hid hb.1
  unfold maxLen at hn hn'
  clear ha hb
  obtain ⟨P, hP⟩ : ∃ P, tt (xs = ys) = P := ⟨_, rfl⟩
  have HP := Lib.hid hP
  rw [hP]
  clear hP
  by_cases hl : n = n'
  · subst hl
    go_enter Try.func55, Try.ntmps55
    go_wp2_with fail
    go_loopw [17] (fun i wr => ∃ k : Nat, k ≤ n ∧ i = .int .i64 k ∧ Hid (Below W.heap.size W wr) ∧ Hid (∀ (j : Nat), j < k → xs[j]? = ys[j]?)) (fun i _ => n - (intOf i).toNat)
    case atStart => exact ⟨0, Nat.zero_le _, rfl, Below.refl _ _, fun j hj => absurd hj (by omega)⟩
    case round =>
      obtain ⟨k, hk, rfl, HW, HV⟩ := hrel
      by_cases hlt : k < n
      · have b0 : (0 : Int) ≤ (k : Int) := by omega
        have b1 : (k : Int) < (n : Int) := by omega
        obtain ⟨b, off, x, l, rfl, hg, hx, h1, hv1⟩ := (HA.out.go HW.out).at_ hlt
        obtain ⟨b', off', y, l', rfl, hg', hx', h2, hv2⟩ := (HB.out.go HW.out).at_ hlt
        have HX := Lib.hid hx
        have HX' := Lib.hid hx'
        obtain ⟨z, hz⟩ : ∃ z, tt (x = y) = z := ⟨_, rfl⟩
        have HZ := Lib.hid hz
        have HO := Lib.hid hv1
        have HO' := Lib.hid hv2
        obtain ⟨q0, q1⟩ := h1
        have a1 := fun (o : Obj) => (RtAt.below h2 (below_alloc wr o) hg')
        have HT2 := Lib.hid (two_new wr 86 (x.vs l).toArray (y.vs l').toArray)
        clear hx hx' hv1 hv2 hg hg' h2 hz
        have HF : Hid (z = false → P = false) := by
          show _ → _
          intro h
          rw [← HP.out]
          refine tt_false fun e => ?_
          have e2 : some x = some y := by rw [← HX.out, ← HX'.out, e]
          rw [h, Option.some.inj e2] at HZ
          have := HZ.out
          rw [tt_true rfl] at this
          cases this
        have HT : Hid (z = true → ∀ (j : Nat), j < k + 1 → xs[j]? = ys[j]?) := by
          show _ → _
          intro h j hj
          by_cases e : j = k
          · rw [h] at HZ
            rw [e, HX.out, HX'.out, of_tt HZ.out]
          · exact HV.out j (by omega)
        obtain ⟨p0, p1⟩ := a1 (.cells (x.vs l).toArray 86)
        clear a1
        unfold Rt.vs at p0 p1 HT2
        cases z
        · have HF1 := Lib.hid (HF.out rfl)
          clear HF HT
          go_wp2_with (go_at_call 56; obtain ⟨_, _, g2, _⟩ := HT2.out _ rfl; have HQ := sameType_any x y l l' _ (HO.out.go g2) (HO'.out.go g2); refine Calls.mono HQ ?_; clear HQ; rintro e w1 ⟨rfl, hb⟩; rw [HZ.out]; have HW1 : Hid (Below W.heap.size W w1) := HW.out.trans ((g2.trans (hb.mono g2.size)).mono HW.out.size); clear g2 hb p0 p1 q0 q1)
          go_ret
          exact ⟨by rw [HF1.out]; rfl, HW1.out⟩
        · have HT1 := Lib.hid (HT.out rfl)
          clear HF HT
          go_wp2_with (go_at_call 56; obtain ⟨_, _, g2, _⟩ := HT2.out _ rfl; have HQ := sameType_any x y l l' _ (HO.out.go g2) (HO'.out.go g2); refine Calls.mono HQ ?_; clear HQ; rintro e w1 ⟨rfl, hb⟩; rw [HZ.out]; have HW1 : Hid (Below W.heap.size W w1) := HW.out.trans ((g2.trans (hb.mono g2.size)).mono HW.out.size); clear g2 hb p0 p1 q0 q1)
          go_roundw
          case rel => exact ⟨k + 1, by omega, by go_num, HW1, HT1⟩
          case measure => simp [intOf]; omega
      · have hkn : k = n := by omega
        have HT : Hid (P = true) := by
          show _ = _
          rw [← HP.out]
          refine tt_true (List.ext_getElem? fun j => ?_)
          by_cases e : j < n
          · exact HV.out j (by omega)
          · rw [List.getElem?_eq_none (by have := HN.out; omega), List.getElem?_eq_none (by have := HN'.out; omega)]
        go_wp2_with fail
        go_ret
        exact ⟨by rw [HT.out]; rfl, HW.out⟩
  · have HF : Hid (P = false) := by
      show _ = _
      rw [← HP.out]
      exact tt_false fun e => hl (by rw [← HN.out, ← HN'.out, e])
    have hne : ¬ (n : Int) = (n' : Int) := by omega
    go_enter Try.func55, Try.ntmps55
    go_wp2_with fail
    go_ret
    exact ⟨by rw [HF.out]; rfl, Below.refl _ _⟩

end Go.Proofs.Ytjhemdgeafglhaa

namespace Go.Proofs.Ytjhemdgeafglhaa
open Go Go.RowKit

theorem sameSc_bool_impl_SameScope_any (x y : Sc) : tt (x = y) = (tt (x.vars_ = y.vars_) && (tt (x.functions_ = y.functions_) && (tt (x.types_ = y.types_)))) := by
  rw [Bool.eq_iff_iff]
  simp only [Bool.and_eq_true, tt_iff, beq_iff_eq]
  obtain ⟨a0, a1, a2⟩ := x
  obtain ⟨b0, b1, b2⟩ := y
  simp only [Sc.mk.injEq]

set_option maxHeartbeats 4000000 in
set_option maxRecDepth 100000 in
theorem impl_SameScope_any (x y : Sc) (l l' : ScLay) (W : World) (hx : ScV W W.heap.size x l) (hy : ScV W W.heap.size y l') :
    Calls Try.prog 33 #[x.ag l, y.ag l'] W fun e w' => e = .returned (.bool (tt (x = y))) ∧ Below W.heap.size W w' := by
  rw [sameSc_bool_impl_SameScope_any]
  obtain ⟨x0, x1, x2⟩ := x
  obtain ⟨y0, y1, y2⟩ := y
  obtain ⟨A0, n0, c0, h0, A1, n1, c1, h1, A2, n2, c2, h2⟩ := l
  obtain ⟨A0', n0', c0', h0', A1', n1', c1', h1', A2', n2', c2', h2'⟩ := l'
  obtain ⟨k0, k1, k2⟩ := hx
  obtain ⟨j0, j1, j2⟩ := hy
  try unfold ScV at k0 j0 k1 j1 k2 j2
  dsimp only at k0 j0 k1 j1 k2 j2 ⊢
  have HK0 := Lib.hid k0
  have HJ0 := Lib.hid j0
  have HK1 := Lib.hid k1
  have HJ1 := Lib.hid j1
  have HK2 := Lib.hid k2
  have HJ2 := Lib.hid j2
  clear k0 j0 k1 j1 k2 j2
  have HC := Lib.hid (two_new W 52 #[.slice A0 n0 c0, .slice A1 n1 c1, .slice A2 n2 c2] #[.slice A0' n0' c0', .slice A1' n1' c1', .slice A2' n2' c2'])
  obtain ⟨z0, hz0⟩ : ∃ z, tt (x0 = y0) = z := ⟨_, rfl⟩
  have HZ0 := Lib.hid hz0
  obtain ⟨z1, hz1⟩ : ∃ z, tt (x1 = y1) = z := ⟨_, rfl⟩
  have HZ1 := Lib.hid hz1
  obtain ⟨z2, hz2⟩ : ∃ z, tt (x2 = y2) = z := ⟨_, rfl⟩
  have HZ2 := Lib.hid hz2
  rw [hz0, hz1, hz2]
  clear hz0 hz1 hz2
  show Calls Try.prog 33 #[.agg #[.slice A0 n0 c0, .slice A1 n1 c1, .slice A2 n2 c2], .agg #[.slice A0' n0' c0', .slice A1' n1' c1', .slice A2' n2' c2']] W _
  cases z0
  · skip
    go_enter Try.func33, Try.ntmps33
    have tk1 : True := trivial
    go_wp2_with (go_at_call 52; have tk := tk1; obtain ⟨g0, g1, g2, g3⟩ := HC.out _ rfl; have HQ := equalBindings_any A0 A0' n0 n0' c0 c0' x0 y0 _ (HK0.out.go g2) (HJ0.out.go g2); refine Calls.mono HQ ?_; clear HQ; rintro e w1 ⟨rfl, hb⟩; rw [HZ0.out]; have HA1 := Lib.hid (g0.below hb (by omega)); have HD1 := Lib.hid (g1.below hb (by omega)); have HB1 := Lib.hid (g2.trans (hb.mono g2.size)); have HG1 : Hid (W.heap.size + 2 ≤ w1.heap.size) := (by have := hb.size; show _ ≤ _; omega); clear g0 g1 g2 g3 hb tk tk1)
    go_ret
    exact ⟨rfl, HB1.out⟩
  cases z1
  · skip
    go_enter Try.func33, Try.ntmps33
    have tk1 : True := trivial
    go_wp2_with (go_at_call 52; have tk := tk1; obtain ⟨g0, g1, g2, g3⟩ := HC.out _ rfl; have HQ := equalBindings_any A0 A0' n0 n0' c0 c0' x0 y0 _ (HK0.out.go g2) (HJ0.out.go g2); refine Calls.mono HQ ?_; clear HQ; rintro e w1 ⟨rfl, hb⟩; rw [HZ0.out]; have HA1 := Lib.hid (g0.below hb (by omega)); have HD1 := Lib.hid (g1.below hb (by omega)); have HB1 := Lib.hid (g2.trans (hb.mono g2.size)); have HG1 : Hid (W.heap.size + 2 ≤ w1.heap.size) := (by have := hb.size; show _ ≤ _; omega); have q11 : w1.cell? ⟨W.heap.size, 1, none⟩ = some (.slice A1 n1 c1) := HA1.out.cell 1; have p11 : w1.cell? ⟨W.heap.size + 1, 1, none⟩ = some (.slice A1' n1' c1') := HD1.out.cell 1; clear g0 g1 g2 g3 hb tk tk1)
    have tk2 : True := trivial
    go_wp2_with (go_at_call 53; have tk := tk2; have HQ := equalFuncF_any A1 A1' n1 n1' c1 c1' x1 y1 _ (HK1.out.go HB1.out) (HJ1.out.go HB1.out); refine Calls.mono HQ ?_; clear HQ; rintro e w2 ⟨rfl, hb⟩; rw [HZ1.out]; have hg := HG1.out; have HA2 := Lib.hid (HA1.out.below hb (by omega)); have HD2 := Lib.hid (HD1.out.below hb (by omega)); have HB2 := Lib.hid (HB1.out.trans (hb.mono HB1.out.size)); have HG2 : Hid (W.heap.size + 2 ≤ w2.heap.size) := (Nat.le_trans hg hb.size); clear hg hb tk tk2)
    go_ret
    exact ⟨rfl, HB2.out⟩
  cases z2
  · skip
    go_enter Try.func33, Try.ntmps33
    have tk1 : True := trivial
    go_wp2_with (go_at_call 52; have tk := tk1; obtain ⟨g0, g1, g2, g3⟩ := HC.out _ rfl; have HQ := equalBindings_any A0 A0' n0 n0' c0 c0' x0 y0 _ (HK0.out.go g2) (HJ0.out.go g2); refine Calls.mono HQ ?_; clear HQ; rintro e w1 ⟨rfl, hb⟩; rw [HZ0.out]; have HA1 := Lib.hid (g0.below hb (by omega)); have HD1 := Lib.hid (g1.below hb (by omega)); have HB1 := Lib.hid (g2.trans (hb.mono g2.size)); have HG1 : Hid (W.heap.size + 2 ≤ w1.heap.size) := (by have := hb.size; show _ ≤ _; omega); have q11 : w1.cell? ⟨W.heap.size, 1, none⟩ = some (.slice A1 n1 c1) := HA1.out.cell 1; have p11 : w1.cell? ⟨W.heap.size + 1, 1, none⟩ = some (.slice A1' n1' c1') := HD1.out.cell 1; clear g0 g1 g2 g3 hb tk tk1)
    have tk2 : True := trivial
    go_wp2_with (go_at_call 53; have tk := tk2; have HQ := equalFuncF_any A1 A1' n1 n1' c1 c1' x1 y1 _ (HK1.out.go HB1.out) (HJ1.out.go HB1.out); refine Calls.mono HQ ?_; clear HQ; rintro e w2 ⟨rfl, hb⟩; rw [HZ1.out]; have hg := HG1.out; have HA2 := Lib.hid (HA1.out.below hb (by omega)); have HD2 := Lib.hid (HD1.out.below hb (by omega)); have HB2 := Lib.hid (HB1.out.trans (hb.mono HB1.out.size)); have HG2 : Hid (W.heap.size + 2 ≤ w2.heap.size) := (Nat.le_trans hg hb.size); have q22 : w2.cell? ⟨W.heap.size, 2, none⟩ = some (.slice A2 n2 c2) := HA2.out.cell 2; have p22 : w2.cell? ⟨W.heap.size + 1, 2, none⟩ = some (.slice A2' n2' c2') := HD2.out.cell 2; clear hg hb tk tk2)
    have tk3 : True := trivial
    go_wp2_with (go_at_call 55; have tk := tk3; have HQ := equalFuncT_any A2 A2' n2 n2' c2 c2' x2 y2 _ (HK2.out.go HB2.out) (HJ2.out.go HB2.out); refine Calls.mono HQ ?_; clear HQ; rintro e w3 ⟨rfl, hb⟩; rw [HZ2.out]; have hg := HG2.out; have HA3 := Lib.hid (HA2.out.below hb (by omega)); have HD3 := Lib.hid (HD2.out.below hb (by omega)); have HB3 := Lib.hid (HB2.out.trans (hb.mono HB2.out.size)); have HG3 : Hid (W.heap.size + 2 ≤ w3.heap.size) := (Nat.le_trans hg hb.size); clear hg hb tk tk3)
    go_ret
    exact ⟨rfl, HB3.out⟩
  go_enter Try.func33, Try.ntmps33
  have tk1 : True := trivial
  go_wp2_with (go_at_call 52; have tk := tk1; obtain ⟨g0, g1, g2, g3⟩ := HC.out _ rfl; have HQ := equalBindings_any A0 A0' n0 n0' c0 c0' x0 y0 _ (HK0.out.go g2) (HJ0.out.go g2); refine Calls.mono HQ ?_; clear HQ; rintro e w1 ⟨rfl, hb⟩; rw [HZ0.out]; have HA1 := Lib.hid (g0.below hb (by omega)); have HD1 := Lib.hid (g1.below hb (by omega)); have HB1 := Lib.hid (g2.trans (hb.mono g2.size)); have HG1 : Hid (W.heap.size + 2 ≤ w1.heap.size) := (by have := hb.size; show _ ≤ _; omega); have q11 : w1.cell? ⟨W.heap.size, 1, none⟩ = some (.slice A1 n1 c1) := HA1.out.cell 1; have p11 : w1.cell? ⟨W.heap.size + 1, 1, none⟩ = some (.slice A1' n1' c1') := HD1.out.cell 1; clear g0 g1 g2 g3 hb tk tk1)
  have tk2 : True := trivial
  go_wp2_with (go_at_call 53; have tk := tk2; have HQ := equalFuncF_any A1 A1' n1 n1' c1 c1' x1 y1 _ (HK1.out.go HB1.out) (HJ1.out.go HB1.out); refine Calls.mono HQ ?_; clear HQ; rintro e w2 ⟨rfl, hb⟩; rw [HZ1.out]; have hg := HG1.out; have HA2 := Lib.hid (HA1.out.below hb (by omega)); have HD2 := Lib.hid (HD1.out.below hb (by omega)); have HB2 := Lib.hid (HB1.out.trans (hb.mono HB1.out.size)); have HG2 : Hid (W.heap.size + 2 ≤ w2.heap.size) := (Nat.le_trans hg hb.size); have q22 : w2.cell? ⟨W.heap.size, 2, none⟩ = some (.slice A2 n2 c2) := HA2.out.cell 2; have p22 : w2.cell? ⟨W.heap.size + 1, 2, none⟩ = some (.slice A2' n2' c2') := HD2.out.cell 2; clear hg hb tk tk2)
  have tk3 : True := trivial
  go_wp2_with (go_at_call 55; have tk := tk3; have HQ := equalFuncT_any A2 A2' n2 n2' c2 c2' x2 y2 _ (HK2.out.go HB2.out) (HJ2.out.go HB2.out); refine Calls.mono HQ ?_; clear HQ; rintro e w3 ⟨rfl, hb⟩; rw [HZ2.out]; have hg := HG2.out; have HA3 := Lib.hid (HA2.out.below hb (by omega)); have HD3 := Lib.hid (HD2.out.below hb (by omega)); have HB3 := Lib.hid (HB2.out.trans (hb.mono HB2.out.size)); have HG3 : Hid (W.heap.size + 2 ≤ w3.heap.size) := (Nat.le_trans hg hb.size); clear hg hb tk tk3)
  go_ret
  exact ⟨rfl, HB3.out⟩
end Go.Proofs.Ytjhemdgeafglhaa

namespace Go.Proofs.Ytjhemdgeafglhaa
open Go Go.RowKit

/-- What toConsole answers. -/
def ToCn (x : Cn) (W : World) (e : Ending) (w' : World) : Prop := ∃ l, e = .returned (x.ag l) ∧ Hid (CnV w' w'.heap.size x l ∧ Below W.heap.size W w' ∧ l.n0 = x.input_.length ∧ l.n2 = x.output_.length ∧ l.n3 = x.files_.length ∧ l.n4 = x.trace_.length ∧ ∃ b0 b2 b3 b4, l.A0 = some ⟨b0, 0, none⟩ ∧ l.A2 = some ⟨b2, 0, none⟩ ∧ l.A3 = some ⟨b3, 0, none⟩ ∧ l.A4 = some ⟨b4, 0, none⟩ ∧ W.heap.size ≤ b0 ∧ W.heap.size ≤ b2 ∧ W.heap.size ≤ b3 ∧ W.heap.size ≤ b4)

set_option maxHeartbeats 2000000 in
set_option maxRecDepth 100000 in
theorem toConsole_any (x : Cn) (l : CnLay) (W : World) (ho : CnV W W.heap.size x l) (hsm : CnSmall x) :
    Calls Try.prog 7 #[x.ag l] W (ToCn x W) := by
  obtain ⟨x0, x1, x2, x3, x4⟩ := x
  obtain ⟨A0, n0, c0, h0, A2, n2, c2, h2, A3, n3, c3, h3, A4, n4, c4, h4⟩ := l
  obtain ⟨k0, k2, k3, k4⟩ := ho
  obtain ⟨s0, s2, s3, s4⟩ := hsm
  try unfold CnV at k0 k2 k3 k4
  try unfold CnSmall at s0 s2 s3 s4
  dsimp only at k0 k2 k3 k4 s0 s2 s3 s4
  rw [k0.1] at s0
  have HK0 := Lib.hid k0
  have HS0 := Lib.hid s0
  rw [k2.1] at s2
  have HK2 := Lib.hid k2
  have HS2 := Lib.hid s2
  rw [k3.1] at s3
  have HK3 := Lib.hid k3
  have HS3 := Lib.hid s3
  rw [k4.1] at s4
  have HK4 := Lib.hid k4
  have HS4 := Lib.hid s4
  clear k0 k2 k3 k4 s0 s2 s3 s4
  have HC := Lib.hid (fun (X Y : World) (T T' : TypeId) (c c' : Array Value) (eY : Y = W.alloc (.cells #[.slice A0 n0 c0, .int .i64 x1, .slice A2 n2 c2, .slice A3 n3 c3, .slice A4 n4 c4] T)) (eX : X = (Y.alloc (.cells c T')).alloc (.cells c' T')) =>
    (show RW T X W.heap.size #[.slice A0 n0 c0, .int .i64 x1, .slice A2 n2 c2, .slice A3 n3 c3, .slice A4 n4 c4] ∧ RW T' X (W.heap.size + 1 + 1) c' ∧ RW T' X (W.heap.size + 1) c ∧ Below W.heap.size W X ∧ X.heap.size = W.heap.size + 3 from by
      subst eX; subst eY
      refine ⟨((RW.new W _ T).alloc _).alloc _, ?_, ?_, ((below_alloc _ _).alloc (by simp) _).alloc (by simp; omega) _, by simp⟩
      · have := RW.new ((W.alloc (.cells #[.slice A0 n0 c0, .int .i64 x1, .slice A2 n2 c2, .slice A3 n3 c3, .slice A4 n4 c4] T)).alloc (.cells c T')) c' T'
        simpa using this
      · have := (RW.new (W.alloc (.cells #[.slice A0 n0 c0, .int .i64 x1, .slice A2 n2 c2, .slice A3 n3 c3, .slice A4 n4 c4] T)) c T').alloc (.cells c' T')
        simpa using this))
  show Calls Try.prog 7 #[.agg #[.slice A0 n0 c0, .int .i64 x1, .slice A2 n2 c2, .slice A3 n3 c3, .slice A4 n4 c4]] W _
  go_enter Try.func7, Try.ntmps7
  go_wp2_with (go_at_call 19; obtain ⟨g0, g1, g4, g2, g3⟩ := HC.out _ _ _ _ _ _ rfl rfl; have HQ := toStringS_any A0 n0 c0 x0 _ (HK0.out.go g2) HS0.out; refine Calls.mono HQ ?_; clear HQ; rintro e w1 ⟨rfl, h⟩; obtain ⟨hv, hb⟩ := h.out; have hd := hv.det; rw [g3] at hv hd; have HA1 := Lib.hid (g0.below hb (by omega)); have HR1 := Lib.hid (g1.below hb (by omega)); have HO1 := Lib.hid (g4.below hb (by omega)); have HB1 := Lib.hid (g2.trans (hb.mono g2.size)); have HV1_0 : Hid (Det (W.heap.size + 1 + 1 + 1) w1.heap.size w1 fun w => StI w w1.heap.size (some ⟨W.heap.size + 1 + 1 + 1, 0, none⟩) n0 x0) := hd; have HG1 : Hid (W.heap.size + 3 ≤ w1.heap.size) := (by have := hb.size; show _ ≤ _; omega); clear g0 g1 g2 g3 g4 h hv hd hb HK0; have q11 : w1.cell? ⟨W.heap.size, 1, none⟩ = some (.int .i64 x1) := HA1.out.cell 1; have q12 : w1.cell? ⟨W.heap.size, 2, none⟩ = some (.slice A2 n2 c2) := HA1.out.cell 2; have p10 : w1.cell? ⟨W.heap.size + 1 + 1, 0, none⟩ = some (.slice none 0 0) := HR1.out.cell 0; have f10 := HR1.out.frozen 0; have p11 : w1.cell? ⟨W.heap.size + 1 + 1, 1, none⟩ = some (.int .i64 0) := HR1.out.cell 1; have f11 := HR1.out.frozen 1)
  go_wp2_with (go_at_call 19; have hbs : Below (W.heap.size + 2) w1 ((w1.setCell ⟨W.heap.size + 1 + 1, 0, none⟩ (.slice (some ⟨W.heap.size + 1 + 1 + 1, 0, none⟩) n0 n0)).setCell ⟨W.heap.size + 1 + 1, 1, none⟩ (.int .i64 x1)) := (below_set w1 (p := ⟨W.heap.size + 1 + 1, 0, none⟩) (B := W.heap.size + 2) (Nat.le_refl _) (.slice (some ⟨W.heap.size + 1 + 1 + 1, 0, none⟩) n0 n0)).setCell (Nat.le_refl _) (.int .i64 x1); have hzz : ((w1.setCell ⟨W.heap.size + 1 + 1, 0, none⟩ (.slice (some ⟨W.heap.size + 1 + 1 + 1, 0, none⟩) n0 n0)).setCell ⟨W.heap.size + 1 + 1, 1, none⟩ (.int .i64 x1)).heap.size = w1.heap.size := (by simp [World.setCell]); have HQ := toStringS_any A2 n2 c2 x2 ((w1.setCell ⟨W.heap.size + 1 + 1, 0, none⟩ (.slice (some ⟨W.heap.size + 1 + 1 + 1, 0, none⟩) n0 n0)).setCell ⟨W.heap.size + 1 + 1, 1, none⟩ (.int .i64 x1)) (HK2.out.go (HB1.out.trans (hbs.mono (by omega)))) HS2.out; refine Calls.mono HQ ?_; clear HQ; rintro e w2 ⟨rfl, h⟩; obtain ⟨hv, hb⟩ := h.out; have hd := hv.det; rw [hzz] at hb hv hd; have hsz := hb.size; rw [hzz] at hsz; have hs1 := HG1.out; have HA2 := Lib.hid ((HA1.out.below hbs (by omega)).below hb (by omega)); have HR2 := Lib.hid ((((HR1.out).set_ 0 (.slice (some ⟨W.heap.size + 1 + 1 + 1, 0, none⟩) n0 n0)).set_ 1 (.int .i64 x1)).below hb (by omega)); have HO2 := Lib.hid ((HO1.out.below hbs (by omega)).below hb (by omega)); have HB2 := Lib.hid ((HB1.out.trans (hbs.mono (by omega))).trans (hb.mono (by omega))); have HG2 : Hid (W.heap.size + 3 ≤ w2.heap.size) := (Nat.le_trans hs1 hsz); have HV2_2 : Hid (Det (w1.heap.size) w2.heap.size w2 fun w => StI w w2.heap.size (some ⟨w1.heap.size, 0, none⟩) n2 x2) := hd; have HZ2 : Hid (w1.heap.size ≠ W.heap.size + 1 + 1) := (by show _ ≠ _; omega); have HV2_0 := Lib.hid ((((((HV1_0.out).set (p := ⟨W.heap.size + 1 + 1, 0, none⟩) (by have := HG1.out; dsimp only; omega) (.slice (some ⟨W.heap.size + 1 + 1 + 1, 0, none⟩) n0 n0)).set (p := ⟨W.heap.size + 1 + 1, 1, none⟩) (by have := HG1.out; dsimp only; omega) (.int .i64 x1)).below hb (by omega)).wide (Nat.le_refl _) hsz).imp fun w h => h.more hsz); clear hbs hzz hb hv hd h hsz hs1 HK2; have q23 : w2.cell? ⟨W.heap.size, 3, none⟩ = some (.slice A3 n3 c3) := HA2.out.cell 3; have p22 : w2.cell? ⟨W.heap.size + 1 + 1, 2, none⟩ = some (.slice none 0 0) := HR2.out.cell 2; have f22 := HR2.out.frozen 2)
  go_wp2_with (go_at_call 20; have hbs : Below (W.heap.size + 2) w2 (w2.setCell ⟨W.heap.size + 1 + 1, 2, none⟩ (.slice (some ⟨w1.heap.size, 0, none⟩) n2 n2)) := below_set w2 (p := ⟨W.heap.size + 1 + 1, 2, none⟩) (B := W.heap.size + 2) (Nat.le_refl _) (.slice (some ⟨w1.heap.size, 0, none⟩) n2 n2); have hzz : (w2.setCell ⟨W.heap.size + 1 + 1, 2, none⟩ (.slice (some ⟨w1.heap.size, 0, none⟩) n2 n2)).heap.size = w2.heap.size := (by simp [World.setCell]); have HQ := toFileS_any A3 n3 c3 x3 (w2.setCell ⟨W.heap.size + 1 + 1, 2, none⟩ (.slice (some ⟨w1.heap.size, 0, none⟩) n2 n2)) (HK3.out.go (HB2.out.trans (hbs.mono (by omega)))) HS3.out.1 HS3.out.2; refine Calls.mono HQ ?_; clear HQ; rintro e w3 ⟨rfl, h⟩; obtain ⟨hv, hb, hd⟩ := h.out; rw [hzz] at hb hv hd; have hsz := hb.size; rw [hzz] at hsz; have hs1 := HG2.out; have HA3 := Lib.hid ((HA2.out.below hbs (by omega)).below hb (by omega)); have HR3 := Lib.hid (((HR2.out).set_ 2 (.slice (some ⟨w1.heap.size, 0, none⟩) n2 n2)).below hb (by omega)); have HO3 := Lib.hid ((HO2.out.below hbs (by omega)).below hb (by omega)); have HB3 := Lib.hid ((HB2.out.trans (hbs.mono (by omega))).trans (hb.mono (by omega))); have HG3 : Hid (W.heap.size + 3 ≤ w3.heap.size) := (Nat.le_trans hs1 hsz); have HV3_3 : Hid (Det (w2.heap.size) w3.heap.size w3 fun w => FlI w w3.heap.size (some ⟨w2.heap.size, 0, none⟩) n3 x3) := hd; have HZ3 : Hid (w2.heap.size ≠ W.heap.size + 1 + 1) := (by show _ ≠ _; omega); have HV3_0 := Lib.hid (((((HV2_0.out).set (p := ⟨W.heap.size + 1 + 1, 2, none⟩) (by have := HG2.out; dsimp only; omega) (.slice (some ⟨w1.heap.size, 0, none⟩) n2 n2)).below hb (by omega)).wide (Nat.le_refl _) hsz).imp fun w h => h.more hsz); have HV3_2 := Lib.hid (((((HV2_2.out).set (p := ⟨W.heap.size + 1 + 1, 2, none⟩) (by have := HG1.out; dsimp only; omega) (.slice (some ⟨w1.heap.size, 0, none⟩) n2 n2)).below hb (by omega)).wide (Nat.le_refl _) hsz).imp fun w h => h.more hsz); clear hbs hzz hb hv hd h hsz hs1 HK3; have q34 : w3.cell? ⟨W.heap.size, 4, none⟩ = some (.slice A4 n4 c4) := HA3.out.cell 4; have p33 : w3.cell? ⟨W.heap.size + 1 + 1, 3, none⟩ = some (.slice none 0 0) := HR3.out.cell 3; have f33 := HR3.out.frozen 3)
  go_wp2_with (go_at_call 19; have hbs : Below (W.heap.size + 2) w3 (w3.setCell ⟨W.heap.size + 1 + 1, 3, none⟩ (.slice (some ⟨w2.heap.size, 0, none⟩) n3 n3)) := below_set w3 (p := ⟨W.heap.size + 1 + 1, 3, none⟩) (B := W.heap.size + 2) (Nat.le_refl _) (.slice (some ⟨w2.heap.size, 0, none⟩) n3 n3); have hzz : (w3.setCell ⟨W.heap.size + 1 + 1, 3, none⟩ (.slice (some ⟨w2.heap.size, 0, none⟩) n3 n3)).heap.size = w3.heap.size := (by simp [World.setCell]); have HQ := toStringS_any A4 n4 c4 x4 (w3.setCell ⟨W.heap.size + 1 + 1, 3, none⟩ (.slice (some ⟨w2.heap.size, 0, none⟩) n3 n3)) (HK4.out.go (HB3.out.trans (hbs.mono (by omega)))) HS4.out; refine Calls.mono HQ ?_; clear HQ; rintro e w4 ⟨rfl, h⟩; obtain ⟨hv, hb⟩ := h.out; have hd := hv.det; rw [hzz] at hb hv hd; have hsz := hb.size; rw [hzz] at hsz; have hs1 := HG3.out; have HA4 := Lib.hid ((HA3.out.below hbs (by omega)).below hb (by omega)); have HR4 := Lib.hid (((HR3.out).set_ 3 (.slice (some ⟨w2.heap.size, 0, none⟩) n3 n3)).below hb (by omega)); have HO4 := Lib.hid ((HO3.out.below hbs (by omega)).below hb (by omega)); have HB4 := Lib.hid ((HB3.out.trans (hbs.mono (by omega))).trans (hb.mono (by omega))); have HG4 : Hid (W.heap.size + 3 ≤ w4.heap.size) := (Nat.le_trans hs1 hsz); have HV4_4 : Hid (Det (w3.heap.size) w4.heap.size w4 fun w => StI w w4.heap.size (some ⟨w3.heap.size, 0, none⟩) n4 x4) := hd; have HZ4 : Hid (w3.heap.size ≠ W.heap.size + 1 + 1) := (by show _ ≠ _; omega); have HV4_0 := Lib.hid (((((HV3_0.out).set (p := ⟨W.heap.size + 1 + 1, 3, none⟩) (by have := HG3.out; dsimp only; omega) (.slice (some ⟨w2.heap.size, 0, none⟩) n3 n3)).below hb (by omega)).wide (Nat.le_refl _) hsz).imp fun w h => h.more hsz); have HV4_2 := Lib.hid (((((HV3_2.out).set (p := ⟨W.heap.size + 1 + 1, 3, none⟩) (by have := HG1.out; dsimp only; omega) (.slice (some ⟨w2.heap.size, 0, none⟩) n3 n3)).below hb (by omega)).wide (Nat.le_refl _) hsz).imp fun w h => h.more hsz); have HV4_3 := Lib.hid (((((HV3_3.out).set (p := ⟨W.heap.size + 1 + 1, 3, none⟩) (by have := HG2.out; dsimp only; omega) (.slice (some ⟨w2.heap.size, 0, none⟩) n3 n3)).below hb (by omega)).wide (Nat.le_refl _) hsz).imp fun w h => h.more hsz); clear hbs hzz hb hv hd h hsz hs1 HK4; have p44 : w4.cell? ⟨W.heap.size + 1 + 1, 4, none⟩ = some (.slice none 0 0) := HR4.out.cell 4; have f44 := HR4.out.frozen 4; have p40 : w4.cell? ⟨W.heap.size + 1 + 1, 0, none⟩ = some (.slice (some ⟨W.heap.size + 1 + 1 + 1, 0, none⟩) n0 n0) := HR4.out.cell 0; have p41 : w4.cell? ⟨W.heap.size + 1 + 1, 1, none⟩ = some (.int .i64 x1) := HR4.out.cell 1; have p42 : w4.cell? ⟨W.heap.size + 1 + 1, 2, none⟩ = some (.slice (some ⟨w1.heap.size, 0, none⟩) n2 n2) := HR4.out.cell 2; have p43 : w4.cell? ⟨W.heap.size + 1 + 1, 3, none⟩ = some (.slice (some ⟨w2.heap.size, 0, none⟩) n3 n3) := HR4.out.cell 3; have r0 : w4.cell? ⟨W.heap.size + 1, 0, none⟩ = some (.slice none 0 0) := HO4.out.cell 0; have z0 := HO4.out.frozen 0; have r1 : w4.cell? ⟨W.heap.size + 1, 1, none⟩ = some (.int .i64 0) := HO4.out.cell 1; have z1 := HO4.out.frozen 1; have r2 : w4.cell? ⟨W.heap.size + 1, 2, none⟩ = some (.slice none 0 0) := HO4.out.cell 2; have z2 := HO4.out.frozen 2; have r3 : w4.cell? ⟨W.heap.size + 1, 3, none⟩ = some (.slice none 0 0) := HO4.out.cell 3; have z3 := HO4.out.frozen 3; have r4 : w4.cell? ⟨W.heap.size + 1, 4, none⟩ = some (.slice none 0 0) := HO4.out.cell 4; have z4 := HO4.out.frozen 4)
  have hs1 := HG4.out
  have hb1 : Below (W.heap.size + 1) w4 ((((((w4.setCell ⟨W.heap.size + 1 + 1, 4, none⟩ (.slice (some ⟨w3.heap.size, 0, none⟩) n4 n4)).setCell ⟨W.heap.size + 1, 0, none⟩ (.slice (some ⟨W.heap.size + 1 + 1 + 1, 0, none⟩) n0 n0)).setCell ⟨W.heap.size + 1, 1, none⟩ (.int .i64 x1)).setCell ⟨W.heap.size + 1, 2, none⟩ (.slice (some ⟨w1.heap.size, 0, none⟩) n2 n2)).setCell ⟨W.heap.size + 1, 3, none⟩ (.slice (some ⟨w2.heap.size, 0, none⟩) n3 n3)).setCell ⟨W.heap.size + 1, 4, none⟩ (.slice (some ⟨w3.heap.size, 0, none⟩) n4 n4)) := ((((((below_set w4 (p := ⟨W.heap.size + 1 + 1, 4, none⟩) (by simp) _).setCell (by simp) _).setCell (by simp) _).setCell (by simp) _).setCell (by simp) _).setCell (by simp) _)
  have hzz : ((((((w4.setCell ⟨W.heap.size + 1 + 1, 4, none⟩ (.slice (some ⟨w3.heap.size, 0, none⟩) n4 n4)).setCell ⟨W.heap.size + 1, 0, none⟩ (.slice (some ⟨W.heap.size + 1 + 1 + 1, 0, none⟩) n0 n0)).setCell ⟨W.heap.size + 1, 1, none⟩ (.int .i64 x1)).setCell ⟨W.heap.size + 1, 2, none⟩ (.slice (some ⟨w1.heap.size, 0, none⟩) n2 n2)).setCell ⟨W.heap.size + 1, 3, none⟩ (.slice (some ⟨w2.heap.size, 0, none⟩) n3 n3)).setCell ⟨W.heap.size + 1, 4, none⟩ (.slice (some ⟨w3.heap.size, 0, none⟩) n4 n4)).heap.size = w4.heap.size := by simp [World.setCell]
  refine bodyPost_ret (v := .agg #[.slice (some ⟨W.heap.size + 1 + 1 + 1, 0, none⟩) n0 n0, .int .i64 x1, .slice (some ⟨w1.heap.size, 0, none⟩) n2 n2, .slice (some ⟨w2.heap.size, 0, none⟩) n3 n3, .slice (some ⟨w3.heap.size, 0, none⟩) n4 n4]) (results_cell_row Try.results7 _ _ (W.heap.size + 1) 30 _ (0, 0) _ rfl ((((((((((((HO4.out).other (p := ⟨W.heap.size + 1 + 1, 4, none⟩) (by simp) (.slice (some ⟨w3.heap.size, 0, none⟩) n4 n4))).set_ 0 (.slice (some ⟨W.heap.size + 1 + 1 + 1, 0, none⟩) n0 n0))).set_ 1 (.int .i64 x1))).set_ 2 (.slice (some ⟨w1.heap.size, 0, none⟩) n2 n2))).set_ 3 (.slice (some ⟨w2.heap.size, 0, none⟩) n3 n3))).set_ 4 (.slice (some ⟨w3.heap.size, 0, none⟩) n4 n4)) Try.underlying30 rfl (by kernel_rfl)) rfl ⟨⟨some ⟨W.heap.size + 1 + 1 + 1, 0, none⟩, n0, n0, Nat.le_refl _, some ⟨w1.heap.size, 0, none⟩, n2, n2, Nat.le_refl _, some ⟨w2.heap.size, 0, none⟩, n3, n3, Nat.le_refl _, some ⟨w3.heap.size, 0, none⟩, n4, n4, Nat.le_refl _⟩, rfl, Lib.hid ⟨?_, HB4.out.trans (hb1.mono (by omega)), HV4_0.out.self.1.symm, HV4_2.out.self.1.symm, HV4_3.out.self.1.symm, HV4_4.out.self.1.symm, _, _, _, _, rfl, rfl, rfl, rfl, by omega, by have := HG1.out; have := HG2.out; have := HG3.out; have := HG4.out; omega, by have := HG1.out; have := HG2.out; have := HG3.out; have := HG4.out; omega, by have := HG1.out; have := HG2.out; have := HG3.out; have := HG4.out; omega⟩⟩
  show CnV ((((((w4.setCell ⟨W.heap.size + 1 + 1, 4, none⟩ (.slice (some ⟨w3.heap.size, 0, none⟩) n4 n4)).setCell ⟨W.heap.size + 1, 0, none⟩ (.slice (some ⟨W.heap.size + 1 + 1 + 1, 0, none⟩) n0 n0)).setCell ⟨W.heap.size + 1, 1, none⟩ (.int .i64 x1)).setCell ⟨W.heap.size + 1, 2, none⟩ (.slice (some ⟨w1.heap.size, 0, none⟩) n2 n2)).setCell ⟨W.heap.size + 1, 3, none⟩ (.slice (some ⟨w2.heap.size, 0, none⟩) n3 n3)).setCell ⟨W.heap.size + 1, 4, none⟩ (.slice (some ⟨w3.heap.size, 0, none⟩) n4 n4)) ((((((w4.setCell ⟨W.heap.size + 1 + 1, 4, none⟩ (.slice (some ⟨w3.heap.size, 0, none⟩) n4 n4)).setCell ⟨W.heap.size + 1, 0, none⟩ (.slice (some ⟨W.heap.size + 1 + 1 + 1, 0, none⟩) n0 n0)).setCell ⟨W.heap.size + 1, 1, none⟩ (.int .i64 x1)).setCell ⟨W.heap.size + 1, 2, none⟩ (.slice (some ⟨w1.heap.size, 0, none⟩) n2 n2)).setCell ⟨W.heap.size + 1, 3, none⟩ (.slice (some ⟨w2.heap.size, 0, none⟩) n3 n3)).setCell ⟨W.heap.size + 1, 4, none⟩ (.slice (some ⟨w3.heap.size, 0, none⟩) n4 n4)).heap.size ⟨x0, x1, x2, x3, x4⟩ ⟨some ⟨W.heap.size + 1 + 1 + 1, 0, none⟩, n0, n0, Nat.le_refl _, some ⟨w1.heap.size, 0, none⟩, n2, n2, Nat.le_refl _, some ⟨w2.heap.size, 0, none⟩, n3, n3, Nat.le_refl _, some ⟨w3.heap.size, 0, none⟩, n4, n4, Nat.le_refl _⟩
  rw [hzz]
  exact ⟨((((((((((((HV4_0.out).set (p := ⟨W.heap.size + 1 + 1, 4, none⟩) (by first | (dsimp only; omega) | omega) _)).set (p := ⟨W.heap.size + 1, 0, none⟩) (by first | (dsimp only; omega) | omega) _)).set (p := ⟨W.heap.size + 1, 1, none⟩) (by first | (dsimp only; omega) | omega) _)).set (p := ⟨W.heap.size + 1, 2, none⟩) (by first | (dsimp only; omega) | omega) _)).set (p := ⟨W.heap.size + 1, 3, none⟩) (by first | (dsimp only; omega) | omega) _)).set (p := ⟨W.heap.size + 1, 4, none⟩) (by first | (dsimp only; omega) | omega) _).self, ((((((((((((HV4_2.out).set (p := ⟨W.heap.size + 1 + 1, 4, none⟩) (by have := HG1.out; first | (dsimp only; omega) | omega) _)).set (p := ⟨W.heap.size + 1, 0, none⟩) (by have := HG1.out; first | (dsimp only; omega) | omega) _)).set (p := ⟨W.heap.size + 1, 1, none⟩) (by have := HG1.out; first | (dsimp only; omega) | omega) _)).set (p := ⟨W.heap.size + 1, 2, none⟩) (by have := HG1.out; first | (dsimp only; omega) | omega) _)).set (p := ⟨W.heap.size + 1, 3, none⟩) (by have := HG1.out; first | (dsimp only; omega) | omega) _)).set (p := ⟨W.heap.size + 1, 4, none⟩) (by have := HG1.out; first | (dsimp only; omega) | omega) _).self, ((((((((((((HV4_3.out).set (p := ⟨W.heap.size + 1 + 1, 4, none⟩) (by have := HG2.out; first | (dsimp only; omega) | omega) _)).set (p := ⟨W.heap.size + 1, 0, none⟩) (by have := HG2.out; first | (dsimp only; omega) | omega) _)).set (p := ⟨W.heap.size + 1, 1, none⟩) (by have := HG2.out; first | (dsimp only; omega) | omega) _)).set (p := ⟨W.heap.size + 1, 2, none⟩) (by have := HG2.out; first | (dsimp only; omega) | omega) _)).set (p := ⟨W.heap.size + 1, 3, none⟩) (by have := HG2.out; first | (dsimp only; omega) | omega) _)).set (p := ⟨W.heap.size + 1, 4, none⟩) (by have := HG2.out; first | (dsimp only; omega) | omega) _).self, ((((((((((((HV4_4.out).set (p := ⟨W.heap.size + 1 + 1, 4, none⟩) (by have := HG3.out; first | (dsimp only; omega) | omega) _)).set (p := ⟨W.heap.size + 1, 0, none⟩) (by have := HG3.out; first | (dsimp only; omega) | omega) _)).set (p := ⟨W.heap.size + 1, 1, none⟩) (by have := HG3.out; first | (dsimp only; omega) | omega) _)).set (p := ⟨W.heap.size + 1, 2, none⟩) (by have := HG3.out; first | (dsimp only; omega) | omega) _)).set (p := ⟨W.heap.size + 1, 3, none⟩) (by have := HG3.out; first | (dsimp only; omega) | omega) _)).set (p := ⟨W.heap.size + 1, 4, none⟩) (by have := HG3.out; first | (dsimp only; omega) | omega) _).self⟩


end Go.Proofs.Ytjhemdgeafglhaa

namespace Go.Proofs.Ytjhemdgeafglhaa
open Go Go.RowKit

set_option maxHeartbeats 1000000 in
set_option maxRecDepth 100000 in
theorem eqConsole_same (x : Cn) (l l' : CnLay) (W : World) (ho : CnV W W.heap.size x l) (ho' : CnV W W.heap.size x l') :
    Calls Try.prog 9 #[x.ag l, x.ag l'] W fun e w' => e = .returned (.bool true) ∧ Below W.heap.size W w' := by
  obtain ⟨x0, x1, x2, x3, x4⟩ := x
  obtain ⟨A0, n0, c0, h0, A2, n2, c2, h2, A3, n3, c3, h3, A4, n4, c4, h4⟩ := l
  obtain ⟨A0', n0', c0', h0', A2', n2', c2', h2', A3', n3', c3', h3', A4', n4', c4', h4'⟩ := l'
  obtain ⟨k0, k2, k3, k4⟩ := ho
  obtain ⟨j0, j2, j3, j4⟩ := ho'
  try unfold CnV at k0 j0 k2 j2 k3 j3 k4 j4
  dsimp only at k0 j0 k2 j2 k3 j3 k4 j4
  obtain rfl : n0 = n0' := k0.1.symm.trans j0.1
  have HK0 := Lib.hid k0
  have HJ0 := Lib.hid j0
  obtain rfl : n2 = n2' := k2.1.symm.trans j2.1
  have HK2 := Lib.hid k2
  have HJ2 := Lib.hid j2
  obtain rfl : n3 = n3' := k3.1.symm.trans j3.1
  have HK3 := Lib.hid k3
  have HJ3 := Lib.hid j3
  obtain rfl : n4 = n4' := k4.1.symm.trans j4.1
  have HK4 := Lib.hid k4
  have HJ4 := Lib.hid j4
  clear k0 j0 k2 j2 k3 j3 k4 j4
  have HC := Lib.hid (two_new W 30 #[.slice A0 n0 c0, .int .i64 x1, .slice A2 n2 c2, .slice A3 n3 c3, .slice A4 n4 c4] #[.slice A0' n0 c0', .int .i64 x1, .slice A2' n2 c2', .slice A3' n3 c3', .slice A4' n4 c4'])
  show Calls Try.prog 9 #[.agg #[.slice A0 n0 c0, .int .i64 x1, .slice A2 n2 c2, .slice A3 n3 c3, .slice A4 n4 c4], .agg #[.slice A0' n0 c0', .int .i64 x1, .slice A2' n2 c2', .slice A3' n3 c3', .slice A4' n4 c4']] W _
  go_enter Try.func9, Try.ntmps9
  go_wp2_with (go_at_call 24; obtain ⟨g0, g1, g2, g3⟩ := HC.out _ rfl; have HQ := eqStringS_same A0 A0' n0 c0 c0' x0 _ (HK0.out.go g2) (HJ0.out.go g2); refine Calls.mono HQ ?_; clear HQ; rintro e w1 ⟨rfl, hb⟩; have HA1 := Lib.hid (g0.below hb (by omega)); have HD1 := Lib.hid (g1.below hb (by omega)); have HB1 := Lib.hid (g2.trans (hb.mono g2.size)); have HG1 : Hid (W.heap.size + 2 ≤ w1.heap.size) := (by have := hb.size; show _ ≤ _; omega); have q11 : w1.cell? ⟨W.heap.size, 1, none⟩ = some (.int .i64 x1) := HA1.out.cell 1; have p11 : w1.cell? ⟨W.heap.size + 1, 1, none⟩ = some (.int .i64 x1) := HD1.out.cell 1; have q12 : w1.cell? ⟨W.heap.size, 2, none⟩ = some (.slice A2 n2 c2) := HA1.out.cell 2; have p12 : w1.cell? ⟨W.heap.size + 1, 2, none⟩ = some (.slice A2' n2 c2') := HD1.out.cell 2; clear g0 g1 g2 g3 hb HK0)
  go_wp2_with (go_at_call 24; have HQ := eqStringS_same A2 A2' n2 c2 c2' x2 _ (HK2.out.go HB1.out) (HJ2.out.go HB1.out); refine Calls.mono HQ ?_; clear HQ; rintro e w2 ⟨rfl, hb⟩; have hg := HG1.out; have HA2 := Lib.hid (HA1.out.below hb (by omega)); have HD2 := Lib.hid (HD1.out.below hb (by omega)); have HB2 := Lib.hid (HB1.out.trans (hb.mono HB1.out.size)); have HG2 : Hid (W.heap.size + 2 ≤ w2.heap.size) := (Nat.le_trans hg hb.size); have q23 : w2.cell? ⟨W.heap.size, 3, none⟩ = some (.slice A3 n3 c3) := HA2.out.cell 3; have p23 : w2.cell? ⟨W.heap.size + 1, 3, none⟩ = some (.slice A3' n3 c3') := HD2.out.cell 3; clear hg hb HK2)
  go_wp2_with (go_at_call 25; have HQ := eqFileS_same A3 A3' n3 c3 c3' x3 _ (HK3.out.go HB2.out) (HJ3.out.go HB2.out); refine Calls.mono HQ ?_; clear HQ; rintro e w3 ⟨rfl, hb⟩; have hg := HG2.out; have HA3 := Lib.hid (HA2.out.below hb (by omega)); have HD3 := Lib.hid (HD2.out.below hb (by omega)); have HB3 := Lib.hid (HB2.out.trans (hb.mono HB2.out.size)); have HG3 : Hid (W.heap.size + 2 ≤ w3.heap.size) := (Nat.le_trans hg hb.size); have q34 : w3.cell? ⟨W.heap.size, 4, none⟩ = some (.slice A4 n4 c4) := HA3.out.cell 4; have p34 : w3.cell? ⟨W.heap.size + 1, 4, none⟩ = some (.slice A4' n4 c4') := HD3.out.cell 4; clear hg hb HK3)
  go_wp2_with (go_at_call 24; have HQ := eqStringS_same A4 A4' n4 c4 c4' x4 _ (HK4.out.go HB3.out) (HJ4.out.go HB3.out); refine Calls.mono HQ ?_; clear HQ; rintro e w4 ⟨rfl, hb⟩; have hg := HG3.out; have HA4 := Lib.hid (HA3.out.below hb (by omega)); have HD4 := Lib.hid (HD3.out.below hb (by omega)); have HB4 := Lib.hid (HB3.out.trans (hb.mono HB3.out.size)); have HG4 : Hid (W.heap.size + 2 ≤ w4.heap.size) := (Nat.le_trans hg hb.size); clear hg hb HK4)
  all_goals go_ret
  all_goals exact ⟨rfl, HB4.out⟩

/-- Two in two blocks, and their lists. -/
def TwoCn (wr : World) (b b' p p' : Nat) (x y : Cn) (l l' : CnLay) (w : World) : Prop := CnAt w b p x l ∧ CnAt w b' p' y l' ∧ CnV w w.heap.size x l ∧ CnV w w.heap.size y l' ∧ Below wr.heap.size wr w ∧ b < w.heap.size ∧ b' < w.heap.size
theorem TwoCn.grow {wr w w' : World} {b b' p p' : Nat} {x y : Cn} {l l' : CnLay} (h : TwoCn wr b b' p p' x y l l' w) (hb : Below w.heap.size w w') : TwoCn wr b b' p p' x y l l' w' :=
  ⟨h.1.below hb h.2.2.2.2.2.1, h.2.1.below hb h.2.2.2.2.2.2, (h.2.2.1.below hb).more hb.size, (h.2.2.2.1.below hb).more hb.size, h.2.2.2.2.1.trans (hb.mono h.2.2.2.2.1.size), Nat.lt_of_lt_of_le h.2.2.2.2.2.1 hb.size, Nat.lt_of_lt_of_le h.2.2.2.2.2.2 hb.size⟩
/-- .. cell by cell, as the walk of a region asks it. -/
abbrev FlatCn (wr : World) (b b' p p' : Nat) (x y : Cn) (l l' : CnLay) (w : World) : Prop := (w.cell? ⟨b, p, none⟩ = some (.slice l.A0 l.n0 l.c0) ∧ w.cell? ⟨b, p + 1, none⟩ = some (.int .i64 x.at_) ∧ w.cell? ⟨b, p + 2, none⟩ = some (.slice l.A2 l.n2 l.c2) ∧ w.cell? ⟨b, p + 3, none⟩ = some (.slice l.A3 l.n3 l.c3) ∧ w.cell? ⟨b, p + 4, none⟩ = some (.slice l.A4 l.n4 l.c4)) ∧ (w.cell? ⟨b', p', none⟩ = some (.slice l'.A0 l'.n0 l'.c0) ∧ w.cell? ⟨b', p' + 1, none⟩ = some (.int .i64 y.at_) ∧ w.cell? ⟨b', p' + 2, none⟩ = some (.slice l'.A2 l'.n2 l'.c2) ∧ w.cell? ⟨b', p' + 3, none⟩ = some (.slice l'.A3 l'.n3 l'.c3) ∧ w.cell? ⟨b', p' + 4, none⟩ = some (.slice l'.A4 l'.n4 l'.c4)) ∧ TwoCn wr b b' p p' x y l l' w
theorem TwoCn.flat {wr w : World} {b b' p p' : Nat} {x y : Cn} {l l' : CnLay} (h : TwoCn wr b b' p p' x y l l' w) : FlatCn wr b b' p p' x y l l' w := ⟨h.1, h.2.1, h⟩
theorem TwoCn.drew {wr : World} {b b' p p' : Nat} {x y : Cn} {l l' : CnLay} (h : TwoCn wr b b' p p' x y l l' wr) : TwoCn wr b b' p p' x y l l' wr.drew := h.grow (Below.refl _ _).drew

end Go.Proofs.Ytjhemdgeafglhaa

namespace Go.Proofs.Ytjhemdgeafglhaa
open Go Go.RowKit

set_option maxHeartbeats 2000000 in
set_option maxRecDepth 100000 in
theorem l21SameTexts_any (A A' : Option Addr) (n n' c c' : Nat) (xs ys : List St) (W : World) (ha : StI W W.heap.size A n xs) (hb : StI W W.heap.size A' n' ys) :
    Calls Try.prog 17 #[.slice A n c, .slice A' n' c'] W fun e w' => e = .returned (.bool (tt (xs = ys))) ∧ Below W.heap.size W w' := by
  have HA := Lib.hid ha
  have HB := Lib.hid hb
  have hn := ha.2.1
  have hn' := hb.2.1
  have HN := Lib.hid ha.1
  have HN' := Lib.hid hb.1
  unfold maxLen at hn hn'
  clear ha hb
  obtain ⟨P, hP⟩ : ∃ P, tt (xs = ys) = P := ⟨_, rfl⟩
  have HP := Lib.hid hP
  rw [hP]
  clear hP
  by_cases hl : n = n'
  · subst hl
    go_enter Try.func17, Try.ntmps17
    go_wp2_with fail
    go_loopw [5] (fun i wr => ∃ k : Nat, k ≤ n ∧ i = .int .i64 k ∧ Hid (Below W.heap.size W wr) ∧ Hid (∀ (j : Nat), j < k → xs[j]? = ys[j]?)) (fun i _ => n - (intOf i).toNat)
    case atStart => exact ⟨0, Nat.zero_le _, rfl, Below.refl _ _, fun j hj => absurd hj (by omega)⟩
    case round =>
      obtain ⟨k, hk, rfl, HW, HV⟩ := hrel
      by_cases hlt : k < n
      · have b0 : (0 : Int) ≤ (k : Int) := by omega
        have b1 : (k : Int) < (n : Int) := by omega
        obtain ⟨b, off, x, rfl, hg, hx, h1, _⟩ := HA.out.at_ hlt
        obtain ⟨b', off', y, rfl, hg', hy, h2, _⟩ := HB.out.at_ hlt
        have q1 := (HW.out.cell (p := ⟨b, off + k, none⟩) hg).trans h1
        have q2 := (HW.out.cell (p := ⟨b', off' + k, none⟩) hg').trans h2
        have HX := Lib.hid hx
        have HY := Lib.hid hy
        have HS := Lib.hid (sameSt_iff x y)
        clear hx hy h1 h2 hg hg'
        obtain ⟨z, hz⟩ : ∃ z, (x.toList == y.toList) = z := ⟨_, rfl⟩
        have HZ := Lib.hid hz
        have HF : Hid (z = false → P = false) := by
          show _ → _
          intro h
          rw [← HP.out]
          refine tt_false fun e => ?_
          have e2 : some x = some y := by rw [← HX.out, ← HY.out, e]
          rw [← HZ.out, HS.out.2 (Option.some.inj e2)] at h
          cases h
        have HT : Hid (z = true → ∀ (j : Nat), j < k + 1 → xs[j]? = ys[j]?) := by
          show _ → _
          intro h j hj
          by_cases e : j = k
          · rw [e, HX.out, HY.out, HS.out.1 (by rw [HZ.out, h])]
          · exact HV.out j (by omega)
        clear HS HX HY HZ
        cases z
        · have HF1 := Lib.hid (HF.out rfl)
          clear HF HT
          go_wp2_with fail
          go_quiet (fail)
          go_wp2_with fail
          go_ret
          exact ⟨by rw [HF1.out]; rfl, below_drewN HW.out _⟩
        · have HT1 := Lib.hid (HT.out rfl)
          clear HF HT
          go_wp2_with fail
          go_quiet (fail)
          go_wp2_with fail
          go_roundw
          case rel => exact ⟨k + 1, by omega, by go_num, below_drewN HW.out _, HT1⟩
          case measure => simp [intOf]; omega
      · have hkn : k = n := by omega
        have HT : Hid (P = true) := by
          show _ = _
          rw [← HP.out]
          refine tt_true (List.ext_getElem? fun j => ?_)
          by_cases e : j < n
          · exact HV.out j (by omega)
          · rw [List.getElem?_eq_none (by have := HN.out; omega), List.getElem?_eq_none (by have := HN'.out; omega)]
        go_wp2_with fail
        go_ret
        exact ⟨by rw [HT.out]; rfl, HW.out⟩
  · have HF : Hid (P = false) := by
      show _ = _
      rw [← HP.out]
      exact tt_false fun e => hl (by rw [← HN.out, ← HN'.out, e])
    have hne : ¬ (n : Int) = (n' : Int) := by omega
    go_enter Try.func17, Try.ntmps17
    go_wp2_with fail
    go_ret
    exact ⟨by rw [HF.out]; rfl, Below.refl _ _⟩

end Go.Proofs.Ytjhemdgeafglhaa

namespace Go.Proofs.Ytjhemdgeafglhaa
open Go Go.RowKit

theorem sameFl_bool_l21SameFile_any (x y : Fl) : tt (x = y) = ((x.name_.toList == y.name_.toList) && (tt (x.lines_ = y.lines_) && ((x.mode_ == y.mode_) && ((x.at_ == y.at_))))) := by
  rw [Bool.eq_iff_iff]
  simp only [Bool.and_eq_true, tt_iff, beq_iff_eq]
  obtain ⟨a0, a1, a2, a3⟩ := x
  obtain ⟨b0, b1, b2, b3⟩ := y
  simp only [Fl.mk.injEq]
  constructor
  · rintro ⟨h0, h1, h2, h3⟩
    exact ⟨by rw [h0], h1, h2, h3⟩
  · rintro ⟨h0, h1, h2, h3⟩
    exact ⟨WideShapes.bytes_inj (by rw [← ByteArray.toList_eq, ← ByteArray.toList_eq]; exact h0), h1, h2, h3⟩

set_option maxHeartbeats 4000000 in
set_option maxRecDepth 100000 in
theorem l21SameFile_any (x y : Fl) (l l' : FlLay) (W : World) (hx : FlV W W.heap.size x l) (hy : FlV W W.heap.size y l') :
    Calls Try.prog 18 #[x.ag l, y.ag l'] W fun e w' => e = .returned (.bool (tt (x = y))) ∧ Below W.heap.size W w' := by
  rw [sameFl_bool_l21SameFile_any]
  obtain ⟨x0, x1, x2, x3⟩ := x
  obtain ⟨y0, y1, y2, y3⟩ := y
  obtain ⟨A1, n1, c1, h1⟩ := l
  obtain ⟨A1', n1', c1', h1'⟩ := l'
  obtain ⟨k1, k0⟩ := hx
  obtain ⟨j1, j0⟩ := hy
  try unfold FlV at k1 j1 k0 j0
  dsimp only at k1 j1 k0 j0 ⊢
  have HK1 := Lib.hid k1
  have HJ1 := Lib.hid j1
  clear k1 j1 k0 j0
  have HC := Lib.hid (two_new W 62 #[.string x0, .slice A1 n1 c1, .int .i64 x2, .int .i64 x3] #[.string y0, .slice A1' n1' c1', .int .i64 y2, .int .i64 y3])
  obtain ⟨z0, hz0⟩ : ∃ z, (x0.toList == y0.toList) = z := ⟨_, rfl⟩
  obtain ⟨z1, hz1⟩ : ∃ z, tt (x1 = y1) = z := ⟨_, rfl⟩
  have HZ1 := Lib.hid hz1
  obtain ⟨z2, hz2⟩ : ∃ z, (x2 == y2) = z := ⟨_, rfl⟩
  obtain ⟨z3, hz3⟩ : ∃ z, (x3 == y3) = z := ⟨_, rfl⟩
  rw [hz0, hz1, hz2, hz3]
  clear hz1
  show Calls Try.prog 18 #[.agg #[.string x0, .slice A1 n1 c1, .int .i64 x2, .int .i64 x3], .agg #[.string y0, .slice A1' n1' c1', .int .i64 y2, .int .i64 y3]] W _
  cases z0
  · skip
    go_enter Try.func18, Try.ntmps18
    go_wp2_with fail
    go_ret
    exact ⟨rfl, (below_alloc _ _).alloc (by simp) _⟩
  cases z1
  · skip
    go_enter Try.func18, Try.ntmps18
    have tk1 : True := trivial
    go_wp2_with (go_at_call 17; have tk := tk1; obtain ⟨g0, g1, g2, g3⟩ := HC.out _ rfl; have HQ := l21SameTexts_any A1 A1' n1 n1' c1 c1' x1 y1 _ (HK1.out.go g2) (HJ1.out.go g2); refine Calls.mono HQ ?_; clear HQ; rintro e w1 ⟨rfl, hb⟩; rw [HZ1.out]; have HA1 := Lib.hid (g0.below hb (by omega)); have HD1 := Lib.hid (g1.below hb (by omega)); have HB1 := Lib.hid (g2.trans (hb.mono g2.size)); have HG1 : Hid (W.heap.size + 2 ≤ w1.heap.size) := (by have := hb.size; show _ ≤ _; omega); clear g0 g1 g2 g3 hb tk tk1)
    go_ret
    exact ⟨rfl, HB1.out⟩
  cases z2
  · skip
    go_enter Try.func18, Try.ntmps18
    have tk1 : True := trivial
    go_wp2_with (go_at_call 17; have tk := tk1; obtain ⟨g0, g1, g2, g3⟩ := HC.out _ rfl; have HQ := l21SameTexts_any A1 A1' n1 n1' c1 c1' x1 y1 _ (HK1.out.go g2) (HJ1.out.go g2); refine Calls.mono HQ ?_; clear HQ; rintro e w1 ⟨rfl, hb⟩; rw [HZ1.out]; have HA1 := Lib.hid (g0.below hb (by omega)); have HD1 := Lib.hid (g1.below hb (by omega)); have HB1 := Lib.hid (g2.trans (hb.mono g2.size)); have HG1 : Hid (W.heap.size + 2 ≤ w1.heap.size) := (by have := hb.size; show _ ≤ _; omega); have q12 : w1.cell? ⟨W.heap.size, 2, none⟩ = some (.int .i64 x2) := HA1.out.cell 2; have p12 : w1.cell? ⟨W.heap.size + 1, 2, none⟩ = some (.int .i64 y2) := HD1.out.cell 2; clear g0 g1 g2 g3 hb tk tk1)
    go_ret
    exact ⟨rfl, HB1.out⟩
  cases z3
  · skip
    go_enter Try.func18, Try.ntmps18
    have tk1 : True := trivial
    go_wp2_with (go_at_call 17; have tk := tk1; obtain ⟨g0, g1, g2, g3⟩ := HC.out _ rfl; have HQ := l21SameTexts_any A1 A1' n1 n1' c1 c1' x1 y1 _ (HK1.out.go g2) (HJ1.out.go g2); refine Calls.mono HQ ?_; clear HQ; rintro e w1 ⟨rfl, hb⟩; rw [HZ1.out]; have HA1 := Lib.hid (g0.below hb (by omega)); have HD1 := Lib.hid (g1.below hb (by omega)); have HB1 := Lib.hid (g2.trans (hb.mono g2.size)); have HG1 : Hid (W.heap.size + 2 ≤ w1.heap.size) := (by have := hb.size; show _ ≤ _; omega); have q12 : w1.cell? ⟨W.heap.size, 2, none⟩ = some (.int .i64 x2) := HA1.out.cell 2; have p12 : w1.cell? ⟨W.heap.size + 1, 2, none⟩ = some (.int .i64 y2) := HD1.out.cell 2; have q13 : w1.cell? ⟨W.heap.size, 3, none⟩ = some (.int .i64 x3) := HA1.out.cell 3; have p13 : w1.cell? ⟨W.heap.size + 1, 3, none⟩ = some (.int .i64 y3) := HD1.out.cell 3; clear g0 g1 g2 g3 hb tk tk1)
    go_ret
    exact ⟨rfl, HB1.out⟩
  go_enter Try.func18, Try.ntmps18
  have tk1 : True := trivial
  go_wp2_with (go_at_call 17; have tk := tk1; obtain ⟨g0, g1, g2, g3⟩ := HC.out _ rfl; have HQ := l21SameTexts_any A1 A1' n1 n1' c1 c1' x1 y1 _ (HK1.out.go g2) (HJ1.out.go g2); refine Calls.mono HQ ?_; clear HQ; rintro e w1 ⟨rfl, hb⟩; rw [HZ1.out]; have HA1 := Lib.hid (g0.below hb (by omega)); have HD1 := Lib.hid (g1.below hb (by omega)); have HB1 := Lib.hid (g2.trans (hb.mono g2.size)); have HG1 : Hid (W.heap.size + 2 ≤ w1.heap.size) := (by have := hb.size; show _ ≤ _; omega); have q12 : w1.cell? ⟨W.heap.size, 2, none⟩ = some (.int .i64 x2) := HA1.out.cell 2; have p12 : w1.cell? ⟨W.heap.size + 1, 2, none⟩ = some (.int .i64 y2) := HD1.out.cell 2; have q13 : w1.cell? ⟨W.heap.size, 3, none⟩ = some (.int .i64 x3) := HA1.out.cell 3; have p13 : w1.cell? ⟨W.heap.size + 1, 3, none⟩ = some (.int .i64 y3) := HD1.out.cell 3; clear g0 g1 g2 g3 hb tk tk1)
  go_ret
  exact ⟨rfl, HB1.out⟩
end Go.Proofs.Ytjhemdgeafglhaa

namespace Go.Proofs.Ytjhemdgeafglhaa
open Go Go.RowKit Go.Sort

/-- Both boxes. -/
def BoxC (W : World) (X Y : Array Value) (w : World) : Prop := RW 30 w W.heap.size X ∧ RW 30 w (W.heap.size + 1) Y ∧ Below W.heap.size W w
theorem BoxC.grow {W w w' : World} {X Y : Array Value} (h : BoxC W X Y w) (hb : Below w.heap.size w w') : BoxC W X Y w' :=
  ⟨h.1.below hb h.1.lt, h.2.1.below hb h.2.1.lt, h.2.2.trans (hb.mono h.2.2.size)⟩
abbrev FlatBC (W : World) (A3 A4 A3' A4' : Option Addr) (n3 c3 n4 c4 c3' n4' c4' : Nat) (w : World) : Prop :=
  w.cell? ⟨W.heap.size, 3, none⟩ = some (.slice A3 n3 c3) ∧ w.cell? ⟨W.heap.size, 4, none⟩ = some (.slice A4 n4 c4) ∧ w.cell? ⟨W.heap.size + 1, 3, none⟩ = some (.slice A3' n3 c3') ∧ w.cell? ⟨W.heap.size + 1, 4, none⟩ = some (.slice A4' n4' c4')
theorem BoxC.flat {W w : World} {A3 A4 A3' A4' : Option Addr} {n3 c3 n4 c4 c3' n4' c4' : Nat} {v0 v1 v2 u0 u1 u2 : Value} (h : BoxC W #[v0, v1, v2, .slice A3 n3 c3, .slice A4 n4 c4] #[u0, u1, u2, .slice A3' n3 c3', .slice A4' n4' c4'] w) : FlatBC W A3 A4 A3' A4' n3 c3 n4 c4 c3' n4' c4' w :=
  ⟨h.1.cell 3, h.1.cell 4, h.2.1.cell 3, h.2.1.cell 4⟩

set_option maxHeartbeats 8000000 in
set_option maxRecDepth 100000 in
theorem spec_SameConsole_any (x y : Cn) (l l' : CnLay) (W : World) (hx : CnV W W.heap.size x l) (hy : CnV W W.heap.size y l') :
    Calls Try.prog 6 #[x.ag l, y.ag l'] W fun e w' => e = .returned (.bool (tt (x = y))) ∧ Below W.heap.size W w' := by
  obtain ⟨x0, x1, x2, x3, x4⟩ := x
  obtain ⟨y0, y1, y2, y3, y4⟩ := y
  obtain ⟨A0, n0, c0, h0, A2, n2, c2, h2, A3, n3, c3, h3, A4, n4, c4, h4⟩ := l
  obtain ⟨A0', n0', c0', h0', A2', n2', c2', h2', A3', n3', c3', h3', A4', n4', c4', h4'⟩ := l'
  obtain ⟨k0, k2, k3, k4⟩ := hx
  obtain ⟨j0, j2, j3, j4⟩ := hy
  dsimp only at k0 k2 k3 k4 j0 j2 j3 j4
  have hn3 := k3.2.1
  have hn3' := j3.2.1
  unfold maxLen at hn3 hn3'
  have HK0 := Lib.hid k0
  have HK2 := Lib.hid k2
  have HK3 := Lib.hid k3
  have HK4 := Lib.hid k4
  have HJ0 := Lib.hid j0
  have HJ2 := Lib.hid j2
  have HJ3 := Lib.hid j3
  have HJ4 := Lib.hid j4
  clear k0 k2 k3 k4 j0 j2 j3 j4
  obtain ⟨P, hP⟩ : ∃ P, tt ((⟨x0, x1, x2, x3, x4⟩ : Cn) = ⟨y0, y1, y2, y3, y4⟩) = P := ⟨_, rfl⟩
  have HP := Lib.hid hP
  rw [hP]
  clear hP
  have HNE : Hid ((x0 ≠ y0 ∨ x1 ≠ y1 ∨ x2 ≠ y2 ∨ x3 ≠ y3 ∨ x4 ≠ y4) → P = false) := by
    show _ → _
    intro h
    rw [← HP.out]
    refine tt_false fun e => ?_
    simp only [Cn.mk.injEq] at e
    rcases h with h | h | h | h | h
    · exact h e.1
    · exact h e.2.1
    · exact h e.2.2.1
    · exact h e.2.2.2.1
    · exact h e.2.2.2.2
  have HEQ : Hid (x0 = y0 → x1 = y1 → x2 = y2 → x3 = y3 → tt (x4 = y4) = P) := by
    show _ → _ → _ → _ → _
    intro e0 e1 e2 e3
    rw [← HP.out]
    exact tt_congr ⟨fun e => by rw [e0, e1, e2, e3, e], fun e => by simp only [Cn.mk.injEq] at e; exact e.2.2.2.2⟩
  clear HP
  have HC := Lib.hid (two_new W 30 #[.slice A0 n0 c0, .int .i64 x1, .slice A2 n2 c2, .slice A3 n3 c3, .slice A4 n4 c4] #[.slice A0' n0' c0', .int .i64 y1, .slice A2' n2' c2', .slice A3' n3' c3', .slice A4' n4' c4'])
  obtain ⟨z0, hz0⟩ : ∃ z, tt (x0 = y0) = z := ⟨_, rfl⟩
  have HZ0 := Lib.hid hz0
  obtain ⟨z2, hz2⟩ : ∃ z, tt (x2 = y2) = z := ⟨_, rfl⟩
  have HZ2 := Lib.hid hz2
  obtain ⟨z4, hz4⟩ : ∃ z, tt (x4 = y4) = z := ⟨_, rfl⟩
  have HZ4 := Lib.hid hz4
  clear hz0 hz2 hz4
  show Calls Try.prog 6 #[.agg #[.slice A0 n0 c0, .int .i64 x1, .slice A2 n2 c2, .slice A3 n3 c3, .slice A4 n4 c4], .agg #[.slice A0' n0' c0', .int .i64 y1, .slice A2' n2' c2', .slice A3' n3' c3', .slice A4' n4' c4']] W _

  cases z0
  · have HF : Hid (P = false) := HNE.out (.inl (of_tt_false HZ0.out))
    go_enter Try.func6, Try.ntmps6
    have tk1 : True := trivial
    go_wp2_with (go_at_call 17; have tk := tk1; obtain ⟨g0, g1, g2, g3⟩ := HC.out _ rfl; have HQ := l21SameTexts_any A0 A0' n0 n0' c0 c0' x0 y0 _ (HK0.out.go g2) (HJ0.out.go g2); refine Calls.mono HQ ?_; clear HQ; rintro e w1 ⟨rfl, hb⟩; rw [HZ0.out]; have HX1 : Hid (BoxC W #[.slice A0 n0 c0, .int .i64 x1, .slice A2 n2 c2, .slice A3 n3 c3, .slice A4 n4 c4] #[.slice A0' n0' c0', .int .i64 y1, .slice A2' n2' c2', .slice A3' n3' c3', .slice A4' n4' c4'] w1) := ⟨g0.below hb (by omega), g1.below hb (by omega), g2.trans (hb.mono g2.size)⟩; clear g0 g1 g2 g3 hb HC tk tk1)
    go_ret
    exact ⟨by rw [HF.out]; rfl, HX1.out.2.2⟩
  have HE0 := Lib.hid (of_tt HZ0.out)
  by_cases he1 : x1 = y1
  case neg =>
    have HF : Hid (P = false) := HNE.out (.inr (.inl he1))
    go_enter Try.func6, Try.ntmps6
    have tk1 : True := trivial
    go_wp2_with (go_at_call 17; have tk := tk1; obtain ⟨g0, g1, g2, g3⟩ := HC.out _ rfl; have HQ := l21SameTexts_any A0 A0' n0 n0' c0 c0' x0 y0 _ (HK0.out.go g2) (HJ0.out.go g2); refine Calls.mono HQ ?_; clear HQ; rintro e w1 ⟨rfl, hb⟩; rw [HZ0.out]; have HX1 : Hid (BoxC W #[.slice A0 n0 c0, .int .i64 x1, .slice A2 n2 c2, .slice A3 n3 c3, .slice A4 n4 c4] #[.slice A0' n0' c0', .int .i64 y1, .slice A2' n2' c2', .slice A3' n3' c3', .slice A4' n4' c4'] w1) := ⟨g0.below hb (by omega), g1.below hb (by omega), g2.trans (hb.mono g2.size)⟩; have r1 : w1.cell? ⟨W.heap.size, 1, none⟩ = some (.int .i64 x1) := HX1.out.1.cell 1; have r2 : w1.cell? ⟨W.heap.size, 2, none⟩ = some (.slice A2 n2 c2) := HX1.out.1.cell 2; have s1 : w1.cell? ⟨W.heap.size + 1, 1, none⟩ = some (.int .i64 y1) := HX1.out.2.1.cell 1; have s2 : w1.cell? ⟨W.heap.size + 1, 2, none⟩ = some (.slice A2' n2' c2') := HX1.out.2.1.cell 2; clear g0 g1 g2 g3 hb HC tk tk1)
    go_ret
    exact ⟨by rw [HF.out]; rfl, HX1.out.2.2⟩
  subst he1
  cases z2
  · have HF : Hid (P = false) := HNE.out (.inr (.inr (.inl (of_tt_false HZ2.out))))
    go_enter Try.func6, Try.ntmps6
    have tk1 : True := trivial
    go_wp2_with (go_at_call 17; have tk := tk1; obtain ⟨g0, g1, g2, g3⟩ := HC.out _ rfl; have HQ := l21SameTexts_any A0 A0' n0 n0' c0 c0' x0 y0 _ (HK0.out.go g2) (HJ0.out.go g2); refine Calls.mono HQ ?_; clear HQ; rintro e w1 ⟨rfl, hb⟩; rw [HZ0.out]; have HX1 : Hid (BoxC W #[.slice A0 n0 c0, .int .i64 x1, .slice A2 n2 c2, .slice A3 n3 c3, .slice A4 n4 c4] #[.slice A0' n0' c0', .int .i64 x1, .slice A2' n2' c2', .slice A3' n3' c3', .slice A4' n4' c4'] w1) := ⟨g0.below hb (by omega), g1.below hb (by omega), g2.trans (hb.mono g2.size)⟩; have r1 : w1.cell? ⟨W.heap.size, 1, none⟩ = some (.int .i64 x1) := HX1.out.1.cell 1; have r2 : w1.cell? ⟨W.heap.size, 2, none⟩ = some (.slice A2 n2 c2) := HX1.out.1.cell 2; have s1 : w1.cell? ⟨W.heap.size + 1, 1, none⟩ = some (.int .i64 x1) := HX1.out.2.1.cell 1; have s2 : w1.cell? ⟨W.heap.size + 1, 2, none⟩ = some (.slice A2' n2' c2') := HX1.out.2.1.cell 2; clear g0 g1 g2 g3 hb HC tk tk1)
    have tk2 : True := trivial
    go_wp2_with (go_at_call 17; have tk := tk2; have HQ := l21SameTexts_any A2 A2' n2 n2' c2 c2' x2 y2 _ (HK2.out.go HX1.out.2.2) (HJ2.out.go HX1.out.2.2); refine Calls.mono HQ ?_; clear HQ; rintro e w2 ⟨rfl, hb⟩; rw [HZ2.out]; have HX2 := Lib.hid (HX1.out.grow hb); clear hb tk tk2 r1 r2 s1 s2 HX1)
    go_ret
    exact ⟨by rw [HF.out]; rfl, HX2.out.2.2⟩
  have HE2 := Lib.hid (of_tt HZ2.out)
  by_cases hl3 : n3 = n3'
  case neg =>
    have HF : Hid (P = false) := HNE.out (.inr (.inr (.inr (.inl fun e => hl3 (by rw [← HK3.out.1, ← HJ3.out.1, e])))))
    have hne : ¬ (n3 : Int) = (n3' : Int) := by omega
    go_enter Try.func6, Try.ntmps6
    have tk1 : True := trivial
    go_wp2_with (go_at_call 17; have tk := tk1; obtain ⟨g0, g1, g2, g3⟩ := HC.out _ rfl; have HQ := l21SameTexts_any A0 A0' n0 n0' c0 c0' x0 y0 _ (HK0.out.go g2) (HJ0.out.go g2); refine Calls.mono HQ ?_; clear HQ; rintro e w1 ⟨rfl, hb⟩; rw [HZ0.out]; have HX1 : Hid (BoxC W #[.slice A0 n0 c0, .int .i64 x1, .slice A2 n2 c2, .slice A3 n3 c3, .slice A4 n4 c4] #[.slice A0' n0' c0', .int .i64 x1, .slice A2' n2' c2', .slice A3' n3' c3', .slice A4' n4' c4'] w1) := ⟨g0.below hb (by omega), g1.below hb (by omega), g2.trans (hb.mono g2.size)⟩; have r1 : w1.cell? ⟨W.heap.size, 1, none⟩ = some (.int .i64 x1) := HX1.out.1.cell 1; have r2 : w1.cell? ⟨W.heap.size, 2, none⟩ = some (.slice A2 n2 c2) := HX1.out.1.cell 2; have s1 : w1.cell? ⟨W.heap.size + 1, 1, none⟩ = some (.int .i64 x1) := HX1.out.2.1.cell 1; have s2 : w1.cell? ⟨W.heap.size + 1, 2, none⟩ = some (.slice A2' n2' c2') := HX1.out.2.1.cell 2; clear g0 g1 g2 g3 hb HC tk tk1)
    have tk2 : True := trivial
    go_wp2_with (go_at_call 17; have tk := tk2; have HQ := l21SameTexts_any A2 A2' n2 n2' c2 c2' x2 y2 _ (HK2.out.go HX1.out.2.2) (HJ2.out.go HX1.out.2.2); refine Calls.mono HQ ?_; clear HQ; rintro e w2 ⟨rfl, hb⟩; rw [HZ2.out]; have HX2 := Lib.hid (HX1.out.grow hb); have r3 : w2.cell? ⟨W.heap.size, 3, none⟩ = some (.slice A3 n3 c3) := HX2.out.1.cell 3; have s3 : w2.cell? ⟨W.heap.size + 1, 3, none⟩ = some (.slice A3' n3' c3') := HX2.out.2.1.cell 3; clear hb tk tk2 r1 r2 s1 s2 HX1)
    go_ret
    exact ⟨by rw [HF.out]; rfl, HX2.out.2.2⟩
  subst hl3
  go_enter Try.func6, Try.ntmps6
  have tk1 : True := trivial
  go_wp2_with (go_at_call 17; have tk := tk1; obtain ⟨g0, g1, g2, g3⟩ := HC.out _ rfl; have HQ := l21SameTexts_any A0 A0' n0 n0' c0 c0' x0 y0 _ (HK0.out.go g2) (HJ0.out.go g2); refine Calls.mono HQ ?_; clear HQ; rintro e w1 ⟨rfl, hb⟩; rw [HZ0.out]; have HX1 : Hid (BoxC W #[.slice A0 n0 c0, .int .i64 x1, .slice A2 n2 c2, .slice A3 n3 c3, .slice A4 n4 c4] #[.slice A0' n0' c0', .int .i64 x1, .slice A2' n2' c2', .slice A3' n3 c3', .slice A4' n4' c4'] w1) := ⟨g0.below hb (by omega), g1.below hb (by omega), g2.trans (hb.mono g2.size)⟩; have r1 : w1.cell? ⟨W.heap.size, 1, none⟩ = some (.int .i64 x1) := HX1.out.1.cell 1; have r2 : w1.cell? ⟨W.heap.size, 2, none⟩ = some (.slice A2 n2 c2) := HX1.out.1.cell 2; have s1 : w1.cell? ⟨W.heap.size + 1, 1, none⟩ = some (.int .i64 x1) := HX1.out.2.1.cell 1; have s2 : w1.cell? ⟨W.heap.size + 1, 2, none⟩ = some (.slice A2' n2' c2') := HX1.out.2.1.cell 2; clear g0 g1 g2 g3 hb HC tk tk1)
  have tk2 : True := trivial
  go_wp2_with (go_at_call 17; have tk := tk2; have HQ := l21SameTexts_any A2 A2' n2 n2' c2 c2' x2 y2 _ (HK2.out.go HX1.out.2.2) (HJ2.out.go HX1.out.2.2); refine Calls.mono HQ ?_; clear HQ; rintro e w2 ⟨rfl, hb⟩; rw [HZ2.out]; have HX2 := Lib.hid (HX1.out.grow hb); have r3 : w2.cell? ⟨W.heap.size, 3, none⟩ = some (.slice A3 n3 c3) := HX2.out.1.cell 3; have s3 : w2.cell? ⟨W.heap.size + 1, 3, none⟩ = some (.slice A3' n3 c3') := HX2.out.2.1.cell 3; clear hb tk tk2 r1 r2 s1 s2 HX1)

  have HF2 := Lib.hid HX2.out.flat
  obtain ⟨r0, r1, r2, r3⟩ := HX2.out.flat
  go_loopw [5] (fun i wr => ∃ k : Nat, k ≤ n3 ∧ i = .int .i64 k ∧ FlatBC W A3 A4 A3' A4' n3 c3 n4 c4 c3' n4' c4' wr ∧ Hid (BoxC W #[.slice A0 n0 c0, .int .i64 x1, .slice A2 n2 c2, .slice A3 n3 c3, .slice A4 n4 c4] #[.slice A0' n0' c0', .int .i64 x1, .slice A2' n2' c2', .slice A3' n3 c3', .slice A4' n4' c4'] wr) ∧ Hid (∀ (j : Nat), j < k → x3[j]? = y3[j]?)) (fun i _ => n3 - (intOf i).toNat)
  case atStart => exact ⟨0, Nat.zero_le _, rfl, HF2.out, HX2, Lib.hid (fun j hj => absurd hj (by omega))⟩
  case round =>
    obtain ⟨k, hk, rfl, ⟨r0, r1, r2, r3⟩, HX, HV⟩ := hrel
    by_cases hlt : k < n3
    · have b0 : (0 : Int) ≤ (k : Int) := by omega
      have b1 : (k : Int) < (n3 : Int) := by omega
      obtain ⟨b, off, u, m, rfl, hg, hu, hh1, hv1⟩ := (HK3.out.go HX.out.2.2).at_ hlt
      obtain ⟨b', off', v, m', rfl, hg', hv, hh2, hv2⟩ := (HJ3.out.go HX.out.2.2).at_ hlt
      have HU := Lib.hid hu
      have HW := Lib.hid hv
      have HX1 := Lib.hid hv1
      have HY1 := Lib.hid hv2
      obtain ⟨z, hz⟩ : ∃ z, tt (u = v) = z := ⟨_, rfl⟩
      have HZ := Lib.hid hz
      have HF : Hid (z = false → P = false) := by
        show _ → _
        intro h
        refine HNE.out (.inr (.inr (.inr (.inl fun e => ?_))))
        have e2 : some u = some v := by rw [← HU.out, ← HW.out, e]
        rw [h, Option.some.inj e2] at HZ
        have := HZ.out
        rw [tt_true rfl] at this
        cases this
      have HT : Hid (z = true → ∀ (j : Nat), j < k + 1 → x3[j]? = y3[j]?) := by
        show _ → _
        intro h j hj
        by_cases e : j = k
        · rw [h] at HZ
          rw [e, HU.out, HW.out, of_tt HZ.out]
        · exact HV.out j (by omega)
      have HCW := Lib.hid (fun (d : Nat) (os : Array Obj) => Calls.regrown_of (by have h := l21SameFile_any u v m m' (grow (redrawn wr d) os) (HX1.out.go (below_regrown wr d os)) (HY1.out.go (below_regrown wr d os)); rw [HZ.out] at h; exact h))
      obtain ⟨p0, p1, p2, p3⟩ := hh1
      obtain ⟨q0, q1, q2, q3⟩ := hh2
      obtain ⟨u0, u1, u2, u3⟩ := u
      obtain ⟨v0, v1, v2, v3⟩ := v
      obtain ⟨a1, s1, d1, e1⟩ := m
      obtain ⟨a1', s1', d1', e1'⟩ := m'
      dsimp only at p0 p1 p2 p3 q0 q1 q2 q3
      clear hv1 hv2 hu hv hg hg' hz
      go_wp2_with fail
      have xr1 := cell_regrown r0
      have xr3 := cell_regrown r2
      have xp0 := cell_regrown p0
      have xp1 := cell_regrown p1
      have xp2 := cell_regrown p2
      have xp3 := cell_regrown p3
      have xq0 := cell_regrown q0
      have xq1 := cell_regrown q1
      have xq2 := cell_regrown q2
      have xq3 := cell_regrown q3
      have cw : ∀ d os, Calls Try.prog 18 #[.agg #[.string u0, .slice a1 s1 d1, .int .i64 u2, .int .i64 u3], .agg #[.string v0, .slice a1' s1' d1', .int .i64 v2, .int .i64 v3]] (grow (redrawn wr d) os) (fun e w'' => e = .returned (.bool z) ∧ ∃ q : Regrown, w'' = grow (redrawn wr q.d) q.os) := HCW.out
      clear HCW
      cases z
      · have HE3 := Lib.hid (HF.out rfl)
        clear HF HT
        refine wp_region_quiet_below (by kernel_rfl) (by kernel_rfl) ?_
        repeat (first | go_big_quiet_step (with_reducible exact cw _ _) | quiet_step (with_reducible exact cw _ _))
        refine wpQuiet_nil ?_
        intro w4 hw'
        obtain ⟨⟨dq, osq⟩, hw''⟩ := hw'
        have HB4 : Hid (BoxC W #[.slice A0 n0 c0, .int .i64 x1, .slice A2 n2 c2, .slice (some ⟨b, off, none⟩) n3 c3, .slice A4 n4 c4] #[.slice A0' n0' c0', .int .i64 x1, .slice A2' n2' c2', .slice (some ⟨b', off', none⟩) n3 c3', .slice A4' n4' c4'] w4) := by show BoxC W _ _ w4; rw [hw'']; exact HX.out.grow (below_regrown wr dq osq)
        clear hw'' xr1 xr3 xp0 xp1 xp2 xp3 xq0 xq1 xq2 xq3 cw r0 r1 r2 r3 p0 p1 p2 p3 q0 q1 q2 q3
        go_wp2_with fail
        go_ret
        exact ⟨by rw [HE3.out]; rfl, HB4.out.2.2⟩
      · have HE3 := Lib.hid (HT.out rfl)
        clear HF HT
        refine wp_region_quiet_below (by kernel_rfl) (by kernel_rfl) ?_
        repeat (first | go_big_quiet_step (with_reducible exact cw _ _) | quiet_step (with_reducible exact cw _ _))
        refine wpQuiet_nil ?_
        intro w4 hw'
        obtain ⟨⟨dq, osq⟩, hw''⟩ := hw'
        have HB4 : Hid (BoxC W #[.slice A0 n0 c0, .int .i64 x1, .slice A2 n2 c2, .slice (some ⟨b, off, none⟩) n3 c3, .slice A4 n4 c4] #[.slice A0' n0' c0', .int .i64 x1, .slice A2' n2' c2', .slice (some ⟨b', off', none⟩) n3 c3', .slice A4' n4' c4'] w4) := by show BoxC W _ _ w4; rw [hw'']; exact HX.out.grow (below_regrown wr dq osq)
        clear hw'' xr1 xr3 xp0 xp1 xp2 xp3 xq0 xq1 xq2 xq3 cw r0 r1 r2 r3 p0 p1 p2 p3 q0 q1 q2 q3
        go_wp2_with fail
        go_roundw
        case rel => exact ⟨k + 1, by omega, by go_num, HB4.out.flat, HB4, HE3⟩
        case measure => simp [intOf]; omega
    · have hkn : k = n3 := by omega
      have HE3 : Hid (x3 = y3) := by
        show _ = _
        refine List.ext_getElem? fun j => ?_
        by_cases e : j < n3
        · exact HV.out j (by omega)
        · rw [List.getElem?_eq_none (by have := HK3.out.1; omega), List.getElem?_eq_none (by have := HJ3.out.1; omega)]
      clear HV
      subst hkn
      have hkk : ¬ (k : Int) < (k : Int) := by omega
      clear hlt
      go_wp2_with (go_at_call 17; have HQ := l21SameTexts_any A4 A4' n4 n4' c4 c4' x4 y4 _ (HK4.out.go HX.out.2.2) (HJ4.out.go HX.out.2.2); refine Calls.mono HQ ?_; clear HQ; rintro e w5 ⟨rfl, hb⟩; have HB5 := Lib.hid (HX.out.2.2.trans (hb.mono HX.out.2.2.size)); clear hb)
      go_ret
      exact ⟨by rw [← (HEQ.out HE0.out (by first | rfl | trivial) HE2.out HE3.out)]; rfl, HB5.out⟩
end Go.Proofs.Ytjhemdgeafglhaa

namespace Go.Proofs.Ytjhemdgeafglhaa
open Go Go.RowKit

theorem sameFl_bool_sameFile_any (x y : Fl) : tt (x = y) = ((x.name_.toList == y.name_.toList) && (tt (x.lines_ = y.lines_) && ((x.mode_ == y.mode_) && ((x.at_ == y.at_))))) := by
  rw [Bool.eq_iff_iff]
  simp only [Bool.and_eq_true, tt_iff, beq_iff_eq]
  obtain ⟨a0, a1, a2, a3⟩ := x
  obtain ⟨b0, b1, b2, b3⟩ := y
  simp only [Fl.mk.injEq]
  constructor
  · rintro ⟨h0, h1, h2, h3⟩
    exact ⟨by rw [h0], h1, h2, h3⟩
  · rintro ⟨h0, h1, h2, h3⟩
    exact ⟨WideShapes.bytes_inj (by rw [← ByteArray.toList_eq, ← ByteArray.toList_eq]; exact h0), h1, h2, h3⟩

set_option maxHeartbeats 4000000 in
set_option maxRecDepth 100000 in
theorem sameFile_any (x y : Fl) (l l' : FlLay) (W : World) (hx : FlV W W.heap.size x l) (hy : FlV W W.heap.size y l') :
    Calls Try.prog 23 #[x.ag l, y.ag l'] W fun e w' => e = .returned (.bool (tt (x = y))) ∧ Below W.heap.size W w' := by
  rw [sameFl_bool_sameFile_any]
  obtain ⟨x0, x1, x2, x3⟩ := x
  obtain ⟨y0, y1, y2, y3⟩ := y
  obtain ⟨A1, n1, c1, h1⟩ := l
  obtain ⟨A1', n1', c1', h1'⟩ := l'
  obtain ⟨k1, k0⟩ := hx
  obtain ⟨j1, j0⟩ := hy
  try unfold FlV at k1 j1 k0 j0
  dsimp only at k1 j1 k0 j0 ⊢
  have HK1 := Lib.hid k1
  have HJ1 := Lib.hid j1
  clear k1 j1 k0 j0
  have HC := Lib.hid (two_new W 62 #[.string x0, .slice A1 n1 c1, .int .i64 x2, .int .i64 x3] #[.string y0, .slice A1' n1' c1', .int .i64 y2, .int .i64 y3])
  obtain ⟨z0, hz0⟩ : ∃ z, (x0.toList == y0.toList) = z := ⟨_, rfl⟩
  obtain ⟨z1, hz1⟩ : ∃ z, tt (x1 = y1) = z := ⟨_, rfl⟩
  have HZ1 := Lib.hid hz1
  obtain ⟨z2, hz2⟩ : ∃ z, (x2 == y2) = z := ⟨_, rfl⟩
  obtain ⟨z3, hz3⟩ : ∃ z, (x3 == y3) = z := ⟨_, rfl⟩
  rw [hz0, hz1, hz2, hz3]
  clear hz1
  show Calls Try.prog 23 #[.agg #[.string x0, .slice A1 n1 c1, .int .i64 x2, .int .i64 x3], .agg #[.string y0, .slice A1' n1' c1', .int .i64 y2, .int .i64 y3]] W _
  cases z0
  · skip
    go_enter Try.func23, Try.ntmps23
    go_wp2_with fail
    go_ret
    exact ⟨rfl, (below_alloc _ _).alloc (by simp) _⟩
  cases z1
  · skip
    go_enter Try.func23, Try.ntmps23
    have tk1 : True := trivial
    go_wp2_with (go_at_call 21; have tk := tk1; obtain ⟨g0, g1, g2, g3⟩ := HC.out _ rfl; have HQ := equalStrings_any A1 A1' n1 n1' c1 c1' x1 y1 _ (HK1.out.go g2) (HJ1.out.go g2); refine Calls.mono HQ ?_; clear HQ; rintro e w1 ⟨rfl, hb⟩; rw [HZ1.out]; have HA1 := Lib.hid (g0.below hb (by omega)); have HD1 := Lib.hid (g1.below hb (by omega)); have HB1 := Lib.hid (g2.trans (hb.mono g2.size)); have HG1 : Hid (W.heap.size + 2 ≤ w1.heap.size) := (by have := hb.size; show _ ≤ _; omega); clear g0 g1 g2 g3 hb tk tk1)
    go_ret
    exact ⟨rfl, HB1.out⟩
  cases z2
  · skip
    go_enter Try.func23, Try.ntmps23
    have tk1 : True := trivial
    go_wp2_with (go_at_call 21; have tk := tk1; obtain ⟨g0, g1, g2, g3⟩ := HC.out _ rfl; have HQ := equalStrings_any A1 A1' n1 n1' c1 c1' x1 y1 _ (HK1.out.go g2) (HJ1.out.go g2); refine Calls.mono HQ ?_; clear HQ; rintro e w1 ⟨rfl, hb⟩; rw [HZ1.out]; have HA1 := Lib.hid (g0.below hb (by omega)); have HD1 := Lib.hid (g1.below hb (by omega)); have HB1 := Lib.hid (g2.trans (hb.mono g2.size)); have HG1 : Hid (W.heap.size + 2 ≤ w1.heap.size) := (by have := hb.size; show _ ≤ _; omega); have q12 : w1.cell? ⟨W.heap.size, 2, none⟩ = some (.int .i64 x2) := HA1.out.cell 2; have p12 : w1.cell? ⟨W.heap.size + 1, 2, none⟩ = some (.int .i64 y2) := HD1.out.cell 2; clear g0 g1 g2 g3 hb tk tk1)
    go_ret
    exact ⟨rfl, HB1.out⟩
  cases z3
  · skip
    go_enter Try.func23, Try.ntmps23
    have tk1 : True := trivial
    go_wp2_with (go_at_call 21; have tk := tk1; obtain ⟨g0, g1, g2, g3⟩ := HC.out _ rfl; have HQ := equalStrings_any A1 A1' n1 n1' c1 c1' x1 y1 _ (HK1.out.go g2) (HJ1.out.go g2); refine Calls.mono HQ ?_; clear HQ; rintro e w1 ⟨rfl, hb⟩; rw [HZ1.out]; have HA1 := Lib.hid (g0.below hb (by omega)); have HD1 := Lib.hid (g1.below hb (by omega)); have HB1 := Lib.hid (g2.trans (hb.mono g2.size)); have HG1 : Hid (W.heap.size + 2 ≤ w1.heap.size) := (by have := hb.size; show _ ≤ _; omega); have q12 : w1.cell? ⟨W.heap.size, 2, none⟩ = some (.int .i64 x2) := HA1.out.cell 2; have p12 : w1.cell? ⟨W.heap.size + 1, 2, none⟩ = some (.int .i64 y2) := HD1.out.cell 2; have q13 : w1.cell? ⟨W.heap.size, 3, none⟩ = some (.int .i64 x3) := HA1.out.cell 3; have p13 : w1.cell? ⟨W.heap.size + 1, 3, none⟩ = some (.int .i64 y3) := HD1.out.cell 3; clear g0 g1 g2 g3 hb tk tk1)
    go_ret
    exact ⟨rfl, HB1.out⟩
  go_enter Try.func23, Try.ntmps23
  have tk1 : True := trivial
  go_wp2_with (go_at_call 21; have tk := tk1; obtain ⟨g0, g1, g2, g3⟩ := HC.out _ rfl; have HQ := equalStrings_any A1 A1' n1 n1' c1 c1' x1 y1 _ (HK1.out.go g2) (HJ1.out.go g2); refine Calls.mono HQ ?_; clear HQ; rintro e w1 ⟨rfl, hb⟩; rw [HZ1.out]; have HA1 := Lib.hid (g0.below hb (by omega)); have HD1 := Lib.hid (g1.below hb (by omega)); have HB1 := Lib.hid (g2.trans (hb.mono g2.size)); have HG1 : Hid (W.heap.size + 2 ≤ w1.heap.size) := (by have := hb.size; show _ ≤ _; omega); have q12 : w1.cell? ⟨W.heap.size, 2, none⟩ = some (.int .i64 x2) := HA1.out.cell 2; have p12 : w1.cell? ⟨W.heap.size + 1, 2, none⟩ = some (.int .i64 y2) := HD1.out.cell 2; have q13 : w1.cell? ⟨W.heap.size, 3, none⟩ = some (.int .i64 x3) := HA1.out.cell 3; have p13 : w1.cell? ⟨W.heap.size + 1, 3, none⟩ = some (.int .i64 y3) := HD1.out.cell 3; clear g0 g1 g2 g3 hb tk tk1)
  go_ret
  exact ⟨rfl, HB1.out⟩
end Go.Proofs.Ytjhemdgeafglhaa
