/- Contracts: isElement of functions and types of records. Condition: the table holds what the program's text lays. -/
import Derived.Test.YtnedihiagaepjaaDoorElem
namespace Go.Proofs.YtnedihiagaepjaaDoor
open Go Go.RowKit

theorem stI_sizes {w : World} {B n : Nat} {A : Option Addr} {xs : List St} (h : StI w B A n xs) : ∀ (j : Nat) (x : St), xs[j]? = some x → ByteArray.size x ≤ maxLen := by
  intro j x hx
  have hl := (List.getElem?_eq_some_iff.1 hx).1
  obtain ⟨_, _, _, _, hc⟩ := h.2.2 (by have := h.1; omega)
  exact (hc j x hx).2

set_option maxHeartbeats 2000000 in
set_option maxRecDepth 100000 in
theorem elemRt_any (x : Rt) (l : RtLay) (W : World) (hv : RtV W W.heap.size x l) (hT : Classes W) :
    Calls Tryd.prog 111 #[x.ag l] W fun e w' => e = .returned (.bool (rtOk x)) ∧ Below W.heap.size W w' := by
  obtain ⟨x0, x1⟩ := x
  obtain ⟨A1, n1, c1, h1⟩ := l
  obtain ⟨hx, hm0⟩ := hv
  dsimp only at hx hm0
  show Calls Tryd.prog 111 #[.agg #[.string x0, .slice A1 n1 c1]] W _
  have HC := Lib.hid (one_newS W 83 #[.string x0, .slice A1 n1 c1])
  have HT := Lib.hid (fun (w : World) (hb : Below W.heap.size W w) => classes_up hT hb)
  have HM0 := Lib.hid hm0
  have HX := Lib.hid hx
  unfold rtOk
  dsimp only
  obtain ⟨z0, hz0⟩ : ∃ z, isNameB x0 = z := ⟨_, rfl⟩
  obtain ⟨z1, hz1⟩ : ∃ z, decide (1 ≤ x1.length ∧ x1.length ≤ 6) = z := ⟨_, rfl⟩
  obtain ⟨z2, hz2⟩ : ∃ z, tt (OkNames x1) = z := ⟨_, rfl⟩
  have HZ1 : Hid (decide ((1 : Int) ≤ (n1 : Int) ∧ (n1 : Int) ≤ 6) = z1) := by
    show _ = _
    rw [← hz1, hx.1]
    exact decide_eq_decide.2 ⟨fun h => ⟨by omega, by omega⟩, fun h => ⟨by omega, by omega⟩⟩
  rw [hz0, hz1, hz2]
  have HZ0 := Lib.hid hz0
  have HZ2 := Lib.hid hz2
  clear hz0 hz1 hz2 hx hm0 hT
  cases z0
  · go_enter Tryd.func111, Tryd.ntmps111
    go_wp2_with (go_at_call 31; obtain ⟨g0, g1, g2⟩ := HC.out _ rfl; refine (impl_IsName_any x0 _ HM0.out (HT.out _ g1)).mono ?_; rintro e w1 ⟨rfl, hb⟩; rw [HZ0.out]; have HB1 := Lib.hid (g1.trans (hb.mono g1.size)); have HA1 := Lib.hid (g0.below hb g2); have q1 : w1.cell? ⟨W.heap.size, 1, none⟩ = some (.slice A1 n1 c1) := HA1.out.cell 1; clear g0 g1 g2 hb)
    go_ret
    exact ⟨rfl, HB1.out⟩
  cases z1
  · go_enter Tryd.func111, Tryd.ntmps111
    go_wp2_with (first | (go_at_call 31; obtain ⟨g0, g1, g2⟩ := HC.out _ rfl; refine (impl_IsName_any x0 _ HM0.out (HT.out _ g1)).mono ?_; rintro e w1 ⟨rfl, hb⟩; rw [HZ0.out]; have HB1 := Lib.hid (g1.trans (hb.mono g1.size)); have HA1 := Lib.hid (g0.below hb g2); have q1 : w1.cell? ⟨W.heap.size, 1, none⟩ = some (.slice A1 n1 c1) := HA1.out.cell 1; clear g0 g1 g2 hb) | (go_at_call 97; refine (within_int n1 1 6 w1).mono ?_; rintro e w2 ⟨rfl, rfl⟩; rw [HZ1.out]))
    go_ret
    exact ⟨rfl, HB1.out⟩
  cases z2
  all_goals
    go_enter Tryd.func111, Tryd.ntmps111
    go_wp2_with (first | (go_at_call 31; obtain ⟨g0, g1, g2⟩ := HC.out _ rfl; refine (impl_IsName_any x0 _ HM0.out (HT.out _ g1)).mono ?_; rintro e w1 ⟨rfl, hb⟩; rw [HZ0.out]; have HB1 := Lib.hid (g1.trans (hb.mono g1.size)); have HA1 := Lib.hid (g0.below hb g2); have q1 : w1.cell? ⟨W.heap.size, 1, none⟩ = some (.slice A1 n1 c1) := HA1.out.cell 1; clear g0 g1 g2 hb) | (go_at_call 97; refine (within_int n1 1 6 w1).mono ?_; rintro e w2 ⟨rfl, rfl⟩; rw [HZ1.out]) | (go_at_call 105; refine (areDifferentNames_any A1 n1 c1 x1 w1 (HX.out.go HB1.out) h1 (HT.out _ HB1.out)).mono ?_; rintro e w3 ⟨rfl, hb⟩; rw [HZ2.out]; have HB3 := Lib.hid (HB1.out.trans (hb.mono HB1.out.size)); clear hb))
    go_ret
    exact ⟨rfl, HB3.out⟩

set_option maxHeartbeats 4000000 in
set_option maxRecDepth 100000 in
theorem elemFn_any (x : Fn) (l : FnLay) (W : World) (hv : FnV W W.heap.size x l) (hT : Classes W) :
    Calls Tryd.prog 102 #[x.ag l] W fun e w' => e = .returned (.bool (fnOk x)) ∧ Below W.heap.size W w' := by
  obtain ⟨x0, x1, x2, x3⟩ := x
  obtain ⟨A1, n1, c1, h1, A2, n2, c2, h2⟩ := l
  obtain ⟨hx1, hx2, hm0, hm3⟩ := hv
  dsimp only at hx1 hx2 hm0 hm3
  show Calls Tryd.prog 102 #[.agg #[.string x0, .slice A1 n1 c1, .slice A2 n2 c2, .string x3]] W _
  have HC := Lib.hid (one_newS W 81 #[.string x0, .slice A1 n1 c1, .slice A2 n2 c2, .string x3])
  have HT := Lib.hid (fun (w : World) (hb : Below W.heap.size W w) => classes_up hT hb)
  have HM0 := Lib.hid hm0
  have HM3 := Lib.hid hm3
  have HX1 := Lib.hid hx1
  have HX2 := Lib.hid hx2
  have S1 := Lib.hid (stI_sizes hx1)
  have S2 := Lib.hid (stI_sizes hx2)
  have hnn1 := hx1.2.1
  have hnn2 := hx2.2.1
  unfold maxLen at hnn1 hnn2
  unfold fnOk
  dsimp only
  obtain ⟨z0, hz0⟩ : ∃ z, isNameB x0 = z := ⟨_, rfl⟩
  obtain ⟨z3, hz3⟩ : ∃ z, isNameB x3 = z := ⟨_, rfl⟩
  obtain ⟨z1, hz1⟩ : ∃ z, decide (x1.length ≤ 6) = z := ⟨_, rfl⟩
  obtain ⟨z2, hz2⟩ : ∃ z, decide (x2.length ≤ 6) = z := ⟨_, rfl⟩
  obtain ⟨z4, hz4⟩ : ∃ z, tt (OkNames (x1 ++ x2)) = z := ⟨_, rfl⟩
  have d1 : decide ((n1 : Int) ≤ 6) = z1 := by
    rw [← hz1, hx1.1]
    exact decide_eq_decide.2 ⟨fun h => by omega, fun h => by omega⟩
  have d2 : decide ((n2 : Int) ≤ 6) = z2 := by
    rw [← hz2, hx2.1]
    exact decide_eq_decide.2 ⟨fun h => by omega, fun h => by omega⟩
  rw [hz0, hz3, hz1, hz2, hz4]
  have HZ0 := Lib.hid hz0
  have HZ3 := Lib.hid hz3
  have HZ4 := Lib.hid hz4
  have tk1 : True := trivial
  have tk2 : True := trivial
  clear hz0 hz3 hz1 hz2 hz4 hx1 hx2 hm0 hm3 hT
  cases z0
  · go_enter Tryd.func102, Tryd.ntmps102
    go_wp2_with (go_at_call 31; have tk := tk1; obtain ⟨g0, g1, g2⟩ := HC.out _ rfl; refine (impl_IsName_any x0 _ HM0.out (HT.out _ g1)).mono ?_; rintro e w1 ⟨rfl, hb⟩; rw [HZ0.out]; have HB1 := Lib.hid (g1.trans (hb.mono g1.size)); have HA1 := Lib.hid (g0.below hb g2); have q3 : w1.cell? ⟨W.heap.size, 3, none⟩ = some (.string x3) := HA1.out.cell 3; clear g0 g1 g2 hb tk tk1)
    go_ret
    exact ⟨rfl, HB1.out⟩
  cases z3
  · go_enter Tryd.func102, Tryd.ntmps102
    go_wp2_with (first | (go_at_call 31; have tk := tk1; obtain ⟨g0, g1, g2⟩ := HC.out _ rfl; refine (impl_IsName_any x0 _ HM0.out (HT.out _ g1)).mono ?_; rintro e w1 ⟨rfl, hb⟩; rw [HZ0.out]; have HB1 := Lib.hid (g1.trans (hb.mono g1.size)); have HA1 := Lib.hid (g0.below hb g2); have q3 : w1.cell? ⟨W.heap.size, 3, none⟩ = some (.string x3) := HA1.out.cell 3; clear g0 g1 g2 hb tk tk1) | (go_at_call 31; have tk := tk2; refine (impl_IsName_any x3 w1 HM3.out (HT.out _ HB1.out)).mono ?_; rintro e w2 ⟨rfl, hb⟩; rw [HZ3.out]; have HB2 := Lib.hid (HB1.out.trans (hb.mono HB1.out.size)); have HA2 := Lib.hid (HA1.out.below hb HA1.out.lt); have p1 : w2.cell? ⟨W.heap.size, 1, none⟩ = some (.slice A1 n1 c1) := HA2.out.cell 1; have p2 : w2.cell? ⟨W.heap.size, 2, none⟩ = some (.slice A2 n2 c2) := HA2.out.cell 2; clear hb q3 tk tk2))
    go_ret
    exact ⟨rfl, HB2.out⟩
  cases z1
  · go_enter Tryd.func102, Tryd.ntmps102
    go_wp2_with (first | (go_at_call 31; have tk := tk1; obtain ⟨g0, g1, g2⟩ := HC.out _ rfl; refine (impl_IsName_any x0 _ HM0.out (HT.out _ g1)).mono ?_; rintro e w1 ⟨rfl, hb⟩; rw [HZ0.out]; have HB1 := Lib.hid (g1.trans (hb.mono g1.size)); have HA1 := Lib.hid (g0.below hb g2); have q3 : w1.cell? ⟨W.heap.size, 3, none⟩ = some (.string x3) := HA1.out.cell 3; clear g0 g1 g2 hb tk tk1) | (go_at_call 31; have tk := tk2; refine (impl_IsName_any x3 w1 HM3.out (HT.out _ HB1.out)).mono ?_; rintro e w2 ⟨rfl, hb⟩; rw [HZ3.out]; have HB2 := Lib.hid (HB1.out.trans (hb.mono HB1.out.size)); have HA2 := Lib.hid (HA1.out.below hb HA1.out.lt); have p1 : w2.cell? ⟨W.heap.size, 1, none⟩ = some (.slice A1 n1 c1) := HA2.out.cell 1; have p2 : w2.cell? ⟨W.heap.size, 2, none⟩ = some (.slice A2 n2 c2) := HA2.out.cell 2; clear hb q3 tk tk2))
    go_ret
    exact ⟨rfl, HB2.out⟩
  cases z2
  · go_enter Tryd.func102, Tryd.ntmps102
    go_wp2_with (first | (go_at_call 31; have tk := tk1; obtain ⟨g0, g1, g2⟩ := HC.out _ rfl; refine (impl_IsName_any x0 _ HM0.out (HT.out _ g1)).mono ?_; rintro e w1 ⟨rfl, hb⟩; rw [HZ0.out]; have HB1 := Lib.hid (g1.trans (hb.mono g1.size)); have HA1 := Lib.hid (g0.below hb g2); have q3 : w1.cell? ⟨W.heap.size, 3, none⟩ = some (.string x3) := HA1.out.cell 3; clear g0 g1 g2 hb tk tk1) | (go_at_call 31; have tk := tk2; refine (impl_IsName_any x3 w1 HM3.out (HT.out _ HB1.out)).mono ?_; rintro e w2 ⟨rfl, hb⟩; rw [HZ3.out]; have HB2 := Lib.hid (HB1.out.trans (hb.mono HB1.out.size)); have HA2 := Lib.hid (HA1.out.below hb HA1.out.lt); have p1 : w2.cell? ⟨W.heap.size, 1, none⟩ = some (.slice A1 n1 c1) := HA2.out.cell 1; have p2 : w2.cell? ⟨W.heap.size, 2, none⟩ = some (.slice A2 n2 c2) := HA2.out.cell 2; clear hb q3 tk tk2))
    go_ret
    exact ⟨rfl, HB2.out⟩
  have L1 : Hid (n1 ≤ 1000) := by have := of_decide_eq_true d1; show _ ≤ _; omega
  have L2 : Hid (n2 ≤ 1000) := by have := of_decide_eq_true d2; show _ ≤ _; omega
  cases z4
  all_goals
    go_enter Tryd.func102, Tryd.ntmps102
    go_wp2_with (first | (go_at_call 31; have tk := tk1; obtain ⟨g0, g1, g2⟩ := HC.out _ rfl; refine (impl_IsName_any x0 _ HM0.out (HT.out _ g1)).mono ?_; rintro e w1 ⟨rfl, hb⟩; rw [HZ0.out]; have HB1 := Lib.hid (g1.trans (hb.mono g1.size)); have HA1 := Lib.hid (g0.below hb g2); have q3 : w1.cell? ⟨W.heap.size, 3, none⟩ = some (.string x3) := HA1.out.cell 3; clear g0 g1 g2 hb tk tk1) | (go_at_call 31; have tk := tk2; refine (impl_IsName_any x3 w1 HM3.out (HT.out _ HB1.out)).mono ?_; rintro e w2 ⟨rfl, hb⟩; rw [HZ3.out]; have HB2 := Lib.hid (HB1.out.trans (hb.mono HB1.out.size)); have HA2 := Lib.hid (HA1.out.below hb HA1.out.lt); have p1 : w2.cell? ⟨W.heap.size, 1, none⟩ = some (.slice A1 n1 c1) := HA2.out.cell 1; have p2 : w2.cell? ⟨W.heap.size, 2, none⟩ = some (.slice A2 n2 c2) := HA2.out.cell 2; clear hb q3 tk tk2) | (go_at_call 106; have HN := Lib.hid (RW.new w2 #[.slice A1 n1 c1, .slice A2 n2 c2] 41); have HQ := concatS_any w2.heap.size A1 A2 n1 c1 n2 c2 x1 x2 (w2.alloc (.cells #[.slice A1 n1 c1, .slice A2 n2 c2] 41)) (lt_alloc _ _) (HN.out.cell 0) (HN.out.cell 1) ((HX1.out.go HB2.out).alloc _) ((HX2.out.go HB2.out).alloc _) L1.out L2.out S1.out S2.out; refine Calls.mono HQ ?_; clear HQ; rintro e w3 ⟨A9, c9, rfl, h⟩; have HCC := h; have HB3 : Hid (Below W.heap.size W w3) := HB2.out.trans (((below_alloc w2 _).trans (h.out.2.2.mono (by simp))).mono HB2.out.size); clear h HN p1 p2) | (go_at_call 105; have HQ := areDifferentNames_any A9 (n1 + n2) c9 (x1 ++ x2) w3 HCC.out.2.1 HCC.out.1 (HT.out _ HB3.out); refine Calls.mono HQ ?_; clear HQ; rintro e w4 ⟨rfl, hb⟩; rw [HZ4.out]; have HB4 := Lib.hid (HB3.out.trans (hb.mono HB3.out.size)); clear hb))
    go_ret
    exact ⟨rfl, HB4.out⟩
end Go.Proofs.YtnedihiagaepjaaDoor
