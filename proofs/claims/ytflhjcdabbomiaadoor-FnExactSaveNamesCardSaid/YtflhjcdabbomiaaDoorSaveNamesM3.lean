/- Contracts: isElement of functions and types of records. Condition: the table holds what the program's text lays. laws.eqValue where both are the same. No condition. laws.eqBinding, laws.eqBindingS where both are the same. No condition. toFunction, toFunctionS of the laws. No condition. laws.eqFunction, laws.eqFunctionS where both are the same. No condition. toRecordType, toRecordTypeS of the laws. No condition. laws.eqRecordType, laws.eqRecordTypeS where both are the same. No condition. Scope: as plain data and in memory; szScope, szScopeS of the laws. No condition. When a rising list is valid. Plain. When a scope is valid. Plain. Contract: isWithinLimit at Binding. Condition: the table holds what the program's text lays. Contract: isWithinLimit at Function. Condition: the table holds what the program's text lays. -/
import Derived.Test.YtflhjcdabbomiaaDoorSaveNamesM2
import Derived.Test.YtflhjcdabbomiaaDoorSaveNamesM1
import Derived.Lib.QuietBelow
import Derived.BigQuiet
import Derived.Deep.QuietTactic
namespace Go.Proofs.YtflhjcdabbomiaaDoor
open Go Go.RowKit

theorem stI_sizes {w : World} {B n : Nat} {A : Option Addr} {xs : List St} (h : StI w B A n xs) : ∀ (j : Nat) (x : St), xs[j]? = some x → ByteArray.size x ≤ maxLen := by
  intro j x hx
  have hl := (List.getElem?_eq_some_iff.1 hx).1
  obtain ⟨_, _, _, _, hc⟩ := h.2.2 (by have := h.1; omega)
  exact (hc j x hx).2

set_option maxHeartbeats 2000000 in
set_option maxRecDepth 100000 in
theorem elemRt_any (x : Rt) (l : RtLay) (W : World) (hv : RtV W W.heap.size x l) (hT : Classes W) :
    Calls Tryd.prog 112 #[x.ag l] W fun e w' => e = .returned (.bool (rtOk x)) ∧ Below W.heap.size W w' := by
  obtain ⟨x0, x1⟩ := x
  obtain ⟨A1, n1, c1, h1⟩ := l
  obtain ⟨hx, hm0⟩ := hv
  dsimp only at hx hm0
  show Calls Tryd.prog 112 #[.agg #[.string x0, .slice A1 n1 c1]] W _
  have HC := Lib.hid (one_newS W 83 #[.string x0, .slice A1 n1 c1])
  have HT := Lib.hid (fun (w : World) (hb : Below W.heap.size W w) => classes_up hT hb)
  have HM0 := Lib.hid hm0
  have HX := Lib.hid hx
  unfold rtOk
  dsimp only
  obtain ⟨z0, hz0⟩ : ∃ z, isNameB x0 = z := ⟨_, rfl⟩
  obtain ⟨z1, hz1⟩ : ∃ z, decide (1 ≤ x1.length ∧ x1.length ≤ 6) = z := ⟨_, rfl⟩
  obtain ⟨z2, hz2⟩ : ∃ z, tt (OkNames x1) = z := ⟨_, rfl⟩
  have HZ1 : Hid (decide ((1 : Int) ≤ (n1 : Int) ∧ (n1 : Int) ≤ 6) = z1) := by
    show _ = _
    rw [← hz1, hx.1]
    exact decide_eq_decide.2 ⟨fun h => ⟨by omega, by omega⟩, fun h => ⟨by omega, by omega⟩⟩
  rw [hz0, hz1, hz2]
  have HZ0 := Lib.hid hz0
  have HZ2 := Lib.hid hz2
  clear hz0 hz1 hz2 hx hm0 hT
  cases z0
  · go_enter Tryd.func112, Tryd.ntmps112
    go_wp2_with (go_at_call 31; obtain ⟨g0, g1, g2⟩ := HC.out _ rfl; refine (impl_IsName_any x0 _ HM0.out (HT.out _ g1)).mono ?_; rintro e w1 ⟨rfl, hb⟩; rw [HZ0.out]; have HB1 := Lib.hid (g1.trans (hb.mono g1.size)); have HA1 := Lib.hid (g0.below hb g2); have q1 : w1.cell? ⟨W.heap.size, 1, none⟩ = some (.slice A1 n1 c1) := HA1.out.cell 1; clear g0 g1 g2 hb)
    go_ret
    exact ⟨rfl, HB1.out⟩
  cases z1
  · go_enter Tryd.func112, Tryd.ntmps112
    go_wp2_with (first | (go_at_call 31; obtain ⟨g0, g1, g2⟩ := HC.out _ rfl; refine (impl_IsName_any x0 _ HM0.out (HT.out _ g1)).mono ?_; rintro e w1 ⟨rfl, hb⟩; rw [HZ0.out]; have HB1 := Lib.hid (g1.trans (hb.mono g1.size)); have HA1 := Lib.hid (g0.below hb g2); have q1 : w1.cell? ⟨W.heap.size, 1, none⟩ = some (.slice A1 n1 c1) := HA1.out.cell 1; clear g0 g1 g2 hb) | (go_at_call 98; refine (within_int n1 1 6 w1).mono ?_; rintro e w2 ⟨rfl, rfl⟩; rw [HZ1.out]))
    go_ret
    exact ⟨rfl, HB1.out⟩
  cases z2
  all_goals
    go_enter Tryd.func112, Tryd.ntmps112
    go_wp2_with (first | (go_at_call 31; obtain ⟨g0, g1, g2⟩ := HC.out _ rfl; refine (impl_IsName_any x0 _ HM0.out (HT.out _ g1)).mono ?_; rintro e w1 ⟨rfl, hb⟩; rw [HZ0.out]; have HB1 := Lib.hid (g1.trans (hb.mono g1.size)); have HA1 := Lib.hid (g0.below hb g2); have q1 : w1.cell? ⟨W.heap.size, 1, none⟩ = some (.slice A1 n1 c1) := HA1.out.cell 1; clear g0 g1 g2 hb) | (go_at_call 98; refine (within_int n1 1 6 w1).mono ?_; rintro e w2 ⟨rfl, rfl⟩; rw [HZ1.out]) | (go_at_call 106; refine (areDifferentNames_any A1 n1 c1 x1 w1 (HX.out.go HB1.out) h1 (HT.out _ HB1.out)).mono ?_; rintro e w3 ⟨rfl, hb⟩; rw [HZ2.out]; have HB3 := Lib.hid (HB1.out.trans (hb.mono HB1.out.size)); clear hb))
    go_ret
    exact ⟨rfl, HB3.out⟩

set_option maxHeartbeats 4000000 in
set_option maxRecDepth 100000 in
theorem elemFn_any (x : Fn) (l : FnLay) (W : World) (hv : FnV W W.heap.size x l) (hT : Classes W) :
    Calls Tryd.prog 103 #[x.ag l] W fun e w' => e = .returned (.bool (fnOk x)) ∧ Below W.heap.size W w' := by
  obtain ⟨x0, x1, x2, x3⟩ := x
  obtain ⟨A1, n1, c1, h1, A2, n2, c2, h2⟩ := l
  obtain ⟨hx1, hx2, hm0, hm3⟩ := hv
  dsimp only at hx1 hx2 hm0 hm3
  show Calls Tryd.prog 103 #[.agg #[.string x0, .slice A1 n1 c1, .slice A2 n2 c2, .string x3]] W _
  have HC := Lib.hid (one_newS W 81 #[.string x0, .slice A1 n1 c1, .slice A2 n2 c2, .string x3])
  have HT := Lib.hid (fun (w : World) (hb : Below W.heap.size W w) => classes_up hT hb)
  have HM0 := Lib.hid hm0
  have HM3 := Lib.hid hm3
  have HX1 := Lib.hid hx1
  have HX2 := Lib.hid hx2
  have S1 := Lib.hid (stI_sizes hx1)
  have S2 := Lib.hid (stI_sizes hx2)
  have hnn1 := hx1.2.1
  have hnn2 := hx2.2.1
  unfold maxLen at hnn1 hnn2
  unfold fnOk
  dsimp only
  obtain ⟨z0, hz0⟩ : ∃ z, isNameB x0 = z := ⟨_, rfl⟩
  obtain ⟨z3, hz3⟩ : ∃ z, isNameB x3 = z := ⟨_, rfl⟩
  obtain ⟨z1, hz1⟩ : ∃ z, decide (x1.length ≤ 6) = z := ⟨_, rfl⟩
  obtain ⟨z2, hz2⟩ : ∃ z, decide (x2.length ≤ 6) = z := ⟨_, rfl⟩
  obtain ⟨z4, hz4⟩ : ∃ z, tt (OkNames (x1 ++ x2)) = z := ⟨_, rfl⟩
  have d1 : decide ((n1 : Int) ≤ 6) = z1 := by
    rw [← hz1, hx1.1]
    exact decide_eq_decide.2 ⟨fun h => by omega, fun h => by omega⟩
  have d2 : decide ((n2 : Int) ≤ 6) = z2 := by
    rw [← hz2, hx2.1]
    exact decide_eq_decide.2 ⟨fun h => by omega, fun h => by omega⟩
  rw [hz0, hz3, hz1, hz2, hz4]
  have HZ0 := Lib.hid hz0
  have HZ3 := Lib.hid hz3
  have HZ4 := Lib.hid hz4
  have tk1 : True := trivial
  have tk2 : True := trivial
  clear hz0 hz3 hz1 hz2 hz4 hx1 hx2 hm0 hm3 hT
  cases z0
  · go_enter Tryd.func103, Tryd.ntmps103
    go_wp2_with (go_at_call 31; have tk := tk1; obtain ⟨g0, g1, g2⟩ := HC.out _ rfl; refine (impl_IsName_any x0 _ HM0.out (HT.out _ g1)).mono ?_; rintro e w1 ⟨rfl, hb⟩; rw [HZ0.out]; have HB1 := Lib.hid (g1.trans (hb.mono g1.size)); have HA1 := Lib.hid (g0.below hb g2); have q3 : w1.cell? ⟨W.heap.size, 3, none⟩ = some (.string x3) := HA1.out.cell 3; clear g0 g1 g2 hb tk tk1)
    go_ret
    exact ⟨rfl, HB1.out⟩
  cases z3
  · go_enter Tryd.func103, Tryd.ntmps103
    go_wp2_with (first | (go_at_call 31; have tk := tk1; obtain ⟨g0, g1, g2⟩ := HC.out _ rfl; refine (impl_IsName_any x0 _ HM0.out (HT.out _ g1)).mono ?_; rintro e w1 ⟨rfl, hb⟩; rw [HZ0.out]; have HB1 := Lib.hid (g1.trans (hb.mono g1.size)); have HA1 := Lib.hid (g0.below hb g2); have q3 : w1.cell? ⟨W.heap.size, 3, none⟩ = some (.string x3) := HA1.out.cell 3; clear g0 g1 g2 hb tk tk1) | (go_at_call 31; have tk := tk2; refine (impl_IsName_any x3 w1 HM3.out (HT.out _ HB1.out)).mono ?_; rintro e w2 ⟨rfl, hb⟩; rw [HZ3.out]; have HB2 := Lib.hid (HB1.out.trans (hb.mono HB1.out.size)); have HA2 := Lib.hid (HA1.out.below hb HA1.out.lt); have p1 : w2.cell? ⟨W.heap.size, 1, none⟩ = some (.slice A1 n1 c1) := HA2.out.cell 1; have p2 : w2.cell? ⟨W.heap.size, 2, none⟩ = some (.slice A2 n2 c2) := HA2.out.cell 2; clear hb q3 tk tk2))
    go_ret
    exact ⟨rfl, HB2.out⟩
  cases z1
  · go_enter Tryd.func103, Tryd.ntmps103
    go_wp2_with (first | (go_at_call 31; have tk := tk1; obtain ⟨g0, g1, g2⟩ := HC.out _ rfl; refine (impl_IsName_any x0 _ HM0.out (HT.out _ g1)).mono ?_; rintro e w1 ⟨rfl, hb⟩; rw [HZ0.out]; have HB1 := Lib.hid (g1.trans (hb.mono g1.size)); have HA1 := Lib.hid (g0.below hb g2); have q3 : w1.cell? ⟨W.heap.size, 3, none⟩ = some (.string x3) := HA1.out.cell 3; clear g0 g1 g2 hb tk tk1) | (go_at_call 31; have tk := tk2; refine (impl_IsName_any x3 w1 HM3.out (HT.out _ HB1.out)).mono ?_; rintro e w2 ⟨rfl, hb⟩; rw [HZ3.out]; have HB2 := Lib.hid (HB1.out.trans (hb.mono HB1.out.size)); have HA2 := Lib.hid (HA1.out.below hb HA1.out.lt); have p1 : w2.cell? ⟨W.heap.size, 1, none⟩ = some (.slice A1 n1 c1) := HA2.out.cell 1; have p2 : w2.cell? ⟨W.heap.size, 2, none⟩ = some (.slice A2 n2 c2) := HA2.out.cell 2; clear hb q3 tk tk2))
    go_ret
    exact ⟨rfl, HB2.out⟩
  cases z2
  · go_enter Tryd.func103, Tryd.ntmps103
    go_wp2_with (first | (go_at_call 31; have tk := tk1; obtain ⟨g0, g1, g2⟩ := HC.out _ rfl; refine (impl_IsName_any x0 _ HM0.out (HT.out _ g1)).mono ?_; rintro e w1 ⟨rfl, hb⟩; rw [HZ0.out]; have HB1 := Lib.hid (g1.trans (hb.mono g1.size)); have HA1 := Lib.hid (g0.below hb g2); have q3 : w1.cell? ⟨W.heap.size, 3, none⟩ = some (.string x3) := HA1.out.cell 3; clear g0 g1 g2 hb tk tk1) | (go_at_call 31; have tk := tk2; refine (impl_IsName_any x3 w1 HM3.out (HT.out _ HB1.out)).mono ?_; rintro e w2 ⟨rfl, hb⟩; rw [HZ3.out]; have HB2 := Lib.hid (HB1.out.trans (hb.mono HB1.out.size)); have HA2 := Lib.hid (HA1.out.below hb HA1.out.lt); have p1 : w2.cell? ⟨W.heap.size, 1, none⟩ = some (.slice A1 n1 c1) := HA2.out.cell 1; have p2 : w2.cell? ⟨W.heap.size, 2, none⟩ = some (.slice A2 n2 c2) := HA2.out.cell 2; clear hb q3 tk tk2))
    go_ret
    exact ⟨rfl, HB2.out⟩
  have L1 : Hid (n1 ≤ 1000) := by have := of_decide_eq_true d1; show _ ≤ _; omega
  have L2 : Hid (n2 ≤ 1000) := by have := of_decide_eq_true d2; show _ ≤ _; omega
  cases z4
  all_goals
    go_enter Tryd.func103, Tryd.ntmps103
    go_wp2_with (first | (go_at_call 31; have tk := tk1; obtain ⟨g0, g1, g2⟩ := HC.out _ rfl; refine (impl_IsName_any x0 _ HM0.out (HT.out _ g1)).mono ?_; rintro e w1 ⟨rfl, hb⟩; rw [HZ0.out]; have HB1 := Lib.hid (g1.trans (hb.mono g1.size)); have HA1 := Lib.hid (g0.below hb g2); have q3 : w1.cell? ⟨W.heap.size, 3, none⟩ = some (.string x3) := HA1.out.cell 3; clear g0 g1 g2 hb tk tk1) | (go_at_call 31; have tk := tk2; refine (impl_IsName_any x3 w1 HM3.out (HT.out _ HB1.out)).mono ?_; rintro e w2 ⟨rfl, hb⟩; rw [HZ3.out]; have HB2 := Lib.hid (HB1.out.trans (hb.mono HB1.out.size)); have HA2 := Lib.hid (HA1.out.below hb HA1.out.lt); have p1 : w2.cell? ⟨W.heap.size, 1, none⟩ = some (.slice A1 n1 c1) := HA2.out.cell 1; have p2 : w2.cell? ⟨W.heap.size, 2, none⟩ = some (.slice A2 n2 c2) := HA2.out.cell 2; clear hb q3 tk tk2) | (go_at_call 107; have HN := Lib.hid (RW.new w2 #[.slice A1 n1 c1, .slice A2 n2 c2] 41); have HQ := concatS_any w2.heap.size A1 A2 n1 c1 n2 c2 x1 x2 (w2.alloc (.cells #[.slice A1 n1 c1, .slice A2 n2 c2] 41)) (lt_alloc _ _) (HN.out.cell 0) (HN.out.cell 1) ((HX1.out.go HB2.out).alloc _) ((HX2.out.go HB2.out).alloc _) L1.out L2.out S1.out S2.out; refine Calls.mono HQ ?_; clear HQ; rintro e w3 ⟨A9, c9, rfl, h⟩; have HCC := h; have HB3 : Hid (Below W.heap.size W w3) := HB2.out.trans (((below_alloc w2 _).trans (h.out.2.2.mono (by simp))).mono HB2.out.size); clear h HN p1 p2) | (go_at_call 106; have HQ := areDifferentNames_any A9 (n1 + n2) c9 (x1 ++ x2) w3 HCC.out.2.1 HCC.out.1 (HT.out _ HB3.out); refine Calls.mono HQ ?_; clear HQ; rintro e w4 ⟨rfl, hb⟩; rw [HZ4.out]; have HB4 := Lib.hid (HB3.out.trans (hb.mono HB3.out.size)); clear hb))
    go_ret
    exact ⟨rfl, HB4.out⟩
end Go.Proofs.YtflhjcdabbomiaaDoor

namespace Go.Proofs.YtflhjcdabbomiaaDoor
open Go Go.RowKit

theorem eqValue_same (k n : Int) (t : ByteArray) (r : Int) (W : World) :
    Calls Tryd.prog 9 #[.agg #[.int .i64 k, .int .i64 n, .string t, .int .i64 r], .agg #[.int .i64 k, .int .i64 n, .string t, .int .i64 r]] W fun e w' => e = .returned (.bool true) ∧ Below W.heap.size W w' := by
  go_enter Tryd.func9, Tryd.ntmps9
  go_wp2
  all_goals go_ret
  all_goals exact ⟨rfl, by repeat (first | exact Below.refl _ _ | refine Below.alloc ?_ (by first | (simp; done) | (simp; omega)) _)⟩
end Go.Proofs.YtflhjcdabbomiaaDoor

namespace Go.Proofs.YtflhjcdabbomiaaDoor
open Go Go.RowKit

set_option maxRecDepth 100000 in
theorem eqBinding_same (x : Bd) (W : World) :
    Calls Tryd.prog 37 #[x.ag, x.ag] W fun e w' => e = .returned (.bool true) ∧ Below W.heap.size W w' := by
  obtain ⟨x0, x1, x2, x3, x4⟩ := x
  show Calls Tryd.prog 37 #[.agg #[.string x0, .int .i64 x1, .int .i64 x2, .string x3, .int .i64 x4], .agg #[.string x0, .int .i64 x1, .int .i64 x2, .string x3, .int .i64 x4]] W _
  have HC := Lib.hid (two_new W 63 #[.string x0, .int .i64 x1, .int .i64 x2, .string x3, .int .i64 x4] #[.string x0, .int .i64 x1, .int .i64 x2, .string x3, .int .i64 x4])
  go_enter Tryd.func37, Tryd.ntmps37
  go_wp2_with (go_at_call 9; obtain ⟨_, _, g2, _⟩ := HC.out _ rfl; refine (eqValue_same _ _ _ _ _).mono ?_; rintro e w1 ⟨rfl, hb⟩; have HB1 := Lib.hid (g2.trans (hb.mono g2.size)); clear g2 hb)
  all_goals go_ret
  all_goals exact ⟨rfl, HB1.out⟩

/-- Two of them in two blocks. -/
abbrev TwoBd (w : World) (b b' o o' : Nat) (x0 : ByteArray) (x1 : Int) (x2 : Int) (x3 : ByteArray) (x4 : Int) (y0 : ByteArray) (y1 : Int) (y2 : Int) (y3 : ByteArray) (y4 : Int) : Prop :=
  (w.cell? ⟨b, o, none⟩ = some (.string x0) ∧ w.cell? ⟨b, o + 1, none⟩ = some (.int .i64 x1) ∧ w.cell? ⟨b, o + 2, none⟩ = some (.int .i64 x2) ∧ w.cell? ⟨b, o + 3, none⟩ = some (.string x3) ∧ w.cell? ⟨b, o + 4, none⟩ = some (.int .i64 x4)) ∧ (w.cell? ⟨b', o', none⟩ = some (.string y0) ∧ w.cell? ⟨b', o' + 1, none⟩ = some (.int .i64 y1) ∧ w.cell? ⟨b', o' + 2, none⟩ = some (.int .i64 y2) ∧ w.cell? ⟨b', o' + 3, none⟩ = some (.string y3) ∧ w.cell? ⟨b', o' + 4, none⟩ = some (.int .i64 y4))
theorem twoBd_keep {wr wx w1 : World} {b b' o o' : Nat} {x0 : ByteArray} {x1 : Int} {x2 : Int} {x3 : ByteArray} {x4 : Int} {y0 : ByteArray} {y1 : Int} {y2 : Int} {y3 : ByteArray} {y4 : Int} (hg : b < wr.heap.size) (hg' : b' < wr.heap.size) (h : TwoBd wx b b' o o' x0 x1 x2 x3 x4 y0 y1 y2 y3 y4 ∧ Below wr.heap.size wr wx) (hb : Below wx.heap.size wx w1) :
    TwoBd w1 b b' o o' x0 x1 x2 x3 x4 y0 y1 y2 y3 y4 ∧ Below wr.heap.size wr w1 := by
  have l := Nat.lt_of_lt_of_le hg h.2.size
  have l' := Nat.lt_of_lt_of_le hg' h.2.size
  have a := BdAt.below (x := ⟨x0, x1, x2, x3, x4⟩) h.1.1 hb l
  have b := BdAt.below (x := ⟨y0, y1, y2, y3, y4⟩) h.1.2 hb l'
  exact ⟨⟨a, b⟩, h.2.trans (hb.mono h.2.size)⟩

set_option maxHeartbeats 1000000 in
set_option maxRecDepth 100000 in
theorem eqBindingS_same (A A' : Option Addr) (n c c' : Nat) (xs : List Bd) (W : World) (ha : BdI W W.heap.size A n xs) (hb : BdI W W.heap.size A' n xs) :
    Calls Tryd.prog 15 #[.slice A n c, .slice A' n c'] W fun e w' => e = .returned (.bool true) ∧ Below W.heap.size W w' := by
  have HA := Lib.hid ha
  have HB := Lib.hid hb
  have hn := ha.2.1
  unfold maxLen at hn
  clear ha hb
  go_enter Tryd.func15, Tryd.ntmps15
  go_wp2
  go_loopw [5] (fun i wr => ∃ k : Nat, k ≤ n ∧ i = .int .i64 k ∧ Hid (Below W.heap.size W wr)) (fun i _ => n - (intOf i).toNat)
  case atStart => exact ⟨0, Nat.zero_le _, rfl, Below.refl _ _⟩
  case round =>
    obtain ⟨k, hk, rfl, HW⟩ := hrel
    by_cases hlt : k < n
    · obtain ⟨b, off, x, rfl, hg, hx, h1, _⟩ := HA.out.at_ hlt
      obtain ⟨b', off', x', rfl, hg', hx', h2, _⟩ := HB.out.at_ hlt
      obtain rfl : x = x' := Option.some.inj (hx.symm.trans hx')
      obtain ⟨p0, p1, p2, p3, p4⟩ := h1.below HW.out hg
      obtain ⟨q0, q1, q2, q3, q4⟩ := h2.below HW.out hg'
      obtain ⟨x0, x1, x2, x3, x4⟩ := x
      dsimp only at p0 p1 p2 p3 p4 q0 q1 q2 q3 q4
      have b0 : (0 : Int) ≤ (k : Int) := by omega
      have b1 : (k : Int) < (n : Int) := by omega
      clear h1 h2 hx hx'
      have HG : Hid (b < wr.heap.size) := Nat.lt_of_lt_of_le hg HW.out.size
      have HG' : Hid (b' < wr.heap.size) := Nat.lt_of_lt_of_le hg' HW.out.size
      clear hg hg'
      go_wp2_with fail
      go_region_held3 (fun w' => TwoBd w' b b' (off + k * 5) (off' + k * 5) x0 x1 x2 x3 x4 x0 x1 x2 x3 x4 ∧ Below wr.heap.size wr w')
        (first | (exact ⟨⟨⟨p0, p1, p2, p3, p4⟩, ⟨q0, q1, q2, q3, q4⟩⟩, (Below.refl _ _).drew⟩) | (go_split_ands; exact twoBd_keep HG.out HG'.out ⟨⟨⟨by assumption, by assumption, by assumption, by assumption, by assumption⟩, ⟨by assumption, by assumption, by assumption, by assumption, by assumption⟩⟩, by assumption⟩ hb) | go_keep)
        ((go_at_call 37; refine (eqBinding_same ⟨x0, x1, x2, x3, x4⟩ _).mono ?_; rintro e w1 ⟨rfl, hb⟩))
      go_wp2_with fail
      go_split_ands
      go_roundw
      case rel => exact ⟨k + 1, by omega, by go_num, HW.out.trans (Below.mono (by assumption) HW.out.size)⟩
      case measure => simp [intOf]; omega
    · go_wp2_with fail
      go_ret
      exact ⟨rfl, HW.out⟩
end Go.Proofs.YtflhjcdabbomiaaDoor

namespace Go.Proofs.YtflhjcdabbomiaaDoor
open Go Go.RowKit

/-- What toFunction answers. -/
def ToFn (x : Fn) (W : World) (e : Ending) (w' : World) : Prop := ∃ l, e = .returned (x.ag l) ∧ Hid (FnV w' w'.heap.size x l ∧ Below W.heap.size W w' ∧ l.n1 = x.params_.length ∧ l.n2 = x.locals_.length ∧ ∃ b1 b2, l.A1 = some ⟨b1, 0, none⟩ ∧ l.A2 = some ⟨b2, 0, none⟩ ∧ W.heap.size ≤ b1 ∧ W.heap.size ≤ b2)

set_option maxHeartbeats 2000000 in
set_option maxRecDepth 100000 in
theorem toFunction_any (x : Fn) (l : FnLay) (W : World) (ho : FnV W W.heap.size x l) (hsm : FnSmall x) :
    Calls Tryd.prog 51 #[x.ag l] W (ToFn x W) := by
  obtain ⟨x0, x1, x2, x3⟩ := x
  obtain ⟨A1, n1, c1, h1, A2, n2, c2, h2⟩ := l
  obtain ⟨k1, k2, k0, k3⟩ := ho
  obtain ⟨s1, s2⟩ := hsm
  try unfold FnV at k1 k2 k0 k3
  try unfold FnSmall at s1 s2
  dsimp only at k1 k2 k0 k3 s1 s2
  rw [k1.1] at s1
  have HK1 := Lib.hid k1
  have HS1 := Lib.hid s1
  rw [k2.1] at s2
  have HK2 := Lib.hid k2
  have HS2 := Lib.hid s2
  have HT0 := Lib.hid k0
  have HT3 := Lib.hid k3
  clear k1 k2 k0 k3 s1 s2
  have HC := Lib.hid (fun (X Y : World) (T T' : TypeId) (c c' : Array Value) (eY : Y = W.alloc (.cells #[.string x0, .slice A1 n1 c1, .slice A2 n2 c2, .string x3] T)) (eX : X = (Y.alloc (.cells c T')).alloc (.cells c' T')) =>
    (show RW T X W.heap.size #[.string x0, .slice A1 n1 c1, .slice A2 n2 c2, .string x3] ∧ RW T' X (W.heap.size + 1 + 1) c' ∧ RW T' X (W.heap.size + 1) c ∧ Below W.heap.size W X ∧ X.heap.size = W.heap.size + 3 from by
      subst eX; subst eY
      refine ⟨((RW.new W _ T).alloc _).alloc _, ?_, ?_, ((below_alloc _ _).alloc (by simp) _).alloc (by simp; omega) _, by simp⟩
      · have := RW.new ((W.alloc (.cells #[.string x0, .slice A1 n1 c1, .slice A2 n2 c2, .string x3] T)).alloc (.cells c T')) c' T'
        simpa using this
      · have := (RW.new (W.alloc (.cells #[.string x0, .slice A1 n1 c1, .slice A2 n2 c2, .string x3] T)) c T').alloc (.cells c' T')
        simpa using this))
  show Calls Tryd.prog 51 #[.agg #[.string x0, .slice A1 n1 c1, .slice A2 n2 c2, .string x3]] W _
  go_enter Tryd.func51, Tryd.ntmps51
  go_wp2_with (go_at_call 13; obtain ⟨g0, g1, g4, g2, g3⟩ := HC.out _ _ _ _ _ _ rfl rfl; have HQ := toStringS_any A1 n1 c1 x1 _ (HK1.out.go g2) HS1.out; refine Calls.mono HQ ?_; clear HQ; rintro e w1 ⟨rfl, h⟩; obtain ⟨hv, hb⟩ := h.out; have hd := hv.det; rw [g3] at hv hd; have HA1 := Lib.hid (g0.below hb (by omega)); have HR1 := Lib.hid (g1.below hb (by omega)); have HO1 := Lib.hid (g4.below hb (by omega)); have HB1 := Lib.hid (g2.trans (hb.mono g2.size)); have HV1_1 : Hid (Det (W.heap.size + 1 + 1 + 1) w1.heap.size w1 fun w => StI w w1.heap.size (some ⟨W.heap.size + 1 + 1 + 1, 0, none⟩) n1 x1) := hd; have HG1 : Hid (W.heap.size + 3 ≤ w1.heap.size) := (by have := hb.size; show _ ≤ _; omega); clear g0 g1 g2 g3 g4 h hv hd hb HK1; have q12 : w1.cell? ⟨W.heap.size, 2, none⟩ = some (.slice A2 n2 c2) := HA1.out.cell 2; have p11 : w1.cell? ⟨W.heap.size + 1 + 1, 1, none⟩ = some (.slice none 0 0) := HR1.out.cell 1; have f11 := HR1.out.frozen 1)
  go_wp2_with (go_at_call 13; have hbs : Below (W.heap.size + 2) w1 (w1.setCell ⟨W.heap.size + 1 + 1, 1, none⟩ (.slice (some ⟨W.heap.size + 1 + 1 + 1, 0, none⟩) n1 n1)) := below_set w1 (p := ⟨W.heap.size + 1 + 1, 1, none⟩) (B := W.heap.size + 2) (Nat.le_refl _) (.slice (some ⟨W.heap.size + 1 + 1 + 1, 0, none⟩) n1 n1); have hzz : (w1.setCell ⟨W.heap.size + 1 + 1, 1, none⟩ (.slice (some ⟨W.heap.size + 1 + 1 + 1, 0, none⟩) n1 n1)).heap.size = w1.heap.size := (by simp [World.setCell]); have HQ := toStringS_any A2 n2 c2 x2 (w1.setCell ⟨W.heap.size + 1 + 1, 1, none⟩ (.slice (some ⟨W.heap.size + 1 + 1 + 1, 0, none⟩) n1 n1)) (HK2.out.go (HB1.out.trans (hbs.mono (by omega)))) HS2.out; refine Calls.mono HQ ?_; clear HQ; rintro e w2 ⟨rfl, h⟩; obtain ⟨hv, hb⟩ := h.out; have hd := hv.det; rw [hzz] at hb hv hd; have hsz := hb.size; rw [hzz] at hsz; have hs1 := HG1.out; have HA2 := Lib.hid ((HA1.out.below hbs (by omega)).below hb (by omega)); have HR2 := Lib.hid (((HR1.out).set_ 1 (.slice (some ⟨W.heap.size + 1 + 1 + 1, 0, none⟩) n1 n1)).below hb (by omega)); have HO2 := Lib.hid ((HO1.out.below hbs (by omega)).below hb (by omega)); have HB2 := Lib.hid ((HB1.out.trans (hbs.mono (by omega))).trans (hb.mono (by omega))); have HG2 : Hid (W.heap.size + 3 ≤ w2.heap.size) := (Nat.le_trans hs1 hsz); have HV2_2 : Hid (Det (w1.heap.size) w2.heap.size w2 fun w => StI w w2.heap.size (some ⟨w1.heap.size, 0, none⟩) n2 x2) := hd; have HZ2 : Hid (w1.heap.size ≠ W.heap.size + 1 + 1) := (by show _ ≠ _; omega); have HV2_1 := Lib.hid (((((HV1_1.out).set (p := ⟨W.heap.size + 1 + 1, 1, none⟩) (by have := HG1.out; dsimp only; omega) (.slice (some ⟨W.heap.size + 1 + 1 + 1, 0, none⟩) n1 n1)).below hb (by omega)).wide (Nat.le_refl _) hsz).imp fun w h => h.more hsz); clear hbs hzz hb hv hd h hsz hs1 HK2; have q23 : w2.cell? ⟨W.heap.size, 3, none⟩ = some (.string x3) := HA2.out.cell 3; have p22 : w2.cell? ⟨W.heap.size + 1 + 1, 2, none⟩ = some (.slice none 0 0) := HR2.out.cell 2; have f22 := HR2.out.frozen 2; have p23 : w2.cell? ⟨W.heap.size + 1 + 1, 3, none⟩ = some (.string ⟨#[]⟩) := HR2.out.cell 3; have f23 := HR2.out.frozen 3; have p20 : w2.cell? ⟨W.heap.size + 1 + 1, 0, none⟩ = some (.string x0) := HR2.out.cell 0; have p21 : w2.cell? ⟨W.heap.size + 1 + 1, 1, none⟩ = some (.slice (some ⟨W.heap.size + 1 + 1 + 1, 0, none⟩) n1 n1) := HR2.out.cell 1; have r0 : w2.cell? ⟨W.heap.size + 1, 0, none⟩ = some (.string ⟨#[]⟩) := HO2.out.cell 0; have z0 := HO2.out.frozen 0; have r1 : w2.cell? ⟨W.heap.size + 1, 1, none⟩ = some (.slice none 0 0) := HO2.out.cell 1; have z1 := HO2.out.frozen 1; have r2 : w2.cell? ⟨W.heap.size + 1, 2, none⟩ = some (.slice none 0 0) := HO2.out.cell 2; have z2 := HO2.out.frozen 2; have r3 : w2.cell? ⟨W.heap.size + 1, 3, none⟩ = some (.string ⟨#[]⟩) := HO2.out.cell 3; have z3 := HO2.out.frozen 3)
  have hs1 := HG2.out
  have hb1 : Below (W.heap.size + 1) w2 ((((((w2.setCell ⟨W.heap.size + 1 + 1, 2, none⟩ (.slice (some ⟨w1.heap.size, 0, none⟩) n2 n2)).setCell ⟨W.heap.size + 1 + 1, 3, none⟩ (.string x3)).setCell ⟨W.heap.size + 1, 0, none⟩ (.string x0)).setCell ⟨W.heap.size + 1, 1, none⟩ (.slice (some ⟨W.heap.size + 1 + 1 + 1, 0, none⟩) n1 n1)).setCell ⟨W.heap.size + 1, 2, none⟩ (.slice (some ⟨w1.heap.size, 0, none⟩) n2 n2)).setCell ⟨W.heap.size + 1, 3, none⟩ (.string x3)) := ((((((below_set w2 (p := ⟨W.heap.size + 1 + 1, 2, none⟩) (by simp) _).setCell (by simp) _).setCell (by simp) _).setCell (by simp) _).setCell (by simp) _).setCell (by simp) _)
  have hzz : ((((((w2.setCell ⟨W.heap.size + 1 + 1, 2, none⟩ (.slice (some ⟨w1.heap.size, 0, none⟩) n2 n2)).setCell ⟨W.heap.size + 1 + 1, 3, none⟩ (.string x3)).setCell ⟨W.heap.size + 1, 0, none⟩ (.string x0)).setCell ⟨W.heap.size + 1, 1, none⟩ (.slice (some ⟨W.heap.size + 1 + 1 + 1, 0, none⟩) n1 n1)).setCell ⟨W.heap.size + 1, 2, none⟩ (.slice (some ⟨w1.heap.size, 0, none⟩) n2 n2)).setCell ⟨W.heap.size + 1, 3, none⟩ (.string x3)).heap.size = w2.heap.size := by simp [World.setCell]
  refine bodyPost_ret (v := .agg #[.string x0, .slice (some ⟨W.heap.size + 1 + 1 + 1, 0, none⟩) n1 n1, .slice (some ⟨w1.heap.size, 0, none⟩) n2 n2, .string x3]) (results_cell_row Tryd.results51 _ _ (W.heap.size + 1) 81 _ (0, 0) _ rfl ((((((((((((HO2.out).other (p := ⟨W.heap.size + 1 + 1, 2, none⟩) (by simp) (.slice (some ⟨w1.heap.size, 0, none⟩) n2 n2))).other (p := ⟨W.heap.size + 1 + 1, 3, none⟩) (by simp) (.string x3))).set_ 0 (.string x0))).set_ 1 (.slice (some ⟨W.heap.size + 1 + 1 + 1, 0, none⟩) n1 n1))).set_ 2 (.slice (some ⟨w1.heap.size, 0, none⟩) n2 n2))).set_ 3 (.string x3)) Tryd.underlying81 rfl (by kernel_rfl)) rfl ⟨⟨some ⟨W.heap.size + 1 + 1 + 1, 0, none⟩, n1, n1, Nat.le_refl _, some ⟨w1.heap.size, 0, none⟩, n2, n2, Nat.le_refl _⟩, rfl, Lib.hid ⟨?_, HB2.out.trans (hb1.mono (by omega)), HV2_1.out.self.1.symm, HV2_2.out.self.1.symm, _, _, rfl, rfl, by omega, by have := HG1.out; have := HG2.out; omega⟩⟩
  show FnV ((((((w2.setCell ⟨W.heap.size + 1 + 1, 2, none⟩ (.slice (some ⟨w1.heap.size, 0, none⟩) n2 n2)).setCell ⟨W.heap.size + 1 + 1, 3, none⟩ (.string x3)).setCell ⟨W.heap.size + 1, 0, none⟩ (.string x0)).setCell ⟨W.heap.size + 1, 1, none⟩ (.slice (some ⟨W.heap.size + 1 + 1 + 1, 0, none⟩) n1 n1)).setCell ⟨W.heap.size + 1, 2, none⟩ (.slice (some ⟨w1.heap.size, 0, none⟩) n2 n2)).setCell ⟨W.heap.size + 1, 3, none⟩ (.string x3)) ((((((w2.setCell ⟨W.heap.size + 1 + 1, 2, none⟩ (.slice (some ⟨w1.heap.size, 0, none⟩) n2 n2)).setCell ⟨W.heap.size + 1 + 1, 3, none⟩ (.string x3)).setCell ⟨W.heap.size + 1, 0, none⟩ (.string x0)).setCell ⟨W.heap.size + 1, 1, none⟩ (.slice (some ⟨W.heap.size + 1 + 1 + 1, 0, none⟩) n1 n1)).setCell ⟨W.heap.size + 1, 2, none⟩ (.slice (some ⟨w1.heap.size, 0, none⟩) n2 n2)).setCell ⟨W.heap.size + 1, 3, none⟩ (.string x3)).heap.size ⟨x0, x1, x2, x3⟩ ⟨some ⟨W.heap.size + 1 + 1 + 1, 0, none⟩, n1, n1, Nat.le_refl _, some ⟨w1.heap.size, 0, none⟩, n2, n2, Nat.le_refl _⟩
  rw [hzz]
  exact ⟨((((((((((((HV2_1.out).set (p := ⟨W.heap.size + 1 + 1, 2, none⟩) (by first | (dsimp only; omega) | omega) _)).set (p := ⟨W.heap.size + 1 + 1, 3, none⟩) (by first | (dsimp only; omega) | omega) _)).set (p := ⟨W.heap.size + 1, 0, none⟩) (by first | (dsimp only; omega) | omega) _)).set (p := ⟨W.heap.size + 1, 1, none⟩) (by first | (dsimp only; omega) | omega) _)).set (p := ⟨W.heap.size + 1, 2, none⟩) (by first | (dsimp only; omega) | omega) _)).set (p := ⟨W.heap.size + 1, 3, none⟩) (by first | (dsimp only; omega) | omega) _).self, ((((((((((((HV2_2.out).set (p := ⟨W.heap.size + 1 + 1, 2, none⟩) (by have := HG1.out; first | (dsimp only; omega) | omega) _)).set (p := ⟨W.heap.size + 1 + 1, 3, none⟩) (by have := HG1.out; first | (dsimp only; omega) | omega) _)).set (p := ⟨W.heap.size + 1, 0, none⟩) (by have := HG1.out; first | (dsimp only; omega) | omega) _)).set (p := ⟨W.heap.size + 1, 1, none⟩) (by have := HG1.out; first | (dsimp only; omega) | omega) _)).set (p := ⟨W.heap.size + 1, 2, none⟩) (by have := HG1.out; first | (dsimp only; omega) | omega) _)).set (p := ⟨W.heap.size + 1, 3, none⟩) (by have := HG1.out; first | (dsimp only; omega) | omega) _).self, HT0.out, HT3.out⟩

/-- The elements of block g ahead of j are filled; their lists lie elsewhere. -/
def FilledFn (w : World) (g j n : Nat) (xs : List Fn) : Prop :=
  ∃ cs, RW 81 w g cs ∧ n * 4 ≤ cs.size ∧ ∀ (i : Nat) (x : Fn), i < j → xs[i]? = some x → ∃ l b1 b2, l.A1 = some ⟨b1, 0, none⟩ ∧ l.A2 = some ⟨b2, 0, none⟩ ∧ g < b1 ∧ g < b2 ∧ FnV w w.heap.size x l ∧ ∀ (q : Nat) (v : Value), (x.vs l)[q]? = some v → cs[i * 4 + q]? = some v
theorem FilledFn.below {w w' : World} {g j n : Nat} {xs : List Fn} (h : FilledFn w g j n xs) (hb : Below w.heap.size w w') : FilledFn w' g j n xs := by
  obtain ⟨cs, hr, hn, hm⟩ := h
  refine ⟨cs, hr.below hb hr.lt, hn, fun i x hi hx => ?_⟩
  obtain ⟨l, b1, b2, h1, h2, u1, u2, h5, h6⟩ := hm i x hi hx
  exact ⟨l, b1, b2, h1, h2, u1, u2, (h5.below hb).more hb.size, h6⟩
theorem FnV.others {w : World} {B g o : Nat} {x : Fn} {l : FnLay} {b1 b2 : Nat} (h : FnV w B x l) (h1 : l.A1 = some ⟨b1, 0, none⟩) (h2 : l.A2 = some ⟨b2, 0, none⟩) (u1 : b1 ≠ g) (u2 : b2 ≠ g) (vs : List Value) : FnV (w.setCells g o vs) B x l := by
  obtain ⟨a0, a1, a2, a3⟩ := h
  try unfold FnV at a0 a1 a2 a3 ⊢
  rw [h1] at a0
  rw [h2] at a1
  refine ⟨?_, ?_, a2, a3⟩
  · rw [h1]; exact a0.others u1
  · rw [h2]; exact a1.others u2
theorem size_setsFn (vs : List Value) (w : World) (g k : Nat) : (w.setCells g k vs).heap.size = w.heap.size := by
  induction vs generalizing w k with
  | nil => rfl
  | cons v r ih => exact (ih _ _).trans (size_set _ _ _)
theorem FilledFn.store {w : World} {g j n : Nat} {xs : List Fn} {x : Fn} {l : FnLay} {b1 b2 : Nat} (h : FilledFn w g j n xs) (hx : xs[j]? = some x) (hj : j < n) (h1 : l.A1 = some ⟨b1, 0, none⟩) (h2 : l.A2 = some ⟨b2, 0, none⟩) (u1 : g < b1) (u2 : g < b2) (h5 : FnV w w.heap.size x l) :
    FilledFn (w.setCells g (j * 4) (x.vs l)) g (j + 1) n xs := by
  obtain ⟨cs, hr, hn, hm⟩ := h
  have hs : (w.setCells g (j * 4) (x.vs l)).heap.size = w.heap.size := size_setsFn _ _ _ _
  have hlK : (x.vs l).length = 4 := rfl
  refine ⟨_, hr.cells, by rw [putL_size]; exact hn, fun i y hi hy => ?_⟩
  by_cases e : i = j
  · subst e
    rw [hx, Option.some.injEq] at hy
    subst hy
    refine ⟨l, b1, b2, h1, h2, u1, u2, ?_, fun q v hq => putL_new _ _ _ _ _ (by rw [hlK]; omega) hq⟩
    rw [hs]
    exact h5.others h1 h2 (by omega) (by omega) _
  · obtain ⟨l', b1', b2', j1, j2, v1, v2, k5, k6⟩ := hm i y (by omega) hy
    refine ⟨l', b1', b2', j1, j2, v1, v2, ?_, fun q v hq => ?_⟩
    · rw [hs]
      exact k5.others j1 j2 (by omega) (by omega) _
    · have hqK : q < 4 := (List.getElem?_eq_some_iff.1 hq).1
      rw [putL_old _ _ _ _ (by omega)]
      exact k6 q v hq
theorem FilledFn.all {w : World} {g n : Nat} {xs : List Fn} (h : FilledFn w g n n xs) (hl : xs.length = n) (hn : n ≤ maxLen) : FnI w w.heap.size (some ⟨g, 0, none⟩) n xs := by
  obtain ⟨cs, hr, hc, hm⟩ := h
  refine ⟨hl, hn, fun _ => ⟨g, 0, rfl, hr.lt, fun j x hx => ?_⟩⟩
  obtain ⟨l, _, _, _, _, _, _, h5, h6⟩ := hm j x (by rw [← hl]; exact (List.getElem?_eq_some_iff.1 hx).1) hx
  rw [Nat.zero_add]
  have k : ∀ q v, (x.vs l)[q]? = some v → w.cell? ⟨g, j * 4 + q, none⟩ = some v := fun q v hq => (hr.cell _).trans (h6 q v hq)
  exact ⟨l, ⟨k 0 _ rfl, k 1 _ rfl, k 2 _ rfl, k 3 _ rfl⟩, h5⟩
theorem FilledFn.det {w : World} {g n : Nat} {xs : List Fn} (h : FilledFn w g n n xs) (hl : xs.length = n) (hn : n ≤ maxLen) : Det g w.heap.size w fun w' => FnI w' w.heap.size (some ⟨g, 0, none⟩) n xs := by
  intro w' hk
  obtain ⟨cs, hr, hc, hm⟩ := h
  have hr' : RW 81 w' g cs := (hk g (Nat.le_refl _) hr.lt).trans hr
  refine ⟨hl, hn, fun _ => ⟨g, 0, rfl, hr.lt, fun j x hx => ?_⟩⟩
  obtain ⟨l, b1, b2, h1, h2, u1, u2, h5, h6⟩ := hm j x (by rw [← hl]; exact (List.getElem?_eq_some_iff.1 hx).1) hx
  rw [Nat.zero_add]
  have k : ∀ q v, (x.vs l)[q]? = some v → w'.cell? ⟨g, j * 4 + q, none⟩ = some v := fun q v hq => (hr'.cell _).trans (h6 q v hq)
  refine ⟨l, ⟨k 0 _ rfl, k 1 _ rfl, k 2 _ rfl, k 3 _ rfl⟩, ?_⟩
  obtain ⟨a0, a1, a2, a3⟩ := h5
  try unfold FnV at a0 a1 a2 a3 ⊢
  refine ⟨?_, ?_, a2, a3⟩
  · rw [h1] at a0 ⊢; exact a0.det w' fun g' h1 h2 => hk g' (by omega) h2
  · rw [h2] at a1 ⊢; exact a1.det w' fun g' h1 h2 => hk g' (by omega) h2
theorem infoFn : (Tryd.prog.info? 81).map (fun i => (i.zero, i.size, i.bytes)) = some (some (Value.agg #[.string ⟨#[]⟩, .slice none 0 0, .slice none 0 0, .string ⟨#[]⟩]), 4, 80) := by kernel_rfl
theorem ownFn {w : World} {B g n : Nat} {xs : List Value} (h : w.ownsRow B 81 4 (.slice (some ⟨g, 0, none⟩) n n) n xs) : ∃ cs, RW 81 w g cs ∧ n * 4 ≤ cs.size := by
  rcases h.2 with ⟨h', _⟩ | ⟨g', cap', cur, h', _, hg, _, _, hsz, _⟩
  · simp at h'
  · simp only [Value.slice.injEq, Option.some.injEq, Addr.mk.injEq, and_true, true_and] at h'
    obtain ⟨rfl, rfl⟩ := h'
    exact ⟨cur, hg, by omega⟩
/-- What toFunctionS answers. -/
def ToFnS (xs : List Fn) (n : Nat) (W : World) (e : Ending) (w' : World) : Prop :=
  e = .returned (.slice (some ⟨W.heap.size, 0, none⟩) n n) ∧ Hid (FnI w' w'.heap.size (some ⟨W.heap.size, 0, none⟩) n xs ∧ Below W.heap.size W w' ∧ Det W.heap.size w'.heap.size w' fun w => FnI w w'.heap.size (some ⟨W.heap.size, 0, none⟩) n xs)

set_option maxHeartbeats 2000000 in
set_option maxRecDepth 100000 in
theorem toFunctionS_any (A : Option Addr) (n c : Nat) (xs : List Fn) (W : World) (hr : FnI W W.heap.size A n xs) (hs : ∀ (j : Nat) (x : Fn), xs[j]? = some x → FnSmall x) (hn : n ≤ 1048576) :
    Calls Tryd.prog 28 #[.slice A n c] W (ToFnS xs n W) := by
  obtain ⟨i0, hi, hz0, hz1, hz2⟩ := info_parts infoFn
  have HR := Lib.hid hr
  have HS := Lib.hid hs
  have h1 : (n : Int) ≤ 1048576 := by omega
  clear hr hs
  go_enter Tryd.func28, Tryd.ntmps28
  go_wp2_with (at_make; refine wpList_make_full _ rfl _ _ 33 rfl W.heap.size 81 i0 (.agg #[.string ⟨#[]⟩, .slice none 0 0, .slice none 0 0, .string ⟨#[]⟩]) 4 Tryd.underlying33 hi hz0 hz1 .i64 .i64 n n n rfl rfl rfl rfl (by rw [hz2]; omega) (by unfold maxLen; omega) (Nat.le_refl _) ?_)
  intro w1 hown hgrow
  have HB1 : Hid (Below W.heap.size W w1) := below_grown_none hgrow
  obtain ⟨cs, hcs, hcn⟩ := ownFn hown
  have HG : Hid (W.heap.size < w1.heap.size) := hcs.lt
  have HM : Hid (FilledFn w1 W.heap.size 0 n xs) := ⟨cs, hcs, hcn, fun i x hi => absurd hi (by omega)⟩
  clear hown hgrow hcs hcn hi hz0 hz1 hz2
  go_wp2_with fail
  go_loopw [4] (fun i wr => ∃ j : Nat, j ≤ n ∧ i = .int .i64 j ∧ Hid (Below W.heap.size W wr) ∧ Hid (W.heap.size < wr.heap.size) ∧ Hid (FilledFn wr W.heap.size j n xs)) (fun i _ => n - (intOf i).toNat)
  case atStart => exact ⟨0, Nat.zero_le _, rfl, HB1, HG, HM⟩
  case round =>
    obtain ⟨j, hj, rfl, HW, HZ, HJ⟩ := hrel
    by_cases hlt : j < n
    · obtain ⟨b, off, x, l, rfl, hg, hx, ⟨q0, q1, q2, q3⟩, hov⟩ := (HR.out.below HW.out).at_ hlt
      have HX := Lib.hid hx
      have HO := Lib.hid (hov.more HW.out.size)
      have HLT := Lib.hid hlt
      have HS1 := Lib.hid (HS.out j x hx)
      clear hx hov hg
      have b0 : (0 : Int) ≤ (j : Int) := by omega
      have b1 : (j : Int) < (n : Int) := by omega
      go_wp2_with (first | (go_at_call 51; have HQ := toFunction_any x l _ HO.out HS1.out; refine Calls.mono HQ ?_; clear HQ; rintro e w2 ⟨⟨A1, n1, c1, h1, A2, n2, c2, h2⟩, rfl, h⟩; obtain ⟨g1, hb, en1, en2, b1, b2, e1, e2, g1g, g2g⟩ := h.out; clear en1 en2; have HF := Lib.hid (HJ.out.below hb); have hlt2 := HLT.out; have hzz := HZ.out; have HF2 : Hid (FilledFn (w2.setCells W.heap.size (j * 4) [.string x.name_, .slice A1 n1 c1, .slice A2 n2 c2, .string x.label_]) W.heap.size (j + 1) n xs) := (by have k := HF.out.store HX.out hlt2 e1 e2 (Nat.lt_of_lt_of_le hzz g1g) (Nat.lt_of_lt_of_le hzz g2g) g1; unfold Fn.vs at k; exact k); have HT : Hid (w2.there W.heap.size (j * 4) 4) := (by obtain ⟨cs, hr, hc, _⟩ := HF.out; exact hr.there (by omega)); have HW2 : Hid (Below W.heap.size W (w2.setCells W.heap.size (j * 4) [.string x.name_, .slice A1 n1 c1, .slice A2 n2 c2, .string x.label_])) := ((HW.out.trans (hb.mono HW.out.size)).trans (below_cells (Nat.le_refl _) _ _ _)); have HZ2 : Hid (W.heap.size < (w2.setCells W.heap.size (j * 4) [.string x.name_, .slice A1 n1 c1, .slice A2 n2 c2, .string x.label_]).heap.size) := (by obtain ⟨_, hr, _⟩ := HF2.out; exact hr.lt); have tk1 : True := trivial; clear h g1 hb e1 g1g e2 g2g hlt2 hzz q0 q1 q2 q3) | (clear tk1; refine wpList_store_mid rfl 81 (.tmp 21) (.tmp 20) rfl W.heap.size (j * 4) _ rfl rfl HT.out (by kernel_rfl) (by kernel_rfl) ?_; go_frame; clear HT; generalize w2.setCells W.heap.size (j * 4) [.string x.name_, .slice A1 n1 c1, .slice A2 n2 c2, .string x.label_] = w3 at HF2 HW2 HZ2 ⊢))
      go_roundw
      case rel => exact ⟨j + 1, by omega, by go_num, HW2, HZ2, HF2⟩
      case measure => simp [intOf]; omega
    · have HN : Hid (j = n) := by show _ = _; omega
      go_wp2_with fail
      go_ret
      have h := HJ.out
      rw [HN.out] at h
      exact ⟨rfl, Lib.hid ⟨h.all HR.out.1 HR.out.2.1, HW.out, h.det HR.out.1 HR.out.2.1⟩⟩
end Go.Proofs.YtflhjcdabbomiaaDoor

namespace Go.Proofs.YtflhjcdabbomiaaDoor
open Go Go.RowKit

set_option maxHeartbeats 1000000 in
set_option maxRecDepth 100000 in
theorem eqFunction_same (x : Fn) (l l' : FnLay) (W : World) (ho : FnV W W.heap.size x l) (ho' : FnV W W.heap.size x l') :
    Calls Tryd.prog 63 #[x.ag l, x.ag l'] W fun e w' => e = .returned (.bool true) ∧ Below W.heap.size W w' := by
  obtain ⟨x0, x1, x2, x3⟩ := x
  obtain ⟨A1, n1, c1, h1, A2, n2, c2, h2⟩ := l
  obtain ⟨A1', n1', c1', h1', A2', n2', c2', h2'⟩ := l'
  obtain ⟨k1, k2, k0, k3⟩ := ho
  obtain ⟨j1, j2, j0, j3⟩ := ho'
  try unfold FnV at k1 j1 k2 j2 k0 j0 k3 j3
  dsimp only at k1 j1 k2 j2 k0 j0 k3 j3
  obtain rfl : n1 = n1' := k1.1.symm.trans j1.1
  have HK1 := Lib.hid k1
  have HJ1 := Lib.hid j1
  obtain rfl : n2 = n2' := k2.1.symm.trans j2.1
  have HK2 := Lib.hid k2
  have HJ2 := Lib.hid j2
  clear k1 j1 k2 j2 k0 j0 k3 j3
  have HC := Lib.hid (two_new W 81 #[.string x0, .slice A1 n1 c1, .slice A2 n2 c2, .string x3] #[.string x0, .slice A1' n1 c1', .slice A2' n2 c2', .string x3])
  show Calls Tryd.prog 63 #[.agg #[.string x0, .slice A1 n1 c1, .slice A2 n2 c2, .string x3], .agg #[.string x0, .slice A1' n1 c1', .slice A2' n2 c2', .string x3]] W _
  go_enter Tryd.func63, Tryd.ntmps63
  go_wp2_with (go_at_call 16; obtain ⟨g0, g1, g2, g3⟩ := HC.out _ rfl; have HQ := eqStringS_same A1 A1' n1 c1 c1' x1 _ (HK1.out.go g2) (HJ1.out.go g2); refine Calls.mono HQ ?_; clear HQ; rintro e w1 ⟨rfl, hb⟩; have HA1 := Lib.hid (g0.below hb (by omega)); have HD1 := Lib.hid (g1.below hb (by omega)); have HB1 := Lib.hid (g2.trans (hb.mono g2.size)); have HG1 : Hid (W.heap.size + 2 ≤ w1.heap.size) := (by have := hb.size; show _ ≤ _; omega); have q12 : w1.cell? ⟨W.heap.size, 2, none⟩ = some (.slice A2 n2 c2) := HA1.out.cell 2; have p12 : w1.cell? ⟨W.heap.size + 1, 2, none⟩ = some (.slice A2' n2 c2') := HD1.out.cell 2; clear g0 g1 g2 g3 hb HK1)
  go_wp2_with (go_at_call 16; have HQ := eqStringS_same A2 A2' n2 c2 c2' x2 _ (HK2.out.go HB1.out) (HJ2.out.go HB1.out); refine Calls.mono HQ ?_; clear HQ; rintro e w2 ⟨rfl, hb⟩; have hg := HG1.out; have HA2 := Lib.hid (HA1.out.below hb (by omega)); have HD2 := Lib.hid (HD1.out.below hb (by omega)); have HB2 := Lib.hid (HB1.out.trans (hb.mono HB1.out.size)); have HG2 : Hid (W.heap.size + 2 ≤ w2.heap.size) := (Nat.le_trans hg hb.size); have q23 : w2.cell? ⟨W.heap.size, 3, none⟩ = some (.string x3) := HA2.out.cell 3; have p23 : w2.cell? ⟨W.heap.size + 1, 3, none⟩ = some (.string x3) := HD2.out.cell 3; clear hg hb HK2)
  all_goals go_ret
  all_goals exact ⟨rfl, HB2.out⟩

/-- Two in two blocks, and their lists. -/
def TwoFn (wr : World) (b b' p p' : Nat) (x y : Fn) (l l' : FnLay) (w : World) : Prop := FnAt w b p x l ∧ FnAt w b' p' y l' ∧ FnV w w.heap.size x l ∧ FnV w w.heap.size y l' ∧ Below wr.heap.size wr w ∧ b < w.heap.size ∧ b' < w.heap.size
theorem TwoFn.grow {wr w w' : World} {b b' p p' : Nat} {x y : Fn} {l l' : FnLay} (h : TwoFn wr b b' p p' x y l l' w) (hb : Below w.heap.size w w') : TwoFn wr b b' p p' x y l l' w' :=
  ⟨h.1.below hb h.2.2.2.2.2.1, h.2.1.below hb h.2.2.2.2.2.2, (h.2.2.1.below hb).more hb.size, (h.2.2.2.1.below hb).more hb.size, h.2.2.2.2.1.trans (hb.mono h.2.2.2.2.1.size), Nat.lt_of_lt_of_le h.2.2.2.2.2.1 hb.size, Nat.lt_of_lt_of_le h.2.2.2.2.2.2 hb.size⟩
/-- .. cell by cell, as the walk of a region asks it. -/
abbrev FlatFn (wr : World) (b b' p p' : Nat) (x y : Fn) (l l' : FnLay) (w : World) : Prop := (w.cell? ⟨b, p, none⟩ = some (.string x.name_) ∧ w.cell? ⟨b, p + 1, none⟩ = some (.slice l.A1 l.n1 l.c1) ∧ w.cell? ⟨b, p + 2, none⟩ = some (.slice l.A2 l.n2 l.c2) ∧ w.cell? ⟨b, p + 3, none⟩ = some (.string x.label_)) ∧ (w.cell? ⟨b', p', none⟩ = some (.string y.name_) ∧ w.cell? ⟨b', p' + 1, none⟩ = some (.slice l'.A1 l'.n1 l'.c1) ∧ w.cell? ⟨b', p' + 2, none⟩ = some (.slice l'.A2 l'.n2 l'.c2) ∧ w.cell? ⟨b', p' + 3, none⟩ = some (.string y.label_)) ∧ TwoFn wr b b' p p' x y l l' w
theorem TwoFn.flat {wr w : World} {b b' p p' : Nat} {x y : Fn} {l l' : FnLay} (h : TwoFn wr b b' p p' x y l l' w) : FlatFn wr b b' p p' x y l l' w := ⟨h.1, h.2.1, h⟩
theorem TwoFn.drew {wr : World} {b b' p p' : Nat} {x y : Fn} {l l' : FnLay} (h : TwoFn wr b b' p p' x y l l' wr) : TwoFn wr b b' p p' x y l l' wr.drew := h.grow (Below.refl _ _).drew

set_option maxHeartbeats 1000000 in
set_option maxRecDepth 100000 in
theorem eqFunctionS_same (A A' : Option Addr) (n c c' : Nat) (xs : List Fn) (W : World) (ha : FnI W W.heap.size A n xs) (hb : FnI W W.heap.size A' n xs) :
    Calls Tryd.prog 33 #[.slice A n c, .slice A' n c'] W fun e w' => e = .returned (.bool true) ∧ Below W.heap.size W w' := by
  have HA := Lib.hid ha
  have HB := Lib.hid hb
  have hn := ha.2.1
  unfold maxLen at hn
  clear ha hb
  go_enter Tryd.func33, Tryd.ntmps33
  go_wp2
  go_loopw [5] (fun i wr => ∃ k : Nat, k ≤ n ∧ i = .int .i64 k ∧ Hid (Below W.heap.size W wr)) (fun i _ => n - (intOf i).toNat)
  case atStart => exact ⟨0, Nat.zero_le _, rfl, Below.refl _ _⟩
  case round =>
    obtain ⟨k, hk, rfl, HW⟩ := hrel
    by_cases hlt : k < n
    · obtain ⟨b, off, x, l, rfl, hg, hx, h1, hv1⟩ := (HA.out.go HW.out).at_ hlt
      obtain ⟨b', off', x', l', rfl, hg', hx', h2, hv2⟩ := (HB.out.go HW.out).at_ hlt
      obtain rfl : x = x' := Option.some.inj (hx.symm.trans hx')
      have H0 := Lib.hid (show TwoFn wr b b' (off + k * 4) (off' + k * 4) x x l l' wr from ⟨h1, h2, hv1, hv2, Below.refl _ _, hg, hg'⟩)
      have b0 : (0 : Int) ≤ (k : Int) := by omega
      have b1 : (k : Int) < (n : Int) := by omega
      clear h1 h2 hv1 hv2 hx hx' hg hg'
      go_wp2_with fail
      go_region_held3 (fun w' => FlatFn wr b b' (off + k * 4) (off' + k * 4) x x l l' w')
        (first | exact H0.out.drew.flat | exact (TwoFn.grow H0.out.drew hb).flat | go_keep)
        ((go_at_call 63; have HS := H0.out.drew; have HQ := eqFunction_same x l l' _ HS.2.2.1 HS.2.2.2.1; refine Calls.mono HQ ?_; clear HQ; rintro e w1 ⟨rfl, hb⟩))
      go_wp2_with fail
      go_split_ands
      have h2 : TwoFn wr b b' (off + k * 4) (off' + k * 4) x x l l' _ := ‹_›
      go_roundw
      case rel => exact ⟨k + 1, by omega, by go_num, HW.out.trans (h2.2.2.2.2.1.mono HW.out.size)⟩
      case measure => simp [intOf]; omega
    · go_wp2_with fail
      go_ret
      exact ⟨rfl, HW.out⟩
end Go.Proofs.YtflhjcdabbomiaaDoor

namespace Go.Proofs.YtflhjcdabbomiaaDoor
open Go Go.RowKit

/-- What toRecordType answers. -/
def ToRt (x : Rt) (W : World) (e : Ending) (w' : World) : Prop := ∃ l, e = .returned (x.ag l) ∧ Hid (RtV w' w'.heap.size x l ∧ Below W.heap.size W w' ∧ l.n1 = x.fields_.length ∧ ∃ b1, l.A1 = some ⟨b1, 0, none⟩ ∧ W.heap.size ≤ b1)

set_option maxHeartbeats 2000000 in
set_option maxRecDepth 100000 in
theorem toRecordType_any (x : Rt) (l : RtLay) (W : World) (ho : RtV W W.heap.size x l) (hsm : RtSmall x) :
    Calls Tryd.prog 52 #[x.ag l] W (ToRt x W) := by
  obtain ⟨x0, x1⟩ := x
  obtain ⟨A1, n1, c1, h1⟩ := l
  obtain ⟨k1, k0⟩ := ho
  have s1 := hsm
  try unfold RtV at k1 k0
  try unfold RtSmall at s1
  dsimp only at k1 k0 s1
  rw [k1.1] at s1
  have HK1 := Lib.hid k1
  have HS1 := Lib.hid s1
  have HT0 := Lib.hid k0
  clear k1 k0 s1
  have HC := Lib.hid (fun (X Y : World) (T T' : TypeId) (c c' : Array Value) (eY : Y = W.alloc (.cells #[.string x0, .slice A1 n1 c1] T)) (eX : X = (Y.alloc (.cells c T')).alloc (.cells c' T')) =>
    (show RW T X W.heap.size #[.string x0, .slice A1 n1 c1] ∧ RW T' X (W.heap.size + 1 + 1) c' ∧ RW T' X (W.heap.size + 1) c ∧ Below W.heap.size W X ∧ X.heap.size = W.heap.size + 3 from by
      subst eX; subst eY
      refine ⟨((RW.new W _ T).alloc _).alloc _, ?_, ?_, ((below_alloc _ _).alloc (by simp) _).alloc (by simp; omega) _, by simp⟩
      · have := RW.new ((W.alloc (.cells #[.string x0, .slice A1 n1 c1] T)).alloc (.cells c T')) c' T'
        simpa using this
      · have := (RW.new (W.alloc (.cells #[.string x0, .slice A1 n1 c1] T)) c T').alloc (.cells c' T')
        simpa using this))
  show Calls Tryd.prog 52 #[.agg #[.string x0, .slice A1 n1 c1]] W _
  go_enter Tryd.func52, Tryd.ntmps52
  go_wp2_with (go_at_call 13; obtain ⟨g0, g1, g4, g2, g3⟩ := HC.out _ _ _ _ _ _ rfl rfl; have HQ := toStringS_any A1 n1 c1 x1 _ (HK1.out.go g2) HS1.out; refine Calls.mono HQ ?_; clear HQ; rintro e w1 ⟨rfl, h⟩; obtain ⟨hv, hb⟩ := h.out; have hd := hv.det; rw [g3] at hv hd; have HA1 := Lib.hid (g0.below hb (by omega)); have HR1 := Lib.hid (g1.below hb (by omega)); have HO1 := Lib.hid (g4.below hb (by omega)); have HB1 := Lib.hid (g2.trans (hb.mono g2.size)); have HV1_1 : Hid (Det (W.heap.size + 1 + 1 + 1) w1.heap.size w1 fun w => StI w w1.heap.size (some ⟨W.heap.size + 1 + 1 + 1, 0, none⟩) n1 x1) := hd; have HG1 : Hid (W.heap.size + 3 ≤ w1.heap.size) := (by have := hb.size; show _ ≤ _; omega); clear g0 g1 g2 g3 g4 h hv hd hb HK1; have p11 : w1.cell? ⟨W.heap.size + 1 + 1, 1, none⟩ = some (.slice none 0 0) := HR1.out.cell 1; have f11 := HR1.out.frozen 1; have p10 : w1.cell? ⟨W.heap.size + 1 + 1, 0, none⟩ = some (.string x0) := HR1.out.cell 0; have r0 : w1.cell? ⟨W.heap.size + 1, 0, none⟩ = some (.string ⟨#[]⟩) := HO1.out.cell 0; have z0 := HO1.out.frozen 0; have r1 : w1.cell? ⟨W.heap.size + 1, 1, none⟩ = some (.slice none 0 0) := HO1.out.cell 1; have z1 := HO1.out.frozen 1)
  have hs1 := HG1.out
  have hb1 : Below (W.heap.size + 1) w1 (((w1.setCell ⟨W.heap.size + 1 + 1, 1, none⟩ (.slice (some ⟨W.heap.size + 1 + 1 + 1, 0, none⟩) n1 n1)).setCell ⟨W.heap.size + 1, 0, none⟩ (.string x0)).setCell ⟨W.heap.size + 1, 1, none⟩ (.slice (some ⟨W.heap.size + 1 + 1 + 1, 0, none⟩) n1 n1)) := (((below_set w1 (p := ⟨W.heap.size + 1 + 1, 1, none⟩) (by simp) _).setCell (by simp) _).setCell (by simp) _)
  have hzz : (((w1.setCell ⟨W.heap.size + 1 + 1, 1, none⟩ (.slice (some ⟨W.heap.size + 1 + 1 + 1, 0, none⟩) n1 n1)).setCell ⟨W.heap.size + 1, 0, none⟩ (.string x0)).setCell ⟨W.heap.size + 1, 1, none⟩ (.slice (some ⟨W.heap.size + 1 + 1 + 1, 0, none⟩) n1 n1)).heap.size = w1.heap.size := by simp [World.setCell]
  refine bodyPost_ret (v := .agg #[.string x0, .slice (some ⟨W.heap.size + 1 + 1 + 1, 0, none⟩) n1 n1]) (results_cell_row Tryd.results52 _ _ (W.heap.size + 1) 83 _ (0, 0) _ rfl ((((((HO1.out).other (p := ⟨W.heap.size + 1 + 1, 1, none⟩) (by simp) (.slice (some ⟨W.heap.size + 1 + 1 + 1, 0, none⟩) n1 n1))).set_ 0 (.string x0))).set_ 1 (.slice (some ⟨W.heap.size + 1 + 1 + 1, 0, none⟩) n1 n1)) Tryd.underlying83 rfl (by kernel_rfl)) rfl ⟨⟨some ⟨W.heap.size + 1 + 1 + 1, 0, none⟩, n1, n1, Nat.le_refl _⟩, rfl, Lib.hid ⟨?_, HB1.out.trans (hb1.mono (by omega)), HV1_1.out.self.1.symm, _, rfl, by omega⟩⟩
  show RtV (((w1.setCell ⟨W.heap.size + 1 + 1, 1, none⟩ (.slice (some ⟨W.heap.size + 1 + 1 + 1, 0, none⟩) n1 n1)).setCell ⟨W.heap.size + 1, 0, none⟩ (.string x0)).setCell ⟨W.heap.size + 1, 1, none⟩ (.slice (some ⟨W.heap.size + 1 + 1 + 1, 0, none⟩) n1 n1)) (((w1.setCell ⟨W.heap.size + 1 + 1, 1, none⟩ (.slice (some ⟨W.heap.size + 1 + 1 + 1, 0, none⟩) n1 n1)).setCell ⟨W.heap.size + 1, 0, none⟩ (.string x0)).setCell ⟨W.heap.size + 1, 1, none⟩ (.slice (some ⟨W.heap.size + 1 + 1 + 1, 0, none⟩) n1 n1)).heap.size ⟨x0, x1⟩ ⟨some ⟨W.heap.size + 1 + 1 + 1, 0, none⟩, n1, n1, Nat.le_refl _⟩
  rw [hzz]
  exact ⟨((((((HV1_1.out).set (p := ⟨W.heap.size + 1 + 1, 1, none⟩) (by first | (dsimp only; omega) | omega) _)).set (p := ⟨W.heap.size + 1, 0, none⟩) (by first | (dsimp only; omega) | omega) _)).set (p := ⟨W.heap.size + 1, 1, none⟩) (by first | (dsimp only; omega) | omega) _).self, HT0.out⟩

/-- The elements of block g ahead of j are filled; their lists lie elsewhere. -/
def FilledRt (w : World) (g j n : Nat) (xs : List Rt) : Prop :=
  ∃ cs, RW 83 w g cs ∧ n * 2 ≤ cs.size ∧ ∀ (i : Nat) (x : Rt), i < j → xs[i]? = some x → ∃ l b1, l.A1 = some ⟨b1, 0, none⟩ ∧ g < b1 ∧ RtV w w.heap.size x l ∧ ∀ (q : Nat) (v : Value), (x.vs l)[q]? = some v → cs[i * 2 + q]? = some v
theorem FilledRt.below {w w' : World} {g j n : Nat} {xs : List Rt} (h : FilledRt w g j n xs) (hb : Below w.heap.size w w') : FilledRt w' g j n xs := by
  obtain ⟨cs, hr, hn, hm⟩ := h
  refine ⟨cs, hr.below hb hr.lt, hn, fun i x hi hx => ?_⟩
  obtain ⟨l, b1, h1, u1, h5, h6⟩ := hm i x hi hx
  exact ⟨l, b1, h1, u1, (h5.below hb).more hb.size, h6⟩
theorem RtV.others {w : World} {B g o : Nat} {x : Rt} {l : RtLay} {b1 : Nat} (h : RtV w B x l) (h1 : l.A1 = some ⟨b1, 0, none⟩) (u1 : b1 ≠ g) (vs : List Value) : RtV (w.setCells g o vs) B x l := by
  obtain ⟨a0, a1⟩ := h
  try unfold RtV at a0 a1 ⊢
  rw [h1] at a0
  refine ⟨?_, a1⟩
  · rw [h1]; exact a0.others u1
theorem size_setsRt (vs : List Value) (w : World) (g k : Nat) : (w.setCells g k vs).heap.size = w.heap.size := by
  induction vs generalizing w k with
  | nil => rfl
  | cons v r ih => exact (ih _ _).trans (size_set _ _ _)
theorem FilledRt.store {w : World} {g j n : Nat} {xs : List Rt} {x : Rt} {l : RtLay} {b1 : Nat} (h : FilledRt w g j n xs) (hx : xs[j]? = some x) (hj : j < n) (h1 : l.A1 = some ⟨b1, 0, none⟩) (u1 : g < b1) (h5 : RtV w w.heap.size x l) :
    FilledRt (w.setCells g (j * 2) (x.vs l)) g (j + 1) n xs := by
  obtain ⟨cs, hr, hn, hm⟩ := h
  have hs : (w.setCells g (j * 2) (x.vs l)).heap.size = w.heap.size := size_setsRt _ _ _ _
  have hlK : (x.vs l).length = 2 := rfl
  refine ⟨_, hr.cells, by rw [putL_size]; exact hn, fun i y hi hy => ?_⟩
  by_cases e : i = j
  · subst e
    rw [hx, Option.some.injEq] at hy
    subst hy
    refine ⟨l, b1, h1, u1, ?_, fun q v hq => putL_new _ _ _ _ _ (by rw [hlK]; omega) hq⟩
    rw [hs]
    exact h5.others h1 (by omega) _
  · obtain ⟨l', b1', j1, v1, k5, k6⟩ := hm i y (by omega) hy
    refine ⟨l', b1', j1, v1, ?_, fun q v hq => ?_⟩
    · rw [hs]
      exact k5.others j1 (by omega) _
    · have hqK : q < 2 := (List.getElem?_eq_some_iff.1 hq).1
      rw [putL_old _ _ _ _ (by omega)]
      exact k6 q v hq
theorem FilledRt.all {w : World} {g n : Nat} {xs : List Rt} (h : FilledRt w g n n xs) (hl : xs.length = n) (hn : n ≤ maxLen) : RtI w w.heap.size (some ⟨g, 0, none⟩) n xs := by
  obtain ⟨cs, hr, hc, hm⟩ := h
  refine ⟨hl, hn, fun _ => ⟨g, 0, rfl, hr.lt, fun j x hx => ?_⟩⟩
  obtain ⟨l, _, _, _, h5, h6⟩ := hm j x (by rw [← hl]; exact (List.getElem?_eq_some_iff.1 hx).1) hx
  rw [Nat.zero_add]
  have k : ∀ q v, (x.vs l)[q]? = some v → w.cell? ⟨g, j * 2 + q, none⟩ = some v := fun q v hq => (hr.cell _).trans (h6 q v hq)
  exact ⟨l, ⟨k 0 _ rfl, k 1 _ rfl⟩, h5⟩
theorem FilledRt.det {w : World} {g n : Nat} {xs : List Rt} (h : FilledRt w g n n xs) (hl : xs.length = n) (hn : n ≤ maxLen) : Det g w.heap.size w fun w' => RtI w' w.heap.size (some ⟨g, 0, none⟩) n xs := by
  intro w' hk
  obtain ⟨cs, hr, hc, hm⟩ := h
  have hr' : RW 83 w' g cs := (hk g (Nat.le_refl _) hr.lt).trans hr
  refine ⟨hl, hn, fun _ => ⟨g, 0, rfl, hr.lt, fun j x hx => ?_⟩⟩
  obtain ⟨l, b1, h1, u1, h5, h6⟩ := hm j x (by rw [← hl]; exact (List.getElem?_eq_some_iff.1 hx).1) hx
  rw [Nat.zero_add]
  have k : ∀ q v, (x.vs l)[q]? = some v → w'.cell? ⟨g, j * 2 + q, none⟩ = some v := fun q v hq => (hr'.cell _).trans (h6 q v hq)
  refine ⟨l, ⟨k 0 _ rfl, k 1 _ rfl⟩, ?_⟩
  obtain ⟨a0, a1⟩ := h5
  try unfold RtV at a0 a1 ⊢
  refine ⟨?_, a1⟩
  · rw [h1] at a0 ⊢; exact a0.det w' fun g' h1 h2 => hk g' (by omega) h2
theorem infoRt : (Tryd.prog.info? 83).map (fun i => (i.zero, i.size, i.bytes)) = some (some (Value.agg #[.string ⟨#[]⟩, .slice none 0 0]), 2, 40) := by kernel_rfl
theorem ownRt {w : World} {B g n : Nat} {xs : List Value} (h : w.ownsRow B 83 2 (.slice (some ⟨g, 0, none⟩) n n) n xs) : ∃ cs, RW 83 w g cs ∧ n * 2 ≤ cs.size := by
  rcases h.2 with ⟨h', _⟩ | ⟨g', cap', cur, h', _, hg, _, _, hsz, _⟩
  · simp at h'
  · simp only [Value.slice.injEq, Option.some.injEq, Addr.mk.injEq, and_true, true_and] at h'
    obtain ⟨rfl, rfl⟩ := h'
    exact ⟨cur, hg, by omega⟩
/-- What toRecordTypeS answers. -/
def ToRtS (xs : List Rt) (n : Nat) (W : World) (e : Ending) (w' : World) : Prop :=
  e = .returned (.slice (some ⟨W.heap.size, 0, none⟩) n n) ∧ Hid (RtI w' w'.heap.size (some ⟨W.heap.size, 0, none⟩) n xs ∧ Below W.heap.size W w' ∧ Det W.heap.size w'.heap.size w' fun w => RtI w w'.heap.size (some ⟨W.heap.size, 0, none⟩) n xs)

set_option maxHeartbeats 2000000 in
set_option maxRecDepth 100000 in
theorem toRecordTypeS_any (A : Option Addr) (n c : Nat) (xs : List Rt) (W : World) (hr : RtI W W.heap.size A n xs) (hs : ∀ (j : Nat) (x : Rt), xs[j]? = some x → RtSmall x) (hn : n ≤ 1048576) :
    Calls Tryd.prog 29 #[.slice A n c] W (ToRtS xs n W) := by
  obtain ⟨i0, hi, hz0, hz1, hz2⟩ := info_parts infoRt
  have HR := Lib.hid hr
  have HS := Lib.hid hs
  have h1 : (n : Int) ≤ 1048576 := by omega
  clear hr hs
  go_enter Tryd.func29, Tryd.ntmps29
  go_wp2_with (at_make; refine wpList_make_full _ rfl _ _ 34 rfl W.heap.size 83 i0 (.agg #[.string ⟨#[]⟩, .slice none 0 0]) 2 Tryd.underlying34 hi hz0 hz1 .i64 .i64 n n n rfl rfl rfl rfl (by rw [hz2]; omega) (by unfold maxLen; omega) (Nat.le_refl _) ?_)
  intro w1 hown hgrow
  have HB1 : Hid (Below W.heap.size W w1) := below_grown_none hgrow
  obtain ⟨cs, hcs, hcn⟩ := ownRt hown
  have HG : Hid (W.heap.size < w1.heap.size) := hcs.lt
  have HM : Hid (FilledRt w1 W.heap.size 0 n xs) := ⟨cs, hcs, hcn, fun i x hi => absurd hi (by omega)⟩
  clear hown hgrow hcs hcn hi hz0 hz1 hz2
  go_wp2_with fail
  go_loopw [4] (fun i wr => ∃ j : Nat, j ≤ n ∧ i = .int .i64 j ∧ Hid (Below W.heap.size W wr) ∧ Hid (W.heap.size < wr.heap.size) ∧ Hid (FilledRt wr W.heap.size j n xs)) (fun i _ => n - (intOf i).toNat)
  case atStart => exact ⟨0, Nat.zero_le _, rfl, HB1, HG, HM⟩
  case round =>
    obtain ⟨j, hj, rfl, HW, HZ, HJ⟩ := hrel
    by_cases hlt : j < n
    · obtain ⟨b, off, x, l, rfl, hg, hx, ⟨q0, q1⟩, hov⟩ := (HR.out.below HW.out).at_ hlt
      have HX := Lib.hid hx
      have HO := Lib.hid (hov.more HW.out.size)
      have HLT := Lib.hid hlt
      have HS1 := Lib.hid (HS.out j x hx)
      clear hx hov hg
      have b0 : (0 : Int) ≤ (j : Int) := by omega
      have b1 : (j : Int) < (n : Int) := by omega
      go_wp2_with (first | (go_at_call 52; have HQ := toRecordType_any x l _ HO.out HS1.out; refine Calls.mono HQ ?_; clear HQ; rintro e w2 ⟨⟨A1, n1, c1, h1⟩, rfl, h⟩; obtain ⟨g1, hb, en1, b1, e1, g1g⟩ := h.out; clear en1; have HF := Lib.hid (HJ.out.below hb); have hlt2 := HLT.out; have hzz := HZ.out; have HF2 : Hid (FilledRt (w2.setCells W.heap.size (j * 2) [.string x.name_, .slice A1 n1 c1]) W.heap.size (j + 1) n xs) := (by have k := HF.out.store HX.out hlt2 e1 (Nat.lt_of_lt_of_le hzz g1g) g1; unfold Rt.vs at k; exact k); have HT : Hid (w2.there W.heap.size (j * 2) 2) := (by obtain ⟨cs, hr, hc, _⟩ := HF.out; exact hr.there (by omega)); have HW2 : Hid (Below W.heap.size W (w2.setCells W.heap.size (j * 2) [.string x.name_, .slice A1 n1 c1])) := ((HW.out.trans (hb.mono HW.out.size)).trans (below_cells (Nat.le_refl _) _ _ _)); have HZ2 : Hid (W.heap.size < (w2.setCells W.heap.size (j * 2) [.string x.name_, .slice A1 n1 c1]).heap.size) := (by obtain ⟨_, hr, _⟩ := HF2.out; exact hr.lt); have tk1 : True := trivial; clear h g1 hb e1 g1g hlt2 hzz q0 q1) | (clear tk1; refine wpList_store_mid rfl 83 (.tmp 21) (.tmp 20) rfl W.heap.size (j * 2) _ rfl rfl HT.out (by kernel_rfl) (by kernel_rfl) ?_; go_frame; clear HT; generalize w2.setCells W.heap.size (j * 2) [.string x.name_, .slice A1 n1 c1] = w3 at HF2 HW2 HZ2 ⊢))
      go_roundw
      case rel => exact ⟨j + 1, by omega, by go_num, HW2, HZ2, HF2⟩
      case measure => simp [intOf]; omega
    · have HN : Hid (j = n) := by show _ = _; omega
      go_wp2_with fail
      go_ret
      have h := HJ.out
      rw [HN.out] at h
      exact ⟨rfl, Lib.hid ⟨h.all HR.out.1 HR.out.2.1, HW.out, h.det HR.out.1 HR.out.2.1⟩⟩
end Go.Proofs.YtflhjcdabbomiaaDoor

namespace Go.Proofs.YtflhjcdabbomiaaDoor
open Go Go.RowKit

set_option maxHeartbeats 1000000 in
set_option maxRecDepth 100000 in
theorem eqRecordType_same (x : Rt) (l l' : RtLay) (W : World) (ho : RtV W W.heap.size x l) (ho' : RtV W W.heap.size x l') :
    Calls Tryd.prog 64 #[x.ag l, x.ag l'] W fun e w' => e = .returned (.bool true) ∧ Below W.heap.size W w' := by
  obtain ⟨x0, x1⟩ := x
  obtain ⟨A1, n1, c1, h1⟩ := l
  obtain ⟨A1', n1', c1', h1'⟩ := l'
  obtain ⟨k1, k0⟩ := ho
  obtain ⟨j1, j0⟩ := ho'
  try unfold RtV at k1 j1 k0 j0
  dsimp only at k1 j1 k0 j0
  obtain rfl : n1 = n1' := k1.1.symm.trans j1.1
  have HK1 := Lib.hid k1
  have HJ1 := Lib.hid j1
  clear k1 j1 k0 j0
  have HC := Lib.hid (two_new W 83 #[.string x0, .slice A1 n1 c1] #[.string x0, .slice A1' n1 c1'])
  show Calls Tryd.prog 64 #[.agg #[.string x0, .slice A1 n1 c1], .agg #[.string x0, .slice A1' n1 c1']] W _
  go_enter Tryd.func64, Tryd.ntmps64
  go_wp2_with (go_at_call 16; obtain ⟨g0, g1, g2, g3⟩ := HC.out _ rfl; have HQ := eqStringS_same A1 A1' n1 c1 c1' x1 _ (HK1.out.go g2) (HJ1.out.go g2); refine Calls.mono HQ ?_; clear HQ; rintro e w1 ⟨rfl, hb⟩; have HA1 := Lib.hid (g0.below hb (by omega)); have HD1 := Lib.hid (g1.below hb (by omega)); have HB1 := Lib.hid (g2.trans (hb.mono g2.size)); have HG1 : Hid (W.heap.size + 2 ≤ w1.heap.size) := (by have := hb.size; show _ ≤ _; omega); clear g0 g1 g2 g3 hb HK1)
  all_goals go_ret
  all_goals exact ⟨rfl, HB1.out⟩

/-- Two in two blocks, and their lists. -/
def TwoRt (wr : World) (b b' p p' : Nat) (x y : Rt) (l l' : RtLay) (w : World) : Prop := RtAt w b p x l ∧ RtAt w b' p' y l' ∧ RtV w w.heap.size x l ∧ RtV w w.heap.size y l' ∧ Below wr.heap.size wr w ∧ b < w.heap.size ∧ b' < w.heap.size
theorem TwoRt.grow {wr w w' : World} {b b' p p' : Nat} {x y : Rt} {l l' : RtLay} (h : TwoRt wr b b' p p' x y l l' w) (hb : Below w.heap.size w w') : TwoRt wr b b' p p' x y l l' w' :=
  ⟨h.1.below hb h.2.2.2.2.2.1, h.2.1.below hb h.2.2.2.2.2.2, (h.2.2.1.below hb).more hb.size, (h.2.2.2.1.below hb).more hb.size, h.2.2.2.2.1.trans (hb.mono h.2.2.2.2.1.size), Nat.lt_of_lt_of_le h.2.2.2.2.2.1 hb.size, Nat.lt_of_lt_of_le h.2.2.2.2.2.2 hb.size⟩
/-- .. cell by cell, as the walk of a region asks it. -/
abbrev FlatRt (wr : World) (b b' p p' : Nat) (x y : Rt) (l l' : RtLay) (w : World) : Prop := (w.cell? ⟨b, p, none⟩ = some (.string x.name_) ∧ w.cell? ⟨b, p + 1, none⟩ = some (.slice l.A1 l.n1 l.c1)) ∧ (w.cell? ⟨b', p', none⟩ = some (.string y.name_) ∧ w.cell? ⟨b', p' + 1, none⟩ = some (.slice l'.A1 l'.n1 l'.c1)) ∧ TwoRt wr b b' p p' x y l l' w
theorem TwoRt.flat {wr w : World} {b b' p p' : Nat} {x y : Rt} {l l' : RtLay} (h : TwoRt wr b b' p p' x y l l' w) : FlatRt wr b b' p p' x y l l' w := ⟨h.1, h.2.1, h⟩
theorem TwoRt.drew {wr : World} {b b' p p' : Nat} {x y : Rt} {l l' : RtLay} (h : TwoRt wr b b' p p' x y l l' wr) : TwoRt wr b b' p p' x y l l' wr.drew := h.grow (Below.refl _ _).drew

set_option maxHeartbeats 1000000 in
set_option maxRecDepth 100000 in
theorem eqRecordTypeS_same (A A' : Option Addr) (n c c' : Nat) (xs : List Rt) (W : World) (ha : RtI W W.heap.size A n xs) (hb : RtI W W.heap.size A' n xs) :
    Calls Tryd.prog 34 #[.slice A n c, .slice A' n c'] W fun e w' => e = .returned (.bool true) ∧ Below W.heap.size W w' := by
  have HA := Lib.hid ha
  have HB := Lib.hid hb
  have hn := ha.2.1
  unfold maxLen at hn
  clear ha hb
  go_enter Tryd.func34, Tryd.ntmps34
  go_wp2
  go_loopw [5] (fun i wr => ∃ k : Nat, k ≤ n ∧ i = .int .i64 k ∧ Hid (Below W.heap.size W wr)) (fun i _ => n - (intOf i).toNat)
  case atStart => exact ⟨0, Nat.zero_le _, rfl, Below.refl _ _⟩
  case round =>
    obtain ⟨k, hk, rfl, HW⟩ := hrel
    by_cases hlt : k < n
    · obtain ⟨b, off, x, l, rfl, hg, hx, h1, hv1⟩ := (HA.out.go HW.out).at_ hlt
      obtain ⟨b', off', x', l', rfl, hg', hx', h2, hv2⟩ := (HB.out.go HW.out).at_ hlt
      obtain rfl : x = x' := Option.some.inj (hx.symm.trans hx')
      have H0 := Lib.hid (show TwoRt wr b b' (off + k * 2) (off' + k * 2) x x l l' wr from ⟨h1, h2, hv1, hv2, Below.refl _ _, hg, hg'⟩)
      have b0 : (0 : Int) ≤ (k : Int) := by omega
      have b1 : (k : Int) < (n : Int) := by omega
      clear h1 h2 hv1 hv2 hx hx' hg hg'
      go_wp2_with fail
      go_region_held3 (fun w' => FlatRt wr b b' (off + k * 2) (off' + k * 2) x x l l' w')
        (first | exact H0.out.drew.flat | exact (TwoRt.grow H0.out.drew hb).flat | go_keep)
        ((go_at_call 64; have HS := H0.out.drew; have HQ := eqRecordType_same x l l' _ HS.2.2.1 HS.2.2.2.1; refine Calls.mono HQ ?_; clear HQ; rintro e w1 ⟨rfl, hb⟩))
      go_wp2_with fail
      go_split_ands
      have h2 : TwoRt wr b b' (off + k * 2) (off' + k * 2) x x l l' _ := ‹_›
      go_roundw
      case rel => exact ⟨k + 1, by omega, by go_num, HW.out.trans (h2.2.2.2.2.1.mono HW.out.size)⟩
      case measure => simp [intOf]; omega
    · go_wp2_with fail
      go_ret
      exact ⟨rfl, HW.out⟩
end Go.Proofs.YtflhjcdabbomiaaDoor

namespace Go.Proofs.YtflhjcdabbomiaaDoor
open Go Go.RowKit

structure Sc where
  vars_ : List Bd
  functions_ : List Fn
  types_ : List Rt
/-- Where its lists lie. -/
structure ScLay where
  A0 : Option Addr
  n0 : Nat
  c0 : Nat
  h0 : n0 ≤ c0
  A1 : Option Addr
  n1 : Nat
  c1 : Nat
  h1 : n1 ≤ c1
  A2 : Option Addr
  n2 : Nat
  c2 : Nat
  h2 : n2 ≤ c2
/-- As one value. -/
abbrev Sc.ag (x : Sc) (l : ScLay) : Value := .agg #[.slice l.A0 l.n0 l.c0, .slice l.A1 l.n1 l.c1, .slice l.A2 l.n2 l.c2]
def Sc.vs (x : Sc) (l : ScLay) : List Value := [.slice l.A0 l.n0 l.c0, .slice l.A1 l.n1 l.c1, .slice l.A2 l.n2 l.c2]
/-- Its lists lie below B. -/
def ScV (w : World) (B : Nat) (x : Sc) (l : ScLay) : Prop := BdI w B l.A0 l.n0 x.vars_ ∧ FnI w B l.A1 l.n1 x.functions_ ∧ RtI w B l.A2 l.n2 x.types_
theorem ScV.below {w w' : World} {B : Nat} {x : Sc} {l : ScLay} (h : ScV w B x l) (hb : Below B w w') : ScV w' B x l := by
  obtain ⟨h0, h1, h2⟩ := h
  exact ⟨h0.below hb, h1.below hb, h2.below hb⟩
theorem ScV.more {w : World} {B B' : Nat} {x : Sc} {l : ScLay} (h : ScV w B x l) (hB : B ≤ B') : ScV w B' x l := by
  obtain ⟨h0, h1, h2⟩ := h
  exact ⟨h0.more hB, h1.more hB, h2.more hB⟩
theorem ScV.go {W w : World} {x : Sc} {l : ScLay} (h : ScV W W.heap.size x l) (hb : Below W.heap.size W w) : ScV w w.heap.size x l := (h.below hb).more hb.size
theorem ScV.alloc {W : World} {x : Sc} {l : ScLay} (h : ScV W W.heap.size x l) (o : Obj) : ScV (W.alloc o) (W.alloc o).heap.size x l := h.go (below_alloc W o)
/-- Its cells from p on of block b. -/
def ScAt (w : World) (b p : Nat) (x : Sc) (l : ScLay) : Prop := w.cell? ⟨b, p, none⟩ = some (.slice l.A0 l.n0 l.c0) ∧ w.cell? ⟨b, p + 1, none⟩ = some (.slice l.A1 l.n1 l.c1) ∧ w.cell? ⟨b, p + 2, none⟩ = some (.slice l.A2 l.n2 l.c2)
theorem ScAt.below {w w' : World} {b p B : Nat} {x : Sc} {l : ScLay} (h : ScAt w b p x l) (hb : Below B w w') (hg : b < B) : ScAt w' b p x l := by
  obtain ⟨h0, h1, h2⟩ := h
  exact ⟨(hb.cell (p := ⟨b, p, none⟩) hg).trans h0, (hb.cell (p := ⟨b, p + 1, none⟩) hg).trans h1, (hb.cell (p := ⟨b, p + 2, none⟩) hg).trans h2⟩
theorem ScAt.range {w : World} {b p : Nat} {x : Sc} {l : ScLay} (h : ScAt w b p x l) : w.rangeAt b p (x.vs l) := by
  obtain ⟨h0, h1, h2⟩ := h
  intro j v hj
  match j, hj with
  | 0, hj => cases hj; exact h0
  | 1, hj => cases hj; exact h1
  | 2, hj => cases hj; exact h2
  | j + 3, hj => simp [Sc.vs] at hj
/-- A slice of them that lies below B, with their lists. -/
def ScI (w : World) (B : Nat) (A : Option Addr) (n : Nat) (xs : List Sc) : Prop :=
  xs.length = n ∧ n ≤ maxLen ∧ (0 < n → ∃ b off, A = some ⟨b, off, none⟩ ∧ b < B ∧ ∀ (j : Nat) (x : Sc), xs[j]? = some x → ∃ l, ScAt w b (off + j * 3) x l ∧ ScV w B x l)
theorem ScI.below {w w' : World} {B n : Nat} {A : Option Addr} {xs : List Sc} (h : ScI w B A n xs) (hb : Below B w w') : ScI w' B A n xs :=
  ⟨h.1, h.2.1, fun hn => by
    obtain ⟨b, off, e, hg, hc⟩ := h.2.2 hn
    refine ⟨b, off, e, hg, fun j x hx => ?_⟩
    obtain ⟨l, h1, h2⟩ := hc j x hx
    exact ⟨l, h1.below hb hg, h2.below hb⟩⟩
theorem ScI.more {w : World} {B B' n : Nat} {A : Option Addr} {xs : List Sc} (h : ScI w B A n xs) (hB : B ≤ B') : ScI w B' A n xs :=
  ⟨h.1, h.2.1, fun hn => by
    obtain ⟨b, off, e, hg, hc⟩ := h.2.2 hn
    refine ⟨b, off, e, by omega, fun j x hx => ?_⟩
    obtain ⟨l, h1, h2⟩ := hc j x hx
    exact ⟨l, h1, h2.more hB⟩⟩
theorem ScI.at_ {w : World} {B n k : Nat} {A : Option Addr} {xs : List Sc} (h : ScI w B A n xs) (hk : k < n) : ∃ b off x l, A = some ⟨b, off, none⟩ ∧ b < B ∧ xs[k]? = some x ∧ ScAt w b (off + k * 3) x l ∧ ScV w B x l := by
  obtain ⟨b, off, e, hg, hc⟩ := h.2.2 (by omega)
  have hl : k < xs.length := by rw [h.1]; exact hk
  obtain ⟨l, h1, h2⟩ := hc k _ (List.getElem?_eq_getElem hl)
  exact ⟨b, off, xs[k], l, e, hg, List.getElem?_eq_getElem hl, h1, h2⟩
theorem ScI.go {W w : World} {A : Option Addr} {n : Nat} {xs : List Sc} (h : ScI W W.heap.size A n xs) (hb : Below W.heap.size W w) : ScI w w.heap.size A n xs := (h.below hb).more hb.size
theorem ScI.alloc {W : World} {A : Option Addr} {n : Nat} {xs : List Sc} (h : ScI W W.heap.size A n xs) (o : Obj) : ScI (W.alloc o) (W.alloc o).heap.size A n xs := h.go (below_alloc W o)

section
variable {H : Type} {enc : TypeId × Value → H} {W : World} {base : Nat} {held : Bool}
set_option maxRecDepth 100000 in
/-- Its cells, each with its own reading. -/
theorem open_ScN {fuel : Nat} {cs : List Value} {x : DataW H × List MemPlace} (h : DataW.trod enc Tryd.prog W base (fun _ => true) held fuel 26 cs = some x) :
    ∃ x l, cs = Sc.vs x l ∧ ScV W W.heap.size x l := by
  obtain ⟨ys, m, hm, _, hlen, _, hf⟩ := DataW.trod_struct Tryd.underlying26 h
  have hlen' : cs.length = 3 := hlen.trans (by kernel_rfl)
  match cs, hlen' with
  | [c0, c1, c2], _ =>
    have hys : ∀ i, i < 3 → ∃ y, ys[i]? = some y := by
      intro i hi
      have : ys.length = 3 := by assumption
      exact ⟨_, List.getElem?_eq_getElem (by omega)⟩
    have f0 : DataW.trod enc Tryd.prog W base (fun _ => true) held m 22 [c0] = ys[0]? := field_at (i := 0) (o := 0) (k := 1) (T := 22) hf (by kernel_rfl) (by kernel_rfl)
    obtain ⟨y0, g0⟩ := hys 0 (by decide)
    rw [g0] at f0
    have f1 : DataW.trod enc Tryd.prog W base (fun _ => true) held m 23 [c1] = ys[1]? := field_at (i := 1) (o := 1) (k := 1) (T := 23) hf (by kernel_rfl) (by kernel_rfl)
    obtain ⟨y1, g1⟩ := hys 1 (by decide)
    rw [g1] at f1
    have f2 : DataW.trod enc Tryd.prog W base (fun _ => true) held m 24 [c2] = ys[2]? := field_at (i := 2) (o := 2) (k := 1) (T := 24) hf (by kernel_rfl) (by kernel_rfl)
    obtain ⟨y2, g2⟩ := hys 2 (by decide)
    rw [g2] at f2
    obtain ⟨A0, n0, q0, hc0, e0⟩ := open_slice1 Tryd.underlying22 f0
    rw [e0] at f0
    obtain ⟨z0, hz0⟩ := open_BdF f0
    obtain ⟨A1, n1, q1, hc1, e1⟩ := open_slice1 Tryd.underlying23 f1
    rw [e1] at f1
    obtain ⟨z1, hz1⟩ := open_FnF f1
    obtain ⟨A2, n2, q2, hc2, e2⟩ := open_slice1 Tryd.underlying24 f2
    rw [e2] at f2
    obtain ⟨z2, hz2⟩ := open_RtF f2
    simp only [List.cons.injEq, and_true] at e0 e1 e2
    subst e0 e1 e2
    exact ⟨⟨z0, z1, z2⟩, ⟨A0, n0, q0, hc0, A1, n1, q1, hc1, A2, n2, q2, hc2⟩, rfl, hz0, hz1, hz2⟩
end
set_option maxRecDepth 100000 in
/-- An argument. -/
theorem open_Sc {H : Type} {enc : TypeId × Value → H} {W : World} {v : Value} {d : DataW H} {p : List MemPlace} {r : Reach} {b0 : Nat} (hv : Value.okWide Tryd.prog W r b0 26 v) (h : DataW.Trod enc Tryd.prog W 0 (fun _ => true) true 26 v d p) :
    ∃ x l, v = Sc.ag x l ∧ ScV W W.heap.size x l := by
  obtain ⟨cs, rfl, hsz⟩ := Go.WideShapes.okWide_struct Tryd.underlying26 hv
  obtain ⟨fuel, hf⟩ := h
  obtain ⟨x, l, e, ho⟩ := open_ScN hf
  refine ⟨x, l, ?_, ho⟩
  have : cs.toList = Sc.vs x l := e
  rw [show cs = (Sc.vs x l).toArray from by rw [← this]]
  rfl
/-- What szScope takes of the bound. -/
def szSc1 (x : Sc) : Nat := szBd x.vars_ + szFn x.functions_ + szRt x.types_

set_option maxHeartbeats 2000000 in
set_option maxRecDepth 100000 in
theorem szScope_any (x : Sc) (l : ScLay) (L : Int) (W : World) (ho : ScV W W.heap.size x l) (hLL : 0 ≤ L) (hL : L ≤ 1048576) :
    Calls Tryd.prog 5 #[x.ag l, .int .i64 L] W (SzL (szSc1 x) L W) := by
  obtain ⟨s, hs⟩ : ∃ s, szSc1 x = s := ⟨_, rfl⟩
  rw [hs]
  unfold szSc1 at hs
  obtain ⟨x0, x1, x2⟩ := x
  obtain ⟨A0, n0, c0, h0, A1, n1, c1, h1, A2, n2, c2, h2⟩ := l
  obtain ⟨k0, k1, k2⟩ := ho
  try unfold ScV at k0 k1 k2
  dsimp only at hs k0 k1 k2
  have HS := Lib.hid hs
  have HL0 := Lib.hid hLL
  have HL1 := Lib.hid hL
  have HK0 := Lib.hid k0
  have HK1 := Lib.hid k1
  have HK2 := Lib.hid k2
  have HC := Lib.hid (fun X (e : X = W.alloc (.cells #[.slice A0 n0 c0, .slice A1 n1 c1, .slice A2 n2 c2] 26)) => (show RW 26 X W.heap.size #[.slice A0 n0 c0, .slice A1 n1 c1, .slice A2 n2 c2] ∧ Below W.heap.size W X ∧ W.heap.size < X.heap.size from by rw [e]; exact ⟨RW.new _ _ _, below_alloc _ _, lt_alloc _ _⟩))
  clear hs k0 k1 k2
  show Calls Tryd.prog 5 #[.agg #[.slice A0 n0 c0, .slice A1 n1 c1, .slice A2 n2 c2], .int .i64 L] W _
  by_cases cc0 : (szBd x0 : Int) ≤ L
  · have C0 := Lib.hid cc0
    clear cc0
    by_cases cc1 : (szBd x0 : Int) + (szFn x1 : Int) ≤ L
    · have C1 := Lib.hid cc1
      clear cc1
      by_cases cc2 : (szBd x0 : Int) + (szFn x1 : Int) + (szRt x2 : Int) ≤ L
      · have C2 := Lib.hid cc2
        clear cc2
        go_enter Tryd.func5, Tryd.ntmps5
        go_wp2_with (go_at_call 21; obtain ⟨g0, g1, g2⟩ := HC.out _ rfl; have HQ := szBindingS_any A0 n0 c0 x0 (L) _ (HK0.out.go g1) HL0.out HL1.out; refine Calls.mono HQ ?_; clear HQ; intro e w1 h; obtain ⟨z0, rfl, hz0, l0, u0, hb⟩ := h.fits (by have := C0.out; omega) HL1.out; have Z0 := Lib.hid hz0; have d0 : decide (z0 < 0) = false := (by simp; omega); have HR1 := Lib.hid (g0.below hb g2); have HB1 := Lib.hid (g1.trans (hb.mono g1.size)); have HG1 := Lib.hid (Nat.lt_of_lt_of_le g2 hb.size); have q01 : w1.cell? ⟨W.heap.size, 1, none⟩ = some (.slice A1 n1 c1) := HR1.out.cell 1; clear hb hz0 g0 g1 g2 HK0)
        go_wp2_with (go_at_call 22; have HQ := szFunctionS_any A1 n1 c1 x1 (z0) _ (HK1.out.go HB1.out) (by have := C0.out; have := Z0.out; have := HL0.out; omega) (by have := C0.out; have := Z0.out; have := HL1.out; omega); refine Calls.mono HQ ?_; clear HQ; intro e w2 h; obtain ⟨z1, rfl, hz1, l1, u1, hb⟩ := h.fits (by have := C0.out; have := C1.out; have := Z0.out; omega) (by have := C0.out; have := Z0.out; have := HL1.out; omega); have Z1 := Lib.hid hz1; have d1 : decide (z1 < 0) = false := (by simp; omega); have HR2 := Lib.hid (HR1.out.below hb HG1.out); have HB2 := Lib.hid (HB1.out.trans (hb.mono HB1.out.size)); have HG2 := Lib.hid (Nat.lt_of_lt_of_le HG1.out hb.size); have q12 : w2.cell? ⟨W.heap.size, 2, none⟩ = some (.slice A2 n2 c2) := HR2.out.cell 2; clear hb hz1  HK1)
        go_wp2_with (go_at_call 23; have HQ := szRecordTypeS_any A2 n2 c2 x2 (z1) _ (HK2.out.go HB2.out) (by have := C0.out; have := C1.out; have := Z0.out; have := Z1.out; have := HL0.out; omega) (by have := C0.out; have := C1.out; have := Z0.out; have := Z1.out; have := HL1.out; omega); refine Calls.mono HQ ?_; clear HQ; intro e w3 h; obtain ⟨z2, rfl, hz2, l2, u2, hb⟩ := h.fits (by have := C0.out; have := C1.out; have := C2.out; have := Z0.out; have := Z1.out; omega) (by have := C0.out; have := C1.out; have := Z0.out; have := Z1.out; have := HL1.out; omega); have Z2 := Lib.hid hz2; have d2 : decide (z2 < 0) = false := (by simp; omega); have HR3 := Lib.hid (HR2.out.below hb HG2.out); have HB3 := Lib.hid (HB2.out.trans (hb.mono HB2.out.size)); have HG3 := Lib.hid (Nat.lt_of_lt_of_le HG2.out hb.size); clear hb hz2  HK2)
        go_ret
        refine ⟨.inl ⟨by have := C0.out; have := C1.out; have := C2.out; have := Z0.out; have := Z1.out; have := Z2.out; have := HS.out; omega, ?_⟩, HB3.out⟩
        have hx : z2 = L - (s : Int) := by have := C0.out; have := C1.out; have := C2.out; have := Z0.out; have := Z1.out; have := Z2.out; have := HS.out; omega
        rw [← hx]
        rfl
      · have C2 := Lib.hid cc2
        clear cc2
        go_enter Tryd.func5, Tryd.ntmps5
        go_wp2_with (go_at_call 21; obtain ⟨g0, g1, g2⟩ := HC.out _ rfl; have HQ := szBindingS_any A0 n0 c0 x0 (L) _ (HK0.out.go g1) HL0.out HL1.out; refine Calls.mono HQ ?_; clear HQ; intro e w1 h; obtain ⟨z0, rfl, hz0, l0, u0, hb⟩ := h.fits (by have := C0.out; omega) HL1.out; have Z0 := Lib.hid hz0; have d0 : decide (z0 < 0) = false := (by simp; omega); have HR1 := Lib.hid (g0.below hb g2); have HB1 := Lib.hid (g1.trans (hb.mono g1.size)); have HG1 := Lib.hid (Nat.lt_of_lt_of_le g2 hb.size); have q01 : w1.cell? ⟨W.heap.size, 1, none⟩ = some (.slice A1 n1 c1) := HR1.out.cell 1; clear hb hz0 g0 g1 g2 HK0)
        go_wp2_with (go_at_call 22; have HQ := szFunctionS_any A1 n1 c1 x1 (z0) _ (HK1.out.go HB1.out) (by have := C0.out; have := Z0.out; have := HL0.out; omega) (by have := C0.out; have := Z0.out; have := HL1.out; omega); refine Calls.mono HQ ?_; clear HQ; intro e w2 h; obtain ⟨z1, rfl, hz1, l1, u1, hb⟩ := h.fits (by have := C0.out; have := C1.out; have := Z0.out; omega) (by have := C0.out; have := Z0.out; have := HL1.out; omega); have Z1 := Lib.hid hz1; have d1 : decide (z1 < 0) = false := (by simp; omega); have HR2 := Lib.hid (HR1.out.below hb HG1.out); have HB2 := Lib.hid (HB1.out.trans (hb.mono HB1.out.size)); have HG2 := Lib.hid (Nat.lt_of_lt_of_le HG1.out hb.size); have q12 : w2.cell? ⟨W.heap.size, 2, none⟩ = some (.slice A2 n2 c2) := HR2.out.cell 2; clear hb hz1  HK1)
        go_wp2_with (go_at_call 23; have HQ := szRecordTypeS_any A2 n2 c2 x2 (z1) _ (HK2.out.go HB2.out) (by have := C0.out; have := C1.out; have := Z0.out; have := Z1.out; have := HL0.out; omega) (by have := C0.out; have := C1.out; have := Z0.out; have := Z1.out; have := HL1.out; omega); refine Calls.mono HQ ?_; clear HQ; intro e w3 h; obtain ⟨rfl, hb⟩ := h.long (by have := C0.out; have := C1.out; have := C2.out; have := Z0.out; have := Z1.out; omega); have HR3 := Lib.hid (HR2.out.below hb HG2.out); have HB3 := Lib.hid (HB2.out.trans (hb.mono HB2.out.size)); have HG3 := Lib.hid (Nat.lt_of_lt_of_le HG2.out hb.size); clear hb  HK2)
        go_ret
        exact ⟨.inr ⟨by have := C0.out; have := C1.out; have := C2.out; have := Z0.out; have := Z1.out; have := HS.out; omega, rfl⟩, HB3.out⟩
    · have C1 := Lib.hid cc1
      clear cc1
      go_enter Tryd.func5, Tryd.ntmps5
      go_wp2_with (go_at_call 21; obtain ⟨g0, g1, g2⟩ := HC.out _ rfl; have HQ := szBindingS_any A0 n0 c0 x0 (L) _ (HK0.out.go g1) HL0.out HL1.out; refine Calls.mono HQ ?_; clear HQ; intro e w1 h; obtain ⟨z0, rfl, hz0, l0, u0, hb⟩ := h.fits (by have := C0.out; omega) HL1.out; have Z0 := Lib.hid hz0; have d0 : decide (z0 < 0) = false := (by simp; omega); have HR1 := Lib.hid (g0.below hb g2); have HB1 := Lib.hid (g1.trans (hb.mono g1.size)); have HG1 := Lib.hid (Nat.lt_of_lt_of_le g2 hb.size); have q01 : w1.cell? ⟨W.heap.size, 1, none⟩ = some (.slice A1 n1 c1) := HR1.out.cell 1; clear hb hz0 g0 g1 g2 HK0)
      go_wp2_with (go_at_call 22; have HQ := szFunctionS_any A1 n1 c1 x1 (z0) _ (HK1.out.go HB1.out) (by have := C0.out; have := Z0.out; have := HL0.out; omega) (by have := C0.out; have := Z0.out; have := HL1.out; omega); refine Calls.mono HQ ?_; clear HQ; intro e w2 h; obtain ⟨rfl, hb⟩ := h.long (by have := C0.out; have := C1.out; have := Z0.out; omega); have HR2 := Lib.hid (HR1.out.below hb HG1.out); have HB2 := Lib.hid (HB1.out.trans (hb.mono HB1.out.size)); have HG2 := Lib.hid (Nat.lt_of_lt_of_le HG1.out hb.size); clear hb  HK1)
      go_ret
      exact ⟨.inr ⟨by have := C0.out; have := C1.out; have := Z0.out; have := HS.out; omega, rfl⟩, HB2.out⟩
  · have C0 := Lib.hid cc0
    clear cc0
    go_enter Tryd.func5, Tryd.ntmps5
    go_wp2_with (go_at_call 21; obtain ⟨g0, g1, g2⟩ := HC.out _ rfl; have HQ := szBindingS_any A0 n0 c0 x0 (L) _ (HK0.out.go g1) HL0.out HL1.out; refine Calls.mono HQ ?_; clear HQ; intro e w1 h; obtain ⟨rfl, hb⟩ := h.long (by have := C0.out; omega); have HR1 := Lib.hid (g0.below hb g2); have HB1 := Lib.hid (g1.trans (hb.mono g1.size)); have HG1 := Lib.hid (Nat.lt_of_lt_of_le g2 hb.size); clear hb g0 g1 g2 HK0)
    go_ret
    exact ⟨.inr ⟨by have := C0.out; have := HS.out; omega, rfl⟩, HB1.out⟩

/-- Those of the first k. -/
def sumSc (xs : List Sc) : Nat → Nat
  | 0 => 0
  | k + 1 => sumSc xs k + ((xs[k]?.map szSc1).getD 0)
theorem sumSc_next {xs : List Sc} {k : Nat} {x : Sc} (h : xs[k]? = some x) : sumSc xs (k + 1) = sumSc xs k + szSc1 x := by
  rw [sumSc, h]
  rfl
theorem sumSc_mono {xs : List Sc} {j : Nat} : ∀ {k : Nat}, j ≤ k → sumSc xs j ≤ sumSc xs k
  | 0, h => by obtain rfl : j = 0 := by omega
               exact Nat.le_refl _
  | k + 1, h => by
    by_cases e : j = k + 1
    · rw [e]; exact Nat.le_refl _
    · have := sumSc_mono (xs := xs) (show j ≤ k by omega)
      rw [sumSc]
      omega
def szSc (xs : List Sc) : Nat := xs.length + sumSc xs xs.length

/-- No list is too long. -/
def ScSmall (x : Sc) : Prop := x.vars_.length ≤ 1048576 ∧ ((∀ (j : Nat) (y : Fn), x.functions_[j]? = some y → FnSmall y) ∧ x.functions_.length ≤ 1048576) ∧ ((∀ (j : Nat) (y : Rt), x.types_[j]? = some y → RtSmall y) ∧ x.types_.length ≤ 1048576)
theorem small_Sc1 {x : Sc} (h : (szSc1 x : Int) ≤ 1048576) : ScSmall x := by
  unfold szSc1 at h
  unfold ScSmall
  exact ⟨(by unfold szBd at h; omega), (small_Fn (by omega)), (small_Rt (by omega))⟩
theorem small_Sc {xs : List Sc} (h : (szSc xs : Int) ≤ 1048576) : (∀ (j : Nat) (x : Sc), xs[j]? = some x → ScSmall x) ∧ xs.length ≤ 1048576 := by
  unfold szSc at h
  refine ⟨fun j x hx => small_Sc1 ?_, by omega⟩
  have hl := (List.getElem?_eq_some_iff.1 hx).1
  have h1 := sumSc_mono (xs := xs) (j := j + 1) (k := xs.length) (by omega)
  rw [sumSc_next hx] at h1
  omega
end Go.Proofs.YtflhjcdabbomiaaDoor

namespace Go.Proofs.YtflhjcdabbomiaaDoor
open Go Go.RowKit

/-- The first k elements are what a valid list has. -/
def UpOk {α : Type} (ok : α → Bool) (nm : α → ByteArray) (xs : List α) (k : Nat) : Prop := ∀ (i : Nat) (x : α), i < k → xs[i]? = some x → ok x = true ∧ ∀ y, 0 < i → xs[i - 1]? = some y → Op.bytesLess (nm y).toList (nm x).toList = true
def ListOk {α : Type} (ok : α → Bool) (nm : α → ByteArray) (lim : Nat) (xs : List α) : Prop := xs.length ≤ lim ∧ UpOk ok nm xs xs.length
theorem UpOk.zero {α : Type} {ok : α → Bool} {nm : α → ByteArray} {xs : List α} : UpOk ok nm xs 0 := fun i x h => absurd h (by omega)
theorem UpOk.first {α : Type} {ok : α → Bool} {nm : α → ByteArray} {xs : List α} {x : α} (hx : xs[0]? = some x) (h : ok x = true) : UpOk ok nm xs (0 + 1) := by
  intro i u hi hu
  obtain rfl : i = 0 := by omega
  rw [hx, Option.some.injEq] at hu
  subst hu
  exact ⟨h, fun y h0 => absurd h0 (by omega)⟩
theorem UpOk.next {α : Type} {ok : α → Bool} {nm : α → ByteArray} {xs : List α} {k : Nat} {x y : α} (h : UpOk ok nm xs k) (hx : xs[k]? = some x) (hok : ok x = true) (hy : xs[k - 1]? = some y) (hl : Op.bytesLess (nm y).toList (nm x).toList = true) : UpOk ok nm xs (k + 1) := by
  intro i u hi hu
  by_cases e : i = k
  · subst e
    rw [hx, Option.some.injEq] at hu
    subst hu
    refine ⟨hok, fun z h0 hz => ?_⟩
    rw [hy, Option.some.injEq] at hz
    subst hz
    exact hl
  · exact h i u (by omega) hu
theorem not_ok {α : Type} {ok : α → Bool} {nm : α → ByteArray} {lim : Nat} {xs : List α} {k : Nat} {x : α} (hx : xs[k]? = some x) (hok : ok x = false) : ¬ ListOk ok nm lim xs := fun h => by
  have := (h.2 k x (List.getElem?_eq_some_iff.1 hx).1 hx).1
  rw [hok] at this
  cases this
theorem not_up {α : Type} {ok : α → Bool} {nm : α → ByteArray} {lim : Nat} {xs : List α} {k : Nat} {x y : α} (hk : 0 < k) (hx : xs[k]? = some x) (hy : xs[k - 1]? = some y) (hl : Op.bytesLess (nm y).toList (nm x).toList = false) : ¬ ListOk ok nm lim xs := fun h => by
  have := (h.2 k x (List.getElem?_eq_some_iff.1 hx).1 hx).2 y hk hy
  rw [hl] at this
  cases this
end Go.Proofs.YtflhjcdabbomiaaDoor

namespace Go.Proofs.YtflhjcdabbomiaaDoor
open Go Go.RowKit

/-- What ValidScope answers. -/
def ScOk (s : Sc) : Prop := ListOk bdOk Bd.name_ 40 s.vars_ ∧ ListOk fnOk Fn.name_ 12 s.functions_ ∧ ListOk rtOk Rt.name_ 8 s.types_
end Go.Proofs.YtflhjcdabbomiaaDoor

namespace Go.Proofs.YtflhjcdabbomiaaDoor
open Go Go.RowKit Go.Sort

theorem method_elemBd (v0 v1 v2 v3 v4 : Value) (w : World) : (method 247 63 (.agg #[v0, v1, v2, v3, v4]) "loop.example/g00873/impl.isElement").run Tryd.prog w = .ok (94, .agg #[v0, v1, v2, v3, v4]) w := by kernel_rfl
theorem method_keyBd (v0 v1 v2 v3 v4 : Value) (w : World) : (method 247 63 (.agg #[v0, v1, v2, v3, v4]) "loop.example/g00873/impl.key").run Tryd.prog w = .ok (95, .agg #[v0, v1, v2, v3, v4]) w := by kernel_rfl

set_option maxHeartbeats 4000000 in
set_option maxRecDepth 100000 in
theorem withinBd_any (A : Option Addr) (n c lim : Nat) (xs : List Bd) (W : World) (hr : BdI W W.heap.size A n xs) (hlim : lim ≤ 1000) (hT : Classes W) :
    Calls Tryd.prog 54 #[.slice A n c, .int .i64 lim] W fun e w' => e = .returned (.bool (tt (ListOk bdOk Bd.name_ lim xs))) ∧ Below W.heap.size W w' := by
  have HR := Lib.hid hr
  have hn := hr.2.1
  have HN := Lib.hid hr.1
  have HTT := Lib.hid hT
  unfold maxLen at hn
  obtain ⟨P, hP⟩ : ∃ P, tt (ListOk bdOk Bd.name_ lim xs) = P := ⟨_, rfl⟩
  have HP := Lib.hid hP
  rw [hP]
  clear hP
  by_cases hbig : lim < n
  · have HF : Hid (P = false) := by
      show _ = _
      rw [← HP.out]
      exact tt_false fun h => by have := h.1; rw [hr.1] at this; omega
    have d0 : (lim : Int) < (n : Int) := by omega
    clear hr hT
    go_enter Tryd.func54, Tryd.ntmps54
    go_wp2_with fail
    go_ret
    exact ⟨by rw [HF.out]; rfl, Below.refl _ _⟩
  have d0 : ¬ ((lim : Int) < (n : Int)) := by omega
  have HLIM : Hid (n ≤ lim) := by show _ ≤ _; omega
  clear hr hT hbig
  go_enter Tryd.func54, Tryd.ntmps54
  go_wp2_with fail
  go_loopw [13] (fun i wr => ∃ k : Nat, k ≤ n ∧ i = .int .i64 k ∧ Hid (Below W.heap.size W wr) ∧ Hid (UpOk bdOk Bd.name_ xs k)) (fun i _ => n - (intOf i).toNat)
  case atStart => exact ⟨0, Nat.zero_le _, rfl, Below.refl _ _, Lib.hid UpOk.zero⟩
  case round =>
    obtain ⟨k, hk, rfl, HW, HV⟩ := hrel
    by_cases hlt : k < n
    · have b0 : (0 : Int) ≤ (k : Int) := by omega
      have b1 : (k : Int) < (n : Int) := by omega
      obtain ⟨b, off, x, rfl, hg, hx, ⟨q0, q1, q2, q3, q4⟩, hm0, hm3⟩ := (HR.out.go HW.out).at_ hlt
      have HX := Lib.hid hx
      have HGB : Hid (b < wr.heap.size) := hg
      have HEL := Lib.hid (fun (w : World) (hb : Below wr.heap.size wr w) (hT : Classes w) => elemBd_any x w hm0 hm3 hT)
      have HC := Lib.hid (one_newS wr 63 #[.string x.name_, .int .i64 x.kind_, .int .i64 x.num_, .string x.text_, .int .i64 x.ref_])
      have HT1 : Hid (Classes wr) := HTT.out.below HW.out (heap_pos (HTT.out.at_ 0 (by decide)))
      have hme := method_elemBd (.string x.name_) (.int .i64 x.kind_) (.int .i64 x.num_) (.string x.text_) (.int .i64 x.ref_)
      obtain ⟨Z, hZ⟩ : ∃ z, bdOk x = z := ⟨_, rfl⟩
      have HZ := Lib.hid hZ
      clear hx hg hm0 hm3 hZ
      cases Z
      · have HF : Hid (P = false) := by
          show _ = _
          rw [← HP.out]
          exact tt_false (not_ok HX.out HZ.out)
        go_wp2_with fail
        obtain ⟨w0, hw0⟩ : ∃ w0, wr.alloc (.cells #[.string x.name_, .int .i64 x.kind_, .int .i64 x.num_, .string x.text_, .int .i64 x.ref_] 63) = w0 := ⟨_, rfl⟩
        rw [hw0]
        obtain ⟨g0, g1, g2⟩ := HC.out w0 hw0.symm
        have HB0 := Lib.hid g1
        have x0 := cell_regrown (g0.cell 0)
        have x1 := cell_regrown (g0.cell 1)
        have x2 := cell_regrown (g0.cell 2)
        have x3 := cell_regrown (g0.cell 3)
        have x4 := cell_regrown (g0.cell 4)
        have cE : ∀ d os', Calls Tryd.prog 94 #[.agg #[.string x.name_, .int .i64 x.kind_, .int .i64 x.num_, .string x.text_, .int .i64 x.ref_]] (grow (redrawn w0 d) os') (fun e w'' => e = .returned (.bool false) ∧ ∃ q : Regrown, w'' = grow (redrawn w0 q.d) q.os) := fun d os' => Calls.regrown_of (by have hb := g1.trans ((below_regrown w0 d os').mono g1.size); have h := HEL.out _ hb (classes_up HT1.out hb); rw [HZ.out] at h; exact h)
        clear hw0 g0 g1 g2 q0 q1 q2 q3 q4
        refine wp_region_quiet_below (by kernel_rfl) (by kernel_rfl) ?_
        repeat (first | go_big_quiet_step (with_reducible exact cE _ _) | quiet_step (with_reducible exact cE _ _))
        refine wpQuiet_nil ?_
        intro w4 hw'
        obtain ⟨⟨dq, osq⟩, hw''⟩ := hw'
        have HB4 : Hid (Below W.heap.size W w4) := by show Below _ _ _; rw [hw'']; exact HW.out.trans ((HB0.out.trans ((below_regrown w0 dq osq).mono HB0.out.size)).mono HW.out.size)
        clear hw'' x0 x1 x2 x3 x4 cE
        go_wp2_with fail
        go_ret
        exact ⟨by rw [HF.out]; rfl, HB4.out⟩
      by_cases hkp : k = 0
      · subst hkp
        have HV2 := Lib.hid (UpOk.first (nm := Bd.name_) HX.out HZ.out)
        simp only [Nat.zero_mul, Nat.add_zero] at q0 q1 q2 q3 q4
        go_wp2_with fail
        obtain ⟨w0, hw0⟩ : ∃ w0, wr.alloc (.cells #[.string x.name_, .int .i64 x.kind_, .int .i64 x.num_, .string x.text_, .int .i64 x.ref_] 63) = w0 := ⟨_, rfl⟩
        rw [hw0]
        obtain ⟨g0, g1, g2⟩ := HC.out w0 hw0.symm
        have HB0 := Lib.hid g1
        have x0 := cell_regrown (g0.cell 0)
        have x1 := cell_regrown (g0.cell 1)
        have x2 := cell_regrown (g0.cell 2)
        have x3 := cell_regrown (g0.cell 3)
        have x4 := cell_regrown (g0.cell 4)
        have cE : ∀ d os', Calls Tryd.prog 94 #[.agg #[.string x.name_, .int .i64 x.kind_, .int .i64 x.num_, .string x.text_, .int .i64 x.ref_]] (grow (redrawn w0 d) os') (fun e w'' => e = .returned (.bool true) ∧ ∃ q : Regrown, w'' = grow (redrawn w0 q.d) q.os) := fun d os' => Calls.regrown_of (by have hb := g1.trans ((below_regrown w0 d os').mono g1.size); have h := HEL.out _ hb (classes_up HT1.out hb); rw [HZ.out] at h; exact h)
        clear hw0 g0 g1 g2 q0 q1 q2 q3 q4
        refine wp_region_quiet_below (by kernel_rfl) (by kernel_rfl) ?_
        repeat (first | go_big_quiet_step (with_reducible exact cE _ _) | quiet_step (with_reducible exact cE _ _))
        refine wpQuiet_nil ?_
        intro w4 hw'
        obtain ⟨⟨dq, osq⟩, hw''⟩ := hw'
        have HB4 : Hid (Below W.heap.size W w4) := by show Below _ _ _; rw [hw'']; exact HW.out.trans ((HB0.out.trans ((below_regrown w0 dq osq).mono HB0.out.size)).mono HW.out.size)
        clear hw'' x0 x1 x2 x3 x4 cE
        go_wp2_with fail
        go_roundw
        case rel => exact ⟨0 + 1, by omega, by go_num, HB4, HV2⟩
        case measure => simp [intOf]; omega
      obtain ⟨j, hj⟩ : ∃ j, k = j + 1 := ⟨k - 1, by omega⟩
      have HJ := Lib.hid hj
      have hj1 : (k : Int) - 1 = (j : Int) := by omega
      have hkp2 : (0 : Int) < (k : Int) := by omega
      have hkp3 : decide ((0 : Int) < (k : Int)) = true := by simp; omega
      have hkp4 : decide (0 < k) = true := by simp; omega
      have hkp5 : 0 < k := by omega
      have c0 : (0 : Int) ≤ (j : Int) := by omega
      have c1 : (j : Int) < (n : Int) := by omega
      obtain ⟨b', off', y, hA, hg', hy, ⟨r0, r1, r2, r3, r4⟩, _⟩ := (HR.out.go HW.out).at_ (show j < n by omega)
      simp only [Option.some.injEq, Addr.mk.injEq, and_true] at hA
      obtain ⟨rfl, rfl⟩ := hA
      have HY : Hid (xs[k - 1]? = some y) := by show _ = _; rw [show k - 1 = j by omega]; exact hy
      have hmx := method_keyBd (.string x.name_) (.int .i64 x.kind_) (.int .i64 x.num_) (.string x.text_) (.int .i64 x.ref_)
      have hmy := method_keyBd (.string y.name_) (.int .i64 y.kind_) (.int .i64 y.num_) (.string y.text_) (.int .i64 y.ref_)
      clear hj hkp hg' hy
      obtain ⟨R, hRR⟩ : ∃ z, Op.bytesLess y.name_.toList x.name_.toList = z := ⟨_, rfl⟩
      have HRR := Lib.hid hRR
      cases R
      · have HF : Hid (P = false) := by
          show _ = _
          rw [← HP.out]
          exact tt_false (not_up hkp5 HX.out HY.out HRR.out)
        go_wp2_with fail
        obtain ⟨w0, hw0⟩ : ∃ w0, wr.alloc (.cells #[.string x.name_, .int .i64 x.kind_, .int .i64 x.num_, .string x.text_, .int .i64 x.ref_] 63) = w0 := ⟨_, rfl⟩
        rw [hw0]
        obtain ⟨g0, g1, g2⟩ := HC.out w0 hw0.symm
        have HB0 := Lib.hid g1
        have x0 := cell_regrown (g0.cell 0)
        have x1 := cell_regrown (g0.cell 1)
        have x2 := cell_regrown (g0.cell 2)
        have x3 := cell_regrown (g0.cell 3)
        have x4 := cell_regrown (g0.cell 4)
        have cE : ∀ d os', Calls Tryd.prog 94 #[.agg #[.string x.name_, .int .i64 x.kind_, .int .i64 x.num_, .string x.text_, .int .i64 x.ref_]] (grow (redrawn w0 d) os') (fun e w'' => e = .returned (.bool true) ∧ ∃ q : Regrown, w'' = grow (redrawn w0 q.d) q.os) := fun d os' => Calls.regrown_of (by have hb := g1.trans ((below_regrown w0 d os').mono g1.size); have h := HEL.out _ hb (classes_up HT1.out hb); rw [HZ.out] at h; exact h)
        have cX : ∀ d os', Calls Tryd.prog 95 #[.agg #[.string x.name_, .int .i64 x.kind_, .int .i64 x.num_, .string x.text_, .int .i64 x.ref_]] (grow (redrawn w0 d) os') (fun e w'' => e = .returned (.string x.name_) ∧ ∃ q : Regrown, w'' = grow (redrawn w0 q.d) q.os) := fun d os' => Calls.regrown_of (keyBd_any x _)
        have cY : ∀ d os', Calls Tryd.prog 95 #[.agg #[.string y.name_, .int .i64 y.kind_, .int .i64 y.num_, .string y.text_, .int .i64 y.ref_]] (grow (redrawn w0 d) os') (fun e w'' => e = .returned (.string y.name_) ∧ ∃ q : Regrown, w'' = grow (redrawn w0 q.d) q.os) := fun d os' => Calls.regrown_of (keyBd_any y _)
        have y0 := cell_regrown ((g1.cell (p := ⟨b, off + j * 5, none⟩) HGB.out).trans r0)
        have y1 := cell_regrown ((g1.cell (p := ⟨b, off + j * 5 + 1, none⟩) HGB.out).trans r1)
        have y2 := cell_regrown ((g1.cell (p := ⟨b, off + j * 5 + 2, none⟩) HGB.out).trans r2)
        have y3 := cell_regrown ((g1.cell (p := ⟨b, off + j * 5 + 3, none⟩) HGB.out).trans r3)
        have y4 := cell_regrown ((g1.cell (p := ⟨b, off + j * 5 + 4, none⟩) HGB.out).trans r4)
        clear hw0 g0 g1 g2 q0 q1 q2 q3 q4 r0 r1 r2 r3 r4
        refine wp_region_quiet_below (by kernel_rfl) (by kernel_rfl) ?_
        repeat (first | go_big_quiet_step (first | with_reducible exact cE _ _ | with_reducible exact cX _ _ | with_reducible exact cY _ _) | quiet_step (first | with_reducible exact cE _ _ | with_reducible exact cX _ _ | with_reducible exact cY _ _))
        refine wpQuiet_nil ?_
        intro w4 hw'
        obtain ⟨⟨dq, osq⟩, hw''⟩ := hw'
        have HB4 : Hid (Below W.heap.size W w4) := by show Below _ _ _; rw [hw'']; exact HW.out.trans ((HB0.out.trans ((below_regrown w0 dq osq).mono HB0.out.size)).mono HW.out.size)
        clear hw'' x0 x1 x2 x3 x4 y0 y1 y2 y3 y4 cE cX cY
        go_wp2_with fail
        go_ret
        exact ⟨by rw [HF.out]; rfl, HB4.out⟩
      · have HV2 := Lib.hid (UpOk.next HV.out HX.out HZ.out HY.out HRR.out)
        go_wp2_with fail
        obtain ⟨w0, hw0⟩ : ∃ w0, wr.alloc (.cells #[.string x.name_, .int .i64 x.kind_, .int .i64 x.num_, .string x.text_, .int .i64 x.ref_] 63) = w0 := ⟨_, rfl⟩
        rw [hw0]
        obtain ⟨g0, g1, g2⟩ := HC.out w0 hw0.symm
        have HB0 := Lib.hid g1
        have x0 := cell_regrown (g0.cell 0)
        have x1 := cell_regrown (g0.cell 1)
        have x2 := cell_regrown (g0.cell 2)
        have x3 := cell_regrown (g0.cell 3)
        have x4 := cell_regrown (g0.cell 4)
        have cE : ∀ d os', Calls Tryd.prog 94 #[.agg #[.string x.name_, .int .i64 x.kind_, .int .i64 x.num_, .string x.text_, .int .i64 x.ref_]] (grow (redrawn w0 d) os') (fun e w'' => e = .returned (.bool true) ∧ ∃ q : Regrown, w'' = grow (redrawn w0 q.d) q.os) := fun d os' => Calls.regrown_of (by have hb := g1.trans ((below_regrown w0 d os').mono g1.size); have h := HEL.out _ hb (classes_up HT1.out hb); rw [HZ.out] at h; exact h)
        have cX : ∀ d os', Calls Tryd.prog 95 #[.agg #[.string x.name_, .int .i64 x.kind_, .int .i64 x.num_, .string x.text_, .int .i64 x.ref_]] (grow (redrawn w0 d) os') (fun e w'' => e = .returned (.string x.name_) ∧ ∃ q : Regrown, w'' = grow (redrawn w0 q.d) q.os) := fun d os' => Calls.regrown_of (keyBd_any x _)
        have cY : ∀ d os', Calls Tryd.prog 95 #[.agg #[.string y.name_, .int .i64 y.kind_, .int .i64 y.num_, .string y.text_, .int .i64 y.ref_]] (grow (redrawn w0 d) os') (fun e w'' => e = .returned (.string y.name_) ∧ ∃ q : Regrown, w'' = grow (redrawn w0 q.d) q.os) := fun d os' => Calls.regrown_of (keyBd_any y _)
        have y0 := cell_regrown ((g1.cell (p := ⟨b, off + j * 5, none⟩) HGB.out).trans r0)
        have y1 := cell_regrown ((g1.cell (p := ⟨b, off + j * 5 + 1, none⟩) HGB.out).trans r1)
        have y2 := cell_regrown ((g1.cell (p := ⟨b, off + j * 5 + 2, none⟩) HGB.out).trans r2)
        have y3 := cell_regrown ((g1.cell (p := ⟨b, off + j * 5 + 3, none⟩) HGB.out).trans r3)
        have y4 := cell_regrown ((g1.cell (p := ⟨b, off + j * 5 + 4, none⟩) HGB.out).trans r4)
        clear hw0 g0 g1 g2 q0 q1 q2 q3 q4 r0 r1 r2 r3 r4
        refine wp_region_quiet_below (by kernel_rfl) (by kernel_rfl) ?_
        repeat (first | go_big_quiet_step (first | with_reducible exact cE _ _ | with_reducible exact cX _ _ | with_reducible exact cY _ _) | quiet_step (first | with_reducible exact cE _ _ | with_reducible exact cX _ _ | with_reducible exact cY _ _))
        refine wpQuiet_nil ?_
        intro w4 hw'
        obtain ⟨⟨dq, osq⟩, hw''⟩ := hw'
        have HB4 : Hid (Below W.heap.size W w4) := by show Below _ _ _; rw [hw'']; exact HW.out.trans ((HB0.out.trans ((below_regrown w0 dq osq).mono HB0.out.size)).mono HW.out.size)
        clear hw'' x0 x1 x2 x3 x4 y0 y1 y2 y3 y4 cE cX cY
        go_wp2_with fail
        go_roundw
        case rel => exact ⟨k + 1, by omega, by go_num, HB4, HV2⟩
        case measure => simp [intOf]; omega
    · have HE : Hid (P = true) := by
        show _ = _
        rw [← HP.out]
        have hkn : k = n := by omega
        refine tt_true ⟨by rw [HN.out]; exact HLIM.out, ?_⟩
        rw [HN.out, ← hkn]
        exact HV.out
      go_wp2_with fail
      go_ret
      exact ⟨by rw [HE.out]; rfl, HW.out⟩
end Go.Proofs.YtflhjcdabbomiaaDoor

namespace Go.Proofs.YtflhjcdabbomiaaDoor
open Go Go.RowKit Go.Sort

theorem method_elemFn (v0 v1 v2 v3 : Value) (w : World) : (method 247 81 (.agg #[v0, v1, v2, v3]) "loop.example/g00873/impl.isElement").run Tryd.prog w = .ok (103, .agg #[v0, v1, v2, v3]) w := by kernel_rfl
theorem method_keyFn (v0 v1 v2 v3 : Value) (w : World) : (method 247 81 (.agg #[v0, v1, v2, v3]) "loop.example/g00873/impl.key").run Tryd.prog w = .ok (104, .agg #[v0, v1, v2, v3]) w := by kernel_rfl

set_option maxHeartbeats 4000000 in
set_option maxRecDepth 100000 in
theorem withinFn_any (A : Option Addr) (n c lim : Nat) (xs : List Fn) (W : World) (hr : FnI W W.heap.size A n xs) (hlim : lim ≤ 1000) (hT : Classes W) :
    Calls Tryd.prog 56 #[.slice A n c, .int .i64 lim] W fun e w' => e = .returned (.bool (tt (ListOk fnOk Fn.name_ lim xs))) ∧ Below W.heap.size W w' := by
  have HR := Lib.hid hr
  have hn := hr.2.1
  have HN := Lib.hid hr.1
  have HTT := Lib.hid hT
  unfold maxLen at hn
  obtain ⟨P, hP⟩ : ∃ P, tt (ListOk fnOk Fn.name_ lim xs) = P := ⟨_, rfl⟩
  have HP := Lib.hid hP
  rw [hP]
  clear hP
  by_cases hbig : lim < n
  · have HF : Hid (P = false) := by
      show _ = _
      rw [← HP.out]
      exact tt_false fun h => by have := h.1; rw [hr.1] at this; omega
    have d0 : (lim : Int) < (n : Int) := by omega
    clear hr hT
    go_enter Tryd.func56, Tryd.ntmps56
    go_wp2_with fail
    go_ret
    exact ⟨by rw [HF.out]; rfl, Below.refl _ _⟩
  have d0 : ¬ ((lim : Int) < (n : Int)) := by omega
  have HLIM : Hid (n ≤ lim) := by show _ ≤ _; omega
  clear hr hT hbig
  go_enter Tryd.func56, Tryd.ntmps56
  go_wp2_with fail
  go_loopw [13] (fun i wr => ∃ k : Nat, k ≤ n ∧ i = .int .i64 k ∧ Hid (Below W.heap.size W wr) ∧ Hid (UpOk fnOk Fn.name_ xs k)) (fun i _ => n - (intOf i).toNat)
  case atStart => exact ⟨0, Nat.zero_le _, rfl, Below.refl _ _, Lib.hid UpOk.zero⟩
  case round =>
    obtain ⟨k, hk, rfl, HW, HV⟩ := hrel
    by_cases hlt : k < n
    · have b0 : (0 : Int) ≤ (k : Int) := by omega
      have b1 : (k : Int) < (n : Int) := by omega
      obtain ⟨b, off, x, l, rfl, hg, hx, ⟨q0, q1, q2, q3⟩, hv⟩ := (HR.out.go HW.out).at_ hlt
      have HX := Lib.hid hx
      have HGB : Hid (b < wr.heap.size) := hg
      have HEL := Lib.hid (fun (w : World) (hb : Below wr.heap.size wr w) (hT : Classes w) => elemFn_any x l w (hv.go hb) hT)
      have HC := Lib.hid (one_newS wr 81 #[.string x.name_, .slice l.A1 l.n1 l.c1, .slice l.A2 l.n2 l.c2, .string x.label_])
      have HT1 : Hid (Classes wr) := HTT.out.below HW.out (heap_pos (HTT.out.at_ 0 (by decide)))
      have hme := method_elemFn (.string x.name_) (.slice l.A1 l.n1 l.c1) (.slice l.A2 l.n2 l.c2) (.string x.label_)
      obtain ⟨Z, hZ⟩ : ∃ z, fnOk x = z := ⟨_, rfl⟩
      have HZ := Lib.hid hZ
      clear hx hg hv hZ
      cases Z
      · have HF : Hid (P = false) := by
          show _ = _
          rw [← HP.out]
          exact tt_false (not_ok HX.out HZ.out)
        go_wp2_with fail
        obtain ⟨w0, hw0⟩ : ∃ w0, wr.alloc (.cells #[.string x.name_, .slice l.A1 l.n1 l.c1, .slice l.A2 l.n2 l.c2, .string x.label_] 81) = w0 := ⟨_, rfl⟩
        rw [hw0]
        obtain ⟨g0, g1, g2⟩ := HC.out w0 hw0.symm
        have HB0 := Lib.hid g1
        have x0 := cell_regrown (g0.cell 0)
        have x1 := cell_regrown (g0.cell 1)
        have x2 := cell_regrown (g0.cell 2)
        have x3 := cell_regrown (g0.cell 3)
        have cE : ∀ d os', Calls Tryd.prog 103 #[.agg #[.string x.name_, .slice l.A1 l.n1 l.c1, .slice l.A2 l.n2 l.c2, .string x.label_]] (grow (redrawn w0 d) os') (fun e w'' => e = .returned (.bool false) ∧ ∃ q : Regrown, w'' = grow (redrawn w0 q.d) q.os) := fun d os' => Calls.regrown_of (by have hb := g1.trans ((below_regrown w0 d os').mono g1.size); have h := HEL.out _ hb (classes_up HT1.out hb); rw [HZ.out] at h; exact h)
        clear hw0 g0 g1 g2 q0 q1 q2 q3
        refine wp_region_quiet_below (by kernel_rfl) (by kernel_rfl) ?_
        repeat (first | go_big_quiet_step (with_reducible exact cE _ _) | quiet_step (with_reducible exact cE _ _))
        refine wpQuiet_nil ?_
        intro w4 hw'
        obtain ⟨⟨dq, osq⟩, hw''⟩ := hw'
        have HB4 : Hid (Below W.heap.size W w4) := by show Below _ _ _; rw [hw'']; exact HW.out.trans ((HB0.out.trans ((below_regrown w0 dq osq).mono HB0.out.size)).mono HW.out.size)
        clear hw'' x0 x1 x2 x3 cE
        go_wp2_with fail
        go_ret
        exact ⟨by rw [HF.out]; rfl, HB4.out⟩
      by_cases hkp : k = 0
      · subst hkp
        have HV2 := Lib.hid (UpOk.first (nm := Fn.name_) HX.out HZ.out)
        simp only [Nat.zero_mul, Nat.add_zero] at q0 q1 q2 q3
        go_wp2_with fail
        obtain ⟨w0, hw0⟩ : ∃ w0, wr.alloc (.cells #[.string x.name_, .slice l.A1 l.n1 l.c1, .slice l.A2 l.n2 l.c2, .string x.label_] 81) = w0 := ⟨_, rfl⟩
        rw [hw0]
        obtain ⟨g0, g1, g2⟩ := HC.out w0 hw0.symm
        have HB0 := Lib.hid g1
        have x0 := cell_regrown (g0.cell 0)
        have x1 := cell_regrown (g0.cell 1)
        have x2 := cell_regrown (g0.cell 2)
        have x3 := cell_regrown (g0.cell 3)
        have cE : ∀ d os', Calls Tryd.prog 103 #[.agg #[.string x.name_, .slice l.A1 l.n1 l.c1, .slice l.A2 l.n2 l.c2, .string x.label_]] (grow (redrawn w0 d) os') (fun e w'' => e = .returned (.bool true) ∧ ∃ q : Regrown, w'' = grow (redrawn w0 q.d) q.os) := fun d os' => Calls.regrown_of (by have hb := g1.trans ((below_regrown w0 d os').mono g1.size); have h := HEL.out _ hb (classes_up HT1.out hb); rw [HZ.out] at h; exact h)
        clear hw0 g0 g1 g2 q0 q1 q2 q3
        refine wp_region_quiet_below (by kernel_rfl) (by kernel_rfl) ?_
        repeat (first | go_big_quiet_step (with_reducible exact cE _ _) | quiet_step (with_reducible exact cE _ _))
        refine wpQuiet_nil ?_
        intro w4 hw'
        obtain ⟨⟨dq, osq⟩, hw''⟩ := hw'
        have HB4 : Hid (Below W.heap.size W w4) := by show Below _ _ _; rw [hw'']; exact HW.out.trans ((HB0.out.trans ((below_regrown w0 dq osq).mono HB0.out.size)).mono HW.out.size)
        clear hw'' x0 x1 x2 x3 cE
        go_wp2_with fail
        go_roundw
        case rel => exact ⟨0 + 1, by omega, by go_num, HB4, HV2⟩
        case measure => simp [intOf]; omega
      obtain ⟨j, hj⟩ : ∃ j, k = j + 1 := ⟨k - 1, by omega⟩
      have HJ := Lib.hid hj
      have hj1 : (k : Int) - 1 = (j : Int) := by omega
      have hkp2 : (0 : Int) < (k : Int) := by omega
      have hkp3 : decide ((0 : Int) < (k : Int)) = true := by simp; omega
      have hkp4 : decide (0 < k) = true := by simp; omega
      have hkp5 : 0 < k := by omega
      have c0 : (0 : Int) ≤ (j : Int) := by omega
      have c1 : (j : Int) < (n : Int) := by omega
      obtain ⟨b', off', y, l', hA, hg', hy, ⟨r0, r1, r2, r3⟩, _⟩ := (HR.out.go HW.out).at_ (show j < n by omega)
      simp only [Option.some.injEq, Addr.mk.injEq, and_true] at hA
      obtain ⟨rfl, rfl⟩ := hA
      have HY : Hid (xs[k - 1]? = some y) := by show _ = _; rw [show k - 1 = j by omega]; exact hy
      have hmx := method_keyFn (.string x.name_) (.slice l.A1 l.n1 l.c1) (.slice l.A2 l.n2 l.c2) (.string x.label_)
      have hmy := method_keyFn (.string y.name_) (.slice l'.A1 l'.n1 l'.c1) (.slice l'.A2 l'.n2 l'.c2) (.string y.label_)
      clear hj hkp hg' hy
      obtain ⟨R, hRR⟩ : ∃ z, Op.bytesLess y.name_.toList x.name_.toList = z := ⟨_, rfl⟩
      have HRR := Lib.hid hRR
      cases R
      · have HF : Hid (P = false) := by
          show _ = _
          rw [← HP.out]
          exact tt_false (not_up hkp5 HX.out HY.out HRR.out)
        go_wp2_with fail
        obtain ⟨w0, hw0⟩ : ∃ w0, wr.alloc (.cells #[.string x.name_, .slice l.A1 l.n1 l.c1, .slice l.A2 l.n2 l.c2, .string x.label_] 81) = w0 := ⟨_, rfl⟩
        rw [hw0]
        obtain ⟨g0, g1, g2⟩ := HC.out w0 hw0.symm
        have HB0 := Lib.hid g1
        have x0 := cell_regrown (g0.cell 0)
        have x1 := cell_regrown (g0.cell 1)
        have x2 := cell_regrown (g0.cell 2)
        have x3 := cell_regrown (g0.cell 3)
        have cE : ∀ d os', Calls Tryd.prog 103 #[.agg #[.string x.name_, .slice l.A1 l.n1 l.c1, .slice l.A2 l.n2 l.c2, .string x.label_]] (grow (redrawn w0 d) os') (fun e w'' => e = .returned (.bool true) ∧ ∃ q : Regrown, w'' = grow (redrawn w0 q.d) q.os) := fun d os' => Calls.regrown_of (by have hb := g1.trans ((below_regrown w0 d os').mono g1.size); have h := HEL.out _ hb (classes_up HT1.out hb); rw [HZ.out] at h; exact h)
        have cX : ∀ d os', Calls Tryd.prog 104 #[.agg #[.string x.name_, .slice l.A1 l.n1 l.c1, .slice l.A2 l.n2 l.c2, .string x.label_]] (grow (redrawn w0 d) os') (fun e w'' => e = .returned (.string x.name_) ∧ ∃ q : Regrown, w'' = grow (redrawn w0 q.d) q.os) := fun d os' => Calls.regrown_of (keyFn_any x l _)
        have cY : ∀ d os', Calls Tryd.prog 104 #[.agg #[.string y.name_, .slice l'.A1 l'.n1 l'.c1, .slice l'.A2 l'.n2 l'.c2, .string y.label_]] (grow (redrawn w0 d) os') (fun e w'' => e = .returned (.string y.name_) ∧ ∃ q : Regrown, w'' = grow (redrawn w0 q.d) q.os) := fun d os' => Calls.regrown_of (keyFn_any y l' _)
        have y0 := cell_regrown ((g1.cell (p := ⟨b, off + j * 4, none⟩) HGB.out).trans r0)
        have y1 := cell_regrown ((g1.cell (p := ⟨b, off + j * 4 + 1, none⟩) HGB.out).trans r1)
        have y2 := cell_regrown ((g1.cell (p := ⟨b, off + j * 4 + 2, none⟩) HGB.out).trans r2)
        have y3 := cell_regrown ((g1.cell (p := ⟨b, off + j * 4 + 3, none⟩) HGB.out).trans r3)
        clear hw0 g0 g1 g2 q0 q1 q2 q3 r0 r1 r2 r3
        refine wp_region_quiet_below (by kernel_rfl) (by kernel_rfl) ?_
        repeat (first | go_big_quiet_step (first | with_reducible exact cE _ _ | with_reducible exact cX _ _ | with_reducible exact cY _ _) | quiet_step (first | with_reducible exact cE _ _ | with_reducible exact cX _ _ | with_reducible exact cY _ _))
        refine wpQuiet_nil ?_
        intro w4 hw'
        obtain ⟨⟨dq, osq⟩, hw''⟩ := hw'
        have HB4 : Hid (Below W.heap.size W w4) := by show Below _ _ _; rw [hw'']; exact HW.out.trans ((HB0.out.trans ((below_regrown w0 dq osq).mono HB0.out.size)).mono HW.out.size)
        clear hw'' x0 x1 x2 x3 y0 y1 y2 y3 cE cX cY
        go_wp2_with fail
        go_ret
        exact ⟨by rw [HF.out]; rfl, HB4.out⟩
      · have HV2 := Lib.hid (UpOk.next HV.out HX.out HZ.out HY.out HRR.out)
        go_wp2_with fail
        obtain ⟨w0, hw0⟩ : ∃ w0, wr.alloc (.cells #[.string x.name_, .slice l.A1 l.n1 l.c1, .slice l.A2 l.n2 l.c2, .string x.label_] 81) = w0 := ⟨_, rfl⟩
        rw [hw0]
        obtain ⟨g0, g1, g2⟩ := HC.out w0 hw0.symm
        have HB0 := Lib.hid g1
        have x0 := cell_regrown (g0.cell 0)
        have x1 := cell_regrown (g0.cell 1)
        have x2 := cell_regrown (g0.cell 2)
        have x3 := cell_regrown (g0.cell 3)
        have cE : ∀ d os', Calls Tryd.prog 103 #[.agg #[.string x.name_, .slice l.A1 l.n1 l.c1, .slice l.A2 l.n2 l.c2, .string x.label_]] (grow (redrawn w0 d) os') (fun e w'' => e = .returned (.bool true) ∧ ∃ q : Regrown, w'' = grow (redrawn w0 q.d) q.os) := fun d os' => Calls.regrown_of (by have hb := g1.trans ((below_regrown w0 d os').mono g1.size); have h := HEL.out _ hb (classes_up HT1.out hb); rw [HZ.out] at h; exact h)
        have cX : ∀ d os', Calls Tryd.prog 104 #[.agg #[.string x.name_, .slice l.A1 l.n1 l.c1, .slice l.A2 l.n2 l.c2, .string x.label_]] (grow (redrawn w0 d) os') (fun e w'' => e = .returned (.string x.name_) ∧ ∃ q : Regrown, w'' = grow (redrawn w0 q.d) q.os) := fun d os' => Calls.regrown_of (keyFn_any x l _)
        have cY : ∀ d os', Calls Tryd.prog 104 #[.agg #[.string y.name_, .slice l'.A1 l'.n1 l'.c1, .slice l'.A2 l'.n2 l'.c2, .string y.label_]] (grow (redrawn w0 d) os') (fun e w'' => e = .returned (.string y.name_) ∧ ∃ q : Regrown, w'' = grow (redrawn w0 q.d) q.os) := fun d os' => Calls.regrown_of (keyFn_any y l' _)
        have y0 := cell_regrown ((g1.cell (p := ⟨b, off + j * 4, none⟩) HGB.out).trans r0)
        have y1 := cell_regrown ((g1.cell (p := ⟨b, off + j * 4 + 1, none⟩) HGB.out).trans r1)
        have y2 := cell_regrown ((g1.cell (p := ⟨b, off + j * 4 + 2, none⟩) HGB.out).trans r2)
        have y3 := cell_regrown ((g1.cell (p := ⟨b, off + j * 4 + 3, none⟩) HGB.out).trans r3)
        clear hw0 g0 g1 g2 q0 q1 q2 q3 r0 r1 r2 r3
        refine wp_region_quiet_below (by kernel_rfl) (by kernel_rfl) ?_
        repeat (first | go_big_quiet_step (first | with_reducible exact cE _ _ | with_reducible exact cX _ _ | with_reducible exact cY _ _) | quiet_step (first | with_reducible exact cE _ _ | with_reducible exact cX _ _ | with_reducible exact cY _ _))
        refine wpQuiet_nil ?_
        intro w4 hw'
        obtain ⟨⟨dq, osq⟩, hw''⟩ := hw'
        have HB4 : Hid (Below W.heap.size W w4) := by show Below _ _ _; rw [hw'']; exact HW.out.trans ((HB0.out.trans ((below_regrown w0 dq osq).mono HB0.out.size)).mono HW.out.size)
        clear hw'' x0 x1 x2 x3 y0 y1 y2 y3 cE cX cY
        go_wp2_with fail
        go_roundw
        case rel => exact ⟨k + 1, by omega, by go_num, HB4, HV2⟩
        case measure => simp [intOf]; omega
    · have HE : Hid (P = true) := by
        show _ = _
        rw [← HP.out]
        have hkn : k = n := by omega
        refine tt_true ⟨by rw [HN.out]; exact HLIM.out, ?_⟩
        rw [HN.out, ← hkn]
        exact HV.out
      go_wp2_with fail
      go_ret
      exact ⟨by rw [HE.out]; rfl, HW.out⟩
end Go.Proofs.YtflhjcdabbomiaaDoor
