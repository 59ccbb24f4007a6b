/- Contracts: isElement of functions and types of records. Condition: the table holds what the program's text lays. When a scope is valid. Plain. Contract: isWithinLimit at Binding. Condition: the table holds what the program's text lays. Contract: isWithinLimit at Function. Condition: the table holds what the program's text lays. Contract: isWithinLimit at RecordType. Condition: the table holds what the program's text lays. Contract: the program's ValidScope. Condition: the table holds what the program's text lays. Contracts: the model's l18Type, l18Function. No condition. Contract: the model's ValidScope. No condition. Contracts: ScopeRoots of both. Condition: the table holds what the program's text lays (the program's). Contracts: l17Fits of the model, ValidMemory of both. Condition: the table holds what the program's text lays (the program's). -/
import Derived.Test.YtfcpdjfckeoniaaGreatDoorValidMemoryM8
import Derived.Test.YtfcpdjfckeoniaaGreatDoorValidMemoryM2
import Derived.Test.YtfcpdjfckeoniaaGreatDoorValidMemoryM7
import Derived.Lib.QuietBelow
import Derived.BigQuiet
import Derived.Deep.QuietTactic
import Derived.Test.YtfcpdjfckeoniaaGreatDoorValidMemoryM4
import Derived.Deep.RegionHeld3
import Derived.Test.YtfcpdjfckeoniaaGreatDoorValidMemoryM3
namespace Go.Proofs.YtfcpdjfckeoniaaGreatDoor
open Go Go.RowKit

theorem stI_sizes {w : World} {B n : Nat} {A : Option Addr} {xs : List St} (h : StI w B A n xs) : ∀ (j : Nat) (x : St), xs[j]? = some x → ByteArray.size x ≤ maxLen := by
  intro j x hx
  have hl := (List.getElem?_eq_some_iff.1 hx).1
  obtain ⟨_, _, _, _, hc⟩ := h.2.2 (by have := h.1; omega)
  exact (hc j x hx).2

set_option maxHeartbeats 2000000 in
set_option maxRecDepth 100000 in
theorem elemRt_any (x : Rt) (l : RtLay) (W : World) (hv : RtV W W.heap.size x l) (hT : Classes W) :
    Calls Tryz.prog 212 #[x.ag l] W fun e w' => e = .returned (.bool (rtOk x)) ∧ Below W.heap.size W w' := by
  obtain ⟨x0, x1⟩ := x
  obtain ⟨A1, n1, c1, h1⟩ := l
  obtain ⟨hx, hm0⟩ := hv
  dsimp only at hx hm0
  show Calls Tryz.prog 212 #[.agg #[.string x0, .slice A1 n1 c1]] W _
  have HC := Lib.hid (one_newS W 121 #[.string x0, .slice A1 n1 c1])
  have HT := Lib.hid (fun (w : World) (hb : Below W.heap.size W w) => classes_up hT hb)
  have HM0 := Lib.hid hm0
  have HX := Lib.hid hx
  unfold rtOk
  dsimp only
  obtain ⟨z0, hz0⟩ : ∃ z, isNameB x0 = z := ⟨_, rfl⟩
  obtain ⟨z1, hz1⟩ : ∃ z, decide (1 ≤ x1.length ∧ x1.length ≤ 6) = z := ⟨_, rfl⟩
  obtain ⟨z2, hz2⟩ : ∃ z, tt (OkNames x1) = z := ⟨_, rfl⟩
  have HZ1 : Hid (decide ((1 : Int) ≤ (n1 : Int) ∧ (n1 : Int) ≤ 6) = z1) := by
    show _ = _
    rw [← hz1, hx.1]
    exact decide_eq_decide.2 ⟨fun h => ⟨by omega, by omega⟩, fun h => ⟨by omega, by omega⟩⟩
  rw [hz0, hz1, hz2]
  have HZ0 := Lib.hid hz0
  have HZ2 := Lib.hid hz2
  clear hz0 hz1 hz2 hx hm0 hT
  cases z0
  · go_enter Tryz.func212, Tryz.ntmps212
    go_wp2_with (go_at_call 60; obtain ⟨g0, g1, g2⟩ := HC.out _ rfl; refine (impl_IsName_any x0 _ HM0.out (HT.out _ g1)).mono ?_; rintro e w1 ⟨rfl, hb⟩; rw [HZ0.out]; have HB1 := Lib.hid (g1.trans (hb.mono g1.size)); have HA1 := Lib.hid (g0.below hb g2); have q1 : w1.cell? ⟨W.heap.size, 1, none⟩ = some (.slice A1 n1 c1) := HA1.out.cell 1; clear g0 g1 g2 hb)
    go_ret
    exact ⟨rfl, HB1.out⟩
  cases z1
  · go_enter Tryz.func212, Tryz.ntmps212
    go_wp2_with (first | (go_at_call 60; obtain ⟨g0, g1, g2⟩ := HC.out _ rfl; refine (impl_IsName_any x0 _ HM0.out (HT.out _ g1)).mono ?_; rintro e w1 ⟨rfl, hb⟩; rw [HZ0.out]; have HB1 := Lib.hid (g1.trans (hb.mono g1.size)); have HA1 := Lib.hid (g0.below hb g2); have q1 : w1.cell? ⟨W.heap.size, 1, none⟩ = some (.slice A1 n1 c1) := HA1.out.cell 1; clear g0 g1 g2 hb) | (go_at_call 102; refine (within_int n1 1 6 w1).mono ?_; rintro e w2 ⟨rfl, rfl⟩; rw [HZ1.out]))
    go_ret
    exact ⟨rfl, HB1.out⟩
  cases z2
  all_goals
    go_enter Tryz.func212, Tryz.ntmps212
    go_wp2_with (first | (go_at_call 60; obtain ⟨g0, g1, g2⟩ := HC.out _ rfl; refine (impl_IsName_any x0 _ HM0.out (HT.out _ g1)).mono ?_; rintro e w1 ⟨rfl, hb⟩; rw [HZ0.out]; have HB1 := Lib.hid (g1.trans (hb.mono g1.size)); have HA1 := Lib.hid (g0.below hb g2); have q1 : w1.cell? ⟨W.heap.size, 1, none⟩ = some (.slice A1 n1 c1) := HA1.out.cell 1; clear g0 g1 g2 hb) | (go_at_call 102; refine (within_int n1 1 6 w1).mono ?_; rintro e w2 ⟨rfl, rfl⟩; rw [HZ1.out]) | (go_at_call 207; refine (areDifferentNames_any A1 n1 c1 x1 w1 (HX.out.go HB1.out) h1 (HT.out _ HB1.out)).mono ?_; rintro e w3 ⟨rfl, hb⟩; rw [HZ2.out]; have HB3 := Lib.hid (HB1.out.trans (hb.mono HB1.out.size)); clear hb))
    go_ret
    exact ⟨rfl, HB3.out⟩

set_option maxHeartbeats 4000000 in
set_option maxRecDepth 100000 in
theorem elemFn_any (x : Fn) (l : FnLay) (W : World) (hv : FnV W W.heap.size x l) (hT : Classes W) :
    Calls Tryz.prog 205 #[x.ag l] W fun e w' => e = .returned (.bool (fnOk x)) ∧ Below W.heap.size W w' := by
  obtain ⟨x0, x1, x2, x3⟩ := x
  obtain ⟨A1, n1, c1, h1, A2, n2, c2, h2⟩ := l
  obtain ⟨hx1, hx2, hm0, hm3⟩ := hv
  dsimp only at hx1 hx2 hm0 hm3
  show Calls Tryz.prog 205 #[.agg #[.string x0, .slice A1 n1 c1, .slice A2 n2 c2, .string x3]] W _
  have HC := Lib.hid (one_newS W 118 #[.string x0, .slice A1 n1 c1, .slice A2 n2 c2, .string x3])
  have HT := Lib.hid (fun (w : World) (hb : Below W.heap.size W w) => classes_up hT hb)
  have HM0 := Lib.hid hm0
  have HM3 := Lib.hid hm3
  have HX1 := Lib.hid hx1
  have HX2 := Lib.hid hx2
  have S1 := Lib.hid (stI_sizes hx1)
  have S2 := Lib.hid (stI_sizes hx2)
  have hnn1 := hx1.2.1
  have hnn2 := hx2.2.1
  unfold maxLen at hnn1 hnn2
  unfold fnOk
  dsimp only
  obtain ⟨z0, hz0⟩ : ∃ z, isNameB x0 = z := ⟨_, rfl⟩
  obtain ⟨z3, hz3⟩ : ∃ z, isNameB x3 = z := ⟨_, rfl⟩
  obtain ⟨z1, hz1⟩ : ∃ z, decide (x1.length ≤ 6) = z := ⟨_, rfl⟩
  obtain ⟨z2, hz2⟩ : ∃ z, decide (x2.length ≤ 6) = z := ⟨_, rfl⟩
  obtain ⟨z4, hz4⟩ : ∃ z, tt (OkNames (x1 ++ x2)) = z := ⟨_, rfl⟩
  have d1 : decide ((n1 : Int) ≤ 6) = z1 := by
    rw [← hz1, hx1.1]
    exact decide_eq_decide.2 ⟨fun h => by omega, fun h => by omega⟩
  have d2 : decide ((n2 : Int) ≤ 6) = z2 := by
    rw [← hz2, hx2.1]
    exact decide_eq_decide.2 ⟨fun h => by omega, fun h => by omega⟩
  rw [hz0, hz3, hz1, hz2, hz4]
  have HZ0 := Lib.hid hz0
  have HZ3 := Lib.hid hz3
  have HZ4 := Lib.hid hz4
  have tk1 : True := trivial
  have tk2 : True := trivial
  clear hz0 hz3 hz1 hz2 hz4 hx1 hx2 hm0 hm3 hT
  cases z0
  · go_enter Tryz.func205, Tryz.ntmps205
    go_wp2_with (go_at_call 60; have tk := tk1; obtain ⟨g0, g1, g2⟩ := HC.out _ rfl; refine (impl_IsName_any x0 _ HM0.out (HT.out _ g1)).mono ?_; rintro e w1 ⟨rfl, hb⟩; rw [HZ0.out]; have HB1 := Lib.hid (g1.trans (hb.mono g1.size)); have HA1 := Lib.hid (g0.below hb g2); have q3 : w1.cell? ⟨W.heap.size, 3, none⟩ = some (.string x3) := HA1.out.cell 3; clear g0 g1 g2 hb tk tk1)
    go_ret
    exact ⟨rfl, HB1.out⟩
  cases z3
  · go_enter Tryz.func205, Tryz.ntmps205
    go_wp2_with (first | (go_at_call 60; have tk := tk1; obtain ⟨g0, g1, g2⟩ := HC.out _ rfl; refine (impl_IsName_any x0 _ HM0.out (HT.out _ g1)).mono ?_; rintro e w1 ⟨rfl, hb⟩; rw [HZ0.out]; have HB1 := Lib.hid (g1.trans (hb.mono g1.size)); have HA1 := Lib.hid (g0.below hb g2); have q3 : w1.cell? ⟨W.heap.size, 3, none⟩ = some (.string x3) := HA1.out.cell 3; clear g0 g1 g2 hb tk tk1) | (go_at_call 60; have tk := tk2; refine (impl_IsName_any x3 w1 HM3.out (HT.out _ HB1.out)).mono ?_; rintro e w2 ⟨rfl, hb⟩; rw [HZ3.out]; have HB2 := Lib.hid (HB1.out.trans (hb.mono HB1.out.size)); have HA2 := Lib.hid (HA1.out.below hb HA1.out.lt); have p1 : w2.cell? ⟨W.heap.size, 1, none⟩ = some (.slice A1 n1 c1) := HA2.out.cell 1; have p2 : w2.cell? ⟨W.heap.size, 2, none⟩ = some (.slice A2 n2 c2) := HA2.out.cell 2; clear hb q3 tk tk2))
    go_ret
    exact ⟨rfl, HB2.out⟩
  cases z1
  · go_enter Tryz.func205, Tryz.ntmps205
    go_wp2_with (first | (go_at_call 60; have tk := tk1; obtain ⟨g0, g1, g2⟩ := HC.out _ rfl; refine (impl_IsName_any x0 _ HM0.out (HT.out _ g1)).mono ?_; rintro e w1 ⟨rfl, hb⟩; rw [HZ0.out]; have HB1 := Lib.hid (g1.trans (hb.mono g1.size)); have HA1 := Lib.hid (g0.below hb g2); have q3 : w1.cell? ⟨W.heap.size, 3, none⟩ = some (.string x3) := HA1.out.cell 3; clear g0 g1 g2 hb tk tk1) | (go_at_call 60; have tk := tk2; refine (impl_IsName_any x3 w1 HM3.out (HT.out _ HB1.out)).mono ?_; rintro e w2 ⟨rfl, hb⟩; rw [HZ3.out]; have HB2 := Lib.hid (HB1.out.trans (hb.mono HB1.out.size)); have HA2 := Lib.hid (HA1.out.below hb HA1.out.lt); have p1 : w2.cell? ⟨W.heap.size, 1, none⟩ = some (.slice A1 n1 c1) := HA2.out.cell 1; have p2 : w2.cell? ⟨W.heap.size, 2, none⟩ = some (.slice A2 n2 c2) := HA2.out.cell 2; clear hb q3 tk tk2))
    go_ret
    exact ⟨rfl, HB2.out⟩
  cases z2
  · go_enter Tryz.func205, Tryz.ntmps205
    go_wp2_with (first | (go_at_call 60; have tk := tk1; obtain ⟨g0, g1, g2⟩ := HC.out _ rfl; refine (impl_IsName_any x0 _ HM0.out (HT.out _ g1)).mono ?_; rintro e w1 ⟨rfl, hb⟩; rw [HZ0.out]; have HB1 := Lib.hid (g1.trans (hb.mono g1.size)); have HA1 := Lib.hid (g0.below hb g2); have q3 : w1.cell? ⟨W.heap.size, 3, none⟩ = some (.string x3) := HA1.out.cell 3; clear g0 g1 g2 hb tk tk1) | (go_at_call 60; have tk := tk2; refine (impl_IsName_any x3 w1 HM3.out (HT.out _ HB1.out)).mono ?_; rintro e w2 ⟨rfl, hb⟩; rw [HZ3.out]; have HB2 := Lib.hid (HB1.out.trans (hb.mono HB1.out.size)); have HA2 := Lib.hid (HA1.out.below hb HA1.out.lt); have p1 : w2.cell? ⟨W.heap.size, 1, none⟩ = some (.slice A1 n1 c1) := HA2.out.cell 1; have p2 : w2.cell? ⟨W.heap.size, 2, none⟩ = some (.slice A2 n2 c2) := HA2.out.cell 2; clear hb q3 tk tk2))
    go_ret
    exact ⟨rfl, HB2.out⟩
  have L1 : Hid (n1 ≤ 1000) := by have := of_decide_eq_true d1; show _ ≤ _; omega
  have L2 : Hid (n2 ≤ 1000) := by have := of_decide_eq_true d2; show _ ≤ _; omega
  cases z4
  all_goals
    go_enter Tryz.func205, Tryz.ntmps205
    go_wp2_with (first | (go_at_call 60; have tk := tk1; obtain ⟨g0, g1, g2⟩ := HC.out _ rfl; refine (impl_IsName_any x0 _ HM0.out (HT.out _ g1)).mono ?_; rintro e w1 ⟨rfl, hb⟩; rw [HZ0.out]; have HB1 := Lib.hid (g1.trans (hb.mono g1.size)); have HA1 := Lib.hid (g0.below hb g2); have q3 : w1.cell? ⟨W.heap.size, 3, none⟩ = some (.string x3) := HA1.out.cell 3; clear g0 g1 g2 hb tk tk1) | (go_at_call 60; have tk := tk2; refine (impl_IsName_any x3 w1 HM3.out (HT.out _ HB1.out)).mono ?_; rintro e w2 ⟨rfl, hb⟩; rw [HZ3.out]; have HB2 := Lib.hid (HB1.out.trans (hb.mono HB1.out.size)); have HA2 := Lib.hid (HA1.out.below hb HA1.out.lt); have p1 : w2.cell? ⟨W.heap.size, 1, none⟩ = some (.slice A1 n1 c1) := HA2.out.cell 1; have p2 : w2.cell? ⟨W.heap.size, 2, none⟩ = some (.slice A2 n2 c2) := HA2.out.cell 2; clear hb q3 tk tk2) | (go_at_call 208; have HN := Lib.hid (RW.new w2 #[.slice A1 n1 c1, .slice A2 n2 c2] 22); have HQ := concatS_any w2.heap.size A1 A2 n1 c1 n2 c2 x1 x2 (w2.alloc (.cells #[.slice A1 n1 c1, .slice A2 n2 c2] 22)) (lt_alloc _ _) (HN.out.cell 0) (HN.out.cell 1) ((HX1.out.go HB2.out).alloc _) ((HX2.out.go HB2.out).alloc _) L1.out L2.out S1.out S2.out; refine Calls.mono HQ ?_; clear HQ; rintro e w3 ⟨A9, c9, rfl, h⟩; have HCC := h; have HB3 : Hid (Below W.heap.size W w3) := HB2.out.trans (((below_alloc w2 _).trans (h.out.2.2.mono (by simp))).mono HB2.out.size); clear h HN p1 p2) | (go_at_call 207; have HQ := areDifferentNames_any A9 (n1 + n2) c9 (x1 ++ x2) w3 HCC.out.2.1 HCC.out.1 (HT.out _ HB3.out); refine Calls.mono HQ ?_; clear HQ; rintro e w4 ⟨rfl, hb⟩; rw [HZ4.out]; have HB4 := Lib.hid (HB3.out.trans (hb.mono HB3.out.size)); clear hb))
    go_ret
    exact ⟨rfl, HB4.out⟩
end Go.Proofs.YtfcpdjfckeoniaaGreatDoor

namespace Go.Proofs.YtfcpdjfckeoniaaGreatDoor
open Go Go.RowKit

/-- What ValidScope answers. -/
def ScOk (s : Sc) : Prop := ListOk bdOk Bd.name_ 40 s.vars_ ∧ ListOk fnOk Fn.name_ 12 s.functions_ ∧ ListOk rtOk Rt.name_ 8 s.types_
end Go.Proofs.YtfcpdjfckeoniaaGreatDoor

namespace Go.Proofs.YtfcpdjfckeoniaaGreatDoor
open Go Go.RowKit Go.Sort

theorem method_elemBd (v0 v1 v2 v3 v4 : Value) (w : World) : (method 372 115 (.agg #[v0, v1, v2, v3, v4]) "loop.example/g00873/impl.isElement").run Tryz.prog w = .ok (202, .agg #[v0, v1, v2, v3, v4]) w := by kernel_rfl
theorem method_keyBd (v0 v1 v2 v3 v4 : Value) (w : World) : (method 372 115 (.agg #[v0, v1, v2, v3, v4]) "loop.example/g00873/impl.key").run Tryz.prog w = .ok (203, .agg #[v0, v1, v2, v3, v4]) w := by kernel_rfl

set_option maxHeartbeats 4000000 in
set_option maxRecDepth 100000 in
theorem withinBd_any (A : Option Addr) (n c lim : Nat) (xs : List Bd) (W : World) (hr : BdI W W.heap.size A n xs) (hlim : lim ≤ 1000) (hT : Classes W) :
    Calls Tryz.prog 84 #[.slice A n c, .int .i64 lim] W fun e w' => e = .returned (.bool (tt (ListOk bdOk Bd.name_ lim xs))) ∧ Below W.heap.size W w' := by
  have HR := Lib.hid hr
  have hn := hr.2.1
  have HN := Lib.hid hr.1
  have HTT := Lib.hid hT
  unfold maxLen at hn
  obtain ⟨P, hP⟩ : ∃ P, tt (ListOk bdOk Bd.name_ lim xs) = P := ⟨_, rfl⟩
  have HP := Lib.hid hP
  rw [hP]
  clear hP
  by_cases hbig : lim < n
  · have HF : Hid (P = false) := by
      show _ = _
      rw [← HP.out]
      exact tt_false fun h => by have := h.1; rw [hr.1] at this; omega
    have d0 : (lim : Int) < (n : Int) := by omega
    clear hr hT
    go_enter Tryz.func84, Tryz.ntmps84
    go_wp2_with fail
    go_ret
    exact ⟨by rw [HF.out]; rfl, Below.refl _ _⟩
  have d0 : ¬ ((lim : Int) < (n : Int)) := by omega
  have HLIM : Hid (n ≤ lim) := by show _ ≤ _; omega
  clear hr hT hbig
  go_enter Tryz.func84, Tryz.ntmps84
  go_wp2_with fail
  go_loopw [13] (fun i wr => ∃ k : Nat, k ≤ n ∧ i = .int .i64 k ∧ Hid (Below W.heap.size W wr) ∧ Hid (UpOk bdOk Bd.name_ xs k)) (fun i _ => n - (intOf i).toNat)
  case atStart => exact ⟨0, Nat.zero_le _, rfl, Below.refl _ _, Lib.hid UpOk.zero⟩
  case round =>
    obtain ⟨k, hk, rfl, HW, HV⟩ := hrel
    by_cases hlt : k < n
    · have b0 : (0 : Int) ≤ (k : Int) := by omega
      have b1 : (k : Int) < (n : Int) := by omega
      obtain ⟨b, off, x, rfl, hg, hx, ⟨q0, q1, q2, q3, q4⟩, hm0, hm3⟩ := (HR.out.go HW.out).at_ hlt
      have HX := Lib.hid hx
      have HGB : Hid (b < wr.heap.size) := hg
      have HEL := Lib.hid (fun (w : World) (hb : Below wr.heap.size wr w) (hT : Classes w) => elemBd_any x w hm0 hm3 hT)
      have HC := Lib.hid (one_newS wr 115 #[.string x.name_, .int .i64 x.kind_, .int .i64 x.num_, .string x.text_, .int .i64 x.ref_])
      have HT1 : Hid (Classes wr) := HTT.out.below HW.out (heap_pos (HTT.out.at_ 0 (by decide)))
      have hme := method_elemBd (.string x.name_) (.int .i64 x.kind_) (.int .i64 x.num_) (.string x.text_) (.int .i64 x.ref_)
      obtain ⟨Z, hZ⟩ : ∃ z, bdOk x = z := ⟨_, rfl⟩
      have HZ := Lib.hid hZ
      clear hx hg hm0 hm3 hZ
      cases Z
      · have HF : Hid (P = false) := by
          show _ = _
          rw [← HP.out]
          exact tt_false (not_ok HX.out HZ.out)
        go_wp2_with fail
        obtain ⟨w0, hw0⟩ : ∃ w0, wr.alloc (.cells #[.string x.name_, .int .i64 x.kind_, .int .i64 x.num_, .string x.text_, .int .i64 x.ref_] 115) = w0 := ⟨_, rfl⟩
        rw [hw0]
        obtain ⟨g0, g1, g2⟩ := HC.out w0 hw0.symm
        have HB0 := Lib.hid g1
        have x0 := cell_regrown (g0.cell 0)
        have x1 := cell_regrown (g0.cell 1)
        have x2 := cell_regrown (g0.cell 2)
        have x3 := cell_regrown (g0.cell 3)
        have x4 := cell_regrown (g0.cell 4)
        have cE : ∀ d os', Calls Tryz.prog 202 #[.agg #[.string x.name_, .int .i64 x.kind_, .int .i64 x.num_, .string x.text_, .int .i64 x.ref_]] (grow (redrawn w0 d) os') (fun e w'' => e = .returned (.bool false) ∧ ∃ q : Regrown, w'' = grow (redrawn w0 q.d) q.os) := fun d os' => Calls.regrown_of (by have hb := g1.trans ((below_regrown w0 d os').mono g1.size); have h := HEL.out _ hb (classes_up HT1.out hb); rw [HZ.out] at h; exact h)
        clear hw0 g0 g1 g2 q0 q1 q2 q3 q4
        refine wp_region_quiet_below (by kernel_rfl) (by kernel_rfl) ?_
        repeat (first | go_big_quiet_step (with_reducible exact cE _ _) | quiet_step (with_reducible exact cE _ _))
        refine wpQuiet_nil ?_
        intro w4 hw'
        obtain ⟨⟨dq, osq⟩, hw''⟩ := hw'
        have HB4 : Hid (Below W.heap.size W w4) := by show Below _ _ _; rw [hw'']; exact HW.out.trans ((HB0.out.trans ((below_regrown w0 dq osq).mono HB0.out.size)).mono HW.out.size)
        clear hw'' x0 x1 x2 x3 x4 cE
        go_wp2_with fail
        go_ret
        exact ⟨by rw [HF.out]; rfl, HB4.out⟩
      by_cases hkp : k = 0
      · subst hkp
        have HV2 := Lib.hid (UpOk.first (nm := Bd.name_) HX.out HZ.out)
        simp only [Nat.zero_mul, Nat.add_zero] at q0 q1 q2 q3 q4
        go_wp2_with fail
        obtain ⟨w0, hw0⟩ : ∃ w0, wr.alloc (.cells #[.string x.name_, .int .i64 x.kind_, .int .i64 x.num_, .string x.text_, .int .i64 x.ref_] 115) = w0 := ⟨_, rfl⟩
        rw [hw0]
        obtain ⟨g0, g1, g2⟩ := HC.out w0 hw0.symm
        have HB0 := Lib.hid g1
        have x0 := cell_regrown (g0.cell 0)
        have x1 := cell_regrown (g0.cell 1)
        have x2 := cell_regrown (g0.cell 2)
        have x3 := cell_regrown (g0.cell 3)
        have x4 := cell_regrown (g0.cell 4)
        have cE : ∀ d os', Calls Tryz.prog 202 #[.agg #[.string x.name_, .int .i64 x.kind_, .int .i64 x.num_, .string x.text_, .int .i64 x.ref_]] (grow (redrawn w0 d) os') (fun e w'' => e = .returned (.bool true) ∧ ∃ q : Regrown, w'' = grow (redrawn w0 q.d) q.os) := fun d os' => Calls.regrown_of (by have hb := g1.trans ((below_regrown w0 d os').mono g1.size); have h := HEL.out _ hb (classes_up HT1.out hb); rw [HZ.out] at h; exact h)
        clear hw0 g0 g1 g2 q0 q1 q2 q3 q4
        refine wp_region_quiet_below (by kernel_rfl) (by kernel_rfl) ?_
        repeat (first | go_big_quiet_step (with_reducible exact cE _ _) | quiet_step (with_reducible exact cE _ _))
        refine wpQuiet_nil ?_
        intro w4 hw'
        obtain ⟨⟨dq, osq⟩, hw''⟩ := hw'
        have HB4 : Hid (Below W.heap.size W w4) := by show Below _ _ _; rw [hw'']; exact HW.out.trans ((HB0.out.trans ((below_regrown w0 dq osq).mono HB0.out.size)).mono HW.out.size)
        clear hw'' x0 x1 x2 x3 x4 cE
        go_wp2_with fail
        go_roundw
        case rel => exact ⟨0 + 1, by omega, by go_num, HB4, HV2⟩
        case measure => simp [intOf]; omega
      obtain ⟨j, hj⟩ : ∃ j, k = j + 1 := ⟨k - 1, by omega⟩
      have HJ := Lib.hid hj
      have hj1 : (k : Int) - 1 = (j : Int) := by omega
      have hkp2 : (0 : Int) < (k : Int) := by omega
      have hkp3 : decide ((0 : Int) < (k : Int)) = true := by simp; omega
      have hkp4 : decide (0 < k) = true := by simp; omega
      have hkp5 : 0 < k := by omega
      have c0 : (0 : Int) ≤ (j : Int) := by omega
      have c1 : (j : Int) < (n : Int) := by omega
      obtain ⟨b', off', y, hA, hg', hy, ⟨r0, r1, r2, r3, r4⟩, _⟩ := (HR.out.go HW.out).at_ (show j < n by omega)
      simp only [Option.some.injEq, Addr.mk.injEq, and_true] at hA
      obtain ⟨rfl, rfl⟩ := hA
      have HY : Hid (xs[k - 1]? = some y) := by show _ = _; rw [show k - 1 = j by omega]; exact hy
      have hmx := method_keyBd (.string x.name_) (.int .i64 x.kind_) (.int .i64 x.num_) (.string x.text_) (.int .i64 x.ref_)
      have hmy := method_keyBd (.string y.name_) (.int .i64 y.kind_) (.int .i64 y.num_) (.string y.text_) (.int .i64 y.ref_)
      clear hj hkp hg' hy
      obtain ⟨R, hRR⟩ : ∃ z, Op.bytesLess y.name_.toList x.name_.toList = z := ⟨_, rfl⟩
      have HRR := Lib.hid hRR
      cases R
      · have HF : Hid (P = false) := by
          show _ = _
          rw [← HP.out]
          exact tt_false (not_up hkp5 HX.out HY.out HRR.out)
        go_wp2_with fail
        obtain ⟨w0, hw0⟩ : ∃ w0, wr.alloc (.cells #[.string x.name_, .int .i64 x.kind_, .int .i64 x.num_, .string x.text_, .int .i64 x.ref_] 115) = w0 := ⟨_, rfl⟩
        rw [hw0]
        obtain ⟨g0, g1, g2⟩ := HC.out w0 hw0.symm
        have HB0 := Lib.hid g1
        have x0 := cell_regrown (g0.cell 0)
        have x1 := cell_regrown (g0.cell 1)
        have x2 := cell_regrown (g0.cell 2)
        have x3 := cell_regrown (g0.cell 3)
        have x4 := cell_regrown (g0.cell 4)
        have cE : ∀ d os', Calls Tryz.prog 202 #[.agg #[.string x.name_, .int .i64 x.kind_, .int .i64 x.num_, .string x.text_, .int .i64 x.ref_]] (grow (redrawn w0 d) os') (fun e w'' => e = .returned (.bool true) ∧ ∃ q : Regrown, w'' = grow (redrawn w0 q.d) q.os) := fun d os' => Calls.regrown_of (by have hb := g1.trans ((below_regrown w0 d os').mono g1.size); have h := HEL.out _ hb (classes_up HT1.out hb); rw [HZ.out] at h; exact h)
        have cX : ∀ d os', Calls Tryz.prog 203 #[.agg #[.string x.name_, .int .i64 x.kind_, .int .i64 x.num_, .string x.text_, .int .i64 x.ref_]] (grow (redrawn w0 d) os') (fun e w'' => e = .returned (.string x.name_) ∧ ∃ q : Regrown, w'' = grow (redrawn w0 q.d) q.os) := fun d os' => Calls.regrown_of (keyBd_any x _)
        have cY : ∀ d os', Calls Tryz.prog 203 #[.agg #[.string y.name_, .int .i64 y.kind_, .int .i64 y.num_, .string y.text_, .int .i64 y.ref_]] (grow (redrawn w0 d) os') (fun e w'' => e = .returned (.string y.name_) ∧ ∃ q : Regrown, w'' = grow (redrawn w0 q.d) q.os) := fun d os' => Calls.regrown_of (keyBd_any y _)
        have y0 := cell_regrown ((g1.cell (p := ⟨b, off + j * 5, none⟩) HGB.out).trans r0)
        have y1 := cell_regrown ((g1.cell (p := ⟨b, off + j * 5 + 1, none⟩) HGB.out).trans r1)
        have y2 := cell_regrown ((g1.cell (p := ⟨b, off + j * 5 + 2, none⟩) HGB.out).trans r2)
        have y3 := cell_regrown ((g1.cell (p := ⟨b, off + j * 5 + 3, none⟩) HGB.out).trans r3)
        have y4 := cell_regrown ((g1.cell (p := ⟨b, off + j * 5 + 4, none⟩) HGB.out).trans r4)
        clear hw0 g0 g1 g2 q0 q1 q2 q3 q4 r0 r1 r2 r3 r4
        refine wp_region_quiet_below (by kernel_rfl) (by kernel_rfl) ?_
        repeat (first | go_big_quiet_step (first | with_reducible exact cE _ _ | with_reducible exact cX _ _ | with_reducible exact cY _ _) | quiet_step (first | with_reducible exact cE _ _ | with_reducible exact cX _ _ | with_reducible exact cY _ _))
        refine wpQuiet_nil ?_
        intro w4 hw'
        obtain ⟨⟨dq, osq⟩, hw''⟩ := hw'
        have HB4 : Hid (Below W.heap.size W w4) := by show Below _ _ _; rw [hw'']; exact HW.out.trans ((HB0.out.trans ((below_regrown w0 dq osq).mono HB0.out.size)).mono HW.out.size)
        clear hw'' x0 x1 x2 x3 x4 y0 y1 y2 y3 y4 cE cX cY
        go_wp2_with fail
        go_ret
        exact ⟨by rw [HF.out]; rfl, HB4.out⟩
      · have HV2 := Lib.hid (UpOk.next HV.out HX.out HZ.out HY.out HRR.out)
        go_wp2_with fail
        obtain ⟨w0, hw0⟩ : ∃ w0, wr.alloc (.cells #[.string x.name_, .int .i64 x.kind_, .int .i64 x.num_, .string x.text_, .int .i64 x.ref_] 115) = w0 := ⟨_, rfl⟩
        rw [hw0]
        obtain ⟨g0, g1, g2⟩ := HC.out w0 hw0.symm
        have HB0 := Lib.hid g1
        have x0 := cell_regrown (g0.cell 0)
        have x1 := cell_regrown (g0.cell 1)
        have x2 := cell_regrown (g0.cell 2)
        have x3 := cell_regrown (g0.cell 3)
        have x4 := cell_regrown (g0.cell 4)
        have cE : ∀ d os', Calls Tryz.prog 202 #[.agg #[.string x.name_, .int .i64 x.kind_, .int .i64 x.num_, .string x.text_, .int .i64 x.ref_]] (grow (redrawn w0 d) os') (fun e w'' => e = .returned (.bool true) ∧ ∃ q : Regrown, w'' = grow (redrawn w0 q.d) q.os) := fun d os' => Calls.regrown_of (by have hb := g1.trans ((below_regrown w0 d os').mono g1.size); have h := HEL.out _ hb (classes_up HT1.out hb); rw [HZ.out] at h; exact h)
        have cX : ∀ d os', Calls Tryz.prog 203 #[.agg #[.string x.name_, .int .i64 x.kind_, .int .i64 x.num_, .string x.text_, .int .i64 x.ref_]] (grow (redrawn w0 d) os') (fun e w'' => e = .returned (.string x.name_) ∧ ∃ q : Regrown, w'' = grow (redrawn w0 q.d) q.os) := fun d os' => Calls.regrown_of (keyBd_any x _)
        have cY : ∀ d os', Calls Tryz.prog 203 #[.agg #[.string y.name_, .int .i64 y.kind_, .int .i64 y.num_, .string y.text_, .int .i64 y.ref_]] (grow (redrawn w0 d) os') (fun e w'' => e = .returned (.string y.name_) ∧ ∃ q : Regrown, w'' = grow (redrawn w0 q.d) q.os) := fun d os' => Calls.regrown_of (keyBd_any y _)
        have y0 := cell_regrown ((g1.cell (p := ⟨b, off + j * 5, none⟩) HGB.out).trans r0)
        have y1 := cell_regrown ((g1.cell (p := ⟨b, off + j * 5 + 1, none⟩) HGB.out).trans r1)
        have y2 := cell_regrown ((g1.cell (p := ⟨b, off + j * 5 + 2, none⟩) HGB.out).trans r2)
        have y3 := cell_regrown ((g1.cell (p := ⟨b, off + j * 5 + 3, none⟩) HGB.out).trans r3)
        have y4 := cell_regrown ((g1.cell (p := ⟨b, off + j * 5 + 4, none⟩) HGB.out).trans r4)
        clear hw0 g0 g1 g2 q0 q1 q2 q3 q4 r0 r1 r2 r3 r4
        refine wp_region_quiet_below (by kernel_rfl) (by kernel_rfl) ?_
        repeat (first | go_big_quiet_step (first | with_reducible exact cE _ _ | with_reducible exact cX _ _ | with_reducible exact cY _ _) | quiet_step (first | with_reducible exact cE _ _ | with_reducible exact cX _ _ | with_reducible exact cY _ _))
        refine wpQuiet_nil ?_
        intro w4 hw'
        obtain ⟨⟨dq, osq⟩, hw''⟩ := hw'
        have HB4 : Hid (Below W.heap.size W w4) := by show Below _ _ _; rw [hw'']; exact HW.out.trans ((HB0.out.trans ((below_regrown w0 dq osq).mono HB0.out.size)).mono HW.out.size)
        clear hw'' x0 x1 x2 x3 x4 y0 y1 y2 y3 y4 cE cX cY
        go_wp2_with fail
        go_roundw
        case rel => exact ⟨k + 1, by omega, by go_num, HB4, HV2⟩
        case measure => simp [intOf]; omega
    · have HE : Hid (P = true) := by
        show _ = _
        rw [← HP.out]
        have hkn : k = n := by omega
        refine tt_true ⟨by rw [HN.out]; exact HLIM.out, ?_⟩
        rw [HN.out, ← hkn]
        exact HV.out
      go_wp2_with fail
      go_ret
      exact ⟨by rw [HE.out]; rfl, HW.out⟩
end Go.Proofs.YtfcpdjfckeoniaaGreatDoor

namespace Go.Proofs.YtfcpdjfckeoniaaGreatDoor
open Go Go.RowKit Go.Sort

theorem method_elemFn (v0 v1 v2 v3 : Value) (w : World) : (method 372 118 (.agg #[v0, v1, v2, v3]) "loop.example/g00873/impl.isElement").run Tryz.prog w = .ok (205, .agg #[v0, v1, v2, v3]) w := by kernel_rfl
theorem method_keyFn (v0 v1 v2 v3 : Value) (w : World) : (method 372 118 (.agg #[v0, v1, v2, v3]) "loop.example/g00873/impl.key").run Tryz.prog w = .ok (206, .agg #[v0, v1, v2, v3]) w := by kernel_rfl

set_option maxHeartbeats 4000000 in
set_option maxRecDepth 100000 in
theorem withinFn_any (A : Option Addr) (n c lim : Nat) (xs : List Fn) (W : World) (hr : FnI W W.heap.size A n xs) (hlim : lim ≤ 1000) (hT : Classes W) :
    Calls Tryz.prog 86 #[.slice A n c, .int .i64 lim] W fun e w' => e = .returned (.bool (tt (ListOk fnOk Fn.name_ lim xs))) ∧ Below W.heap.size W w' := by
  have HR := Lib.hid hr
  have hn := hr.2.1
  have HN := Lib.hid hr.1
  have HTT := Lib.hid hT
  unfold maxLen at hn
  obtain ⟨P, hP⟩ : ∃ P, tt (ListOk fnOk Fn.name_ lim xs) = P := ⟨_, rfl⟩
  have HP := Lib.hid hP
  rw [hP]
  clear hP
  by_cases hbig : lim < n
  · have HF : Hid (P = false) := by
      show _ = _
      rw [← HP.out]
      exact tt_false fun h => by have := h.1; rw [hr.1] at this; omega
    have d0 : (lim : Int) < (n : Int) := by omega
    clear hr hT
    go_enter Tryz.func86, Tryz.ntmps86
    go_wp2_with fail
    go_ret
    exact ⟨by rw [HF.out]; rfl, Below.refl _ _⟩
  have d0 : ¬ ((lim : Int) < (n : Int)) := by omega
  have HLIM : Hid (n ≤ lim) := by show _ ≤ _; omega
  clear hr hT hbig
  go_enter Tryz.func86, Tryz.ntmps86
  go_wp2_with fail
  go_loopw [13] (fun i wr => ∃ k : Nat, k ≤ n ∧ i = .int .i64 k ∧ Hid (Below W.heap.size W wr) ∧ Hid (UpOk fnOk Fn.name_ xs k)) (fun i _ => n - (intOf i).toNat)
  case atStart => exact ⟨0, Nat.zero_le _, rfl, Below.refl _ _, Lib.hid UpOk.zero⟩
  case round =>
    obtain ⟨k, hk, rfl, HW, HV⟩ := hrel
    by_cases hlt : k < n
    · have b0 : (0 : Int) ≤ (k : Int) := by omega
      have b1 : (k : Int) < (n : Int) := by omega
      obtain ⟨b, off, x, l, rfl, hg, hx, ⟨q0, q1, q2, q3⟩, hv⟩ := (HR.out.go HW.out).at_ hlt
      have HX := Lib.hid hx
      have HGB : Hid (b < wr.heap.size) := hg
      have HEL := Lib.hid (fun (w : World) (hb : Below wr.heap.size wr w) (hT : Classes w) => elemFn_any x l w (hv.go hb) hT)
      have HC := Lib.hid (one_newS wr 118 #[.string x.name_, .slice l.A1 l.n1 l.c1, .slice l.A2 l.n2 l.c2, .string x.label_])
      have HT1 : Hid (Classes wr) := HTT.out.below HW.out (heap_pos (HTT.out.at_ 0 (by decide)))
      have hme := method_elemFn (.string x.name_) (.slice l.A1 l.n1 l.c1) (.slice l.A2 l.n2 l.c2) (.string x.label_)
      obtain ⟨Z, hZ⟩ : ∃ z, fnOk x = z := ⟨_, rfl⟩
      have HZ := Lib.hid hZ
      clear hx hg hv hZ
      cases Z
      · have HF : Hid (P = false) := by
          show _ = _
          rw [← HP.out]
          exact tt_false (not_ok HX.out HZ.out)
        go_wp2_with fail
        obtain ⟨w0, hw0⟩ : ∃ w0, wr.alloc (.cells #[.string x.name_, .slice l.A1 l.n1 l.c1, .slice l.A2 l.n2 l.c2, .string x.label_] 118) = w0 := ⟨_, rfl⟩
        rw [hw0]
        obtain ⟨g0, g1, g2⟩ := HC.out w0 hw0.symm
        have HB0 := Lib.hid g1
        have x0 := cell_regrown (g0.cell 0)
        have x1 := cell_regrown (g0.cell 1)
        have x2 := cell_regrown (g0.cell 2)
        have x3 := cell_regrown (g0.cell 3)
        have cE : ∀ d os', Calls Tryz.prog 205 #[.agg #[.string x.name_, .slice l.A1 l.n1 l.c1, .slice l.A2 l.n2 l.c2, .string x.label_]] (grow (redrawn w0 d) os') (fun e w'' => e = .returned (.bool false) ∧ ∃ q : Regrown, w'' = grow (redrawn w0 q.d) q.os) := fun d os' => Calls.regrown_of (by have hb := g1.trans ((below_regrown w0 d os').mono g1.size); have h := HEL.out _ hb (classes_up HT1.out hb); rw [HZ.out] at h; exact h)
        clear hw0 g0 g1 g2 q0 q1 q2 q3
        refine wp_region_quiet_below (by kernel_rfl) (by kernel_rfl) ?_
        repeat (first | go_big_quiet_step (with_reducible exact cE _ _) | quiet_step (with_reducible exact cE _ _))
        refine wpQuiet_nil ?_
        intro w4 hw'
        obtain ⟨⟨dq, osq⟩, hw''⟩ := hw'
        have HB4 : Hid (Below W.heap.size W w4) := by show Below _ _ _; rw [hw'']; exact HW.out.trans ((HB0.out.trans ((below_regrown w0 dq osq).mono HB0.out.size)).mono HW.out.size)
        clear hw'' x0 x1 x2 x3 cE
        go_wp2_with fail
        go_ret
        exact ⟨by rw [HF.out]; rfl, HB4.out⟩
      by_cases hkp : k = 0
      · subst hkp
        have HV2 := Lib.hid (UpOk.first (nm := Fn.name_) HX.out HZ.out)
        simp only [Nat.zero_mul, Nat.add_zero] at q0 q1 q2 q3
        go_wp2_with fail
        obtain ⟨w0, hw0⟩ : ∃ w0, wr.alloc (.cells #[.string x.name_, .slice l.A1 l.n1 l.c1, .slice l.A2 l.n2 l.c2, .string x.label_] 118) = w0 := ⟨_, rfl⟩
        rw [hw0]
        obtain ⟨g0, g1, g2⟩ := HC.out w0 hw0.symm
        have HB0 := Lib.hid g1
        have x0 := cell_regrown (g0.cell 0)
        have x1 := cell_regrown (g0.cell 1)
        have x2 := cell_regrown (g0.cell 2)
        have x3 := cell_regrown (g0.cell 3)
        have cE : ∀ d os', Calls Tryz.prog 205 #[.agg #[.string x.name_, .slice l.A1 l.n1 l.c1, .slice l.A2 l.n2 l.c2, .string x.label_]] (grow (redrawn w0 d) os') (fun e w'' => e = .returned (.bool true) ∧ ∃ q : Regrown, w'' = grow (redrawn w0 q.d) q.os) := fun d os' => Calls.regrown_of (by have hb := g1.trans ((below_regrown w0 d os').mono g1.size); have h := HEL.out _ hb (classes_up HT1.out hb); rw [HZ.out] at h; exact h)
        clear hw0 g0 g1 g2 q0 q1 q2 q3
        refine wp_region_quiet_below (by kernel_rfl) (by kernel_rfl) ?_
        repeat (first | go_big_quiet_step (with_reducible exact cE _ _) | quiet_step (with_reducible exact cE _ _))
        refine wpQuiet_nil ?_
        intro w4 hw'
        obtain ⟨⟨dq, osq⟩, hw''⟩ := hw'
        have HB4 : Hid (Below W.heap.size W w4) := by show Below _ _ _; rw [hw'']; exact HW.out.trans ((HB0.out.trans ((below_regrown w0 dq osq).mono HB0.out.size)).mono HW.out.size)
        clear hw'' x0 x1 x2 x3 cE
        go_wp2_with fail
        go_roundw
        case rel => exact ⟨0 + 1, by omega, by go_num, HB4, HV2⟩
        case measure => simp [intOf]; omega
      obtain ⟨j, hj⟩ : ∃ j, k = j + 1 := ⟨k - 1, by omega⟩
      have HJ := Lib.hid hj
      have hj1 : (k : Int) - 1 = (j : Int) := by omega
      have hkp2 : (0 : Int) < (k : Int) := by omega
      have hkp3 : decide ((0 : Int) < (k : Int)) = true := by simp; omega
      have hkp4 : decide (0 < k) = true := by simp; omega
      have hkp5 : 0 < k := by omega
      have c0 : (0 : Int) ≤ (j : Int) := by omega
      have c1 : (j : Int) < (n : Int) := by omega
      obtain ⟨b', off', y, l', hA, hg', hy, ⟨r0, r1, r2, r3⟩, _⟩ := (HR.out.go HW.out).at_ (show j < n by omega)
      simp only [Option.some.injEq, Addr.mk.injEq, and_true] at hA
      obtain ⟨rfl, rfl⟩ := hA
      have HY : Hid (xs[k - 1]? = some y) := by show _ = _; rw [show k - 1 = j by omega]; exact hy
      have hmx := method_keyFn (.string x.name_) (.slice l.A1 l.n1 l.c1) (.slice l.A2 l.n2 l.c2) (.string x.label_)
      have hmy := method_keyFn (.string y.name_) (.slice l'.A1 l'.n1 l'.c1) (.slice l'.A2 l'.n2 l'.c2) (.string y.label_)
      clear hj hkp hg' hy
      obtain ⟨R, hRR⟩ : ∃ z, Op.bytesLess y.name_.toList x.name_.toList = z := ⟨_, rfl⟩
      have HRR := Lib.hid hRR
      cases R
      · have HF : Hid (P = false) := by
          show _ = _
          rw [← HP.out]
          exact tt_false (not_up hkp5 HX.out HY.out HRR.out)
        go_wp2_with fail
        obtain ⟨w0, hw0⟩ : ∃ w0, wr.alloc (.cells #[.string x.name_, .slice l.A1 l.n1 l.c1, .slice l.A2 l.n2 l.c2, .string x.label_] 118) = w0 := ⟨_, rfl⟩
        rw [hw0]
        obtain ⟨g0, g1, g2⟩ := HC.out w0 hw0.symm
        have HB0 := Lib.hid g1
        have x0 := cell_regrown (g0.cell 0)
        have x1 := cell_regrown (g0.cell 1)
        have x2 := cell_regrown (g0.cell 2)
        have x3 := cell_regrown (g0.cell 3)
        have cE : ∀ d os', Calls Tryz.prog 205 #[.agg #[.string x.name_, .slice l.A1 l.n1 l.c1, .slice l.A2 l.n2 l.c2, .string x.label_]] (grow (redrawn w0 d) os') (fun e w'' => e = .returned (.bool true) ∧ ∃ q : Regrown, w'' = grow (redrawn w0 q.d) q.os) := fun d os' => Calls.regrown_of (by have hb := g1.trans ((below_regrown w0 d os').mono g1.size); have h := HEL.out _ hb (classes_up HT1.out hb); rw [HZ.out] at h; exact h)
        have cX : ∀ d os', Calls Tryz.prog 206 #[.agg #[.string x.name_, .slice l.A1 l.n1 l.c1, .slice l.A2 l.n2 l.c2, .string x.label_]] (grow (redrawn w0 d) os') (fun e w'' => e = .returned (.string x.name_) ∧ ∃ q : Regrown, w'' = grow (redrawn w0 q.d) q.os) := fun d os' => Calls.regrown_of (keyFn_any x l _)
        have cY : ∀ d os', Calls Tryz.prog 206 #[.agg #[.string y.name_, .slice l'.A1 l'.n1 l'.c1, .slice l'.A2 l'.n2 l'.c2, .string y.label_]] (grow (redrawn w0 d) os') (fun e w'' => e = .returned (.string y.name_) ∧ ∃ q : Regrown, w'' = grow (redrawn w0 q.d) q.os) := fun d os' => Calls.regrown_of (keyFn_any y l' _)
        have y0 := cell_regrown ((g1.cell (p := ⟨b, off + j * 4, none⟩) HGB.out).trans r0)
        have y1 := cell_regrown ((g1.cell (p := ⟨b, off + j * 4 + 1, none⟩) HGB.out).trans r1)
        have y2 := cell_regrown ((g1.cell (p := ⟨b, off + j * 4 + 2, none⟩) HGB.out).trans r2)
        have y3 := cell_regrown ((g1.cell (p := ⟨b, off + j * 4 + 3, none⟩) HGB.out).trans r3)
        clear hw0 g0 g1 g2 q0 q1 q2 q3 r0 r1 r2 r3
        refine wp_region_quiet_below (by kernel_rfl) (by kernel_rfl) ?_
        repeat (first | go_big_quiet_step (first | with_reducible exact cE _ _ | with_reducible exact cX _ _ | with_reducible exact cY _ _) | quiet_step (first | with_reducible exact cE _ _ | with_reducible exact cX _ _ | with_reducible exact cY _ _))
        refine wpQuiet_nil ?_
        intro w4 hw'
        obtain ⟨⟨dq, osq⟩, hw''⟩ := hw'
        have HB4 : Hid (Below W.heap.size W w4) := by show Below _ _ _; rw [hw'']; exact HW.out.trans ((HB0.out.trans ((below_regrown w0 dq osq).mono HB0.out.size)).mono HW.out.size)
        clear hw'' x0 x1 x2 x3 y0 y1 y2 y3 cE cX cY
        go_wp2_with fail
        go_ret
        exact ⟨by rw [HF.out]; rfl, HB4.out⟩
      · have HV2 := Lib.hid (UpOk.next HV.out HX.out HZ.out HY.out HRR.out)
        go_wp2_with fail
        obtain ⟨w0, hw0⟩ : ∃ w0, wr.alloc (.cells #[.string x.name_, .slice l.A1 l.n1 l.c1, .slice l.A2 l.n2 l.c2, .string x.label_] 118) = w0 := ⟨_, rfl⟩
        rw [hw0]
        obtain ⟨g0, g1, g2⟩ := HC.out w0 hw0.symm
        have HB0 := Lib.hid g1
        have x0 := cell_regrown (g0.cell 0)
        have x1 := cell_regrown (g0.cell 1)
        have x2 := cell_regrown (g0.cell 2)
        have x3 := cell_regrown (g0.cell 3)
        have cE : ∀ d os', Calls Tryz.prog 205 #[.agg #[.string x.name_, .slice l.A1 l.n1 l.c1, .slice l.A2 l.n2 l.c2, .string x.label_]] (grow (redrawn w0 d) os') (fun e w'' => e = .returned (.bool true) ∧ ∃ q : Regrown, w'' = grow (redrawn w0 q.d) q.os) := fun d os' => Calls.regrown_of (by have hb := g1.trans ((below_regrown w0 d os').mono g1.size); have h := HEL.out _ hb (classes_up HT1.out hb); rw [HZ.out] at h; exact h)
        have cX : ∀ d os', Calls Tryz.prog 206 #[.agg #[.string x.name_, .slice l.A1 l.n1 l.c1, .slice l.A2 l.n2 l.c2, .string x.label_]] (grow (redrawn w0 d) os') (fun e w'' => e = .returned (.string x.name_) ∧ ∃ q : Regrown, w'' = grow (redrawn w0 q.d) q.os) := fun d os' => Calls.regrown_of (keyFn_any x l _)
        have cY : ∀ d os', Calls Tryz.prog 206 #[.agg #[.string y.name_, .slice l'.A1 l'.n1 l'.c1, .slice l'.A2 l'.n2 l'.c2, .string y.label_]] (grow (redrawn w0 d) os') (fun e w'' => e = .returned (.string y.name_) ∧ ∃ q : Regrown, w'' = grow (redrawn w0 q.d) q.os) := fun d os' => Calls.regrown_of (keyFn_any y l' _)
        have y0 := cell_regrown ((g1.cell (p := ⟨b, off + j * 4, none⟩) HGB.out).trans r0)
        have y1 := cell_regrown ((g1.cell (p := ⟨b, off + j * 4 + 1, none⟩) HGB.out).trans r1)
        have y2 := cell_regrown ((g1.cell (p := ⟨b, off + j * 4 + 2, none⟩) HGB.out).trans r2)
        have y3 := cell_regrown ((g1.cell (p := ⟨b, off + j * 4 + 3, none⟩) HGB.out).trans r3)
        clear hw0 g0 g1 g2 q0 q1 q2 q3 r0 r1 r2 r3
        refine wp_region_quiet_below (by kernel_rfl) (by kernel_rfl) ?_
        repeat (first | go_big_quiet_step (first | with_reducible exact cE _ _ | with_reducible exact cX _ _ | with_reducible exact cY _ _) | quiet_step (first | with_reducible exact cE _ _ | with_reducible exact cX _ _ | with_reducible exact cY _ _))
        refine wpQuiet_nil ?_
        intro w4 hw'
        obtain ⟨⟨dq, osq⟩, hw''⟩ := hw'
        have HB4 : Hid (Below W.heap.size W w4) := by show Below _ _ _; rw [hw'']; exact HW.out.trans ((HB0.out.trans ((below_regrown w0 dq osq).mono HB0.out.size)).mono HW.out.size)
        clear hw'' x0 x1 x2 x3 y0 y1 y2 y3 cE cX cY
        go_wp2_with fail
        go_roundw
        case rel => exact ⟨k + 1, by omega, by go_num, HB4, HV2⟩
        case measure => simp [intOf]; omega
    · have HE : Hid (P = true) := by
        show _ = _
        rw [← HP.out]
        have hkn : k = n := by omega
        refine tt_true ⟨by rw [HN.out]; exact HLIM.out, ?_⟩
        rw [HN.out, ← hkn]
        exact HV.out
      go_wp2_with fail
      go_ret
      exact ⟨by rw [HE.out]; rfl, HW.out⟩
end Go.Proofs.YtfcpdjfckeoniaaGreatDoor

namespace Go.Proofs.YtfcpdjfckeoniaaGreatDoor
open Go Go.RowKit Go.Sort

theorem method_elemRt (v0 v1 : Value) (w : World) : (method 372 121 (.agg #[v0, v1]) "loop.example/g00873/impl.isElement").run Tryz.prog w = .ok (212, .agg #[v0, v1]) w := by kernel_rfl
theorem method_keyRt (v0 v1 : Value) (w : World) : (method 372 121 (.agg #[v0, v1]) "loop.example/g00873/impl.key").run Tryz.prog w = .ok (213, .agg #[v0, v1]) w := by kernel_rfl

set_option maxHeartbeats 4000000 in
set_option maxRecDepth 100000 in
theorem withinRt_any (A : Option Addr) (n c lim : Nat) (xs : List Rt) (W : World) (hr : RtI W W.heap.size A n xs) (hlim : lim ≤ 1000) (hT : Classes W) :
    Calls Tryz.prog 88 #[.slice A n c, .int .i64 lim] W fun e w' => e = .returned (.bool (tt (ListOk rtOk Rt.name_ lim xs))) ∧ Below W.heap.size W w' := by
  have HR := Lib.hid hr
  have hn := hr.2.1
  have HN := Lib.hid hr.1
  have HTT := Lib.hid hT
  unfold maxLen at hn
  obtain ⟨P, hP⟩ : ∃ P, tt (ListOk rtOk Rt.name_ lim xs) = P := ⟨_, rfl⟩
  have HP := Lib.hid hP
  rw [hP]
  clear hP
  by_cases hbig : lim < n
  · have HF : Hid (P = false) := by
      show _ = _
      rw [← HP.out]
      exact tt_false fun h => by have := h.1; rw [hr.1] at this; omega
    have d0 : (lim : Int) < (n : Int) := by omega
    clear hr hT
    go_enter Tryz.func88, Tryz.ntmps88
    go_wp2_with fail
    go_ret
    exact ⟨by rw [HF.out]; rfl, Below.refl _ _⟩
  have d0 : ¬ ((lim : Int) < (n : Int)) := by omega
  have HLIM : Hid (n ≤ lim) := by show _ ≤ _; omega
  clear hr hT hbig
  go_enter Tryz.func88, Tryz.ntmps88
  go_wp2_with fail
  go_loopw [13] (fun i wr => ∃ k : Nat, k ≤ n ∧ i = .int .i64 k ∧ Hid (Below W.heap.size W wr) ∧ Hid (UpOk rtOk Rt.name_ xs k)) (fun i _ => n - (intOf i).toNat)
  case atStart => exact ⟨0, Nat.zero_le _, rfl, Below.refl _ _, Lib.hid UpOk.zero⟩
  case round =>
    obtain ⟨k, hk, rfl, HW, HV⟩ := hrel
    by_cases hlt : k < n
    · have b0 : (0 : Int) ≤ (k : Int) := by omega
      have b1 : (k : Int) < (n : Int) := by omega
      obtain ⟨b, off, x, l, rfl, hg, hx, ⟨q0, q1⟩, hv⟩ := (HR.out.go HW.out).at_ hlt
      have HX := Lib.hid hx
      have HGB : Hid (b < wr.heap.size) := hg
      have HEL := Lib.hid (fun (w : World) (hb : Below wr.heap.size wr w) (hT : Classes w) => elemRt_any x l w (hv.go hb) hT)
      have HC := Lib.hid (one_newS wr 121 #[.string x.name_, .slice l.A1 l.n1 l.c1])
      have HT1 : Hid (Classes wr) := HTT.out.below HW.out (heap_pos (HTT.out.at_ 0 (by decide)))
      have hme := method_elemRt (.string x.name_) (.slice l.A1 l.n1 l.c1)
      obtain ⟨Z, hZ⟩ : ∃ z, rtOk x = z := ⟨_, rfl⟩
      have HZ := Lib.hid hZ
      clear hx hg hv hZ
      cases Z
      · have HF : Hid (P = false) := by
          show _ = _
          rw [← HP.out]
          exact tt_false (not_ok HX.out HZ.out)
        go_wp2_with fail
        obtain ⟨w0, hw0⟩ : ∃ w0, wr.alloc (.cells #[.string x.name_, .slice l.A1 l.n1 l.c1] 121) = w0 := ⟨_, rfl⟩
        rw [hw0]
        obtain ⟨g0, g1, g2⟩ := HC.out w0 hw0.symm
        have HB0 := Lib.hid g1
        have x0 := cell_regrown (g0.cell 0)
        have x1 := cell_regrown (g0.cell 1)
        have cE : ∀ d os', Calls Tryz.prog 212 #[.agg #[.string x.name_, .slice l.A1 l.n1 l.c1]] (grow (redrawn w0 d) os') (fun e w'' => e = .returned (.bool false) ∧ ∃ q : Regrown, w'' = grow (redrawn w0 q.d) q.os) := fun d os' => Calls.regrown_of (by have hb := g1.trans ((below_regrown w0 d os').mono g1.size); have h := HEL.out _ hb (classes_up HT1.out hb); rw [HZ.out] at h; exact h)
        clear hw0 g0 g1 g2 q0 q1
        refine wp_region_quiet_below (by kernel_rfl) (by kernel_rfl) ?_
        repeat (first | go_big_quiet_step (with_reducible exact cE _ _) | quiet_step (with_reducible exact cE _ _))
        refine wpQuiet_nil ?_
        intro w4 hw'
        obtain ⟨⟨dq, osq⟩, hw''⟩ := hw'
        have HB4 : Hid (Below W.heap.size W w4) := by show Below _ _ _; rw [hw'']; exact HW.out.trans ((HB0.out.trans ((below_regrown w0 dq osq).mono HB0.out.size)).mono HW.out.size)
        clear hw'' x0 x1 cE
        go_wp2_with fail
        go_ret
        exact ⟨by rw [HF.out]; rfl, HB4.out⟩
      by_cases hkp : k = 0
      · subst hkp
        have HV2 := Lib.hid (UpOk.first (nm := Rt.name_) HX.out HZ.out)
        simp only [Nat.zero_mul, Nat.add_zero] at q0 q1
        go_wp2_with fail
        obtain ⟨w0, hw0⟩ : ∃ w0, wr.alloc (.cells #[.string x.name_, .slice l.A1 l.n1 l.c1] 121) = w0 := ⟨_, rfl⟩
        rw [hw0]
        obtain ⟨g0, g1, g2⟩ := HC.out w0 hw0.symm
        have HB0 := Lib.hid g1
        have x0 := cell_regrown (g0.cell 0)
        have x1 := cell_regrown (g0.cell 1)
        have cE : ∀ d os', Calls Tryz.prog 212 #[.agg #[.string x.name_, .slice l.A1 l.n1 l.c1]] (grow (redrawn w0 d) os') (fun e w'' => e = .returned (.bool true) ∧ ∃ q : Regrown, w'' = grow (redrawn w0 q.d) q.os) := fun d os' => Calls.regrown_of (by have hb := g1.trans ((below_regrown w0 d os').mono g1.size); have h := HEL.out _ hb (classes_up HT1.out hb); rw [HZ.out] at h; exact h)
        clear hw0 g0 g1 g2 q0 q1
        refine wp_region_quiet_below (by kernel_rfl) (by kernel_rfl) ?_
        repeat (first | go_big_quiet_step (with_reducible exact cE _ _) | quiet_step (with_reducible exact cE _ _))
        refine wpQuiet_nil ?_
        intro w4 hw'
        obtain ⟨⟨dq, osq⟩, hw''⟩ := hw'
        have HB4 : Hid (Below W.heap.size W w4) := by show Below _ _ _; rw [hw'']; exact HW.out.trans ((HB0.out.trans ((below_regrown w0 dq osq).mono HB0.out.size)).mono HW.out.size)
        clear hw'' x0 x1 cE
        go_wp2_with fail
        go_roundw
        case rel => exact ⟨0 + 1, by omega, by go_num, HB4, HV2⟩
        case measure => simp [intOf]; omega
      obtain ⟨j, hj⟩ : ∃ j, k = j + 1 := ⟨k - 1, by omega⟩
      have HJ := Lib.hid hj
      have hj1 : (k : Int) - 1 = (j : Int) := by omega
      have hkp2 : (0 : Int) < (k : Int) := by omega
      have hkp3 : decide ((0 : Int) < (k : Int)) = true := by simp; omega
      have hkp4 : decide (0 < k) = true := by simp; omega
      have hkp5 : 0 < k := by omega
      have c0 : (0 : Int) ≤ (j : Int) := by omega
      have c1 : (j : Int) < (n : Int) := by omega
      obtain ⟨b', off', y, l', hA, hg', hy, ⟨r0, r1⟩, _⟩ := (HR.out.go HW.out).at_ (show j < n by omega)
      simp only [Option.some.injEq, Addr.mk.injEq, and_true] at hA
      obtain ⟨rfl, rfl⟩ := hA
      have HY : Hid (xs[k - 1]? = some y) := by show _ = _; rw [show k - 1 = j by omega]; exact hy
      have hmx := method_keyRt (.string x.name_) (.slice l.A1 l.n1 l.c1)
      have hmy := method_keyRt (.string y.name_) (.slice l'.A1 l'.n1 l'.c1)
      clear hj hkp hg' hy
      obtain ⟨R, hRR⟩ : ∃ z, Op.bytesLess y.name_.toList x.name_.toList = z := ⟨_, rfl⟩
      have HRR := Lib.hid hRR
      cases R
      · have HF : Hid (P = false) := by
          show _ = _
          rw [← HP.out]
          exact tt_false (not_up hkp5 HX.out HY.out HRR.out)
        go_wp2_with fail
        obtain ⟨w0, hw0⟩ : ∃ w0, wr.alloc (.cells #[.string x.name_, .slice l.A1 l.n1 l.c1] 121) = w0 := ⟨_, rfl⟩
        rw [hw0]
        obtain ⟨g0, g1, g2⟩ := HC.out w0 hw0.symm
        have HB0 := Lib.hid g1
        have x0 := cell_regrown (g0.cell 0)
        have x1 := cell_regrown (g0.cell 1)
        have cE : ∀ d os', Calls Tryz.prog 212 #[.agg #[.string x.name_, .slice l.A1 l.n1 l.c1]] (grow (redrawn w0 d) os') (fun e w'' => e = .returned (.bool true) ∧ ∃ q : Regrown, w'' = grow (redrawn w0 q.d) q.os) := fun d os' => Calls.regrown_of (by have hb := g1.trans ((below_regrown w0 d os').mono g1.size); have h := HEL.out _ hb (classes_up HT1.out hb); rw [HZ.out] at h; exact h)
        have cX : ∀ d os', Calls Tryz.prog 213 #[.agg #[.string x.name_, .slice l.A1 l.n1 l.c1]] (grow (redrawn w0 d) os') (fun e w'' => e = .returned (.string x.name_) ∧ ∃ q : Regrown, w'' = grow (redrawn w0 q.d) q.os) := fun d os' => Calls.regrown_of (keyRt_any x l _)
        have cY : ∀ d os', Calls Tryz.prog 213 #[.agg #[.string y.name_, .slice l'.A1 l'.n1 l'.c1]] (grow (redrawn w0 d) os') (fun e w'' => e = .returned (.string y.name_) ∧ ∃ q : Regrown, w'' = grow (redrawn w0 q.d) q.os) := fun d os' => Calls.regrown_of (keyRt_any y l' _)
        have y0 := cell_regrown ((g1.cell (p := ⟨b, off + j * 2, none⟩) HGB.out).trans r0)
        have y1 := cell_regrown ((g1.cell (p := ⟨b, off + j * 2 + 1, none⟩) HGB.out).trans r1)
        clear hw0 g0 g1 g2 q0 q1 r0 r1
        refine wp_region_quiet_below (by kernel_rfl) (by kernel_rfl) ?_
        repeat (first | go_big_quiet_step (first | with_reducible exact cE _ _ | with_reducible exact cX _ _ | with_reducible exact cY _ _) | quiet_step (first | with_reducible exact cE _ _ | with_reducible exact cX _ _ | with_reducible exact cY _ _))
        refine wpQuiet_nil ?_
        intro w4 hw'
        obtain ⟨⟨dq, osq⟩, hw''⟩ := hw'
        have HB4 : Hid (Below W.heap.size W w4) := by show Below _ _ _; rw [hw'']; exact HW.out.trans ((HB0.out.trans ((below_regrown w0 dq osq).mono HB0.out.size)).mono HW.out.size)
        clear hw'' x0 x1 y0 y1 cE cX cY
        go_wp2_with fail
        go_ret
        exact ⟨by rw [HF.out]; rfl, HB4.out⟩
      · have HV2 := Lib.hid (UpOk.next HV.out HX.out HZ.out HY.out HRR.out)
        go_wp2_with fail
        obtain ⟨w0, hw0⟩ : ∃ w0, wr.alloc (.cells #[.string x.name_, .slice l.A1 l.n1 l.c1] 121) = w0 := ⟨_, rfl⟩
        rw [hw0]
        obtain ⟨g0, g1, g2⟩ := HC.out w0 hw0.symm
        have HB0 := Lib.hid g1
        have x0 := cell_regrown (g0.cell 0)
        have x1 := cell_regrown (g0.cell 1)
        have cE : ∀ d os', Calls Tryz.prog 212 #[.agg #[.string x.name_, .slice l.A1 l.n1 l.c1]] (grow (redrawn w0 d) os') (fun e w'' => e = .returned (.bool true) ∧ ∃ q : Regrown, w'' = grow (redrawn w0 q.d) q.os) := fun d os' => Calls.regrown_of (by have hb := g1.trans ((below_regrown w0 d os').mono g1.size); have h := HEL.out _ hb (classes_up HT1.out hb); rw [HZ.out] at h; exact h)
        have cX : ∀ d os', Calls Tryz.prog 213 #[.agg #[.string x.name_, .slice l.A1 l.n1 l.c1]] (grow (redrawn w0 d) os') (fun e w'' => e = .returned (.string x.name_) ∧ ∃ q : Regrown, w'' = grow (redrawn w0 q.d) q.os) := fun d os' => Calls.regrown_of (keyRt_any x l _)
        have cY : ∀ d os', Calls Tryz.prog 213 #[.agg #[.string y.name_, .slice l'.A1 l'.n1 l'.c1]] (grow (redrawn w0 d) os') (fun e w'' => e = .returned (.string y.name_) ∧ ∃ q : Regrown, w'' = grow (redrawn w0 q.d) q.os) := fun d os' => Calls.regrown_of (keyRt_any y l' _)
        have y0 := cell_regrown ((g1.cell (p := ⟨b, off + j * 2, none⟩) HGB.out).trans r0)
        have y1 := cell_regrown ((g1.cell (p := ⟨b, off + j * 2 + 1, none⟩) HGB.out).trans r1)
        clear hw0 g0 g1 g2 q0 q1 r0 r1
        refine wp_region_quiet_below (by kernel_rfl) (by kernel_rfl) ?_
        repeat (first | go_big_quiet_step (first | with_reducible exact cE _ _ | with_reducible exact cX _ _ | with_reducible exact cY _ _) | quiet_step (first | with_reducible exact cE _ _ | with_reducible exact cX _ _ | with_reducible exact cY _ _))
        refine wpQuiet_nil ?_
        intro w4 hw'
        obtain ⟨⟨dq, osq⟩, hw''⟩ := hw'
        have HB4 : Hid (Below W.heap.size W w4) := by show Below _ _ _; rw [hw'']; exact HW.out.trans ((HB0.out.trans ((below_regrown w0 dq osq).mono HB0.out.size)).mono HW.out.size)
        clear hw'' x0 x1 y0 y1 cE cX cY
        go_wp2_with fail
        go_roundw
        case rel => exact ⟨k + 1, by omega, by go_num, HB4, HV2⟩
        case measure => simp [intOf]; omega
    · have HE : Hid (P = true) := by
        show _ = _
        rw [← HP.out]
        have hkn : k = n := by omega
        refine tt_true ⟨by rw [HN.out]; exact HLIM.out, ?_⟩
        rw [HN.out, ← hkn]
        exact HV.out
      go_wp2_with fail
      go_ret
      exact ⟨by rw [HE.out]; rfl, HW.out⟩
end Go.Proofs.YtfcpdjfckeoniaaGreatDoor

namespace Go.Proofs.YtfcpdjfckeoniaaGreatDoor
open Go Go.RowKit

theorem vars_any (A0 A1 A2 : Option Addr) (n0 c0 n1 c1 n2 c2 : Nat) (W : World) : Calls Tryz.prog 83 #[.agg #[.slice A0 n0 c0, .slice A1 n1 c1, .slice A2 n2 c2]] W fun e w' => e = .returned (.slice A0 n0 c0) ∧ Below W.heap.size W w' := by
  go_enter Tryz.func83, Tryz.ntmps83
  go_wp2_with fail
  go_ret
  exact ⟨rfl, below_alloc _ _⟩
theorem functions_any (A0 A1 A2 : Option Addr) (n0 c0 n1 c1 n2 c2 : Nat) (W : World) : Calls Tryz.prog 85 #[.agg #[.slice A0 n0 c0, .slice A1 n1 c1, .slice A2 n2 c2]] W fun e w' => e = .returned (.slice A1 n1 c1) ∧ Below W.heap.size W w' := by
  go_enter Tryz.func85, Tryz.ntmps85
  go_wp2_with fail
  go_ret
  exact ⟨rfl, below_alloc _ _⟩
theorem types_any (A0 A1 A2 : Option Addr) (n0 c0 n1 c1 n2 c2 : Nat) (W : World) : Calls Tryz.prog 87 #[.agg #[.slice A0 n0 c0, .slice A1 n1 c1, .slice A2 n2 c2]] W fun e w' => e = .returned (.slice A2 n2 c2) ∧ Below W.heap.size W w' := by
  go_enter Tryz.func87, Tryz.ntmps87
  go_wp2_with fail
  go_ret
  exact ⟨rfl, below_alloc _ _⟩

theorem scOk_bool (x : Sc) : tt (ScOk x) = (tt (ListOk bdOk Bd.name_ 40 x.vars_) && (tt (ListOk fnOk Fn.name_ 12 x.functions_) && tt (ListOk rtOk Rt.name_ 8 x.types_))) := by
  rw [Bool.eq_iff_iff]
  simp only [Bool.and_eq_true, tt_iff]
  rfl
set_option maxHeartbeats 4000000 in
set_option maxRecDepth 100000 in
theorem impl_ValidScope_any (x : Sc) (l : ScLay) (W : World) (hv : ScV W W.heap.size x l) (hT : Classes W) :
    Calls Tryz.prog 44 #[x.ag l] W fun e w' => e = .returned (.bool (tt (ScOk x))) ∧ Below W.heap.size W w' := by
  rw [scOk_bool]
  obtain ⟨x0, x1, x2⟩ := x
  obtain ⟨A0, n0, c0, h0, A1, n1, c1, h1, A2, n2, c2, h2⟩ := l
  obtain ⟨k0, k1, k2⟩ := hv
  dsimp only at k0 k1 k2 ⊢
  show Calls Tryz.prog 44 #[.agg #[.slice A0 n0 c0, .slice A1 n1 c1, .slice A2 n2 c2]] W _
  have HX0 := Lib.hid k0
  have HX1 := Lib.hid k1
  have HX2 := Lib.hid k2
  have HC := Lib.hid (one_newS W 60 #[.slice A0 n0 c0, .slice A1 n1 c1, .slice A2 n2 c2])
  have HT := Lib.hid (fun (w : World) (hb : Below W.heap.size W w) => classes_up hT hb)
  obtain ⟨z0, hz0⟩ : ∃ z, tt (ListOk bdOk Bd.name_ 40 x0) = z := ⟨_, rfl⟩
  obtain ⟨z1, hz1⟩ : ∃ z, tt (ListOk fnOk Fn.name_ 12 x1) = z := ⟨_, rfl⟩
  obtain ⟨z2, hz2⟩ : ∃ z, tt (ListOk rtOk Rt.name_ 8 x2) = z := ⟨_, rfl⟩
  rw [hz0, hz1, hz2]
  have HZ0 := Lib.hid hz0
  have HZ1 := Lib.hid hz1
  have HZ2 := Lib.hid hz2
  clear hz0 hz1 hz2 k0 k1 k2 hT
  cases z0
  · go_enter Tryz.func44, Tryz.ntmps44
    go_wp2_with (first | (go_at_call 83; obtain ⟨g0, g1, g2⟩ := HC.out _ rfl; refine (vars_any A0 A1 A2 n0 c0 n1 c1 n2 c2 _).mono ?_; rintro e w1 ⟨rfl, hb⟩; have HB1 := Lib.hid (g1.trans (hb.mono g1.size)); have HA1 := Lib.hid (g0.below hb g2); clear g0 g1 g2 hb) | (go_at_call 84; have HQ := withinBd_any A0 n0 c0 40 x0 w1 (HX0.out.go HB1.out) (by decide) (HT.out _ HB1.out); refine Calls.mono HQ ?_; clear HQ; rintro e w2 ⟨rfl, hb⟩; rw [HZ0.out]; have HB2 := Lib.hid (HB1.out.trans (hb.mono HB1.out.size)); have HA2 := Lib.hid (HA1.out.below hb HA1.out.lt); have q0 : w2.cell? ⟨W.heap.size, 0, none⟩ = some (.slice A0 n0 c0) := HA2.out.cell 0; have q1 : w2.cell? ⟨W.heap.size, 1, none⟩ = some (.slice A1 n1 c1) := HA2.out.cell 1; have q2 : w2.cell? ⟨W.heap.size, 2, none⟩ = some (.slice A2 n2 c2) := HA2.out.cell 2; clear hb))
    go_ret
    exact ⟨rfl, HB2.out⟩
  cases z1
  · go_enter Tryz.func44, Tryz.ntmps44
    go_wp2_with (first | (go_at_call 83; obtain ⟨g0, g1, g2⟩ := HC.out _ rfl; refine (vars_any A0 A1 A2 n0 c0 n1 c1 n2 c2 _).mono ?_; rintro e w1 ⟨rfl, hb⟩; have HB1 := Lib.hid (g1.trans (hb.mono g1.size)); have HA1 := Lib.hid (g0.below hb g2); clear g0 g1 g2 hb) | (go_at_call 84; have HQ := withinBd_any A0 n0 c0 40 x0 w1 (HX0.out.go HB1.out) (by decide) (HT.out _ HB1.out); refine Calls.mono HQ ?_; clear HQ; rintro e w2 ⟨rfl, hb⟩; rw [HZ0.out]; have HB2 := Lib.hid (HB1.out.trans (hb.mono HB1.out.size)); have HA2 := Lib.hid (HA1.out.below hb HA1.out.lt); have q0 : w2.cell? ⟨W.heap.size, 0, none⟩ = some (.slice A0 n0 c0) := HA2.out.cell 0; have q1 : w2.cell? ⟨W.heap.size, 1, none⟩ = some (.slice A1 n1 c1) := HA2.out.cell 1; have q2 : w2.cell? ⟨W.heap.size, 2, none⟩ = some (.slice A2 n2 c2) := HA2.out.cell 2; clear hb) | (go_at_call 85; refine (functions_any A0 A1 A2 n0 c0 n1 c1 n2 c2 _).mono ?_; rintro e w3 ⟨rfl, hb⟩; have HB3 := Lib.hid (HB2.out.trans (hb.mono HB2.out.size)); have HA3 := Lib.hid (HA2.out.below hb HA2.out.lt); clear hb q0 q1 q2) | (go_at_call 86; have HQ := withinFn_any A1 n1 c1 12 x1 w3 (HX1.out.go HB3.out) (by decide) (HT.out _ HB3.out); refine Calls.mono HQ ?_; clear HQ; rintro e w4 ⟨rfl, hb⟩; rw [HZ1.out]; have HB4 := Lib.hid (HB3.out.trans (hb.mono HB3.out.size)); have HA4 := Lib.hid (HA3.out.below hb HA3.out.lt); have q0 : w4.cell? ⟨W.heap.size, 0, none⟩ = some (.slice A0 n0 c0) := HA4.out.cell 0; have q1 : w4.cell? ⟨W.heap.size, 1, none⟩ = some (.slice A1 n1 c1) := HA4.out.cell 1; have q2 : w4.cell? ⟨W.heap.size, 2, none⟩ = some (.slice A2 n2 c2) := HA4.out.cell 2; clear hb))
    go_ret
    exact ⟨rfl, HB4.out⟩
  cases z2
  all_goals
    go_enter Tryz.func44, Tryz.ntmps44
    go_wp2_with (first | (go_at_call 83; obtain ⟨g0, g1, g2⟩ := HC.out _ rfl; refine (vars_any A0 A1 A2 n0 c0 n1 c1 n2 c2 _).mono ?_; rintro e w1 ⟨rfl, hb⟩; have HB1 := Lib.hid (g1.trans (hb.mono g1.size)); have HA1 := Lib.hid (g0.below hb g2); clear g0 g1 g2 hb) | (go_at_call 84; have HQ := withinBd_any A0 n0 c0 40 x0 w1 (HX0.out.go HB1.out) (by decide) (HT.out _ HB1.out); refine Calls.mono HQ ?_; clear HQ; rintro e w2 ⟨rfl, hb⟩; rw [HZ0.out]; have HB2 := Lib.hid (HB1.out.trans (hb.mono HB1.out.size)); have HA2 := Lib.hid (HA1.out.below hb HA1.out.lt); have q0 : w2.cell? ⟨W.heap.size, 0, none⟩ = some (.slice A0 n0 c0) := HA2.out.cell 0; have q1 : w2.cell? ⟨W.heap.size, 1, none⟩ = some (.slice A1 n1 c1) := HA2.out.cell 1; have q2 : w2.cell? ⟨W.heap.size, 2, none⟩ = some (.slice A2 n2 c2) := HA2.out.cell 2; clear hb) | (go_at_call 85; refine (functions_any A0 A1 A2 n0 c0 n1 c1 n2 c2 _).mono ?_; rintro e w3 ⟨rfl, hb⟩; have HB3 := Lib.hid (HB2.out.trans (hb.mono HB2.out.size)); have HA3 := Lib.hid (HA2.out.below hb HA2.out.lt); clear hb q0 q1 q2) | (go_at_call 86; have HQ := withinFn_any A1 n1 c1 12 x1 w3 (HX1.out.go HB3.out) (by decide) (HT.out _ HB3.out); refine Calls.mono HQ ?_; clear HQ; rintro e w4 ⟨rfl, hb⟩; rw [HZ1.out]; have HB4 := Lib.hid (HB3.out.trans (hb.mono HB3.out.size)); have HA4 := Lib.hid (HA3.out.below hb HA3.out.lt); have q0 : w4.cell? ⟨W.heap.size, 0, none⟩ = some (.slice A0 n0 c0) := HA4.out.cell 0; have q1 : w4.cell? ⟨W.heap.size, 1, none⟩ = some (.slice A1 n1 c1) := HA4.out.cell 1; have q2 : w4.cell? ⟨W.heap.size, 2, none⟩ = some (.slice A2 n2 c2) := HA4.out.cell 2; clear hb) | (go_at_call 87; refine (types_any A0 A1 A2 n0 c0 n1 c1 n2 c2 _).mono ?_; rintro e w5 ⟨rfl, hb⟩; have HB5 := Lib.hid (HB4.out.trans (hb.mono HB4.out.size)); have HA5 := Lib.hid (HA4.out.below hb HA4.out.lt); clear hb q0 q1 q2) | (go_at_call 88; have HQ := withinRt_any A2 n2 c2 8 x2 w5 (HX2.out.go HB5.out) (by decide) (HT.out _ HB5.out); refine Calls.mono HQ ?_; clear HQ; rintro e w6 ⟨rfl, hb⟩; rw [HZ2.out]; have HB6 := Lib.hid (HB5.out.trans (hb.mono HB5.out.size)); have HA6 := Lib.hid (HA5.out.below hb HA5.out.lt); have q0 : w6.cell? ⟨W.heap.size, 0, none⟩ = some (.slice A0 n0 c0) := HA6.out.cell 0; have q1 : w6.cell? ⟨W.heap.size, 1, none⟩ = some (.slice A1 n1 c1) := HA6.out.cell 1; have q2 : w6.cell? ⟨W.heap.size, 2, none⟩ = some (.slice A2 n2 c2) := HA6.out.cell 2; clear hb))
    go_ret
    exact ⟨rfl, HB6.out⟩
end Go.Proofs.YtfcpdjfckeoniaaGreatDoor

namespace Go.Proofs.YtfcpdjfckeoniaaGreatDoor
open Go Go.RowKit

set_option maxHeartbeats 2000000 in
set_option maxRecDepth 100000 in
theorem l18Type_any (x : Rt) (l : RtLay) (W : World) (hv : RtV W W.heap.size x l) :
    Calls Tryz.prog 77 #[x.ag l] W fun e w' => e = .returned (.bool (rtOk x)) ∧ Below W.heap.size W w' := by
  obtain ⟨x0, x1⟩ := x
  obtain ⟨A1, n1, c1, h1⟩ := l
  obtain ⟨hx, hm0⟩ := hv
  dsimp only at hx hm0
  show Calls Tryz.prog 77 #[.agg #[.string x0, .slice A1 n1 c1]] W _
  have HC := Lib.hid (one_newS W 121 #[.string x0, .slice A1 n1 c1])
  have HM0 := Lib.hid hm0
  have HX := Lib.hid hx
  have hnn1 := hx.2.1
  unfold maxLen at hnn1
  have hnw : IntKind.i64.wrap (n1 : Int) = n1 := by rw [IntKind.wrap_i64]; omega
  unfold rtOk
  dsimp only
  obtain ⟨z0, hz0⟩ : ∃ z, isNameB x0 = z := ⟨_, rfl⟩
  obtain ⟨z1, hz1⟩ : ∃ z, decide (1 ≤ x1.length ∧ x1.length ≤ 6) = z := ⟨_, rfl⟩
  obtain ⟨z2, hz2⟩ : ∃ z, tt (OkNames x1) = z := ⟨_, rfl⟩
  have HZ1 : Hid (decide ((1 : Int) ≤ (n1 : Int) ∧ (n1 : Int) ≤ 6) = z1) := by
    show _ = _
    rw [← hz1, hx.1]
    exact decide_eq_decide.2 ⟨fun h => ⟨by omega, by omega⟩, fun h => ⟨by omega, by omega⟩⟩
  rw [hz0, hz1, hz2]
  have HZ0 := Lib.hid hz0
  have HZ2 := Lib.hid hz2
  clear hz0 hz1 hz2 hx hm0
  cases z0
  · go_enter Tryz.func77, Tryz.ntmps77
    go_wp2_with (go_at_call 51; obtain ⟨g0, g1, g2⟩ := HC.out _ rfl; refine (spec_IsName_any x0 _ HM0.out).mono ?_; rintro e w1 ⟨rfl, rfl⟩; rw [HZ0.out]; clear g0 g1 g2)
    go_ret
    exact ⟨rfl, below_alloc _ _⟩
  cases z1
  · go_enter Tryz.func77, Tryz.ntmps77
    go_wp2_with (first | (go_at_call 51; obtain ⟨g0, g1, g2⟩ := HC.out _ rfl; refine (spec_IsName_any x0 _ HM0.out).mono ?_; rintro e w1 ⟨rfl, rfl⟩; rw [HZ0.out]; clear g0 g1 g2) | (go_at_call 50; refine (l00In_any n1 1 6 _).mono ?_; rintro e w2 ⟨rfl, rfl⟩; rw [HZ1.out]))
    go_ret
    exact ⟨rfl, below_alloc _ _⟩
  cases z2
  all_goals
    go_enter Tryz.func77, Tryz.ntmps77
    go_wp2_with (first | (go_at_call 51; obtain ⟨g0, g1, g2⟩ := HC.out _ rfl; refine (spec_IsName_any x0 _ HM0.out).mono ?_; rintro e w1 ⟨rfl, rfl⟩; rw [HZ0.out]; clear g0 g1 g2) | (go_at_call 50; refine (l00In_any n1 1 6 _).mono ?_; rintro e w2 ⟨rfl, rfl⟩; rw [HZ1.out]) | (go_at_call 116; refine (l18Names_any A1 n1 c1 x1 _ (HX.out.alloc _)).mono ?_; rintro e w3 ⟨rfl, hb⟩; rw [HZ2.out]; have HB3 : Hid (Below W.heap.size W w3) := (below_alloc _ _).trans (hb.mono (by simp)); clear hb))
    go_ret
    exact ⟨rfl, HB3.out⟩

theorem SXY (xs ys : List St) (h : ∀ (j : Nat) (x : St), xs[j]? = some x → ByteArray.size x ≤ maxLen) (h' : ∀ (j : Nat) (x : St), ys[j]? = some x → ByteArray.size x ≤ maxLen) : ∀ (j : Nat) (x : St), (xs ++ ys)[j]? = some x → ByteArray.size x ≤ maxLen := by
  intro j x hx
  rcases Nat.lt_or_ge j xs.length with q | q
  · rw [List.getElem?_append_left q] at hx; exact h j x hx
  · rw [List.getElem?_append_right q] at hx; exact h' _ x hx
theorem ownNew (W : World) : (W.alloc (.cells #[] 9)).ownsRow W.heap.size 9 1 (.slice (some ⟨W.heap.size, 0, none⟩) 0 0) 0 [] := World.ownsRow_lit W #[] 0 (Nat.le_refl _) (Nat.zero_le _) rfl

set_option maxHeartbeats 4000000 in
set_option maxRecDepth 100000 in
theorem l18Function_any (x : Fn) (l : FnLay) (W : World) (hv : FnV W W.heap.size x l) :
    Calls Tryz.prog 76 #[x.ag l] W fun e w' => e = .returned (.bool (fnOk x)) ∧ Below W.heap.size W w' := by
  obtain ⟨i0, hi0, hz0', hz1', hz2'⟩ := stInfo
  obtain ⟨x0, x1, x2, x3⟩ := x
  obtain ⟨A1, n1, c1, h1, A2, n2, c2, h2⟩ := l
  obtain ⟨hx1, hx2, hm0, hm3⟩ := hv
  dsimp only at hx1 hx2 hm0 hm3
  show Calls Tryz.prog 76 #[.agg #[.string x0, .slice A1 n1 c1, .slice A2 n2 c2, .string x3]] W _
  have HC := Lib.hid (one_newS W 118 #[.string x0, .slice A1 n1 c1, .slice A2 n2 c2, .string x3])
  have HM0 := Lib.hid hm0
  have HM3 := Lib.hid hm3
  have HX1 := Lib.hid hx1
  have HX2 := Lib.hid hx2
  have HL1 := Lib.hid hx1.1
  have HL2 := Lib.hid hx2.1
  have S1 := Lib.hid (stI_sizes hx1)
  have S2 := Lib.hid (stI_sizes hx2)
  have hnn1 := hx1.2.1
  have hnn2 := hx2.2.1
  unfold maxLen at hnn1 hnn2
  unfold fnOk
  dsimp only
  obtain ⟨z0, hz0⟩ : ∃ z, isNameB x0 = z := ⟨_, rfl⟩
  obtain ⟨z3, hz3⟩ : ∃ z, isNameB x3 = z := ⟨_, rfl⟩
  obtain ⟨z1, hz1⟩ : ∃ z, decide (x1.length ≤ 6) = z := ⟨_, rfl⟩
  obtain ⟨z2, hz2⟩ : ∃ z, decide (x2.length ≤ 6) = z := ⟨_, rfl⟩
  obtain ⟨z4, hz4⟩ : ∃ z, tt (OkNames (x1 ++ x2)) = z := ⟨_, rfl⟩
  have d1 : decide ((6 : Int) < (n1 : Int)) = !z1 := by
    rw [← hz1, hx1.1, ← decide_not]
    exact decide_eq_decide.2 ⟨fun h => by omega, fun h => by omega⟩
  have d2 : decide ((6 : Int) < (n2 : Int)) = !z2 := by
    rw [← hz2, hx2.1, ← decide_not]
    exact decide_eq_decide.2 ⟨fun h => by omega, fun h => by omega⟩
  rw [hz0, hz3, hz1, hz2, hz4]
  have HZ0 := Lib.hid hz0
  have HZ3 := Lib.hid hz3
  have HZ4 := Lib.hid hz4
  have tk1 : True := trivial
  have tk2 : True := trivial
  clear hz0 hz3 hz1 hz2 hz4 hx1 hx2 hm0 hm3
  cases z0
  · go_enter Tryz.func76, Tryz.ntmps76
    go_wp2_with (go_at_call 51; have tk := tk1; refine (spec_IsName_any x0 _ HM0.out).mono ?_; rintro e w1 ⟨rfl, rfl⟩; rw [HZ0.out]; clear tk tk1)
    go_ret
    exact ⟨rfl, below_alloc _ _⟩
  cases z3
  · go_enter Tryz.func76, Tryz.ntmps76
    go_wp2_with (first | (go_at_call 51; have tk := tk1; refine (spec_IsName_any x0 _ HM0.out).mono ?_; rintro e w1 ⟨rfl, rfl⟩; rw [HZ0.out]; clear tk tk1) | (go_at_call 51; have tk := tk2; refine (spec_IsName_any x3 _ HM3.out).mono ?_; rintro e w2 ⟨rfl, rfl⟩; rw [HZ3.out]; clear tk tk2))
    go_ret
    exact ⟨rfl, below_alloc _ _⟩
  cases z1
  · have e1 : (6 : Int) < (n1 : Int) := by simpa using d1
    go_enter Tryz.func76, Tryz.ntmps76
    go_wp2_with (first | (go_at_call 51; have tk := tk1; refine (spec_IsName_any x0 _ HM0.out).mono ?_; rintro e w1 ⟨rfl, rfl⟩; rw [HZ0.out]; clear tk tk1) | (go_at_call 51; have tk := tk2; refine (spec_IsName_any x3 _ HM3.out).mono ?_; rintro e w2 ⟨rfl, rfl⟩; rw [HZ3.out]; clear tk tk2))
    go_ret
    exact ⟨rfl, below_alloc _ _⟩
  have e1 : ¬ ((6 : Int) < (n1 : Int)) := by simpa using d1
  cases z2
  · have e2 : (6 : Int) < (n2 : Int) := by simpa using d2
    go_enter Tryz.func76, Tryz.ntmps76
    go_wp2_with (first | (go_at_call 51; have tk := tk1; refine (spec_IsName_any x0 _ HM0.out).mono ?_; rintro e w1 ⟨rfl, rfl⟩; rw [HZ0.out]; clear tk tk1) | (go_at_call 51; have tk := tk2; refine (spec_IsName_any x3 _ HM3.out).mono ?_; rintro e w2 ⟨rfl, rfl⟩; rw [HZ3.out]; clear tk tk2))
    go_ret
    exact ⟨rfl, below_alloc _ _⟩
  have e2 : ¬ ((6 : Int) < (n2 : Int)) := by simpa using d2
  have L1 : n1 ≤ 6 := by omega
  have L2 : n2 ≤ 6 := by omega
  go_enter Tryz.func76, Tryz.ntmps76
  go_wp2_with (first | (go_at_call 51; have tk := tk1; refine (spec_IsName_any x0 _ HM0.out).mono ?_; rintro e w1 ⟨rfl, rfl⟩; rw [HZ0.out]; clear tk tk1) | (go_at_call 51; have tk := tk2; refine (spec_IsName_any x3 _ HM3.out).mono ?_; rintro e w2 ⟨rfl, rfl⟩; rw [HZ3.out]; clear tk tk2))
  obtain ⟨w0, hw0⟩ : ∃ w0, W.alloc (.cells #[.string x0, .slice A1 n1 c1, .slice A2 n2 c2, .string x3] 118) = w0 := ⟨_, rfl⟩
  rw [hw0]
  obtain ⟨g0, g1, g2⟩ := HC.out w0 hw0.symm
  have H0 := Lib.hid (show RW 118 w0.drew W.heap.size #[.string x0, .slice A1 n1 c1, .slice A2 n2 c2, .string x3] ∧ Below W.heap.size W w0.drew ∧ w0.drew.heap.size = W.heap.size + 1 from ⟨g0.below (Below.refl _ _).drew g2, g1.drew, by subst hw0; simp⟩)
  have HS : Hid (w0.heap.size = W.heap.size + 1) := by subst hw0; show _ = _; simp
  clear hw0 g0 g1 g2
  have HN : Hid ((w0.drew.alloc (.cells #[] 9)).ownsRow w0.heap.size 9 1 (.slice (some ⟨w0.heap.size, 0, none⟩) 0 0) 0 []) := ownNew w0.drew
  have HBN : Hid (Below w0.heap.size w0.drew (w0.drew.alloc (.cells #[] 9))) := below_alloc w0.drew _
  have HRB : Hid (∀ w, Below w0.heap.size w0.drew w → w.cell? ⟨W.heap.size, 1, none⟩ = some (.slice A1 n1 c1) ∧ w.cell? ⟨W.heap.size, 2, none⟩ = some (.slice A2 n2 c2)) := by
    show ∀ _, _ → _
    intro w hb
    have hr := H0.out.1.below hb (by have := HS.out; omega)
    exact ⟨hr.cell 1, hr.cell 2⟩
  have HXB1 := Lib.hid (fun w (hb : Below w0.heap.size w0.drew w) => ((HX1.out.go H0.out.2.1).below hb).src)
  have HXB2 := Lib.hid (fun w (hb : Below w0.heap.size w0.drew w) => ((HX2.out.go H0.out.2.1).below hb).src)
  have TKA : True := trivial
  have TKB : True := trivial
  go_region_held3 (fun w => w.cell? ⟨W.heap.size, 1, none⟩ = some (.slice A1 n1 c1) ∧ w.cell? ⟨W.heap.size, 2, none⟩ = some (.slice A2 n2 c2))
    (first | exact HRB.out _ (Below.refl _ _) | exact HRB.out _ HBN.out | exact HRB.out _ HB7.out | exact HRB.out _ HB8.out | exact HRB.out _ HB9.out | go_keep)
    ((first
      | (go_at_call 116; have HQ := l18Names_any A9 (n1 + n2) c9 (x1 ++ x2) w8 HI9.out; refine Calls.mono HQ ?_; clear HQ; rintro e w9 ⟨rfl, hb⟩; rw [HZ4.out]; have HB9 : Hid (Below w0.heap.size w0.drew w9) := HB8.out.trans (hb.mono HB8.out.size); clear hb)
      | (have tk := TKA; refine step_append_src _ (by rfl) _ _ 22 (by rfl) w0.heap.size 9 i0 (.string ⟨#[]⟩) 1 16 Tryz.underlying22 hi0 hz0' hz1' hz2' (by rfl) (by decide) (.slice (some ⟨w0.heap.size, 0, none⟩) 0 0) 0 [] (by rfl) HN.out A1 n1 c1 (valsSt x1) (by rfl) (by rw [valsSt_len, HL1.out]; omega) (HXB1.out _ HBN.out) (valsSt_one _) (by unfold maxLen; omega) (by omega) HBN.out.size ?_; intro v2 w7 hown hgr; rw [Nat.zero_add, List.nil_append] at hown; have HO7 := Lib.hid hown; have HB7 : Hid (Below w0.heap.size w0.drew w7) := HBN.out.grown hgr HBN.out.size (fun b hb => own_ge HN.out b hb); clear hown hgr tk TKA)
      | (have tk := TKB; refine step_append_src _ (by rfl) _ _ 22 (by rfl) w0.heap.size 9 i0 (.string ⟨#[]⟩) 1 16 Tryz.underlying22 hi0 hz0' hz1' hz2' (by rfl) (by decide) v2 n1 (valsSt x1) (by rfl) HO7.out A2 n2 c2 (valsSt x2) (by rfl) (by rw [valsSt_len, HL2.out]; omega) (HXB2.out _ HB7.out) (valsSt_one _) (by unfold maxLen; omega) (by omega) HB7.out.size ?_; intro v3 w8 hown hgr; rw [valsSt_append] at hown; have HB8 : Hid (Below w0.heap.size w0.drew w8) := HB7.out.grown hgr HB7.out.size (fun b hb => own_ge HO7.out b hb); obtain ⟨A9, c9, rfl, _, hi9⟩ := own_StI hown (SXY x1 x2 S1.out S2.out); have HI9 := Lib.hid hi9; clear hown hgr hi9 tk TKB)))
  go_split_ands
  go_wp2_with fail
  go_ret
  exact ⟨rfl, H0.out.2.1.trans (HB9.out.mono (by have := HS.out; omega))⟩
end Go.Proofs.YtfcpdjfckeoniaaGreatDoor

namespace Go.Proofs.YtfcpdjfckeoniaaGreatDoor
open Go Go.RowKit Go.Sort

theorem c5 (s : ByteArray) (hs : s.size ≤ maxLen) (W : World) : Calls Tryz.prog 51 #[.string s] W fun e w' => e = .returned (.bool (isNameB s)) ∧ Below W.heap.size W w' :=
  (spec_IsName_any s W hs).mono fun e w' ⟨h1, h2⟩ => ⟨h1, by rw [← h2]; exact Below.refl _ _⟩
set_option maxHeartbeats 16000000 in
set_option maxRecDepth 100000 in
theorem spec_ValidScope_any (x : Sc) (l : ScLay) (W : World) (hv : ScV W W.heap.size x l) :
    Calls Tryz.prog 38 #[x.ag l] W fun e w' => e = .returned (.bool (tt (ScOk x))) ∧ Below W.heap.size W w' := by
  obtain ⟨P, hP⟩ : ∃ P, tt (ScOk x) = P := ⟨_, rfl⟩
  rw [hP]
  obtain ⟨x0, x1, x2⟩ := x
  obtain ⟨A0, n0, c0, h0, A1, n1, c1, h1, A2, n2, c2, h2⟩ := l
  obtain ⟨k0, k1, k2⟩ := hv
  dsimp only at k0 k1 k2
  show Calls Tryz.prog 38 #[.agg #[.slice A0 n0 c0, .slice A1 n1 c1, .slice A2 n2 c2]] W _
  have HX0 := Lib.hid k0
  have HX1 := Lib.hid k1
  have HX2 := Lib.hid k2
  have hn0 := k0.2.1
  have hn1 := k1.2.1
  have hn2 := k2.2.1
  unfold maxLen at hn0 hn1 hn2
  have HC := Lib.hid (one_newS W 60 #[.slice A0 n0 c0, .slice A1 n1 c1, .slice A2 n2 c2])
  have HP := Lib.hid hP
  have HNO : Hid ((¬ ListOk bdOk Bd.name_ 40 x0 ∨ ¬ ListOk fnOk Fn.name_ 12 x1 ∨ ¬ ListOk rtOk Rt.name_ 8 x2) → P = false) := by
    show _ → _
    intro h
    rw [← HP.out]
    refine tt_false fun ⟨e0, e1, e2⟩ => ?_
    rcases h with h | h | h
    · exact h e0
    · exact h e1
    · exact h e2
  have HYES : Hid (ListOk bdOk Bd.name_ 40 x0 → ListOk fnOk Fn.name_ 12 x1 → ListOk rtOk Rt.name_ 8 x2 → P = true) := by
    show _ → _ → _ → _
    intro e0 e1 e2
    rw [← HP.out]
    exact tt_true ⟨e0, e1, e2⟩
  clear hP HP k0 k1 k2 h0 h1 h2
  by_cases hl0 : 40 < n0
  · have HF : Hid (P = false) := HNO.out (.inl fun h => by have := h.1; have := HX0.out.1; omega)
    have d0 : (40 : Int) < (n0 : Int) := by omega
    go_enter Tryz.func38, Tryz.ntmps38
    go_wp2_with fail
    go_ret
    exact ⟨by rw [HF.out]; rfl, below_alloc _ _⟩
  have d0 : ¬ ((40 : Int) < (n0 : Int)) := by omega
  by_cases hl1 : 12 < n1
  · have HF : Hid (P = false) := HNO.out (.inr (.inl fun h => by have := h.1; have := HX1.out.1; omega))
    have d0 : (12 : Int) < (n1 : Int) := by omega
    go_enter Tryz.func38, Tryz.ntmps38
    go_wp2_with fail
    go_ret
    exact ⟨by rw [HF.out]; rfl, below_alloc _ _⟩
  have d1 : ¬ ((12 : Int) < (n1 : Int)) := by omega
  by_cases hl2 : 8 < n2
  · have HF : Hid (P = false) := HNO.out (.inr (.inr fun h => by have := h.1; have := HX2.out.1; omega))
    have d0 : (8 : Int) < (n2 : Int) := by omega
    go_enter Tryz.func38, Tryz.ntmps38
    go_wp2_with fail
    go_ret
    exact ⟨by rw [HF.out]; rfl, below_alloc _ _⟩
  have d2 : ¬ ((8 : Int) < (n2 : Int)) := by omega
  go_enter Tryz.func38, Tryz.ntmps38
  go_wp2_with fail
  obtain ⟨wb, hwb⟩ : ∃ wb, W.alloc (.cells #[.slice A0 n0 c0, .slice A1 n1 c1, .slice A2 n2 c2] 60) = wb := ⟨_, rfl⟩
  rw [hwb]
  obtain ⟨g0, g1, g2⟩ := HC.out wb hwb.symm
  have HB := Lib.hid (show RW 60 wb W.heap.size #[.slice A0 n0 c0, .slice A1 n1 c1, .slice A2 n2 c2] ∧ Below W.heap.size W wb from ⟨g0, g1⟩)
  have s0 := g0.cell 0
  have s1 := g0.cell 1
  have s2 := g0.cell 2
  clear hwb g0 g1 g2 HC
  go_loopw [3] (fun i wr => ∃ k : Nat, k ≤ n0 ∧ i = .int .i64 k ∧ (wr.cell? ⟨W.heap.size, 0, none⟩ = some (.slice A0 n0 c0) ∧ wr.cell? ⟨W.heap.size, 1, none⟩ = some (.slice A1 n1 c1) ∧ wr.cell? ⟨W.heap.size, 2, none⟩ = some (.slice A2 n2 c2)) ∧ Hid (RW 60 wr W.heap.size #[.slice A0 n0 c0, .slice A1 n1 c1, .slice A2 n2 c2] ∧ Below W.heap.size W wr) ∧ Hid (UpOk bdOk Bd.name_ x0 k)) (fun i _ => n0 - (intOf i).toNat)
  case atStart => exact ⟨0, Nat.zero_le _, rfl, ⟨s0, s1, s2⟩, HB, Lib.hid UpOk.zero⟩
  case round =>
    clear s0 s1 s2 HB
    obtain ⟨k, hk, rfl, ⟨s0, s1, s2⟩, HB, HV⟩ := hrel
    by_cases hlt : k < n0
    · have b0 : (0 : Int) ≤ (k : Int) := by omega
      have b1 : (k : Int) < (n0 : Int) := by omega
      obtain ⟨b, off, x, rfl, hg, hx, ⟨q0, q1, q2, q3, q4⟩, hm0, hm3⟩ := (HX0.out.go HB.out.2).at_ hlt
      have HX := Lib.hid hx
      have HGB : Hid (b < wr.heap.size) := hg
      have HM0 := Lib.hid hm0
      have HM3 := Lib.hid hm3
      have HCX := Lib.hid (one_newS wr 115 #[.string x.name_, .int .i64 x.kind_, .int .i64 x.num_, .string x.text_, .int .i64 x.ref_])
      obtain ⟨z0, hz0⟩ : ∃ z, isNameB x.name_ = z := ⟨_, rfl⟩
      obtain ⟨z1, hz1⟩ : ∃ z, validV x.kind_ x.num_ x.text_ x.ref_ = z := ⟨_, rfl⟩
      obtain ⟨z2, hz2⟩ : ∃ z, isNullV x.kind_ x.num_ x.text_ x.ref_ = z := ⟨_, rfl⟩
      have HZ0 := Lib.hid hz0
      have HZ1 := Lib.hid hz1
      have HZ2 := Lib.hid hz2
      have HZ : Hid (bdOk x = (z0 && (z1 && !z2))) := by show bdOk x = _; unfold bdOk; rw [hz0, hz1, hz2]
      clear hx hg hm0 hm3 hz0 hz1 hz2
      cases z0
      case false =>
        have HF : Hid (P = false) := HNO.out (.inl (not_ok HX.out (by rw [HZ.out]; simp)))
        go_wp2_with fail
        obtain ⟨w0, hw0⟩ : ∃ w0, wr.alloc (.cells #[.string x.name_, .int .i64 x.kind_, .int .i64 x.num_, .string x.text_, .int .i64 x.ref_] 115) = w0 := ⟨_, rfl⟩
        rw [hw0]
        obtain ⟨g0, g1, g2⟩ := HCX.out w0 hw0.symm
        have HB0 : Hid (RW 60 w0 W.heap.size #[.slice (some ⟨b, off, none⟩) n0 c0, .slice A1 n1 c1, .slice A2 n2 c2] ∧ Below W.heap.size W w0) := ⟨HB.out.1.below g1 HB.out.1.lt, HB.out.2.trans (g1.mono HB.out.2.size)⟩
        have x0 := cell_regrown (g0.cell 0)
        have x1 := cell_regrown (g0.cell 1)
        have x2 := cell_regrown (g0.cell 2)
        have x3 := cell_regrown (g0.cell 3)
        have x4 := cell_regrown (g0.cell 4)
        have xs0 := cell_regrown (HB0.out.1.cell 0)
        have cA : ∀ d os', Calls Tryz.prog 51 #[.string x.name_] (grow (redrawn w0 d) os') (fun e w'' => e = .returned (.bool false) ∧ ∃ q : Regrown, w'' = grow (redrawn w0 q.d) q.os) := fun d os' => by have h := Calls.regrown_of (w := w0) (d := d) (os := os') (c5 x.name_ HM0.out _); rw [HZ0.out] at h; exact h
        clear hw0 g0 g1 g2 q0 q1 q2 q3 q4 s0 s1 s2
        refine wp_region_quiet_below (by kernel_rfl) (by kernel_rfl) ?_
        repeat (first | go_big_quiet_step (with_reducible exact cA _ _) | quiet_step (with_reducible exact cA _ _))
        refine wpQuiet_nil ?_
        intro w4 hw'
        obtain ⟨⟨dq, osq⟩, hw''⟩ := hw'
        have HB4 : Hid (RW 60 w4 W.heap.size #[.slice (some ⟨b, off, none⟩) n0 c0, .slice A1 n1 c1, .slice A2 n2 c2] ∧ Below W.heap.size W w4) := by show _ ∧ _; rw [hw'']; exact ⟨HB0.out.1.below (below_regrown w0 dq osq) HB0.out.1.lt, HB0.out.2.trans ((below_regrown w0 dq osq).mono HB0.out.2.size)⟩
        clear hw'' x0 x1 x2 x3 x4 xs0 cA
        go_wp2_with fail
        go_ret
        exact ⟨by rw [HF.out]; rfl, HB4.out.2⟩
      cases z1
      case false =>
        have HF : Hid (P = false) := HNO.out (.inl (not_ok HX.out (by rw [HZ.out]; simp)))
        go_wp2_with fail
        obtain ⟨w0, hw0⟩ : ∃ w0, wr.alloc (.cells #[.string x.name_, .int .i64 x.kind_, .int .i64 x.num_, .string x.text_, .int .i64 x.ref_] 115) = w0 := ⟨_, rfl⟩
        rw [hw0]
        obtain ⟨g0, g1, g2⟩ := HCX.out w0 hw0.symm
        have HB0 : Hid (RW 60 w0 W.heap.size #[.slice (some ⟨b, off, none⟩) n0 c0, .slice A1 n1 c1, .slice A2 n2 c2] ∧ Below W.heap.size W w0) := ⟨HB.out.1.below g1 HB.out.1.lt, HB.out.2.trans (g1.mono HB.out.2.size)⟩
        have x0 := cell_regrown (g0.cell 0)
        have x1 := cell_regrown (g0.cell 1)
        have x2 := cell_regrown (g0.cell 2)
        have x3 := cell_regrown (g0.cell 3)
        have x4 := cell_regrown (g0.cell 4)
        have xs0 := cell_regrown (HB0.out.1.cell 0)
        have cA : ∀ d os', Calls Tryz.prog 51 #[.string x.name_] (grow (redrawn w0 d) os') (fun e w'' => e = .returned (.bool true) ∧ ∃ q : Regrown, w'' = grow (redrawn w0 q.d) q.os) := fun d os' => by have h := Calls.regrown_of (w := w0) (d := d) (os := os') (c5 x.name_ HM0.out _); rw [HZ0.out] at h; exact h
        have cB : ∀ d os', Calls Tryz.prog 52 #[.agg #[.int .i64 x.kind_, .int .i64 x.num_, .string x.text_, .int .i64 x.ref_]] (grow (redrawn w0 d) os') (fun e w'' => e = .returned (.bool false) ∧ ∃ q : Regrown, w'' = grow (redrawn w0 q.d) q.os) := fun d os' => by have h := Calls.regrown_of (w := w0) (d := d) (os := os') (spec_ValidValue_any x.kind_ x.num_ x.text_ x.ref_ _ HM3.out); rw [HZ1.out] at h; exact h
        clear hw0 g0 g1 g2 q0 q1 q2 q3 q4 s0 s1 s2
        refine wp_region_quiet_below (by kernel_rfl) (by kernel_rfl) ?_
        repeat (first | go_big_quiet_step (first | with_reducible exact cA _ _ | with_reducible exact cB _ _) | quiet_step (first | with_reducible exact cA _ _ | with_reducible exact cB _ _))
        refine wpQuiet_nil ?_
        intro w4 hw'
        obtain ⟨⟨dq, osq⟩, hw''⟩ := hw'
        have HB4 : Hid (RW 60 w4 W.heap.size #[.slice (some ⟨b, off, none⟩) n0 c0, .slice A1 n1 c1, .slice A2 n2 c2] ∧ Below W.heap.size W w4) := by show _ ∧ _; rw [hw'']; exact ⟨HB0.out.1.below (below_regrown w0 dq osq) HB0.out.1.lt, HB0.out.2.trans ((below_regrown w0 dq osq).mono HB0.out.2.size)⟩
        clear hw'' x0 x1 x2 x3 x4 xs0 cA cB
        go_wp2_with fail
        go_ret
        exact ⟨by rw [HF.out]; rfl, HB4.out.2⟩
      cases z2
      case true =>
        have HF : Hid (P = false) := HNO.out (.inl (not_ok HX.out (by rw [HZ.out]; simp)))
        go_wp2_with fail
        obtain ⟨w0, hw0⟩ : ∃ w0, wr.alloc (.cells #[.string x.name_, .int .i64 x.kind_, .int .i64 x.num_, .string x.text_, .int .i64 x.ref_] 115) = w0 := ⟨_, rfl⟩
        rw [hw0]
        obtain ⟨g0, g1, g2⟩ := HCX.out w0 hw0.symm
        have HB0 : Hid (RW 60 w0 W.heap.size #[.slice (some ⟨b, off, none⟩) n0 c0, .slice A1 n1 c1, .slice A2 n2 c2] ∧ Below W.heap.size W w0) := ⟨HB.out.1.below g1 HB.out.1.lt, HB.out.2.trans (g1.mono HB.out.2.size)⟩
        have x0 := cell_regrown (g0.cell 0)
        have x1 := cell_regrown (g0.cell 1)
        have x2 := cell_regrown (g0.cell 2)
        have x3 := cell_regrown (g0.cell 3)
        have x4 := cell_regrown (g0.cell 4)
        have xs0 := cell_regrown (HB0.out.1.cell 0)
        have cA : ∀ d os', Calls Tryz.prog 51 #[.string x.name_] (grow (redrawn w0 d) os') (fun e w'' => e = .returned (.bool true) ∧ ∃ q : Regrown, w'' = grow (redrawn w0 q.d) q.os) := fun d os' => by have h := Calls.regrown_of (w := w0) (d := d) (os := os') (c5 x.name_ HM0.out _); rw [HZ0.out] at h; exact h
        have cB : ∀ d os', Calls Tryz.prog 52 #[.agg #[.int .i64 x.kind_, .int .i64 x.num_, .string x.text_, .int .i64 x.ref_]] (grow (redrawn w0 d) os') (fun e w'' => e = .returned (.bool true) ∧ ∃ q : Regrown, w'' = grow (redrawn w0 q.d) q.os) := fun d os' => by have h := Calls.regrown_of (w := w0) (d := d) (os := os') (spec_ValidValue_any x.kind_ x.num_ x.text_ x.ref_ _ HM3.out); rw [HZ1.out] at h; exact h
        have cC : ∀ d os', Calls Tryz.prog 75 #[.agg #[.int .i64 x.kind_, .int .i64 x.num_, .string x.text_, .int .i64 x.ref_]] (grow (redrawn w0 d) os') (fun e w'' => e = .returned (.bool true) ∧ ∃ q : Regrown, w'' = grow (redrawn w0 q.d) q.os) := fun d os' => by have h := Calls.regrown_of (w := w0) (d := d) (os := os') (spec_IsNull_any x.kind_ x.num_ x.text_ x.ref_ _); rw [HZ2.out] at h; exact h
        clear hw0 g0 g1 g2 q0 q1 q2 q3 q4 s0 s1 s2
        refine wp_region_quiet_below (by kernel_rfl) (by kernel_rfl) ?_
        repeat (first | go_big_quiet_step (first | with_reducible exact cA _ _ | with_reducible exact cB _ _ | with_reducible exact cC _ _) | quiet_step (first | with_reducible exact cA _ _ | with_reducible exact cB _ _ | with_reducible exact cC _ _))
        refine wpQuiet_nil ?_
        intro w4 hw'
        obtain ⟨⟨dq, osq⟩, hw''⟩ := hw'
        have HB4 : Hid (RW 60 w4 W.heap.size #[.slice (some ⟨b, off, none⟩) n0 c0, .slice A1 n1 c1, .slice A2 n2 c2] ∧ Below W.heap.size W w4) := by show _ ∧ _; rw [hw'']; exact ⟨HB0.out.1.below (below_regrown w0 dq osq) HB0.out.1.lt, HB0.out.2.trans ((below_regrown w0 dq osq).mono HB0.out.2.size)⟩
        clear hw'' x0 x1 x2 x3 x4 xs0 cA cB cC
        go_wp2_with fail
        go_ret
        exact ⟨by rw [HF.out]; rfl, HB4.out.2⟩
      have HOK : Hid (bdOk x = true) := by show _ = _; rw [HZ.out]; rfl
      by_cases hkp : k = 0
      · subst hkp
        have HV2 := Lib.hid (UpOk.first (nm := Bd.name_) HX.out HOK.out)
        simp only [Nat.zero_mul, Nat.add_zero] at q0 q1 q2 q3 q4
        go_wp2_with fail
        obtain ⟨w0, hw0⟩ : ∃ w0, wr.alloc (.cells #[.string x.name_, .int .i64 x.kind_, .int .i64 x.num_, .string x.text_, .int .i64 x.ref_] 115) = w0 := ⟨_, rfl⟩
        rw [hw0]
        obtain ⟨g0, g1, g2⟩ := HCX.out w0 hw0.symm
        have HB0 : Hid (RW 60 w0 W.heap.size #[.slice (some ⟨b, off, none⟩) n0 c0, .slice A1 n1 c1, .slice A2 n2 c2] ∧ Below W.heap.size W w0) := ⟨HB.out.1.below g1 HB.out.1.lt, HB.out.2.trans (g1.mono HB.out.2.size)⟩
        have x0 := cell_regrown (g0.cell 0)
        have x1 := cell_regrown (g0.cell 1)
        have x2 := cell_regrown (g0.cell 2)
        have x3 := cell_regrown (g0.cell 3)
        have x4 := cell_regrown (g0.cell 4)
        have xs0 := cell_regrown (HB0.out.1.cell 0)
        have cA : ∀ d os', Calls Tryz.prog 51 #[.string x.name_] (grow (redrawn w0 d) os') (fun e w'' => e = .returned (.bool true) ∧ ∃ q : Regrown, w'' = grow (redrawn w0 q.d) q.os) := fun d os' => by have h := Calls.regrown_of (w := w0) (d := d) (os := os') (c5 x.name_ HM0.out _); rw [HZ0.out] at h; exact h
        have cB : ∀ d os', Calls Tryz.prog 52 #[.agg #[.int .i64 x.kind_, .int .i64 x.num_, .string x.text_, .int .i64 x.ref_]] (grow (redrawn w0 d) os') (fun e w'' => e = .returned (.bool true) ∧ ∃ q : Regrown, w'' = grow (redrawn w0 q.d) q.os) := fun d os' => by have h := Calls.regrown_of (w := w0) (d := d) (os := os') (spec_ValidValue_any x.kind_ x.num_ x.text_ x.ref_ _ HM3.out); rw [HZ1.out] at h; exact h
        have cC : ∀ d os', Calls Tryz.prog 75 #[.agg #[.int .i64 x.kind_, .int .i64 x.num_, .string x.text_, .int .i64 x.ref_]] (grow (redrawn w0 d) os') (fun e w'' => e = .returned (.bool false) ∧ ∃ q : Regrown, w'' = grow (redrawn w0 q.d) q.os) := fun d os' => by have h := Calls.regrown_of (w := w0) (d := d) (os := os') (spec_IsNull_any x.kind_ x.num_ x.text_ x.ref_ _); rw [HZ2.out] at h; exact h
        clear hw0 g0 g1 g2 q0 q1 q2 q3 q4 s0 s1 s2
        refine wp_region_quiet_below (by kernel_rfl) (by kernel_rfl) ?_
        repeat (first | go_big_quiet_step (first | with_reducible exact cA _ _ | with_reducible exact cB _ _ | with_reducible exact cC _ _) | quiet_step (first | with_reducible exact cA _ _ | with_reducible exact cB _ _ | with_reducible exact cC _ _))
        refine wpQuiet_nil ?_
        intro w4 hw'
        obtain ⟨⟨dq, osq⟩, hw''⟩ := hw'
        have HB4 : Hid (RW 60 w4 W.heap.size #[.slice (some ⟨b, off, none⟩) n0 c0, .slice A1 n1 c1, .slice A2 n2 c2] ∧ Below W.heap.size W w4) := by show _ ∧ _; rw [hw'']; exact ⟨HB0.out.1.below (below_regrown w0 dq osq) HB0.out.1.lt, HB0.out.2.trans ((below_regrown w0 dq osq).mono HB0.out.2.size)⟩
        clear hw'' x0 x1 x2 x3 x4 xs0 cA cB cC
        go_wp2_with fail
        go_roundw
        case rel => exact ⟨0 + 1, by omega, by go_num, ⟨HB4.out.1.cell 0, HB4.out.1.cell 1, HB4.out.1.cell 2⟩, HB4, HV2⟩
        case measure => simp [intOf]; omega
      obtain ⟨j, hj⟩ : ∃ j, k = j + 1 := ⟨k - 1, by omega⟩
      have hj1 : (k : Int) - 1 = (j : Int) := by omega
      have hkp2 : (0 : Int) < (k : Int) := by omega
      have hkp3 : decide ((0 : Int) < (k : Int)) = true := by simp; omega
      have hkp4 : decide (0 < k) = true := by simp; omega
      have hkp5 : 0 < k := by omega
      have e0 : (0 : Int) ≤ (j : Int) := by omega
      have e1 : (j : Int) < (n0 : Int) := by omega
      obtain ⟨b', off', y, hA, hg', hy, ⟨r0, r1, r2, r3, r4⟩, _⟩ := (HX0.out.go HB.out.2).at_ (show j < n0 by omega)
      simp only [Option.some.injEq, Addr.mk.injEq, and_true] at hA
      obtain ⟨rfl, rfl⟩ := hA
      have HY : Hid (x0[k - 1]? = some y) := by show _ = _; rw [show k - 1 = j by omega]; exact hy
      clear hj hkp hg' hy
      obtain ⟨R, hRR⟩ : ∃ z, Op.bytesLess y.name_.toList x.name_.toList = z := ⟨_, rfl⟩
      have HRR := Lib.hid hRR
      cases R
      · have HF : Hid (P = false) := HNO.out (.inl (not_up hkp5 HX.out HY.out HRR.out))
        go_wp2_with fail
        obtain ⟨w0, hw0⟩ : ∃ w0, wr.alloc (.cells #[.string x.name_, .int .i64 x.kind_, .int .i64 x.num_, .string x.text_, .int .i64 x.ref_] 115) = w0 := ⟨_, rfl⟩
        rw [hw0]
        obtain ⟨g0, g1, g2⟩ := HCX.out w0 hw0.symm
        have HB0 : Hid (RW 60 w0 W.heap.size #[.slice (some ⟨b, off, none⟩) n0 c0, .slice A1 n1 c1, .slice A2 n2 c2] ∧ Below W.heap.size W w0) := ⟨HB.out.1.below g1 HB.out.1.lt, HB.out.2.trans (g1.mono HB.out.2.size)⟩
        have x0 := cell_regrown (g0.cell 0)
        have x1 := cell_regrown (g0.cell 1)
        have x2 := cell_regrown (g0.cell 2)
        have x3 := cell_regrown (g0.cell 3)
        have x4 := cell_regrown (g0.cell 4)
        have xs0 := cell_regrown (HB0.out.1.cell 0)
        have y0 := cell_regrown ((g1.cell (p := ⟨b, off + j * 5, none⟩) HGB.out).trans r0)
        have y1 := cell_regrown ((g1.cell (p := ⟨b, off + j * 5 + 1, none⟩) HGB.out).trans r1)
        have y2 := cell_regrown ((g1.cell (p := ⟨b, off + j * 5 + 2, none⟩) HGB.out).trans r2)
        have y3 := cell_regrown ((g1.cell (p := ⟨b, off + j * 5 + 3, none⟩) HGB.out).trans r3)
        have y4 := cell_regrown ((g1.cell (p := ⟨b, off + j * 5 + 4, none⟩) HGB.out).trans r4)
        have cA : ∀ d os', Calls Tryz.prog 51 #[.string x.name_] (grow (redrawn w0 d) os') (fun e w'' => e = .returned (.bool true) ∧ ∃ q : Regrown, w'' = grow (redrawn w0 q.d) q.os) := fun d os' => by have h := Calls.regrown_of (w := w0) (d := d) (os := os') (c5 x.name_ HM0.out _); rw [HZ0.out] at h; exact h
        have cB : ∀ d os', Calls Tryz.prog 52 #[.agg #[.int .i64 x.kind_, .int .i64 x.num_, .string x.text_, .int .i64 x.ref_]] (grow (redrawn w0 d) os') (fun e w'' => e = .returned (.bool true) ∧ ∃ q : Regrown, w'' = grow (redrawn w0 q.d) q.os) := fun d os' => by have h := Calls.regrown_of (w := w0) (d := d) (os := os') (spec_ValidValue_any x.kind_ x.num_ x.text_ x.ref_ _ HM3.out); rw [HZ1.out] at h; exact h
        have cC : ∀ d os', Calls Tryz.prog 75 #[.agg #[.int .i64 x.kind_, .int .i64 x.num_, .string x.text_, .int .i64 x.ref_]] (grow (redrawn w0 d) os') (fun e w'' => e = .returned (.bool false) ∧ ∃ q : Regrown, w'' = grow (redrawn w0 q.d) q.os) := fun d os' => by have h := Calls.regrown_of (w := w0) (d := d) (os := os') (spec_IsNull_any x.kind_ x.num_ x.text_ x.ref_ _); rw [HZ2.out] at h; exact h
        clear hw0 g0 g1 g2 q0 q1 q2 q3 q4 r0 r1 r2 r3 r4 s0 s1 s2
        refine wp_region_quiet_below (by kernel_rfl) (by kernel_rfl) ?_
        repeat (first | go_big_quiet_step (first | with_reducible exact cA _ _ | with_reducible exact cB _ _ | with_reducible exact cC _ _) | quiet_step (first | with_reducible exact cA _ _ | with_reducible exact cB _ _ | with_reducible exact cC _ _))
        refine wpQuiet_nil ?_
        intro w4 hw'
        obtain ⟨⟨dq, osq⟩, hw''⟩ := hw'
        have HB4 : Hid (RW 60 w4 W.heap.size #[.slice (some ⟨b, off, none⟩) n0 c0, .slice A1 n1 c1, .slice A2 n2 c2] ∧ Below W.heap.size W w4) := by show _ ∧ _; rw [hw'']; exact ⟨HB0.out.1.below (below_regrown w0 dq osq) HB0.out.1.lt, HB0.out.2.trans ((below_regrown w0 dq osq).mono HB0.out.2.size)⟩
        clear hw'' x0 x1 x2 x3 x4 xs0 y0 y1 y2 y3 y4 cA cB cC
        go_wp2_with fail
        go_ret
        exact ⟨by rw [HF.out]; rfl, HB4.out.2⟩
      · have HV2 := Lib.hid (UpOk.next HV.out HX.out HOK.out HY.out HRR.out)
        go_wp2_with fail
        obtain ⟨w0, hw0⟩ : ∃ w0, wr.alloc (.cells #[.string x.name_, .int .i64 x.kind_, .int .i64 x.num_, .string x.text_, .int .i64 x.ref_] 115) = w0 := ⟨_, rfl⟩
        rw [hw0]
        obtain ⟨g0, g1, g2⟩ := HCX.out w0 hw0.symm
        have HB0 : Hid (RW 60 w0 W.heap.size #[.slice (some ⟨b, off, none⟩) n0 c0, .slice A1 n1 c1, .slice A2 n2 c2] ∧ Below W.heap.size W w0) := ⟨HB.out.1.below g1 HB.out.1.lt, HB.out.2.trans (g1.mono HB.out.2.size)⟩
        have x0 := cell_regrown (g0.cell 0)
        have x1 := cell_regrown (g0.cell 1)
        have x2 := cell_regrown (g0.cell 2)
        have x3 := cell_regrown (g0.cell 3)
        have x4 := cell_regrown (g0.cell 4)
        have xs0 := cell_regrown (HB0.out.1.cell 0)
        have y0 := cell_regrown ((g1.cell (p := ⟨b, off + j * 5, none⟩) HGB.out).trans r0)
        have y1 := cell_regrown ((g1.cell (p := ⟨b, off + j * 5 + 1, none⟩) HGB.out).trans r1)
        have y2 := cell_regrown ((g1.cell (p := ⟨b, off + j * 5 + 2, none⟩) HGB.out).trans r2)
        have y3 := cell_regrown ((g1.cell (p := ⟨b, off + j * 5 + 3, none⟩) HGB.out).trans r3)
        have y4 := cell_regrown ((g1.cell (p := ⟨b, off + j * 5 + 4, none⟩) HGB.out).trans r4)
        have cA : ∀ d os', Calls Tryz.prog 51 #[.string x.name_] (grow (redrawn w0 d) os') (fun e w'' => e = .returned (.bool true) ∧ ∃ q : Regrown, w'' = grow (redrawn w0 q.d) q.os) := fun d os' => by have h := Calls.regrown_of (w := w0) (d := d) (os := os') (c5 x.name_ HM0.out _); rw [HZ0.out] at h; exact h
        have cB : ∀ d os', Calls Tryz.prog 52 #[.agg #[.int .i64 x.kind_, .int .i64 x.num_, .string x.text_, .int .i64 x.ref_]] (grow (redrawn w0 d) os') (fun e w'' => e = .returned (.bool true) ∧ ∃ q : Regrown, w'' = grow (redrawn w0 q.d) q.os) := fun d os' => by have h := Calls.regrown_of (w := w0) (d := d) (os := os') (spec_ValidValue_any x.kind_ x.num_ x.text_ x.ref_ _ HM3.out); rw [HZ1.out] at h; exact h
        have cC : ∀ d os', Calls Tryz.prog 75 #[.agg #[.int .i64 x.kind_, .int .i64 x.num_, .string x.text_, .int .i64 x.ref_]] (grow (redrawn w0 d) os') (fun e w'' => e = .returned (.bool false) ∧ ∃ q : Regrown, w'' = grow (redrawn w0 q.d) q.os) := fun d os' => by have h := Calls.regrown_of (w := w0) (d := d) (os := os') (spec_IsNull_any x.kind_ x.num_ x.text_ x.ref_ _); rw [HZ2.out] at h; exact h
        clear hw0 g0 g1 g2 q0 q1 q2 q3 q4 r0 r1 r2 r3 r4 s0 s1 s2
        refine wp_region_quiet_below (by kernel_rfl) (by kernel_rfl) ?_
        repeat (first | go_big_quiet_step (first | with_reducible exact cA _ _ | with_reducible exact cB _ _ | with_reducible exact cC _ _) | quiet_step (first | with_reducible exact cA _ _ | with_reducible exact cB _ _ | with_reducible exact cC _ _))
        refine wpQuiet_nil ?_
        intro w4 hw'
        obtain ⟨⟨dq, osq⟩, hw''⟩ := hw'
        have HB4 : Hid (RW 60 w4 W.heap.size #[.slice (some ⟨b, off, none⟩) n0 c0, .slice A1 n1 c1, .slice A2 n2 c2] ∧ Below W.heap.size W w4) := by show _ ∧ _; rw [hw'']; exact ⟨HB0.out.1.below (below_regrown w0 dq osq) HB0.out.1.lt, HB0.out.2.trans ((below_regrown w0 dq osq).mono HB0.out.2.size)⟩
        clear hw'' x0 x1 x2 x3 x4 xs0 y0 y1 y2 y3 y4 cA cB cC
        go_wp2_with fail
        go_roundw
        case rel => exact ⟨k + 1, by omega, by go_num, ⟨HB4.out.1.cell 0, HB4.out.1.cell 1, HB4.out.1.cell 2⟩, HB4, HV2⟩
        case measure => simp [intOf]; omega
    · have hkn : k = n0 := by omega
      have HL0 : Hid (ListOk bdOk Bd.name_ 40 x0) := by
        refine ⟨by have := HX0.out.1; omega, ?_⟩
        rw [HX0.out.1, ← hkn]
        exact HV.out
      have hnk : ¬ (k : Int) < (n0 : Int) := by omega
      clear HV hkn
      go_wp2_with fail
      go_loopw [5] (fun i wr => ∃ k : Nat, k ≤ n1 ∧ i = .int .i64 k ∧ (wr.cell? ⟨W.heap.size, 0, none⟩ = some (.slice A0 n0 c0) ∧ wr.cell? ⟨W.heap.size, 1, none⟩ = some (.slice A1 n1 c1) ∧ wr.cell? ⟨W.heap.size, 2, none⟩ = some (.slice A2 n2 c2)) ∧ Hid (RW 60 wr W.heap.size #[.slice A0 n0 c0, .slice A1 n1 c1, .slice A2 n2 c2] ∧ Below W.heap.size W wr) ∧ Hid (UpOk fnOk Fn.name_ x1 k)) (fun i _ => n1 - (intOf i).toNat)
      case atStart => exact ⟨0, Nat.zero_le _, rfl, ⟨s0, s1, s2⟩, HB, Lib.hid UpOk.zero⟩
      case round =>
        clear s0 s1 s2 HB
        obtain ⟨k, hk, rfl, ⟨s0, s1, s2⟩, HB, HV⟩ := hrel
        by_cases hlt : k < n1
        · have b0 : (0 : Int) ≤ (k : Int) := by omega
          have b1 : (k : Int) < (n1 : Int) := by omega
          obtain ⟨b, off, x, l, rfl, hg, hx, ⟨q0, q1, q2, q3⟩, hv⟩ := (HX1.out.go HB.out.2).at_ hlt
          have HX := Lib.hid hx
          have HGB : Hid (b < wr.heap.size) := hg
          have HEL := Lib.hid (fun (w : World) (hb : Below wr.heap.size wr w) => l18Function_any x l w (hv.go hb))
          obtain ⟨z0, hz0⟩ : ∃ z, fnOk x = z := ⟨_, rfl⟩
          have HZ := Lib.hid hz0
          clear hx hg hv hz0
          cases z0
          case false =>
            have HF : Hid (P = false) := HNO.out (.inr (.inl (not_ok HX.out HZ.out)))
            go_wp2_with fail
            obtain ⟨w0, hw0⟩ : ∃ w0, wr = w0 := ⟨_, rfl⟩
            have g1 : Below wr.heap.size wr w0 := by rw [← hw0]; exact Below.refl _ _
            have HB0 : Hid (RW 60 w0 W.heap.size #[.slice A0 n0 c0, .slice (some ⟨b, off, none⟩) n1 c1, .slice A2 n2 c2] ∧ Below W.heap.size W w0) := ⟨HB.out.1.below g1 HB.out.1.lt, HB.out.2.trans (g1.mono HB.out.2.size)⟩
            have x0 := cell_regrown ((g1.cell (p := ⟨b, off + k * 4, none⟩) HGB.out).trans q0)
            have x1 := cell_regrown ((g1.cell (p := ⟨b, off + k * 4 + 1, none⟩) HGB.out).trans q1)
            have x2 := cell_regrown ((g1.cell (p := ⟨b, off + k * 4 + 2, none⟩) HGB.out).trans q2)
            have x3 := cell_regrown ((g1.cell (p := ⟨b, off + k * 4 + 3, none⟩) HGB.out).trans q3)
            rw [hw0]
            have xs1 := cell_regrown (HB0.out.1.cell 1)
            have cA : ∀ d os', Calls Tryz.prog 76 #[.agg #[.string x.name_, .slice l.A1 l.n1 l.c1, .slice l.A2 l.n2 l.c2, .string x.label_]] (grow (redrawn w0 d) os') (fun e w'' => e = .returned (.bool false) ∧ ∃ q : Regrown, w'' = grow (redrawn w0 q.d) q.os) := fun d os' => Calls.regrown_of (by have hb := g1.trans ((below_regrown w0 d os').mono g1.size); have h := HEL.out _ hb; rw [HZ.out] at h; exact h)
            clear hw0 g1 q0 q1 q2 q3 s0 s1 s2
            refine wp_region_quiet_below (by kernel_rfl) (by kernel_rfl) ?_
            repeat (first | go_big_quiet_step (with_reducible exact cA _ _) | quiet_step (with_reducible exact cA _ _))
            refine wpQuiet_nil ?_
            intro w4 hw'
            obtain ⟨⟨dq, osq⟩, hw''⟩ := hw'
            have HB4 : Hid (RW 60 w4 W.heap.size #[.slice A0 n0 c0, .slice (some ⟨b, off, none⟩) n1 c1, .slice A2 n2 c2] ∧ Below W.heap.size W w4) := by show _ ∧ _; rw [hw'']; exact ⟨HB0.out.1.below (below_regrown w0 dq osq) HB0.out.1.lt, HB0.out.2.trans ((below_regrown w0 dq osq).mono HB0.out.2.size)⟩
            clear hw'' x0 x1 x2 x3 xs1 cA
            go_wp2_with fail
            go_ret
            exact ⟨by rw [HF.out]; rfl, HB4.out.2⟩
          have HOK : Hid (fnOk x = true) := HZ.out
          by_cases hkp : k = 0
          · subst hkp
            have HV2 := Lib.hid (UpOk.first (nm := Fn.name_) HX.out HOK.out)
            simp only [Nat.zero_mul, Nat.add_zero] at q0 q1 q2 q3
            go_wp2_with fail
            obtain ⟨w0, hw0⟩ : ∃ w0, wr = w0 := ⟨_, rfl⟩
            have g1 : Below wr.heap.size wr w0 := by rw [← hw0]; exact Below.refl _ _
            have HB0 : Hid (RW 60 w0 W.heap.size #[.slice A0 n0 c0, .slice (some ⟨b, off, none⟩) n1 c1, .slice A2 n2 c2] ∧ Below W.heap.size W w0) := ⟨HB.out.1.below g1 HB.out.1.lt, HB.out.2.trans (g1.mono HB.out.2.size)⟩
            have x0 := cell_regrown ((g1.cell (p := ⟨b, off, none⟩) HGB.out).trans q0)
            have x1 := cell_regrown ((g1.cell (p := ⟨b, off + 1, none⟩) HGB.out).trans q1)
            have x2 := cell_regrown ((g1.cell (p := ⟨b, off + 2, none⟩) HGB.out).trans q2)
            have x3 := cell_regrown ((g1.cell (p := ⟨b, off + 3, none⟩) HGB.out).trans q3)
            rw [hw0]
            have xs1 := cell_regrown (HB0.out.1.cell 1)
            have cA : ∀ d os', Calls Tryz.prog 76 #[.agg #[.string x.name_, .slice l.A1 l.n1 l.c1, .slice l.A2 l.n2 l.c2, .string x.label_]] (grow (redrawn w0 d) os') (fun e w'' => e = .returned (.bool true) ∧ ∃ q : Regrown, w'' = grow (redrawn w0 q.d) q.os) := fun d os' => Calls.regrown_of (by have hb := g1.trans ((below_regrown w0 d os').mono g1.size); have h := HEL.out _ hb; rw [HZ.out] at h; exact h)
            clear hw0 g1 q0 q1 q2 q3 s0 s1 s2
            refine wp_region_quiet_below (by kernel_rfl) (by kernel_rfl) ?_
            repeat (first | go_big_quiet_step (with_reducible exact cA _ _) | quiet_step (with_reducible exact cA _ _))
            refine wpQuiet_nil ?_
            intro w4 hw'
            obtain ⟨⟨dq, osq⟩, hw''⟩ := hw'
            have HB4 : Hid (RW 60 w4 W.heap.size #[.slice A0 n0 c0, .slice (some ⟨b, off, none⟩) n1 c1, .slice A2 n2 c2] ∧ Below W.heap.size W w4) := by show _ ∧ _; rw [hw'']; exact ⟨HB0.out.1.below (below_regrown w0 dq osq) HB0.out.1.lt, HB0.out.2.trans ((below_regrown w0 dq osq).mono HB0.out.2.size)⟩
            clear hw'' x0 x1 x2 x3 xs1 cA
            go_wp2_with fail
            go_roundw
            case rel => exact ⟨0 + 1, by omega, by go_num, ⟨HB4.out.1.cell 0, HB4.out.1.cell 1, HB4.out.1.cell 2⟩, HB4, HV2⟩
            case measure => simp [intOf]; omega
          obtain ⟨j, hj⟩ : ∃ j, k = j + 1 := ⟨k - 1, by omega⟩
          have hj1 : (k : Int) - 1 = (j : Int) := by omega
          have hkp2 : (0 : Int) < (k : Int) := by omega
          have hkp3 : decide ((0 : Int) < (k : Int)) = true := by simp; omega
          have hkp4 : decide (0 < k) = true := by simp; omega
          have hkp5 : 0 < k := by omega
          have e0 : (0 : Int) ≤ (j : Int) := by omega
          have e1 : (j : Int) < (n1 : Int) := by omega
          obtain ⟨b', off', y, l', hA, hg', hy, ⟨r0, r1, r2, r3⟩, _⟩ := (HX1.out.go HB.out.2).at_ (show j < n1 by omega)
          simp only [Option.some.injEq, Addr.mk.injEq, and_true] at hA
          obtain ⟨rfl, rfl⟩ := hA
          have HY : Hid (x1[k - 1]? = some y) := by show _ = _; rw [show k - 1 = j by omega]; exact hy
          clear hj hkp hg' hy
          obtain ⟨R, hRR⟩ : ∃ z, Op.bytesLess y.name_.toList x.name_.toList = z := ⟨_, rfl⟩
          have HRR := Lib.hid hRR
          cases R
          · have HF : Hid (P = false) := HNO.out (.inr (.inl (not_up hkp5 HX.out HY.out HRR.out)))
            go_wp2_with fail
            obtain ⟨w0, hw0⟩ : ∃ w0, wr = w0 := ⟨_, rfl⟩
            have g1 : Below wr.heap.size wr w0 := by rw [← hw0]; exact Below.refl _ _
            have HB0 : Hid (RW 60 w0 W.heap.size #[.slice A0 n0 c0, .slice (some ⟨b, off, none⟩) n1 c1, .slice A2 n2 c2] ∧ Below W.heap.size W w0) := ⟨HB.out.1.below g1 HB.out.1.lt, HB.out.2.trans (g1.mono HB.out.2.size)⟩
            have x0 := cell_regrown ((g1.cell (p := ⟨b, off + k * 4, none⟩) HGB.out).trans q0)
            have x1 := cell_regrown ((g1.cell (p := ⟨b, off + k * 4 + 1, none⟩) HGB.out).trans q1)
            have x2 := cell_regrown ((g1.cell (p := ⟨b, off + k * 4 + 2, none⟩) HGB.out).trans q2)
            have x3 := cell_regrown ((g1.cell (p := ⟨b, off + k * 4 + 3, none⟩) HGB.out).trans q3)
            rw [hw0]
            have xs1 := cell_regrown (HB0.out.1.cell 1)
            have y0 := cell_regrown ((g1.cell (p := ⟨b, off + j * 4, none⟩) HGB.out).trans r0)
            have y1 := cell_regrown ((g1.cell (p := ⟨b, off + j * 4 + 1, none⟩) HGB.out).trans r1)
            have y2 := cell_regrown ((g1.cell (p := ⟨b, off + j * 4 + 2, none⟩) HGB.out).trans r2)
            have y3 := cell_regrown ((g1.cell (p := ⟨b, off + j * 4 + 3, none⟩) HGB.out).trans r3)
            have cA : ∀ d os', Calls Tryz.prog 76 #[.agg #[.string x.name_, .slice l.A1 l.n1 l.c1, .slice l.A2 l.n2 l.c2, .string x.label_]] (grow (redrawn w0 d) os') (fun e w'' => e = .returned (.bool true) ∧ ∃ q : Regrown, w'' = grow (redrawn w0 q.d) q.os) := fun d os' => Calls.regrown_of (by have hb := g1.trans ((below_regrown w0 d os').mono g1.size); have h := HEL.out _ hb; rw [HZ.out] at h; exact h)
            clear hw0 g1 q0 q1 q2 q3 r0 r1 r2 r3 s0 s1 s2
            refine wp_region_quiet_below (by kernel_rfl) (by kernel_rfl) ?_
            repeat (first | go_big_quiet_step (with_reducible exact cA _ _) | quiet_step (with_reducible exact cA _ _))
            refine wpQuiet_nil ?_
            intro w4 hw'
            obtain ⟨⟨dq, osq⟩, hw''⟩ := hw'
            have HB4 : Hid (RW 60 w4 W.heap.size #[.slice A0 n0 c0, .slice (some ⟨b, off, none⟩) n1 c1, .slice A2 n2 c2] ∧ Below W.heap.size W w4) := by show _ ∧ _; rw [hw'']; exact ⟨HB0.out.1.below (below_regrown w0 dq osq) HB0.out.1.lt, HB0.out.2.trans ((below_regrown w0 dq osq).mono HB0.out.2.size)⟩
            clear hw'' x0 x1 x2 x3 xs1 y0 y1 y2 y3 cA
            go_wp2_with fail
            go_ret
            exact ⟨by rw [HF.out]; rfl, HB4.out.2⟩
          · have HV2 := Lib.hid (UpOk.next HV.out HX.out HOK.out HY.out HRR.out)
            go_wp2_with fail
            obtain ⟨w0, hw0⟩ : ∃ w0, wr = w0 := ⟨_, rfl⟩
            have g1 : Below wr.heap.size wr w0 := by rw [← hw0]; exact Below.refl _ _
            have HB0 : Hid (RW 60 w0 W.heap.size #[.slice A0 n0 c0, .slice (some ⟨b, off, none⟩) n1 c1, .slice A2 n2 c2] ∧ Below W.heap.size W w0) := ⟨HB.out.1.below g1 HB.out.1.lt, HB.out.2.trans (g1.mono HB.out.2.size)⟩
            have x0 := cell_regrown ((g1.cell (p := ⟨b, off + k * 4, none⟩) HGB.out).trans q0)
            have x1 := cell_regrown ((g1.cell (p := ⟨b, off + k * 4 + 1, none⟩) HGB.out).trans q1)
            have x2 := cell_regrown ((g1.cell (p := ⟨b, off + k * 4 + 2, none⟩) HGB.out).trans q2)
            have x3 := cell_regrown ((g1.cell (p := ⟨b, off + k * 4 + 3, none⟩) HGB.out).trans q3)
            rw [hw0]
            have xs1 := cell_regrown (HB0.out.1.cell 1)
            have y0 := cell_regrown ((g1.cell (p := ⟨b, off + j * 4, none⟩) HGB.out).trans r0)
            have y1 := cell_regrown ((g1.cell (p := ⟨b, off + j * 4 + 1, none⟩) HGB.out).trans r1)
            have y2 := cell_regrown ((g1.cell (p := ⟨b, off + j * 4 + 2, none⟩) HGB.out).trans r2)
            have y3 := cell_regrown ((g1.cell (p := ⟨b, off + j * 4 + 3, none⟩) HGB.out).trans r3)
            have cA : ∀ d os', Calls Tryz.prog 76 #[.agg #[.string x.name_, .slice l.A1 l.n1 l.c1, .slice l.A2 l.n2 l.c2, .string x.label_]] (grow (redrawn w0 d) os') (fun e w'' => e = .returned (.bool true) ∧ ∃ q : Regrown, w'' = grow (redrawn w0 q.d) q.os) := fun d os' => Calls.regrown_of (by have hb := g1.trans ((below_regrown w0 d os').mono g1.size); have h := HEL.out _ hb; rw [HZ.out] at h; exact h)
            clear hw0 g1 q0 q1 q2 q3 r0 r1 r2 r3 s0 s1 s2
            refine wp_region_quiet_below (by kernel_rfl) (by kernel_rfl) ?_
            repeat (first | go_big_quiet_step (with_reducible exact cA _ _) | quiet_step (with_reducible exact cA _ _))
            refine wpQuiet_nil ?_
            intro w4 hw'
            obtain ⟨⟨dq, osq⟩, hw''⟩ := hw'
            have HB4 : Hid (RW 60 w4 W.heap.size #[.slice A0 n0 c0, .slice (some ⟨b, off, none⟩) n1 c1, .slice A2 n2 c2] ∧ Below W.heap.size W w4) := by show _ ∧ _; rw [hw'']; exact ⟨HB0.out.1.below (below_regrown w0 dq osq) HB0.out.1.lt, HB0.out.2.trans ((below_regrown w0 dq osq).mono HB0.out.2.size)⟩
            clear hw'' x0 x1 x2 x3 xs1 y0 y1 y2 y3 cA
            go_wp2_with fail
            go_roundw
            case rel => exact ⟨k + 1, by omega, by go_num, ⟨HB4.out.1.cell 0, HB4.out.1.cell 1, HB4.out.1.cell 2⟩, HB4, HV2⟩
            case measure => simp [intOf]; omega
        · have hkn : k = n1 := by omega
          have HL1 : Hid (ListOk fnOk Fn.name_ 12 x1) := by
            refine ⟨by have := HX1.out.1; omega, ?_⟩
            rw [HX1.out.1, ← hkn]
            exact HV.out
          have hnk : ¬ (k : Int) < (n1 : Int) := by omega
          clear HV hkn
          go_wp2_with fail
          go_loopw [6] (fun i wr => ∃ k : Nat, k ≤ n2 ∧ i = .int .i64 k ∧ (wr.cell? ⟨W.heap.size, 0, none⟩ = some (.slice A0 n0 c0) ∧ wr.cell? ⟨W.heap.size, 1, none⟩ = some (.slice A1 n1 c1) ∧ wr.cell? ⟨W.heap.size, 2, none⟩ = some (.slice A2 n2 c2)) ∧ Hid (RW 60 wr W.heap.size #[.slice A0 n0 c0, .slice A1 n1 c1, .slice A2 n2 c2] ∧ Below W.heap.size W wr) ∧ Hid (UpOk rtOk Rt.name_ x2 k)) (fun i _ => n2 - (intOf i).toNat)
          case atStart => exact ⟨0, Nat.zero_le _, rfl, ⟨s0, s1, s2⟩, HB, Lib.hid UpOk.zero⟩
          case round =>
            clear s0 s1 s2 HB
            obtain ⟨k, hk, rfl, ⟨s0, s1, s2⟩, HB, HV⟩ := hrel
            by_cases hlt : k < n2
            · have b0 : (0 : Int) ≤ (k : Int) := by omega
              have b1 : (k : Int) < (n2 : Int) := by omega
              obtain ⟨b, off, x, l, rfl, hg, hx, ⟨q0, q1⟩, hv⟩ := (HX2.out.go HB.out.2).at_ hlt
              have HX := Lib.hid hx
              have HGB : Hid (b < wr.heap.size) := hg
              have HEL := Lib.hid (fun (w : World) (hb : Below wr.heap.size wr w) => l18Type_any x l w (hv.go hb))
              obtain ⟨z0, hz0⟩ : ∃ z, rtOk x = z := ⟨_, rfl⟩
              have HZ := Lib.hid hz0
              clear hx hg hv hz0
              cases z0
              case false =>
                have HF : Hid (P = false) := HNO.out (.inr (.inr (not_ok HX.out HZ.out)))
                go_wp2_with fail
                obtain ⟨w0, hw0⟩ : ∃ w0, wr = w0 := ⟨_, rfl⟩
                have g1 : Below wr.heap.size wr w0 := by rw [← hw0]; exact Below.refl _ _
                have HB0 : Hid (RW 60 w0 W.heap.size #[.slice A0 n0 c0, .slice A1 n1 c1, .slice (some ⟨b, off, none⟩) n2 c2] ∧ Below W.heap.size W w0) := ⟨HB.out.1.below g1 HB.out.1.lt, HB.out.2.trans (g1.mono HB.out.2.size)⟩
                have x0 := cell_regrown ((g1.cell (p := ⟨b, off + k * 2, none⟩) HGB.out).trans q0)
                have x1 := cell_regrown ((g1.cell (p := ⟨b, off + k * 2 + 1, none⟩) HGB.out).trans q1)
                rw [hw0]
                have xs2 := cell_regrown (HB0.out.1.cell 2)
                have cA : ∀ d os', Calls Tryz.prog 77 #[.agg #[.string x.name_, .slice l.A1 l.n1 l.c1]] (grow (redrawn w0 d) os') (fun e w'' => e = .returned (.bool false) ∧ ∃ q : Regrown, w'' = grow (redrawn w0 q.d) q.os) := fun d os' => Calls.regrown_of (by have hb := g1.trans ((below_regrown w0 d os').mono g1.size); have h := HEL.out _ hb; rw [HZ.out] at h; exact h)
                clear hw0 g1 q0 q1 s0 s1 s2
                refine wp_region_quiet_below (by kernel_rfl) (by kernel_rfl) ?_
                repeat (first | go_big_quiet_step (with_reducible exact cA _ _) | quiet_step (with_reducible exact cA _ _))
                refine wpQuiet_nil ?_
                intro w4 hw'
                obtain ⟨⟨dq, osq⟩, hw''⟩ := hw'
                have HB4 : Hid (RW 60 w4 W.heap.size #[.slice A0 n0 c0, .slice A1 n1 c1, .slice (some ⟨b, off, none⟩) n2 c2] ∧ Below W.heap.size W w4) := by show _ ∧ _; rw [hw'']; exact ⟨HB0.out.1.below (below_regrown w0 dq osq) HB0.out.1.lt, HB0.out.2.trans ((below_regrown w0 dq osq).mono HB0.out.2.size)⟩
                clear hw'' x0 x1 xs2 cA
                go_wp2_with fail
                go_ret
                exact ⟨by rw [HF.out]; rfl, HB4.out.2⟩
              have HOK : Hid (rtOk x = true) := HZ.out
              by_cases hkp : k = 0
              · subst hkp
                have HV2 := Lib.hid (UpOk.first (nm := Rt.name_) HX.out HOK.out)
                simp only [Nat.zero_mul, Nat.add_zero] at q0 q1
                go_wp2_with fail
                obtain ⟨w0, hw0⟩ : ∃ w0, wr = w0 := ⟨_, rfl⟩
                have g1 : Below wr.heap.size wr w0 := by rw [← hw0]; exact Below.refl _ _
                have HB0 : Hid (RW 60 w0 W.heap.size #[.slice A0 n0 c0, .slice A1 n1 c1, .slice (some ⟨b, off, none⟩) n2 c2] ∧ Below W.heap.size W w0) := ⟨HB.out.1.below g1 HB.out.1.lt, HB.out.2.trans (g1.mono HB.out.2.size)⟩
                have x0 := cell_regrown ((g1.cell (p := ⟨b, off, none⟩) HGB.out).trans q0)
                have x1 := cell_regrown ((g1.cell (p := ⟨b, off + 1, none⟩) HGB.out).trans q1)
                rw [hw0]
                have xs2 := cell_regrown (HB0.out.1.cell 2)
                have cA : ∀ d os', Calls Tryz.prog 77 #[.agg #[.string x.name_, .slice l.A1 l.n1 l.c1]] (grow (redrawn w0 d) os') (fun e w'' => e = .returned (.bool true) ∧ ∃ q : Regrown, w'' = grow (redrawn w0 q.d) q.os) := fun d os' => Calls.regrown_of (by have hb := g1.trans ((below_regrown w0 d os').mono g1.size); have h := HEL.out _ hb; rw [HZ.out] at h; exact h)
                clear hw0 g1 q0 q1 s0 s1 s2
                refine wp_region_quiet_below (by kernel_rfl) (by kernel_rfl) ?_
                repeat (first | go_big_quiet_step (with_reducible exact cA _ _) | quiet_step (with_reducible exact cA _ _))
                refine wpQuiet_nil ?_
                intro w4 hw'
                obtain ⟨⟨dq, osq⟩, hw''⟩ := hw'
                have HB4 : Hid (RW 60 w4 W.heap.size #[.slice A0 n0 c0, .slice A1 n1 c1, .slice (some ⟨b, off, none⟩) n2 c2] ∧ Below W.heap.size W w4) := by show _ ∧ _; rw [hw'']; exact ⟨HB0.out.1.below (below_regrown w0 dq osq) HB0.out.1.lt, HB0.out.2.trans ((below_regrown w0 dq osq).mono HB0.out.2.size)⟩
                clear hw'' x0 x1 xs2 cA
                go_wp2_with fail
                go_roundw
                case rel => exact ⟨0 + 1, by omega, by go_num, ⟨HB4.out.1.cell 0, HB4.out.1.cell 1, HB4.out.1.cell 2⟩, HB4, HV2⟩
                case measure => simp [intOf]; omega
              obtain ⟨j, hj⟩ : ∃ j, k = j + 1 := ⟨k - 1, by omega⟩
              have hj1 : (k : Int) - 1 = (j : Int) := by omega
              have hkp2 : (0 : Int) < (k : Int) := by omega
              have hkp3 : decide ((0 : Int) < (k : Int)) = true := by simp; omega
              have hkp4 : decide (0 < k) = true := by simp; omega
              have hkp5 : 0 < k := by omega
              have e0 : (0 : Int) ≤ (j : Int) := by omega
              have e1 : (j : Int) < (n2 : Int) := by omega
              obtain ⟨b', off', y, l', hA, hg', hy, ⟨r0, r1⟩, _⟩ := (HX2.out.go HB.out.2).at_ (show j < n2 by omega)
              simp only [Option.some.injEq, Addr.mk.injEq, and_true] at hA
              obtain ⟨rfl, rfl⟩ := hA
              have HY : Hid (x2[k - 1]? = some y) := by show _ = _; rw [show k - 1 = j by omega]; exact hy
              clear hj hkp hg' hy
              obtain ⟨R, hRR⟩ : ∃ z, Op.bytesLess y.name_.toList x.name_.toList = z := ⟨_, rfl⟩
              have HRR := Lib.hid hRR
              cases R
              · have HF : Hid (P = false) := HNO.out (.inr (.inr (not_up hkp5 HX.out HY.out HRR.out)))
                go_wp2_with fail
                obtain ⟨w0, hw0⟩ : ∃ w0, wr = w0 := ⟨_, rfl⟩
                have g1 : Below wr.heap.size wr w0 := by rw [← hw0]; exact Below.refl _ _
                have HB0 : Hid (RW 60 w0 W.heap.size #[.slice A0 n0 c0, .slice A1 n1 c1, .slice (some ⟨b, off, none⟩) n2 c2] ∧ Below W.heap.size W w0) := ⟨HB.out.1.below g1 HB.out.1.lt, HB.out.2.trans (g1.mono HB.out.2.size)⟩
                have x0 := cell_regrown ((g1.cell (p := ⟨b, off + k * 2, none⟩) HGB.out).trans q0)
                have x1 := cell_regrown ((g1.cell (p := ⟨b, off + k * 2 + 1, none⟩) HGB.out).trans q1)
                rw [hw0]
                have xs2 := cell_regrown (HB0.out.1.cell 2)
                have y0 := cell_regrown ((g1.cell (p := ⟨b, off + j * 2, none⟩) HGB.out).trans r0)
                have y1 := cell_regrown ((g1.cell (p := ⟨b, off + j * 2 + 1, none⟩) HGB.out).trans r1)
                have cA : ∀ d os', Calls Tryz.prog 77 #[.agg #[.string x.name_, .slice l.A1 l.n1 l.c1]] (grow (redrawn w0 d) os') (fun e w'' => e = .returned (.bool true) ∧ ∃ q : Regrown, w'' = grow (redrawn w0 q.d) q.os) := fun d os' => Calls.regrown_of (by have hb := g1.trans ((below_regrown w0 d os').mono g1.size); have h := HEL.out _ hb; rw [HZ.out] at h; exact h)
                clear hw0 g1 q0 q1 r0 r1 s0 s1 s2
                refine wp_region_quiet_below (by kernel_rfl) (by kernel_rfl) ?_
                repeat (first | go_big_quiet_step (with_reducible exact cA _ _) | quiet_step (with_reducible exact cA _ _))
                refine wpQuiet_nil ?_
                intro w4 hw'
                obtain ⟨⟨dq, osq⟩, hw''⟩ := hw'
                have HB4 : Hid (RW 60 w4 W.heap.size #[.slice A0 n0 c0, .slice A1 n1 c1, .slice (some ⟨b, off, none⟩) n2 c2] ∧ Below W.heap.size W w4) := by show _ ∧ _; rw [hw'']; exact ⟨HB0.out.1.below (below_regrown w0 dq osq) HB0.out.1.lt, HB0.out.2.trans ((below_regrown w0 dq osq).mono HB0.out.2.size)⟩
                clear hw'' x0 x1 xs2 y0 y1 cA
                go_wp2_with fail
                go_ret
                exact ⟨by rw [HF.out]; rfl, HB4.out.2⟩
              · have HV2 := Lib.hid (UpOk.next HV.out HX.out HOK.out HY.out HRR.out)
                go_wp2_with fail
                obtain ⟨w0, hw0⟩ : ∃ w0, wr = w0 := ⟨_, rfl⟩
                have g1 : Below wr.heap.size wr w0 := by rw [← hw0]; exact Below.refl _ _
                have HB0 : Hid (RW 60 w0 W.heap.size #[.slice A0 n0 c0, .slice A1 n1 c1, .slice (some ⟨b, off, none⟩) n2 c2] ∧ Below W.heap.size W w0) := ⟨HB.out.1.below g1 HB.out.1.lt, HB.out.2.trans (g1.mono HB.out.2.size)⟩
                have x0 := cell_regrown ((g1.cell (p := ⟨b, off + k * 2, none⟩) HGB.out).trans q0)
                have x1 := cell_regrown ((g1.cell (p := ⟨b, off + k * 2 + 1, none⟩) HGB.out).trans q1)
                rw [hw0]
                have xs2 := cell_regrown (HB0.out.1.cell 2)
                have y0 := cell_regrown ((g1.cell (p := ⟨b, off + j * 2, none⟩) HGB.out).trans r0)
                have y1 := cell_regrown ((g1.cell (p := ⟨b, off + j * 2 + 1, none⟩) HGB.out).trans r1)
                have cA : ∀ d os', Calls Tryz.prog 77 #[.agg #[.string x.name_, .slice l.A1 l.n1 l.c1]] (grow (redrawn w0 d) os') (fun e w'' => e = .returned (.bool true) ∧ ∃ q : Regrown, w'' = grow (redrawn w0 q.d) q.os) := fun d os' => Calls.regrown_of (by have hb := g1.trans ((below_regrown w0 d os').mono g1.size); have h := HEL.out _ hb; rw [HZ.out] at h; exact h)
                clear hw0 g1 q0 q1 r0 r1 s0 s1 s2
                refine wp_region_quiet_below (by kernel_rfl) (by kernel_rfl) ?_
                repeat (first | go_big_quiet_step (with_reducible exact cA _ _) | quiet_step (with_reducible exact cA _ _))
                refine wpQuiet_nil ?_
                intro w4 hw'
                obtain ⟨⟨dq, osq⟩, hw''⟩ := hw'
                have HB4 : Hid (RW 60 w4 W.heap.size #[.slice A0 n0 c0, .slice A1 n1 c1, .slice (some ⟨b, off, none⟩) n2 c2] ∧ Below W.heap.size W w4) := by show _ ∧ _; rw [hw'']; exact ⟨HB0.out.1.below (below_regrown w0 dq osq) HB0.out.1.lt, HB0.out.2.trans ((below_regrown w0 dq osq).mono HB0.out.2.size)⟩
                clear hw'' x0 x1 xs2 y0 y1 cA
                go_wp2_with fail
                go_roundw
                case rel => exact ⟨k + 1, by omega, by go_num, ⟨HB4.out.1.cell 0, HB4.out.1.cell 1, HB4.out.1.cell 2⟩, HB4, HV2⟩
                case measure => simp [intOf]; omega
            · have hkn : k = n2 := by omega
              have HL2 : Hid (ListOk rtOk Rt.name_ 8 x2) := by
                refine ⟨by have := HX2.out.1; omega, ?_⟩
                rw [HX2.out.1, ← hkn]
                exact HV.out
              have hnk : ¬ (k : Int) < (n2 : Int) := by omega
              clear HV hkn
              go_wp2_with fail
              have HE : Hid (P = true) := HYES.out HL0.out HL1.out HL2.out
              go_ret
              exact ⟨by rw [HE.out]; rfl, HB.out.2⟩
end Go.Proofs.YtfcpdjfckeoniaaGreatDoor

namespace Go.Proofs.YtfcpdjfckeoniaaGreatDoor
open Go Go.RowKit

def Bd.vl (b : Bd) : Vl := ⟨b.kind_, b.num_, b.text_, b.ref_⟩
/-- What ScopeRoots answers. -/
noncomputable def rootsV (x : Sc) : List Vl := if tt (ScOk x) = true then x.vars_.map Bd.vl else []
theorem rootsV_bad {x : Sc} (h : tt (ScOk x) = false) : rootsV x = [] := by unfold rootsV; rw [h]; rfl
theorem rootsV_ok {x : Sc} (h : tt (ScOk x) = true) : rootsV x = x.vars_.map Bd.vl := by unfold rootsV; rw [if_pos h]
theorem alloc_szR (w : World) (o : Obj) : (w.alloc o).heap.size = w.heap.size + 1 := by simp
theorem cell_four_newR (w : World) (x0 x1 x2 x3 : Value) (t : TypeId) : ∀ j u, [x0, x1, x2, x3][j]? = some u → (w.alloc (.cells #[x0, x1, x2, x3] t)).cell? ((⟨w.heap.size, 0, none⟩ : Addr).add j) = some u := by
  intro j u hj
  have hc := cell_of_row (w.alloc (.cells #[x0, x1, x2, x3] t)) w.heap.size j #[x0, x1, x2, x3] t (0, 0) (heap_alloc_new w _)
  have ha : (⟨w.heap.size, 0, none⟩ : Addr).add j = ⟨w.heap.size, j, none⟩ := by unfold Addr.add; split <;> simp_all
  rw [ha, hc]
  rw [← hj]
  simp
theorem cell_four_newG (w : World) (g : Nat) (hg : w.heap.size = g) (x0 x1 x2 x3 : Value) (t : TypeId) : ∀ j u, [x0, x1, x2, x3][j]? = some u → (w.alloc (.cells #[x0, x1, x2, x3] t)).cell? ((⟨g, 0, none⟩ : Addr).add j) = some u := by
  subst hg
  exact cell_four_newR w x0 x1 x2 x3 t
theorem ownV_snoc {w : World} {B n : Nat} {v : Value} {xs : List Vl} (x : Vl) (h : w.ownsRow B 36 4 v (n + 1) (cellsV xs ++ x.vs)) : OwnV w B v (n + 1) (xs ++ [x]) := by
  show w.ownsRow B 36 4 v (n + 1) (cellsV (xs ++ [x]))
  rw [cellsV_append]
  have e : cellsV [x] = x.vs := by rw [cellsV, cellsV, List.append_nil]
  rw [e]
  exact h
theorem bd_texts {w : World} {B n : Nat} {A : Option Addr} {xs : List Bd} (h : BdI w B A n xs) : ∀ x ∈ xs.map Bd.vl, x.t.size ≤ maxLen := by
  intro y hy
  obtain ⟨b, hb, rfl⟩ := List.mem_map.1 hy
  obtain ⟨k, hk, e⟩ := List.getElem_of_mem hb
  have hkn : k < n := by rw [← h.1]; exact hk
  obtain ⟨_, _, x, _, _, hx, _, _, ht⟩ := h.at_ hkn
  rw [List.getElem?_eq_getElem hk, e] at hx
  cases hx
  exact ht
/-- What ScopeRoots hands back. -/
def RoT (x : Sc) (W : World) (e : Ending) (w' : World) : Prop := ∃ A' c', e = .returned (.slice A' (rootsV x).length c') ∧ Hid (VI w' w'.heap.size A' (rootsV x).length (rootsV x) ∧ Below W.heap.size W w')

set_option maxHeartbeats 4000000 in
set_option maxRecDepth 100000 in
theorem spec_ScopeRoots_any (x : Sc) (l : ScLay) (W : World) (hv : ScV W W.heap.size x l) :
    Calls Tryz.prog 41 #[x.ag l] W (RoT x W) := by
  obtain ⟨i0, hi0, hz0, hz1, hz2⟩ := info_parts valInfo
  obtain ⟨x0, x1, x2⟩ := x
  obtain ⟨A0, n0, c0, h0, A1, n1, c1, h1, A2, n2, c2, h2⟩ := l
  show Calls Tryz.prog 41 #[.agg #[.slice A0 n0 c0, .slice A1 n1 c1, .slice A2 n2 c2]] W _
  have HV := Lib.hid hv
  have HI := Lib.hid (And.intro hi0 (And.intro hz0 (And.intro hz1 hz2)))
  have HC := Lib.hid (one_newS W 60 #[.slice A0 n0 c0, .slice A1 n1 c1, .slice A2 n2 c2])
  obtain ⟨z1, hz⟩ : ∃ z, tt (ScOk (⟨x0, x1, x2⟩ : Sc)) = z := ⟨_, rfl⟩
  have HZ1 := Lib.hid hz
  unfold RoT
  obtain ⟨R, hR⟩ : ∃ R, rootsV ⟨x0, x1, x2⟩ = R := ⟨_, rfl⟩
  have HRB : Hid (tt (ScOk (⟨x0, x1, x2⟩ : Sc)) = false → R = []) := fun h => hR ▸ rootsV_bad h
  have HRY : Hid (tt (ScOk (⟨x0, x1, x2⟩ : Sc)) = true → R = x0.map Bd.vl) := fun h => hR ▸ rootsV_ok h
  rw [hR]
  clear hR
  clear hv hz hi0 hz0 hz1 hz2
  cases z1
  · go_enter Tryz.func41, Tryz.ntmps41
    go_wp2_with (go_at_call 38; obtain ⟨g0, g2, g3⟩ := HC.out _ rfl; have HQ := spec_ValidScope_any ⟨x0, x1, x2⟩ ⟨A0, n0, c0, h0, A1, n1, c1, h1, A2, n2, c2, h2⟩ _ (HV.out.go g2); refine Calls.mono HQ ?_; clear HQ; rintro e w1 ⟨rfl, hb⟩; rw [HZ1.out]; have HB1 := Lib.hid (g2.trans (hb.mono g2.size)); clear g0 g2 g3 hb)
    go_ret
    obtain rfl := HRB.out HZ1.out
    exact ⟨none, 0, rfl, Lib.hid ⟨VI.nil _ _ _, HB1.out⟩⟩
  · obtain rfl := HRY.out HZ1.out
    have HL : Hid (n0 ≤ 40) := by show _ ≤ _; rw [← (show x0.length = n0 from HV.out.1.1)]; exact (of_tt HZ1.out).1.1
    go_enter Tryz.func41, Tryz.ntmps41
    go_wp2_with (go_at_call 38; obtain ⟨g0, g2, g3⟩ := HC.out _ rfl; have HQ := spec_ValidScope_any ⟨x0, x1, x2⟩ ⟨A0, n0, c0, h0, A1, n1, c1, h1, A2, n2, c2, h2⟩ _ (HV.out.go g2); refine Calls.mono HQ ?_; clear HQ; rintro e w1 ⟨rfl, hb⟩; rw [HZ1.out]; have HB1 := Lib.hid (g2.trans (hb.mono g2.size)); have HR1 := Lib.hid (g0.below hb g3); have HL1 : Hid (W.heap.size < w1.heap.size) := Nat.lt_of_lt_of_le g3 hb.size; clear g0 g2 g3 hb)
    have HO1 : Hid (OwnV (w1.alloc (.cells #[] 36)) (W.heap.size + 1) (.slice (some ⟨w1.heap.size, 0, none⟩) 0 0) 0 []) := World.ownsRow_lit w1 #[] 0 HL1.out (by decide) rfl
    go_loopw [3, 4] (fun v q wr => ∃ k : Nat, k ≤ n0 ∧ q = .int .i64 k ∧ Hid (OwnV wr (W.heap.size + 1) v k ((x0.map Bd.vl).take k)) ∧ Hid (RW 60 wr W.heap.size #[.slice A0 n0 c0, .slice A1 n1 c1, .slice A2 n2 c2]) ∧ Hid (Below W.heap.size W wr)) (fun _ q _ => n0 - (intOf q).toNat)
    case atStart => exact ⟨0, Nat.zero_le _, rfl, HO1, Lib.hid (HR1.out.alloc _), Lib.hid (HB1.out.alloc HB1.out.size _)⟩
    case round =>
      clear HO1 HR1 HB1 HL1
      obtain ⟨k, hk, rfl, HO, HR, HB⟩ := hrel
      have hn5 := HL.out
      have q0 := HR.out.cell 0
      by_cases hlt : k < n0
      · have HKN : Hid (k < n0) := hlt
        obtain ⟨b, off, s, hA, hg, hx, hp, hsn, hst⟩ := (show BdI wr W.heap.size A0 n0 x0 from (HV.out.below HB.out).1).at_ hlt
        have HX := Lib.hid hx
        have b0 : (0 : Int) ≤ (k : Int) := by omega
        have b1 : (k : Int) < (n0 : Int) := by omega
        obtain ⟨sn, sk, sm, st, sr⟩ := s
        obtain ⟨p0, p1, p2, p3, p4⟩ := hp
        have HT : Hid ((x0.map Bd.vl).take (k + 1) = (x0.map Bd.vl).take k ++ [⟨sk, sm, st, sr⟩]) := by show _ = _; rw [List.take_add_one, List.getElem?_map, HX.out]; rfl
        have HLW : Hid (W.heap.size + 1 ≤ wr.heap.size) := HR.out.lt
        obtain ⟨A9, c9, rfl⟩ := ownV_form HO.out
        have HN1 : Hid (some W.heap.size ≠ (Value.slice A9 k c9).ownBlock) := (fun e' => absurd (ownV_ge HO.out W.heap.size e'.symm) (by omega))
        subst hA
        clear hx hsn hst hg
        go_wp2_with (at_builtin; refine wpList_append_own _ rfl _ _ 84 rfl (W.heap.size + 1) 36 i0 (.agg #[.int .i64 0, .int .i64 0, .string ⟨#[]⟩, .int .i64 0]) 4 40 Tryz.underlying84 HI.out.1 HI.out.2.1 HI.out.2.2.1 HI.out.2.2.2 rfl (by decide) _ _ _ rfl (HO.out.alloc _) ⟨_, 0, none⟩ 1 1 [.int .i64 sk, .int .i64 sm, .string st, .int .i64 sr] rfl rfl (cell_four_newR _ _ _ _ _ _) (fun x hx => by simp at hx; rcases hx with rfl | rfl | rfl | rfl <;> rfl) (by unfold maxLen; omega) (by omega) (by have := HLW.out; simp; omega) ?_; intro v1 w7 hown1 hgr1 _)
        go_roundw
        case rel =>
          refine ⟨k + 1, HKN.out, by go_num, ?_, ?_, ?_⟩
          · refine Lib.hid ?_
            rw [HT.out]
            exact ownV_snoc ⟨sk, sm, st, sr⟩ hown1
          · exact Lib.hid ((hgr1.block W.heap.size (by have := HLW.out; simp; omega) HN1.out).trans (show RW 60 _ W.heap.size _ from HR.out.alloc _))
          · exact Lib.hid ((HB.out.alloc HB.out.size _).grown hgr1 (by have := HLW.out; simp; omega) (fun b hb => by have := ownV_ge HO.out b hb; omega))
        case measure => simp [intOf]; omega
      · have hkn : k = n0 := by omega
        have hl : (x0.map Bd.vl).length = n0 := by rw [List.length_map]; exact HV.out.1.1
        have hns : (x0.map Bd.vl).take k = x0.map Bd.vl := List.take_of_length_le (by omega)
        subst hkn
        rw [hns] at HO
        obtain ⟨A', c', rfl⟩ := ownV_form HO.out
        have HRR := Lib.hid (ownV_VI HO.out hl HV.out.1.2.1 (bd_texts HV.out.1))
        clear hns
        go_wp2_with (fail)
        go_ret
        rw [hl]
        exact ⟨A', c', rfl, Lib.hid ⟨HRR.out, HB.out⟩⟩

set_option maxHeartbeats 4000000 in
set_option maxRecDepth 100000 in
theorem impl_ScopeRoots_any (x : Sc) (l : ScLay) (W : World) (hv : ScV W W.heap.size x l) (hT : Classes W) :
    Calls Tryz.prog 46 #[x.ag l] W (RoT x W) := by
  obtain ⟨i0, hi0, hz0, hz1, hz2⟩ := info_parts valInfo
  obtain ⟨x0, x1, x2⟩ := x
  obtain ⟨A0, n0, c0, h0, A1, n1, c1, h1, A2, n2, c2, h2⟩ := l
  show Calls Tryz.prog 46 #[.agg #[.slice A0 n0 c0, .slice A1 n1 c1, .slice A2 n2 c2]] W _
  have HV := Lib.hid hv
  have HI := Lib.hid (And.intro hi0 (And.intro hz0 (And.intro hz1 hz2)))
  have HT := Lib.hid (fun (w : World) (hb : Below W.heap.size W w) => classes_up hT hb)
  have HC := Lib.hid (one_newS W 60 #[.slice A0 n0 c0, .slice A1 n1 c1, .slice A2 n2 c2])
  obtain ⟨z1, hz⟩ : ∃ z, tt (ScOk (⟨x0, x1, x2⟩ : Sc)) = z := ⟨_, rfl⟩
  have HZ1 := Lib.hid hz
  unfold RoT
  obtain ⟨R, hR⟩ : ∃ R, rootsV ⟨x0, x1, x2⟩ = R := ⟨_, rfl⟩
  have HRB : Hid (tt (ScOk (⟨x0, x1, x2⟩ : Sc)) = false → R = []) := fun h => hR ▸ rootsV_bad h
  have HRY : Hid (tt (ScOk (⟨x0, x1, x2⟩ : Sc)) = true → R = x0.map Bd.vl) := fun h => hR ▸ rootsV_ok h
  rw [hR]
  clear hR
  clear hv hz hT hi0 hz0 hz1 hz2
  cases z1
  · go_enter Tryz.func46, Tryz.ntmps46
    go_wp2_with (go_at_call 44; obtain ⟨g0, g2, g3⟩ := HC.out _ rfl; have HQ := impl_ValidScope_any ⟨x0, x1, x2⟩ ⟨A0, n0, c0, h0, A1, n1, c1, h1, A2, n2, c2, h2⟩ _ (HV.out.go g2) (HT.out _ g2); refine Calls.mono HQ ?_; clear HQ; rintro e w1 ⟨rfl, hb⟩; rw [HZ1.out]; have HB1 := Lib.hid (g2.trans (hb.mono g2.size)); clear g0 g2 g3 hb)
    go_ret
    obtain rfl := HRB.out HZ1.out
    exact ⟨none, 0, rfl, Lib.hid ⟨VI.nil _ _ _, HB1.out⟩⟩
  · obtain rfl := HRY.out HZ1.out
    have HL : Hid (n0 ≤ 40) := by show _ ≤ _; rw [← (show x0.length = n0 from HV.out.1.1)]; exact (of_tt HZ1.out).1.1
    go_enter Tryz.func46, Tryz.ntmps46
    go_wp2_with (go_at_call 44; obtain ⟨g0, g2, g3⟩ := HC.out _ rfl; have HQ := impl_ValidScope_any ⟨x0, x1, x2⟩ ⟨A0, n0, c0, h0, A1, n1, c1, h1, A2, n2, c2, h2⟩ _ (HV.out.go g2) (HT.out _ g2); refine Calls.mono HQ ?_; clear HQ; rintro e w1 ⟨rfl, hb⟩; rw [HZ1.out]; have HB1 := Lib.hid (g2.trans (hb.mono g2.size)); have HR1 := Lib.hid (g0.below hb g3); have HL1 : Hid (W.heap.size < w1.heap.size) := Nat.lt_of_lt_of_le g3 hb.size; have q0 := HR1.out.cell 0; clear g0 g2 g3 hb)
    have HO1 : Hid (OwnV w1 (W.heap.size + 1) (.slice none 0 0) 0 []) := ⟨rfl, .inl ⟨rfl, rfl⟩⟩
    go_loopw [3, 12] (fun v q wr => ∃ k : Nat, k ≤ n0 ∧ q = .int .i64 k ∧ Hid (OwnV wr (W.heap.size + 1) v k ((x0.map Bd.vl).take k)) ∧ Hid (W.heap.size + 1 ≤ wr.heap.size) ∧ Hid (Below W.heap.size W wr)) (fun _ q _ => n0 - (intOf q).toNat)
    case atStart => exact ⟨0, Nat.zero_le _, rfl, HO1, HL1, HB1⟩
    case round =>
      clear HO1 HR1 HB1 HL1 q0
      obtain ⟨k, hk, rfl, HO, HLW, HB⟩ := hrel
      have hn5 := HL.out
      by_cases hlt : k < n0
      · have HKN : Hid (k < n0) := hlt
        obtain ⟨b, off, s, hA, hg, hx, hp, hsn, hst⟩ := (show BdI wr W.heap.size A0 n0 x0 from (HV.out.below HB.out).1).at_ hlt
        have HX := Lib.hid hx
        have b0 : (0 : Int) ≤ (k : Int) := by omega
        have b1 : (k : Int) < (n0 : Int) := by omega
        obtain ⟨sn, sk, sm, st, sr⟩ := s
        obtain ⟨p0, p1, p2, p3, p4⟩ := hp
        have HTK : Hid ((x0.map Bd.vl).take (k + 1) = (x0.map Bd.vl).take k ++ [⟨sk, sm, st, sr⟩]) := by show _ = _; rw [List.take_add_one, List.getElem?_map, HX.out]; rfl
        subst hA
        clear hx hsn hst hg
        obtain ⟨A9, c9, rfl⟩ := ownV_form HO.out
        go_wp2_with (at_builtin; refine wpList_append_own _ rfl _ _ 84 rfl (W.heap.size + 1) 36 i0 (.agg #[.int .i64 0, .int .i64 0, .string ⟨#[]⟩, .int .i64 0]) 4 40 Tryz.underlying84 HI.out.1 HI.out.2.1 HI.out.2.2.1 HI.out.2.2.2 rfl (by decide) _ _ _ rfl ((HO.out.alloc _).alloc _) ⟨_, 0, none⟩ 1 1 [.int .i64 sk, .int .i64 sm, .string st, .int .i64 sr] rfl rfl (cell_four_newG _ _ (alloc_szR _ _) _ _ _ _ _) (fun x hx => by simp at hx; rcases hx with rfl | rfl | rfl | rfl <;> rfl) (by unfold maxLen; omega) (by omega) (by have := HLW.out; simp; omega) ?_; intro v1 w7 hown1 hgr1 _)
        go_roundw
        case rel =>
          refine ⟨k + 1, HKN.out, by go_num, ?_, ?_, ?_⟩
          · refine Lib.hid ?_
            rw [HTK.out]
            exact ownV_snoc ⟨sk, sm, st, sr⟩ hown1
          · exact Lib.hid (Nat.le_trans (by have := HLW.out; simp; omega) hgr1.size)
          · exact Lib.hid (((HB.out.alloc HB.out.size _).alloc (by have := HB.out.size; simp; omega) _).grown hgr1 (by have := HLW.out; simp; omega) (fun b hb => by have := ownV_ge HO.out b hb; omega))
        case measure => simp [intOf]; omega
      · have hkn : k = n0 := by omega
        have hl : (x0.map Bd.vl).length = n0 := by rw [List.length_map]; exact HV.out.1.1
        have hns : (x0.map Bd.vl).take k = x0.map Bd.vl := List.take_of_length_le (by omega)
        subst hkn
        rw [hns] at HO
        obtain ⟨A', c', rfl⟩ := ownV_form HO.out
        have HRR := Lib.hid (ownV_VI HO.out hl HV.out.1.2.1 (bd_texts HV.out.1))
        clear hns
        go_wp2_with (fail)
        go_ret
        rw [hl]
        exact ⟨A', c', rfl, Lib.hid ⟨HRR.out, HB.out⟩⟩
end Go.Proofs.YtfcpdjfckeoniaaGreatDoor

namespace Go.Proofs.YtfcpdjfckeoniaaGreatDoor
open Go Go.RowKit

/-- What ValidMemory answers. -/
noncomputable def meB (x : Me) : Bool := (tt (ScOk ⟨x.x2, x.x3, x.x4⟩) && consoleB ⟨x.x5, x.x6, x.x7, x.x8, x.x9⟩) && tt (ValidH x.x0 x.x1 ∧ FitAll x.x1 (rootsV ⟨x.x2, x.x3, x.x4⟩))
theorem meB_spec (x : Me) : meB x = (((tt (ValidH x.x0 x.x1) && tt (ScOk ⟨x.x2, x.x3, x.x4⟩)) && consoleB ⟨x.x5, x.x6, x.x7, x.x8, x.x9⟩) && tt (ValidH x.x0 x.x1 ∧ FitAll x.x1 (rootsV ⟨x.x2, x.x3, x.x4⟩))) := by
  unfold meB
  rw [tt_and]
  cases tt (ValidH x.x0 x.x1) <;> cases tt (ScOk ⟨x.x2, x.x3, x.x4⟩) <;> cases consoleB ⟨x.x5, x.x6, x.x7, x.x8, x.x9⟩ <;> rfl

set_option maxHeartbeats 4000000 in
set_option maxRecDepth 100000 in
theorem l17Fits_any (nx : Int) (A : Option Addr) (n c : Nat) (os : List Ob) (A' : Option Addr) (m c' : Nat) (xs : List Vl) (W : World) (ha : OI W W.heap.size A n os) (hx : VI W W.heap.size A' m xs) :
    Calls Tryz.prog 40 #[.agg #[.int .i64 nx, .slice A n c], .slice A' m c'] W fun e w' => e = .returned (.bool (tt (ValidH nx os ∧ FitAll os xs))) ∧ Below W.heap.size W w' := by
  have HA := Lib.hid ha
  have HX := Lib.hid hx
  have hn := hx.2.1
  have HN := Lib.hid hx.1
  unfold maxLen at hn
  have HC := Lib.hid (one_new W 55 #[.int .i64 nx, .slice A n c])
  clear ha hx
  obtain ⟨P, hP⟩ : ∃ P, tt (ValidH nx os ∧ FitAll os xs) = P := ⟨_, rfl⟩
  have HP := Lib.hid hP
  rw [hP]
  clear hP
  go_enter Tryz.func40, Tryz.ntmps40
  go_wp2_with fail
  go_loopw [5] (fun i wr => ∃ k : Nat, k ≤ m ∧ i = .int .i64 k ∧ Hid (RW 55 wr W.heap.size #[.int .i64 nx, .slice A n c] ∧ Below W.heap.size W wr) ∧ Hid (∀ (j : Nat) (x : Vl), j < k → xs[j]? = some x → ValidH nx os ∧ Fits os x)) (fun i _ => m - (intOf i).toNat)
  case atStart => exact ⟨0, Nat.zero_le _, rfl, Lib.hid ⟨(HC.out _ rfl).1, (HC.out _ rfl).2.1⟩, fun j x hj => absurd hj (by omega)⟩
  case round =>
    clear HC
    obtain ⟨k, hk, rfl, HW, HV⟩ := hrel
    by_cases hlt : k < m
    · obtain ⟨b, off, x, rfl, hg, hx, ⟨q0, q1, q2, q3⟩, hxs⟩ := (HX.out.below HW.out.2).at_ hlt
      have HKM : Hid (k < m) := hlt
      have HE := Lib.hid hx
      have HXS := Lib.hid hxs
      have HG := Lib.hid hg
      have HLT : Hid (b < wr.heap.size) := Nat.lt_of_lt_of_le hg HW.out.2.size
      obtain ⟨v, hv⟩ : ∃ v, tt (ValidH nx os ∧ Fits os x) = v := ⟨_, rfl⟩
      have HVX := Lib.hid hv
      have b0 : (0 : Int) ≤ (k : Int) := by omega
      have b1 : (k : Int) < (m : Int) := by omega
      have p0 := HW.out.1.cell 0
      have p1 := HW.out.1.cell 1
      clear hx hxs hg hv
      obtain ⟨xk, xn, xt, xr⟩ := x
      cases v
      · have HF : Hid (P = false) := by
          show _ = _
          rw [← HP.out]
          exact tt_false fun h => of_tt_false HVX.out ⟨h.1, h.2 k _ HE.out⟩
        go_wp2_with fail
        go_region_held3 (fun w' => w'.cell? ⟨W.heap.size, 0, none⟩ = some (.int .i64 nx) ∧ w'.cell? ⟨W.heap.size, 1, none⟩ = some (.slice A n c) ∧ w'.cell? ⟨b, off + k * 4, none⟩ = some (.int .i64 xk) ∧ w'.cell? ⟨b, off + k * 4 + 1, none⟩ = some (.int .i64 xn) ∧ w'.cell? ⟨b, off + k * 4 + 2, none⟩ = some (.string xt) ∧ w'.cell? ⟨b, off + k * 4 + 3, none⟩ = some (.int .i64 xr))
          (first | (exact ⟨p0, p1, q0, q1, q2, q3⟩) | (exact F1.out))
          ((first
            | (go_at_call 78; refine (spec_FitsHeap_any nx A n c os ⟨xk, xn, xt, xr⟩ _ (HA.out.go HW.out.2.drew) HXS.out).mono ?_; rintro e w1 ⟨rfl, hb⟩; rw [HVX.out]; have HW1 : Hid (Below W.heap.size W w1) := HW.out.2.drew.trans (hb.mono HW.out.2.size); have F1 : Hid (w1.cell? ⟨W.heap.size, 0, none⟩ = some (.int .i64 nx) ∧ w1.cell? ⟨W.heap.size, 1, none⟩ = some (.slice A n c) ∧ w1.cell? ⟨b, off + k * 4, none⟩ = some (.int .i64 xk) ∧ w1.cell? ⟨b, off + k * 4 + 1, none⟩ = some (.int .i64 xn) ∧ w1.cell? ⟨b, off + k * 4 + 2, none⟩ = some (.string xt) ∧ w1.cell? ⟨b, off + k * 4 + 3, none⟩ = some (.int .i64 xr)) := ⟨(hb.cell (p := ⟨W.heap.size, 0, none⟩) HW.out.1.lt).trans p0, (hb.cell (p := ⟨W.heap.size, 1, none⟩) HW.out.1.lt).trans p1, (hb.cell (p := ⟨b, off + k * 4, none⟩) HLT.out).trans q0, (hb.cell (p := ⟨b, off + k * 4 + 1, none⟩) HLT.out).trans q1, (hb.cell (p := ⟨b, off + k * 4 + 2, none⟩) HLT.out).trans q2, (hb.cell (p := ⟨b, off + k * 4 + 3, none⟩) HLT.out).trans q3⟩; clear hb)))
        go_wp2_with fail
        go_ret
        exact ⟨by rw [HF.out]; rfl, HW1.out⟩
      · go_wp2_with fail
        go_region_held3 (fun w' => w'.cell? ⟨W.heap.size, 0, none⟩ = some (.int .i64 nx) ∧ w'.cell? ⟨W.heap.size, 1, none⟩ = some (.slice A n c) ∧ w'.cell? ⟨b, off + k * 4, none⟩ = some (.int .i64 xk) ∧ w'.cell? ⟨b, off + k * 4 + 1, none⟩ = some (.int .i64 xn) ∧ w'.cell? ⟨b, off + k * 4 + 2, none⟩ = some (.string xt) ∧ w'.cell? ⟨b, off + k * 4 + 3, none⟩ = some (.int .i64 xr))
          (first | (exact ⟨p0, p1, q0, q1, q2, q3⟩) | (exact F1.out))
          ((first
            | (go_at_call 78; refine (spec_FitsHeap_any nx A n c os ⟨xk, xn, xt, xr⟩ _ (HA.out.go HW.out.2.drew) HXS.out).mono ?_; rintro e w1 ⟨rfl, hb⟩; rw [HVX.out]; have HW1 : Hid (Below W.heap.size W w1) := HW.out.2.drew.trans (hb.mono HW.out.2.size); have HR1 := Lib.hid ((show RW 55 wr.drew W.heap.size _ from HW.out.1).below hb HW.out.1.lt); have F1 : Hid (w1.cell? ⟨W.heap.size, 0, none⟩ = some (.int .i64 nx) ∧ w1.cell? ⟨W.heap.size, 1, none⟩ = some (.slice A n c) ∧ w1.cell? ⟨b, off + k * 4, none⟩ = some (.int .i64 xk) ∧ w1.cell? ⟨b, off + k * 4 + 1, none⟩ = some (.int .i64 xn) ∧ w1.cell? ⟨b, off + k * 4 + 2, none⟩ = some (.string xt) ∧ w1.cell? ⟨b, off + k * 4 + 3, none⟩ = some (.int .i64 xr)) := ⟨(hb.cell (p := ⟨W.heap.size, 0, none⟩) HW.out.1.lt).trans p0, (hb.cell (p := ⟨W.heap.size, 1, none⟩) HW.out.1.lt).trans p1, (hb.cell (p := ⟨b, off + k * 4, none⟩) HLT.out).trans q0, (hb.cell (p := ⟨b, off + k * 4 + 1, none⟩) HLT.out).trans q1, (hb.cell (p := ⟨b, off + k * 4 + 2, none⟩) HLT.out).trans q2, (hb.cell (p := ⟨b, off + k * 4 + 3, none⟩) HLT.out).trans q3⟩; clear hb)))
        go_wp2_with fail
        go_roundw
        case rel =>
          refine ⟨k + 1, HKM.out, by go_num, Lib.hid ⟨HR1.out, HW1.out⟩, fun j y hj hy => ?_⟩
          by_cases e : j = k
          · subst e
            rw [HE.out, Option.some.injEq] at hy
            subst hy
            exact of_tt HVX.out
          · exact HV.out j y (by omega) hy
        case measure => have := HKM.out; simp [intOf]; omega
    · have hkn : k = m := by omega
      have HT : Hid (P = tt (ValidH nx os)) := by
        show _ = _
        rw [← HP.out, tt_and]
        by_cases hv : ValidH nx os
        · rw [tt_true hv]
          have : FitAll os xs := fun j x hx => (HV.out j x (by have h1 := (List.getElem?_eq_some_iff.1 hx).1; have := HN.out; omega) hx).2
          rw [tt_true this]; rfl
        · rw [tt_false hv]; rfl
      have p0 := HW.out.1.cell 0
      have p1 := HW.out.1.cell 1
      go_wp2_with (go_at_call 37; refine (spec_ValidHeap_any nx A n c os _ (HA.out.go HW.out.2)).mono ?_; rintro e w1 ⟨rfl, hb⟩; have HW1 : Hid (Below W.heap.size W w1) := HW.out.2.trans (hb.mono HW.out.2.size); clear hb)
      go_ret
      exact ⟨by rw [HT.out]; rfl, HW1.out⟩
end Go.Proofs.YtfcpdjfckeoniaaGreatDoor
