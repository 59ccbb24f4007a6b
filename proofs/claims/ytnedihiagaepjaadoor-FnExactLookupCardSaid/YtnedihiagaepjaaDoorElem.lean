/- Contracts: isElement, key of the three kinds of elements of a scope. Condition: the table holds what the program's text lays. -/
import Derived.Test.YtnedihiagaepjaaDoorNmImpl
import Derived.Test.YtnedihiagaepjaaDoorConc
import Derived.Test.YtnedihiagaepjaaDoorValImpl
import Derived.Test.YtnedihiagaepjaaDoorIsNul
import Derived.Test.YtnedihiagaepjaaDoorBds
import Derived.Test.YtnedihiagaepjaaDoorFns
import Derived.Test.YtnedihiagaepjaaDoorRts
namespace Go.Proofs.YtnedihiagaepjaaDoor
open Go Go.RowKit

theorem one_newS (W : World) (T : TypeId) (c : Array Value) (X : World) (e : X = W.alloc (.cells c T)) : RW T X W.heap.size c ∧ Below W.heap.size W X ∧ W.heap.size < X.heap.size := by
  subst e
  exact ⟨RW.new _ _ _, below_alloc _ _, lt_alloc _ _⟩
theorem classes_up {W w : World} (h : Classes W) (hb : Below W.heap.size W w) : Classes w := h.below hb (heap_pos (h.at_ 0 (by decide)))
def bdOk (x : Bd) : Bool := isNameB x.name_ && (validV x.kind_ x.num_ x.text_ x.ref_ && !(isNullV x.kind_ x.num_ x.text_ x.ref_))
noncomputable def rtOk (x : Rt) : Bool := isNameB x.name_ && (decide (1 ≤ x.fields_.length ∧ x.fields_.length ≤ 6) && tt (OkNames x.fields_))
noncomputable def fnOk (x : Fn) : Bool := isNameB x.name_ && (isNameB x.label_ && (decide (x.params_.length ≤ 6) && (decide (x.locals_.length ≤ 6) && tt (OkNames (x.params_ ++ x.locals_)))))

theorem keyBd_any (x : Bd) (W : World) : Calls Tryd.prog 94 #[x.ag] W fun e w' => e = .returned (.string x.name_) ∧ Below W.heap.size W w' := by
  obtain ⟨x0, x1, x2, x3, x4⟩ := x
  show Calls Tryd.prog 94 #[.agg #[.string x0, .int .i64 x1, .int .i64 x2, .string x3, .int .i64 x4]] W _
  go_enter Tryd.func94, Tryd.ntmps94
  go_wp2_with fail
  go_ret
  exact ⟨rfl, below_alloc _ _⟩
theorem keyFn_any (x : Fn) (l : FnLay) (W : World) : Calls Tryd.prog 103 #[x.ag l] W fun e w' => e = .returned (.string x.name_) ∧ Below W.heap.size W w' := by
  obtain ⟨x0, x1, x2, x3⟩ := x
  obtain ⟨A1, n1, c1, h1, A2, n2, c2, h2⟩ := l
  show Calls Tryd.prog 103 #[.agg #[.string x0, .slice A1 n1 c1, .slice A2 n2 c2, .string x3]] W _
  go_enter Tryd.func103, Tryd.ntmps103
  go_wp2_with fail
  go_ret
  exact ⟨rfl, below_alloc _ _⟩
theorem keyRt_any (x : Rt) (l : RtLay) (W : World) : Calls Tryd.prog 112 #[x.ag l] W fun e w' => e = .returned (.string x.name_) ∧ Below W.heap.size W w' := by
  obtain ⟨x0, x1⟩ := x
  obtain ⟨A1, n1, c1, h1⟩ := l
  show Calls Tryd.prog 112 #[.agg #[.string x0, .slice A1 n1 c1]] W _
  go_enter Tryd.func112, Tryd.ntmps112
  go_wp2_with fail
  go_ret
  exact ⟨rfl, below_alloc _ _⟩

set_option maxHeartbeats 2000000 in
set_option maxRecDepth 100000 in
theorem elemBd_any (x : Bd) (W : World) (hm0 : x.name_.size ≤ maxLen) (hm3 : x.text_.size ≤ maxLen) (hT : Classes W) :
    Calls Tryd.prog 93 #[x.ag] W fun e w' => e = .returned (.bool (bdOk x)) ∧ Below W.heap.size W w' := by
  obtain ⟨x0, x1, x2, x3, x4⟩ := x
  show Calls Tryd.prog 93 #[.agg #[.string x0, .int .i64 x1, .int .i64 x2, .string x3, .int .i64 x4]] W _
  dsimp only at hm0 hm3
  have HC := Lib.hid (one_newS W 63 #[.string x0, .int .i64 x1, .int .i64 x2, .string x3, .int .i64 x4])
  have HT := Lib.hid (fun (w : World) (hb : Below W.heap.size W w) => classes_up hT hb)
  have HM0 := Lib.hid hm0
  have HM3 := Lib.hid hm3
  clear hm0 hm3 hT
  unfold bdOk
  dsimp only
  obtain ⟨z0, hz0⟩ : ∃ z, isNameB x0 = z := ⟨_, rfl⟩
  obtain ⟨z1, hz1⟩ : ∃ z, validV x1 x2 x3 x4 = z := ⟨_, rfl⟩
  obtain ⟨z2, hz2⟩ : ∃ z, isNullV x1 x2 x3 x4 = z := ⟨_, rfl⟩
  rw [hz0, hz1, hz2]
  have HZ0 := Lib.hid hz0
  have HZ1 := Lib.hid hz1
  have HZ2 := Lib.hid hz2
  clear hz0 hz1 hz2
  cases z0
  · go_enter Tryd.func93, Tryd.ntmps93
    go_wp2_with (go_at_call 31; obtain ⟨g0, g1, g2⟩ := HC.out _ rfl; refine (impl_IsName_any x0 _ HM0.out (HT.out _ g1)).mono ?_; rintro e w1 ⟨rfl, hb⟩; rw [HZ0.out]; have HB1 := Lib.hid (g1.trans (hb.mono g1.size)); clear g0 g1 g2 hb)
    go_ret
    exact ⟨rfl, HB1.out⟩
  cases z1
  · go_enter Tryd.func93, Tryd.ntmps93
    go_wp2_with (first | (go_at_call 31; obtain ⟨g0, g1, g2⟩ := HC.out _ rfl; refine (impl_IsName_any x0 _ HM0.out (HT.out _ g1)).mono ?_; rintro e w1 ⟨rfl, hb⟩; rw [HZ0.out]; have HB1 := Lib.hid (g1.trans (hb.mono g1.size)); have HA1 := Lib.hid (g0.below hb g2); have q1 : w1.cell? ⟨W.heap.size, 1, none⟩ = some (.int .i64 x1) := HA1.out.cell 1; have q2 : w1.cell? ⟨W.heap.size, 2, none⟩ = some (.int .i64 x2) := HA1.out.cell 2; have q3 : w1.cell? ⟨W.heap.size, 3, none⟩ = some (.string x3) := HA1.out.cell 3; have q4 : w1.cell? ⟨W.heap.size, 4, none⟩ = some (.int .i64 x4) := HA1.out.cell 4; clear g0 g1 g2 hb) | (go_at_call 95; refine (impl_ValidValue_any x1 x2 x3 x4 w1 HM3.out (HT.out _ HB1.out)).mono ?_; rintro e w2 ⟨rfl, hb⟩; rw [HZ1.out]; have HB2 := Lib.hid (HB1.out.trans (hb.mono HB1.out.size)); have HA2 := Lib.hid (HA1.out.below hb HA1.out.lt); have p1 : w2.cell? ⟨W.heap.size, 1, none⟩ = some (.int .i64 x1) := HA2.out.cell 1; have p2 : w2.cell? ⟨W.heap.size, 2, none⟩ = some (.int .i64 x2) := HA2.out.cell 2; have p3 : w2.cell? ⟨W.heap.size, 3, none⟩ = some (.string x3) := HA2.out.cell 3; have p4 : w2.cell? ⟨W.heap.size, 4, none⟩ = some (.int .i64 x4) := HA2.out.cell 4; clear hb q1 q2 q3 q4))
    go_ret
    exact ⟨rfl, HB2.out⟩
  cases z2
  all_goals
    go_enter Tryd.func93, Tryd.ntmps93
    go_wp2_with (first | (go_at_call 31; obtain ⟨g0, g1, g2⟩ := HC.out _ rfl; refine (impl_IsName_any x0 _ HM0.out (HT.out _ g1)).mono ?_; rintro e w1 ⟨rfl, hb⟩; rw [HZ0.out]; have HB1 := Lib.hid (g1.trans (hb.mono g1.size)); have HA1 := Lib.hid (g0.below hb g2); have q1 : w1.cell? ⟨W.heap.size, 1, none⟩ = some (.int .i64 x1) := HA1.out.cell 1; have q2 : w1.cell? ⟨W.heap.size, 2, none⟩ = some (.int .i64 x2) := HA1.out.cell 2; have q3 : w1.cell? ⟨W.heap.size, 3, none⟩ = some (.string x3) := HA1.out.cell 3; have q4 : w1.cell? ⟨W.heap.size, 4, none⟩ = some (.int .i64 x4) := HA1.out.cell 4; clear g0 g1 g2 hb) | (go_at_call 95; refine (impl_ValidValue_any x1 x2 x3 x4 w1 HM3.out (HT.out _ HB1.out)).mono ?_; rintro e w2 ⟨rfl, hb⟩; rw [HZ1.out]; have HB2 := Lib.hid (HB1.out.trans (hb.mono HB1.out.size)); have HA2 := Lib.hid (HA1.out.below hb HA1.out.lt); have p1 : w2.cell? ⟨W.heap.size, 1, none⟩ = some (.int .i64 x1) := HA2.out.cell 1; have p2 : w2.cell? ⟨W.heap.size, 2, none⟩ = some (.int .i64 x2) := HA2.out.cell 2; have p3 : w2.cell? ⟨W.heap.size, 3, none⟩ = some (.string x3) := HA2.out.cell 3; have p4 : w2.cell? ⟨W.heap.size, 4, none⟩ = some (.int .i64 x4) := HA2.out.cell 4; clear hb q1 q2 q3 q4) | (go_at_call 96; refine (impl_IsNull_any x1 x2 x3 x4 w2).mono ?_; rintro e w3 ⟨rfl, hb⟩; rw [HZ2.out]; have HB3 := Lib.hid (HB2.out.trans (hb.mono HB2.out.size)); clear hb p1 p2 p3 p4))
    go_ret
    exact ⟨rfl, HB3.out⟩
end Go.Proofs.YtnedihiagaepjaaDoor
