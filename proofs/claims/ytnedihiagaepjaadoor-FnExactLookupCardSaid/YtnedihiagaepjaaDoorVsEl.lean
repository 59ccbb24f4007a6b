/- Contracts: the model's l18Type, l18Function. No condition. -/
import Derived.Test.YtnedihiagaepjaaDoorElemI
import Derived.Test.YtnedihiagaepjaaDoorIn
import Derived.Deep.RegionHeld3
namespace Go.Proofs.YtnedihiagaepjaaDoor
open Go Go.RowKit

set_option maxHeartbeats 2000000 in
set_option maxRecDepth 100000 in
theorem l18Type_any (x : Rt) (l : RtLay) (W : World) (hv : RtV W W.heap.size x l) :
    Calls Tryd.prog 47 #[x.ag l] W fun e w' => e = .returned (.bool (rtOk x)) ∧ Below W.heap.size W w' := by
  obtain ⟨x0, x1⟩ := x
  obtain ⟨A1, n1, c1, h1⟩ := l
  obtain ⟨hx, hm0⟩ := hv
  dsimp only at hx hm0
  show Calls Tryd.prog 47 #[.agg #[.string x0, .slice A1 n1 c1]] W _
  have HC := Lib.hid (one_newS W 83 #[.string x0, .slice A1 n1 c1])
  have HM0 := Lib.hid hm0
  have HX := Lib.hid hx
  have hnn1 := hx.2.1
  unfold maxLen at hnn1
  have hnw : IntKind.i64.wrap (n1 : Int) = n1 := by rw [IntKind.wrap_i64]; omega
  unfold rtOk
  dsimp only
  obtain ⟨z0, hz0⟩ : ∃ z, isNameB x0 = z := ⟨_, rfl⟩
  obtain ⟨z1, hz1⟩ : ∃ z, decide (1 ≤ x1.length ∧ x1.length ≤ 6) = z := ⟨_, rfl⟩
  obtain ⟨z2, hz2⟩ : ∃ z, tt (OkNames x1) = z := ⟨_, rfl⟩
  have HZ1 : Hid (decide ((1 : Int) ≤ (n1 : Int) ∧ (n1 : Int) ≤ 6) = z1) := by
    show _ = _
    rw [← hz1, hx.1]
    exact decide_eq_decide.2 ⟨fun h => ⟨by omega, by omega⟩, fun h => ⟨by omega, by omega⟩⟩
  rw [hz0, hz1, hz2]
  have HZ0 := Lib.hid hz0
  have HZ2 := Lib.hid hz2
  clear hz0 hz1 hz2 hx hm0
  cases z0
  · go_enter Tryd.func47, Tryd.ntmps47
    go_wp2_with (go_at_call 25; obtain ⟨g0, g1, g2⟩ := HC.out _ rfl; refine (spec_IsName_any x0 _ HM0.out).mono ?_; rintro e w1 ⟨rfl, rfl⟩; rw [HZ0.out]; clear g0 g1 g2)
    go_ret
    exact ⟨rfl, below_alloc _ _⟩
  cases z1
  · go_enter Tryd.func47, Tryd.ntmps47
    go_wp2_with (first | (go_at_call 25; obtain ⟨g0, g1, g2⟩ := HC.out _ rfl; refine (spec_IsName_any x0 _ HM0.out).mono ?_; rintro e w1 ⟨rfl, rfl⟩; rw [HZ0.out]; clear g0 g1 g2) | (go_at_call 67; refine (l00In_any n1 1 6 _).mono ?_; rintro e w2 ⟨rfl, rfl⟩; rw [HZ1.out]))
    go_ret
    exact ⟨rfl, below_alloc _ _⟩
  cases z2
  all_goals
    go_enter Tryd.func47, Tryd.ntmps47
    go_wp2_with (first | (go_at_call 25; obtain ⟨g0, g1, g2⟩ := HC.out _ rfl; refine (spec_IsName_any x0 _ HM0.out).mono ?_; rintro e w1 ⟨rfl, rfl⟩; rw [HZ0.out]; clear g0 g1 g2) | (go_at_call 67; refine (l00In_any n1 1 6 _).mono ?_; rintro e w2 ⟨rfl, rfl⟩; rw [HZ1.out]) | (go_at_call 68; refine (l18Names_any A1 n1 c1 x1 _ (HX.out.alloc _)).mono ?_; rintro e w3 ⟨rfl, hb⟩; rw [HZ2.out]; have HB3 : Hid (Below W.heap.size W w3) := (below_alloc _ _).trans (hb.mono (by simp)); clear hb))
    go_ret
    exact ⟨rfl, HB3.out⟩

theorem SXY (xs ys : List St) (h : ∀ (j : Nat) (x : St), xs[j]? = some x → ByteArray.size x ≤ maxLen) (h' : ∀ (j : Nat) (x : St), ys[j]? = some x → ByteArray.size x ≤ maxLen) : ∀ (j : Nat) (x : St), (xs ++ ys)[j]? = some x → ByteArray.size x ≤ maxLen := by
  intro j x hx
  rcases Nat.lt_or_ge j xs.length with q | q
  · rw [List.getElem?_append_left q] at hx; exact h j x hx
  · rw [List.getElem?_append_right q] at hx; exact h' _ x hx
theorem ownNew (W : World) : (W.alloc (.cells #[] 9)).ownsRow W.heap.size 9 1 (.slice (some ⟨W.heap.size, 0, none⟩) 0 0) 0 [] := World.ownsRow_lit W #[] 0 (Nat.le_refl _) (Nat.zero_le _) rfl

set_option maxHeartbeats 4000000 in
set_option maxRecDepth 100000 in
theorem l18Function_any (x : Fn) (l : FnLay) (W : World) (hv : FnV W W.heap.size x l) :
    Calls Tryd.prog 46 #[x.ag l] W fun e w' => e = .returned (.bool (fnOk x)) ∧ Below W.heap.size W w' := by
  obtain ⟨i0, hi0, hz0', hz1', hz2'⟩ := stInfo
  obtain ⟨x0, x1, x2, x3⟩ := x
  obtain ⟨A1, n1, c1, h1, A2, n2, c2, h2⟩ := l
  obtain ⟨hx1, hx2, hm0, hm3⟩ := hv
  dsimp only at hx1 hx2 hm0 hm3
  show Calls Tryd.prog 46 #[.agg #[.string x0, .slice A1 n1 c1, .slice A2 n2 c2, .string x3]] W _
  have HC := Lib.hid (one_newS W 81 #[.string x0, .slice A1 n1 c1, .slice A2 n2 c2, .string x3])
  have HM0 := Lib.hid hm0
  have HM3 := Lib.hid hm3
  have HX1 := Lib.hid hx1
  have HX2 := Lib.hid hx2
  have HL1 := Lib.hid hx1.1
  have HL2 := Lib.hid hx2.1
  have S1 := Lib.hid (stI_sizes hx1)
  have S2 := Lib.hid (stI_sizes hx2)
  have hnn1 := hx1.2.1
  have hnn2 := hx2.2.1
  unfold maxLen at hnn1 hnn2
  unfold fnOk
  dsimp only
  obtain ⟨z0, hz0⟩ : ∃ z, isNameB x0 = z := ⟨_, rfl⟩
  obtain ⟨z3, hz3⟩ : ∃ z, isNameB x3 = z := ⟨_, rfl⟩
  obtain ⟨z1, hz1⟩ : ∃ z, decide (x1.length ≤ 6) = z := ⟨_, rfl⟩
  obtain ⟨z2, hz2⟩ : ∃ z, decide (x2.length ≤ 6) = z := ⟨_, rfl⟩
  obtain ⟨z4, hz4⟩ : ∃ z, tt (OkNames (x1 ++ x2)) = z := ⟨_, rfl⟩
  have d1 : decide ((6 : Int) < (n1 : Int)) = !z1 := by
    rw [← hz1, hx1.1, ← decide_not]
    exact decide_eq_decide.2 ⟨fun h => by omega, fun h => by omega⟩
  have d2 : decide ((6 : Int) < (n2 : Int)) = !z2 := by
    rw [← hz2, hx2.1, ← decide_not]
    exact decide_eq_decide.2 ⟨fun h => by omega, fun h => by omega⟩
  rw [hz0, hz3, hz1, hz2, hz4]
  have HZ0 := Lib.hid hz0
  have HZ3 := Lib.hid hz3
  have HZ4 := Lib.hid hz4
  have tk1 : True := trivial
  have tk2 : True := trivial
  clear hz0 hz3 hz1 hz2 hz4 hx1 hx2 hm0 hm3
  cases z0
  · go_enter Tryd.func46, Tryd.ntmps46
    go_wp2_with (go_at_call 25; have tk := tk1; refine (spec_IsName_any x0 _ HM0.out).mono ?_; rintro e w1 ⟨rfl, rfl⟩; rw [HZ0.out]; clear tk tk1)
    go_ret
    exact ⟨rfl, below_alloc _ _⟩
  cases z3
  · go_enter Tryd.func46, Tryd.ntmps46
    go_wp2_with (first | (go_at_call 25; have tk := tk1; refine (spec_IsName_any x0 _ HM0.out).mono ?_; rintro e w1 ⟨rfl, rfl⟩; rw [HZ0.out]; clear tk tk1) | (go_at_call 25; have tk := tk2; refine (spec_IsName_any x3 _ HM3.out).mono ?_; rintro e w2 ⟨rfl, rfl⟩; rw [HZ3.out]; clear tk tk2))
    go_ret
    exact ⟨rfl, below_alloc _ _⟩
  cases z1
  · have e1 : (6 : Int) < (n1 : Int) := by simpa using d1
    go_enter Tryd.func46, Tryd.ntmps46
    go_wp2_with (first | (go_at_call 25; have tk := tk1; refine (spec_IsName_any x0 _ HM0.out).mono ?_; rintro e w1 ⟨rfl, rfl⟩; rw [HZ0.out]; clear tk tk1) | (go_at_call 25; have tk := tk2; refine (spec_IsName_any x3 _ HM3.out).mono ?_; rintro e w2 ⟨rfl, rfl⟩; rw [HZ3.out]; clear tk tk2))
    go_ret
    exact ⟨rfl, below_alloc _ _⟩
  have e1 : ¬ ((6 : Int) < (n1 : Int)) := by simpa using d1
  cases z2
  · have e2 : (6 : Int) < (n2 : Int) := by simpa using d2
    go_enter Tryd.func46, Tryd.ntmps46
    go_wp2_with (first | (go_at_call 25; have tk := tk1; refine (spec_IsName_any x0 _ HM0.out).mono ?_; rintro e w1 ⟨rfl, rfl⟩; rw [HZ0.out]; clear tk tk1) | (go_at_call 25; have tk := tk2; refine (spec_IsName_any x3 _ HM3.out).mono ?_; rintro e w2 ⟨rfl, rfl⟩; rw [HZ3.out]; clear tk tk2))
    go_ret
    exact ⟨rfl, below_alloc _ _⟩
  have e2 : ¬ ((6 : Int) < (n2 : Int)) := by simpa using d2
  have L1 : n1 ≤ 6 := by omega
  have L2 : n2 ≤ 6 := by omega
  go_enter Tryd.func46, Tryd.ntmps46
  go_wp2_with (first | (go_at_call 25; have tk := tk1; refine (spec_IsName_any x0 _ HM0.out).mono ?_; rintro e w1 ⟨rfl, rfl⟩; rw [HZ0.out]; clear tk tk1) | (go_at_call 25; have tk := tk2; refine (spec_IsName_any x3 _ HM3.out).mono ?_; rintro e w2 ⟨rfl, rfl⟩; rw [HZ3.out]; clear tk tk2))
  obtain ⟨w0, hw0⟩ : ∃ w0, W.alloc (.cells #[.string x0, .slice A1 n1 c1, .slice A2 n2 c2, .string x3] 81) = w0 := ⟨_, rfl⟩
  rw [hw0]
  obtain ⟨g0, g1, g2⟩ := HC.out w0 hw0.symm
  have H0 := Lib.hid (show RW 81 w0.drew W.heap.size #[.string x0, .slice A1 n1 c1, .slice A2 n2 c2, .string x3] ∧ Below W.heap.size W w0.drew ∧ w0.drew.heap.size = W.heap.size + 1 from ⟨g0.below (Below.refl _ _).drew g2, g1.drew, by subst hw0; simp⟩)
  have HS : Hid (w0.heap.size = W.heap.size + 1) := by subst hw0; show _ = _; simp
  clear hw0 g0 g1 g2
  have HN : Hid ((w0.drew.alloc (.cells #[] 9)).ownsRow w0.heap.size 9 1 (.slice (some ⟨w0.heap.size, 0, none⟩) 0 0) 0 []) := ownNew w0.drew
  have HBN : Hid (Below w0.heap.size w0.drew (w0.drew.alloc (.cells #[] 9))) := below_alloc w0.drew _
  have HRB : Hid (∀ w, Below w0.heap.size w0.drew w → w.cell? ⟨W.heap.size, 1, none⟩ = some (.slice A1 n1 c1) ∧ w.cell? ⟨W.heap.size, 2, none⟩ = some (.slice A2 n2 c2)) := by
    show ∀ _, _ → _
    intro w hb
    have hr := H0.out.1.below hb (by have := HS.out; omega)
    exact ⟨hr.cell 1, hr.cell 2⟩
  have HXB1 := Lib.hid (fun w (hb : Below w0.heap.size w0.drew w) => ((HX1.out.go H0.out.2.1).below hb).src)
  have HXB2 := Lib.hid (fun w (hb : Below w0.heap.size w0.drew w) => ((HX2.out.go H0.out.2.1).below hb).src)
  have TKA : True := trivial
  have TKB : True := trivial
  go_region_held3 (fun w => w.cell? ⟨W.heap.size, 1, none⟩ = some (.slice A1 n1 c1) ∧ w.cell? ⟨W.heap.size, 2, none⟩ = some (.slice A2 n2 c2))
    (first | exact HRB.out _ (Below.refl _ _) | exact HRB.out _ HBN.out | exact HRB.out _ HB7.out | exact HRB.out _ HB8.out | exact HRB.out _ HB9.out | go_keep)
    ((first
      | (go_at_call 68; have HQ := l18Names_any A9 (n1 + n2) c9 (x1 ++ x2) w8 HI9.out; refine Calls.mono HQ ?_; clear HQ; rintro e w9 ⟨rfl, hb⟩; rw [HZ4.out]; have HB9 : Hid (Below w0.heap.size w0.drew w9) := HB8.out.trans (hb.mono HB8.out.size); clear hb)
      | (have tk := TKA; refine step_append_src _ (by rfl) _ _ 41 (by rfl) w0.heap.size 9 i0 (.string ⟨#[]⟩) 1 16 Tryd.underlying41 hi0 hz0' hz1' hz2' (by rfl) (by decide) (.slice (some ⟨w0.heap.size, 0, none⟩) 0 0) 0 [] (by rfl) HN.out A1 n1 c1 (valsSt x1) (by rfl) (by rw [valsSt_len, HL1.out]; omega) (HXB1.out _ HBN.out) (valsSt_one _) (by unfold maxLen; omega) (by omega) HBN.out.size ?_; intro v2 w7 hown hgr; rw [Nat.zero_add, List.nil_append] at hown; have HO7 := Lib.hid hown; have HB7 : Hid (Below w0.heap.size w0.drew w7) := HBN.out.grown hgr HBN.out.size (fun b hb => own_ge HN.out b hb); clear hown hgr tk TKA)
      | (have tk := TKB; refine step_append_src _ (by rfl) _ _ 41 (by rfl) w0.heap.size 9 i0 (.string ⟨#[]⟩) 1 16 Tryd.underlying41 hi0 hz0' hz1' hz2' (by rfl) (by decide) v2 n1 (valsSt x1) (by rfl) HO7.out A2 n2 c2 (valsSt x2) (by rfl) (by rw [valsSt_len, HL2.out]; omega) (HXB2.out _ HB7.out) (valsSt_one _) (by unfold maxLen; omega) (by omega) HB7.out.size ?_; intro v3 w8 hown hgr; rw [valsSt_append] at hown; have HB8 : Hid (Below w0.heap.size w0.drew w8) := HB7.out.grown hgr HB7.out.size (fun b hb => own_ge HO7.out b hb); obtain ⟨A9, c9, rfl, _, hi9⟩ := own_StI hown (SXY x1 x2 S1.out S2.out); have HI9 := Lib.hid hi9; clear hown hgr hi9 tk TKB)))
  go_split_ands
  go_wp2_with fail
  go_ret
  exact ⟨rfl, H0.out.2.1.trans (HB9.out.mono (by have := HS.out; omega))⟩
end Go.Proofs.YtnedihiagaepjaaDoor
