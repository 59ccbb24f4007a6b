/- Contracts: l21File of the model, isFile of the program. Condition (the program's): the table holds what its text lays. -/
import Derived.Test.YtjhemdgeafglhaaDoorCnLn
import Derived.Test.YtjhemdgeafglhaaDoorFlsEq
import Derived.Test.YtjhemdgeafglhaaDoorValImpl
namespace Go.Proofs.YtjhemdgeafglhaaDoor
open Go Go.RowKit

/-- Whether a file is valid. -/
def fileB (x : Fl) : Bool := isNameB x.name_ && (linesB x.lines_ 40 200 && (decide (0 ≤ x.mode_ ∧ x.mode_ ≤ 3) && (decide (0 ≤ x.at_ ∧ x.at_ ≤ (x.lines_.length : Int)) && ((x.mode_ == 1) || (x.at_ == 0)))))

set_option maxHeartbeats 4000000 in
set_option maxRecDepth 100000 in
theorem l21File_any (x : Fl) (l : FlLay) (W : World) (hx : FlV W W.heap.size x l) :
    Calls Tryd.prog 65 #[x.ag l] W fun e w' => e = .returned (.bool (fileB x)) ∧ Below W.heap.size W w' := by
  unfold fileB
  obtain ⟨x0, x1, x2, x3⟩ := x
  obtain ⟨A1, n1, c1, h1⟩ := l
  obtain ⟨k1, k0⟩ := hx
  dsimp only at k0 k1 ⊢
  have HK1 := Lib.hid k1
  have HS := Lib.hid k0
  have HL := Lib.hid k1.1
  have hn1 := k1.2.1
  unfold maxLen at hn1
  rw [k1.1]
  obtain ⟨a, ha⟩ : ∃ z, isNameB x0 = z := ⟨_, rfl⟩
  obtain ⟨b, hb⟩ : ∃ z, linesB x1 40 200 = z := ⟨_, rfl⟩
  obtain ⟨c, hc⟩ : ∃ z, decide (0 ≤ x2 ∧ x2 ≤ 3) = z := ⟨_, rfl⟩
  have HA := Lib.hid ha
  have HB := Lib.hid hb
  have HC := Lib.hid hc
  obtain ⟨d, hd⟩ : ∃ z, decide (0 ≤ x3 ∧ x3 ≤ (n1 : Int)) = z := ⟨_, rfl⟩
  obtain ⟨u, hu⟩ : ∃ z, (x2 == 1) = z := ⟨_, rfl⟩
  obtain ⟨v, hv⟩ : ∃ z, (x3 == 0) = z := ⟨_, rfl⟩
  have HD := Lib.hid hd
  rw [ha, hb, hc, hd, hu, hv]
  clear k0 k1 ha hb hc hd
  have HO := Lib.hid (fun X (e : X = W.alloc (.cells #[.string x0, .slice A1 n1 c1, .int .i64 x2, .int .i64 x3] 89)) => (one_new1 W 89 #[.string x0, .slice A1 n1 c1, .int .i64 x2, .int .i64 x3] X e).2.1)
  show Calls Tryd.prog 65 #[.agg #[.string x0, .slice A1 n1 c1, .int .i64 x2, .int .i64 x3]] W _
  cases a
  · skip
    have tk1 : True := trivial
    go_enter Tryd.func65, Tryd.ntmps65
    go_wp2_with (first | (go_at_call 26; refine Calls.mono (spec_IsName_any x0 _ HS.out) ?_; rintro e w1 ⟨rfl, rfl⟩; rw [HA.out]))
    go_ret
    exact ⟨rfl, HO.out _ rfl⟩
  cases b
  · skip
    have tk1 : True := trivial
    go_enter Tryd.func65, Tryd.ntmps65
    go_wp2_with (first | (go_at_call 26; refine Calls.mono (spec_IsName_any x0 _ HS.out) ?_; rintro e w1 ⟨rfl, rfl⟩; rw [HA.out]) | (go_at_call 64; refine Calls.mono (l21Lines_any A1 n1 c1 40 200 x1 _ (HK1.out.go (HO.out _ rfl)) (by decide) (by decide)) ?_; rintro e w1 ⟨rfl, rfl⟩; rw [HB.out]))
    go_ret
    exact ⟨rfl, HO.out _ rfl⟩
  cases c
  · skip
    have tk1 : True := trivial
    go_enter Tryd.func65, Tryd.ntmps65
    go_wp2_with (first | (go_at_call 26; refine Calls.mono (spec_IsName_any x0 _ HS.out) ?_; rintro e w1 ⟨rfl, rfl⟩; rw [HA.out]) | (go_at_call 64; refine Calls.mono (l21Lines_any A1 n1 c1 40 200 x1 _ (HK1.out.go (HO.out _ rfl)) (by decide) (by decide)) ?_; rintro e w1 ⟨rfl, rfl⟩; rw [HB.out]) | (go_at_call 29; have tk := tk1; refine Calls.mono (l00In_any x2 0 3 _) ?_; rintro e w1 ⟨rfl, rfl⟩; rw [HC.out]; clear tk tk1))
    go_ret
    exact ⟨rfl, HO.out _ rfl⟩
  cases d <;> cases u <;> cases v
  all_goals
    have tk1 : True := trivial
    go_enter Tryd.func65, Tryd.ntmps65
    go_wp2_with (first | (go_at_call 26; refine Calls.mono (spec_IsName_any x0 _ HS.out) ?_; rintro e w1 ⟨rfl, rfl⟩; rw [HA.out]) | (go_at_call 64; refine Calls.mono (l21Lines_any A1 n1 c1 40 200 x1 _ (HK1.out.go (HO.out _ rfl)) (by decide) (by decide)) ?_; rintro e w1 ⟨rfl, rfl⟩; rw [HB.out]) | (go_at_call 29; have tk := tk1; refine Calls.mono (l00In_any x2 0 3 _) ?_; rintro e w1 ⟨rfl, rfl⟩; rw [HC.out]; clear tk tk1) | (go_at_call 29; refine Calls.mono (l00In_any x3 0 (n1 : Int) _) ?_; rintro e w1 ⟨rfl, rfl⟩; rw [HD.out]))
    go_ret
    exact ⟨rfl, HO.out _ rfl⟩

theorem at_mode (m a : Int) (n : Nat) (p : Int) (h : p = if m = 1 then (n : Int) else 0) : decide (0 ≤ a ∧ a ≤ p) = (decide (0 ≤ a ∧ a ≤ (n : Int)) && ((m == 1) || (a == 0))) := by
  subst h
  rw [Bool.eq_iff_iff]
  simp only [Bool.and_eq_true, Bool.or_eq_true, decide_eq_true_eq, beq_iff_eq]
  split <;> omega

set_option maxHeartbeats 4000000 in
set_option maxRecDepth 100000 in
theorem isFile_any (x : Fl) (l : FlLay) (W : World) (hx : FlV W W.heap.size x l) (hT : Classes W) :
    Calls Tryd.prog 68 #[x.ag l] W fun e w' => e = .returned (.bool (fileB x)) ∧ Below W.heap.size W w' := by
  unfold fileB
  obtain ⟨x0, x1, x2, x3⟩ := x
  obtain ⟨A1, n1, c1, h1⟩ := l
  obtain ⟨k1, k0⟩ := hx
  dsimp only at k0 k1 ⊢
  have HK1 := Lib.hid k1
  have HS := Lib.hid k0
  have hn1 := k1.2.1
  unfold maxLen at hn1
  have HT := Lib.hid hT
  rw [k1.1]
  obtain ⟨a, ha⟩ : ∃ z, isNameB x0 = z := ⟨_, rfl⟩
  obtain ⟨b, hb⟩ : ∃ z, linesB x1 40 200 = z := ⟨_, rfl⟩
  obtain ⟨c, hc⟩ : ∃ z, decide (0 ≤ x2 ∧ x2 ≤ 3) = z := ⟨_, rfl⟩
  have HA := Lib.hid ha
  have HB := Lib.hid hb
  have HC := Lib.hid hc
  obtain ⟨u, hu⟩ : ∃ z, (x2 == 1) = z := ⟨_, rfl⟩
  obtain ⟨p, hp⟩ : ∃ p : Int, p = if x2 = 1 then (n1 : Int) else 0 := ⟨_, rfl⟩
  have hq := at_mode x2 x3 n1 p hp
  rw [ha, hb, hc, ← hq]
  clear hq
  obtain ⟨d, hd⟩ : ∃ z, decide (0 ≤ x3 ∧ x3 ≤ p) = z := ⟨_, rfl⟩
  have HD := Lib.hid hd
  rw [hd]
  clear k0 k1 ha hb hc hd hT
  have HO := Lib.hid (fun X (e : X = W.alloc (.cells #[.string x0, .slice A1 n1 c1, .int .i64 x2, .int .i64 x3] 89)) => one_new1 W 89 #[.string x0, .slice A1 n1 c1, .int .i64 x2, .int .i64 x3] X e)
  show Calls Tryd.prog 68 #[.agg #[.string x0, .slice A1 n1 c1, .int .i64 x2, .int .i64 x3]] W _

  cases u
  · have hpp : p = 0 := by rw [hp]; rw [if_neg (by simpa using hu)]
    rw [hpp] at HD
    clear hpp
    clear hp
    cases a
    · have tk1 : True := trivial
      go_enter Tryd.func68, Tryd.ntmps68
      go_wp2_with (first | (go_at_call 28; obtain ⟨g0, g1, g2⟩ := HO.out _ rfl; refine Calls.mono (impl_IsName_any x0 _ HS.out (classes_go HT.out g1)) ?_; rintro e w1 ⟨rfl, hb⟩; rw [HA.out]; have HW1 : Hid (RW 89 w1 W.heap.size #[.string x0, .slice A1 n1 c1, .int .i64 x2, .int .i64 x3] ∧ Below W.heap.size W w1) := ⟨g0.below hb g0.lt, g1.trans (hb.mono g1.size)⟩; have y11 : w1.cell? ⟨W.heap.size, 1, none⟩ = some (.slice A1 n1 c1) := HW1.out.1.cell 1; clear g0 g1 g2 hb))
      go_ret
      exact ⟨rfl, HW1.out.2⟩
    cases b
    · have tk1 : True := trivial
      go_enter Tryd.func68, Tryd.ntmps68
      go_wp2_with (first | (go_at_call 28; obtain ⟨g0, g1, g2⟩ := HO.out _ rfl; refine Calls.mono (impl_IsName_any x0 _ HS.out (classes_go HT.out g1)) ?_; rintro e w1 ⟨rfl, hb⟩; rw [HA.out]; have HW1 : Hid (RW 89 w1 W.heap.size #[.string x0, .slice A1 n1 c1, .int .i64 x2, .int .i64 x3] ∧ Below W.heap.size W w1) := ⟨g0.below hb g0.lt, g1.trans (hb.mono g1.size)⟩; have y11 : w1.cell? ⟨W.heap.size, 1, none⟩ = some (.slice A1 n1 c1) := HW1.out.1.cell 1; clear g0 g1 g2 hb) | (go_at_call 67; refine Calls.mono (areLines_any A1 n1 c1 40 200 x1 _ (HK1.out.go HW1.out.2) (by decide) (by decide)) ?_; rintro e w2 ⟨rfl, hb⟩; rw [HB.out]; have HW2 : Hid (RW 89 w2 W.heap.size #[.string x0, .slice A1 n1 c1, .int .i64 x2, .int .i64 x3] ∧ Below W.heap.size W w2) := ⟨HW1.out.1.below hb HW1.out.1.lt, HW1.out.2.trans (hb.mono HW1.out.2.size)⟩; have y22 : w2.cell? ⟨W.heap.size, 2, none⟩ = some (.int .i64 x2) := HW2.out.1.cell 2; have y23 : w2.cell? ⟨W.heap.size, 3, none⟩ = some (.int .i64 x3) := HW2.out.1.cell 3; clear hb))
      go_ret
      exact ⟨rfl, HW2.out.2⟩
    cases c
    · have tk1 : True := trivial
      go_enter Tryd.func68, Tryd.ntmps68
      go_wp2_with (first | (go_at_call 28; obtain ⟨g0, g1, g2⟩ := HO.out _ rfl; refine Calls.mono (impl_IsName_any x0 _ HS.out (classes_go HT.out g1)) ?_; rintro e w1 ⟨rfl, hb⟩; rw [HA.out]; have HW1 : Hid (RW 89 w1 W.heap.size #[.string x0, .slice A1 n1 c1, .int .i64 x2, .int .i64 x3] ∧ Below W.heap.size W w1) := ⟨g0.below hb g0.lt, g1.trans (hb.mono g1.size)⟩; have y11 : w1.cell? ⟨W.heap.size, 1, none⟩ = some (.slice A1 n1 c1) := HW1.out.1.cell 1; clear g0 g1 g2 hb) | (go_at_call 67; refine Calls.mono (areLines_any A1 n1 c1 40 200 x1 _ (HK1.out.go HW1.out.2) (by decide) (by decide)) ?_; rintro e w2 ⟨rfl, hb⟩; rw [HB.out]; have HW2 : Hid (RW 89 w2 W.heap.size #[.string x0, .slice A1 n1 c1, .int .i64 x2, .int .i64 x3] ∧ Below W.heap.size W w2) := ⟨HW1.out.1.below hb HW1.out.1.lt, HW1.out.2.trans (hb.mono HW1.out.2.size)⟩; have y22 : w2.cell? ⟨W.heap.size, 2, none⟩ = some (.int .i64 x2) := HW2.out.1.cell 2; have y23 : w2.cell? ⟨W.heap.size, 3, none⟩ = some (.int .i64 x3) := HW2.out.1.cell 3; clear hb) | (go_at_call 32; have tk := tk1; refine Calls.mono (within_i64 x2 0 3 _) ?_; rintro e w3 ⟨rfl, rfl⟩; rw [HC.out]; clear tk tk1))
      go_ret
      exact ⟨rfl, HW2.out.2⟩
    cases d
    all_goals
      have tk1 : True := trivial
      go_enter Tryd.func68, Tryd.ntmps68
      go_wp2_with (first | (go_at_call 28; obtain ⟨g0, g1, g2⟩ := HO.out _ rfl; refine Calls.mono (impl_IsName_any x0 _ HS.out (classes_go HT.out g1)) ?_; rintro e w1 ⟨rfl, hb⟩; rw [HA.out]; have HW1 : Hid (RW 89 w1 W.heap.size #[.string x0, .slice A1 n1 c1, .int .i64 x2, .int .i64 x3] ∧ Below W.heap.size W w1) := ⟨g0.below hb g0.lt, g1.trans (hb.mono g1.size)⟩; have y11 : w1.cell? ⟨W.heap.size, 1, none⟩ = some (.slice A1 n1 c1) := HW1.out.1.cell 1; clear g0 g1 g2 hb) | (go_at_call 67; refine Calls.mono (areLines_any A1 n1 c1 40 200 x1 _ (HK1.out.go HW1.out.2) (by decide) (by decide)) ?_; rintro e w2 ⟨rfl, hb⟩; rw [HB.out]; have HW2 : Hid (RW 89 w2 W.heap.size #[.string x0, .slice A1 n1 c1, .int .i64 x2, .int .i64 x3] ∧ Below W.heap.size W w2) := ⟨HW1.out.1.below hb HW1.out.1.lt, HW1.out.2.trans (hb.mono HW1.out.2.size)⟩; have y22 : w2.cell? ⟨W.heap.size, 2, none⟩ = some (.int .i64 x2) := HW2.out.1.cell 2; have y23 : w2.cell? ⟨W.heap.size, 3, none⟩ = some (.int .i64 x3) := HW2.out.1.cell 3; clear hb) | (go_at_call 32; have tk := tk1; refine Calls.mono (within_i64 x2 0 3 _) ?_; rintro e w3 ⟨rfl, rfl⟩; rw [HC.out]; clear tk tk1) | (go_at_call 32; refine Calls.mono (within_i64 x3 0 0 _) ?_; rintro e w3 ⟨rfl, rfl⟩; rw [HD.out]))
      go_ret
      exact ⟨rfl, HW2.out.2⟩
  
  · have hpp : p = (n1 : Int) := by rw [hp]; rw [if_pos (by simpa using hu)]
    rw [hpp] at HD
    clear hpp
    clear hp
    cases a
    · have tk1 : True := trivial
      go_enter Tryd.func68, Tryd.ntmps68
      go_wp2_with (first | (go_at_call 28; obtain ⟨g0, g1, g2⟩ := HO.out _ rfl; refine Calls.mono (impl_IsName_any x0 _ HS.out (classes_go HT.out g1)) ?_; rintro e w1 ⟨rfl, hb⟩; rw [HA.out]; have HW1 : Hid (RW 89 w1 W.heap.size #[.string x0, .slice A1 n1 c1, .int .i64 x2, .int .i64 x3] ∧ Below W.heap.size W w1) := ⟨g0.below hb g0.lt, g1.trans (hb.mono g1.size)⟩; have y11 : w1.cell? ⟨W.heap.size, 1, none⟩ = some (.slice A1 n1 c1) := HW1.out.1.cell 1; clear g0 g1 g2 hb))
      go_ret
      exact ⟨rfl, HW1.out.2⟩
    cases b
    · have tk1 : True := trivial
      go_enter Tryd.func68, Tryd.ntmps68
      go_wp2_with (first | (go_at_call 28; obtain ⟨g0, g1, g2⟩ := HO.out _ rfl; refine Calls.mono (impl_IsName_any x0 _ HS.out (classes_go HT.out g1)) ?_; rintro e w1 ⟨rfl, hb⟩; rw [HA.out]; have HW1 : Hid (RW 89 w1 W.heap.size #[.string x0, .slice A1 n1 c1, .int .i64 x2, .int .i64 x3] ∧ Below W.heap.size W w1) := ⟨g0.below hb g0.lt, g1.trans (hb.mono g1.size)⟩; have y11 : w1.cell? ⟨W.heap.size, 1, none⟩ = some (.slice A1 n1 c1) := HW1.out.1.cell 1; clear g0 g1 g2 hb) | (go_at_call 67; refine Calls.mono (areLines_any A1 n1 c1 40 200 x1 _ (HK1.out.go HW1.out.2) (by decide) (by decide)) ?_; rintro e w2 ⟨rfl, hb⟩; rw [HB.out]; have HW2 : Hid (RW 89 w2 W.heap.size #[.string x0, .slice A1 n1 c1, .int .i64 x2, .int .i64 x3] ∧ Below W.heap.size W w2) := ⟨HW1.out.1.below hb HW1.out.1.lt, HW1.out.2.trans (hb.mono HW1.out.2.size)⟩; have y22 : w2.cell? ⟨W.heap.size, 2, none⟩ = some (.int .i64 x2) := HW2.out.1.cell 2; have y23 : w2.cell? ⟨W.heap.size, 3, none⟩ = some (.int .i64 x3) := HW2.out.1.cell 3; clear hb))
      go_ret
      exact ⟨rfl, HW2.out.2⟩
    cases c
    · have tk1 : True := trivial
      go_enter Tryd.func68, Tryd.ntmps68
      go_wp2_with (first | (go_at_call 28; obtain ⟨g0, g1, g2⟩ := HO.out _ rfl; refine Calls.mono (impl_IsName_any x0 _ HS.out (classes_go HT.out g1)) ?_; rintro e w1 ⟨rfl, hb⟩; rw [HA.out]; have HW1 : Hid (RW 89 w1 W.heap.size #[.string x0, .slice A1 n1 c1, .int .i64 x2, .int .i64 x3] ∧ Below W.heap.size W w1) := ⟨g0.below hb g0.lt, g1.trans (hb.mono g1.size)⟩; have y11 : w1.cell? ⟨W.heap.size, 1, none⟩ = some (.slice A1 n1 c1) := HW1.out.1.cell 1; clear g0 g1 g2 hb) | (go_at_call 67; refine Calls.mono (areLines_any A1 n1 c1 40 200 x1 _ (HK1.out.go HW1.out.2) (by decide) (by decide)) ?_; rintro e w2 ⟨rfl, hb⟩; rw [HB.out]; have HW2 : Hid (RW 89 w2 W.heap.size #[.string x0, .slice A1 n1 c1, .int .i64 x2, .int .i64 x3] ∧ Below W.heap.size W w2) := ⟨HW1.out.1.below hb HW1.out.1.lt, HW1.out.2.trans (hb.mono HW1.out.2.size)⟩; have y22 : w2.cell? ⟨W.heap.size, 2, none⟩ = some (.int .i64 x2) := HW2.out.1.cell 2; have y23 : w2.cell? ⟨W.heap.size, 3, none⟩ = some (.int .i64 x3) := HW2.out.1.cell 3; clear hb) | (go_at_call 32; have tk := tk1; refine Calls.mono (within_i64 x2 0 3 _) ?_; rintro e w3 ⟨rfl, rfl⟩; rw [HC.out]; clear tk tk1))
      go_ret
      exact ⟨rfl, HW2.out.2⟩
    cases d
    all_goals
      have tk1 : True := trivial
      go_enter Tryd.func68, Tryd.ntmps68
      go_wp2_with (first | (go_at_call 28; obtain ⟨g0, g1, g2⟩ := HO.out _ rfl; refine Calls.mono (impl_IsName_any x0 _ HS.out (classes_go HT.out g1)) ?_; rintro e w1 ⟨rfl, hb⟩; rw [HA.out]; have HW1 : Hid (RW 89 w1 W.heap.size #[.string x0, .slice A1 n1 c1, .int .i64 x2, .int .i64 x3] ∧ Below W.heap.size W w1) := ⟨g0.below hb g0.lt, g1.trans (hb.mono g1.size)⟩; have y11 : w1.cell? ⟨W.heap.size, 1, none⟩ = some (.slice A1 n1 c1) := HW1.out.1.cell 1; clear g0 g1 g2 hb) | (go_at_call 67; refine Calls.mono (areLines_any A1 n1 c1 40 200 x1 _ (HK1.out.go HW1.out.2) (by decide) (by decide)) ?_; rintro e w2 ⟨rfl, hb⟩; rw [HB.out]; have HW2 : Hid (RW 89 w2 W.heap.size #[.string x0, .slice A1 n1 c1, .int .i64 x2, .int .i64 x3] ∧ Below W.heap.size W w2) := ⟨HW1.out.1.below hb HW1.out.1.lt, HW1.out.2.trans (hb.mono HW1.out.2.size)⟩; have y22 : w2.cell? ⟨W.heap.size, 2, none⟩ = some (.int .i64 x2) := HW2.out.1.cell 2; have y23 : w2.cell? ⟨W.heap.size, 3, none⟩ = some (.int .i64 x3) := HW2.out.1.cell 3; clear hb) | (go_at_call 32; have tk := tk1; refine Calls.mono (within_i64 x2 0 3 _) ?_; rintro e w3 ⟨rfl, rfl⟩; rw [HC.out]; clear tk tk1) | (go_at_call 32; refine Calls.mono (within_i64 x3 0 (n1 : Int) _) ?_; rintro e w3 ⟨rfl, rfl⟩; rw [HD.out]))
      go_ret
      exact ⟨rfl, HW2.out.2⟩
end Go.Proofs.YtjhemdgeafglhaaDoor
