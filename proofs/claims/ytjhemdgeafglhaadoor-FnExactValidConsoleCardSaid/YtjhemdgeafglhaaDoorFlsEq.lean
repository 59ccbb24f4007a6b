/- laws.eqFile, laws.eqFileS where both are the same. No condition. -/
import Derived.Test.YtjhemdgeafglhaaDoorFlsTo
namespace Go.Proofs.YtjhemdgeafglhaaDoor
open Go Go.RowKit

set_option maxHeartbeats 1000000 in
set_option maxRecDepth 100000 in
theorem eqFile_same (x : Fl) (l l' : FlLay) (W : World) (ho : FlV W W.heap.size x l) (ho' : FlV W W.heap.size x l') :
    Calls Tryd.prog 69 #[x.ag l, x.ag l'] W fun e w' => e = .returned (.bool true) ∧ Below W.heap.size W w' := by
  obtain ⟨x0, x1, x2, x3⟩ := x
  obtain ⟨A1, n1, c1, h1⟩ := l
  obtain ⟨A1', n1', c1', h1'⟩ := l'
  obtain ⟨k1, k0⟩ := ho
  obtain ⟨j1, j0⟩ := ho'
  try unfold FlV at k1 j1 k0 j0
  dsimp only at k1 j1 k0 j0
  obtain rfl : n1 = n1' := k1.1.symm.trans j1.1
  have HK1 := Lib.hid k1
  have HJ1 := Lib.hid j1
  clear k1 j1 k0 j0
  have HC := Lib.hid (two_new W 89 #[.string x0, .slice A1 n1 c1, .int .i64 x2, .int .i64 x3] #[.string x0, .slice A1' n1 c1', .int .i64 x2, .int .i64 x3])
  show Calls Tryd.prog 69 #[.agg #[.string x0, .slice A1 n1 c1, .int .i64 x2, .int .i64 x3], .agg #[.string x0, .slice A1' n1 c1', .int .i64 x2, .int .i64 x3]] W _
  go_enter Tryd.func69, Tryd.ntmps69
  go_wp2_with (go_at_call 42; obtain ⟨g0, g1, g2, g3⟩ := HC.out _ rfl; have HQ := eqStringS_same A1 A1' n1 c1 c1' x1 _ (HK1.out.go g2) (HJ1.out.go g2); refine Calls.mono HQ ?_; clear HQ; rintro e w1 ⟨rfl, hb⟩; have HA1 := Lib.hid (g0.below hb (by omega)); have HD1 := Lib.hid (g1.below hb (by omega)); have HB1 := Lib.hid (g2.trans (hb.mono g2.size)); have HG1 : Hid (W.heap.size + 2 ≤ w1.heap.size) := (by have := hb.size; show _ ≤ _; omega); have q12 : w1.cell? ⟨W.heap.size, 2, none⟩ = some (.int .i64 x2) := HA1.out.cell 2; have p12 : w1.cell? ⟨W.heap.size + 1, 2, none⟩ = some (.int .i64 x2) := HD1.out.cell 2; have q13 : w1.cell? ⟨W.heap.size, 3, none⟩ = some (.int .i64 x3) := HA1.out.cell 3; have p13 : w1.cell? ⟨W.heap.size + 1, 3, none⟩ = some (.int .i64 x3) := HD1.out.cell 3; clear g0 g1 g2 g3 hb HK1)
  all_goals go_ret
  all_goals exact ⟨rfl, HB1.out⟩

/-- Two in two blocks, and their lists. -/
def TwoFl (wr : World) (b b' p p' : Nat) (x y : Fl) (l l' : FlLay) (w : World) : Prop := FlAt w b p x l ∧ FlAt w b' p' y l' ∧ FlV w w.heap.size x l ∧ FlV w w.heap.size y l' ∧ Below wr.heap.size wr w ∧ b < w.heap.size ∧ b' < w.heap.size
theorem TwoFl.grow {wr w w' : World} {b b' p p' : Nat} {x y : Fl} {l l' : FlLay} (h : TwoFl wr b b' p p' x y l l' w) (hb : Below w.heap.size w w') : TwoFl wr b b' p p' x y l l' w' :=
  ⟨h.1.below hb h.2.2.2.2.2.1, h.2.1.below hb h.2.2.2.2.2.2, (h.2.2.1.below hb).more hb.size, (h.2.2.2.1.below hb).more hb.size, h.2.2.2.2.1.trans (hb.mono h.2.2.2.2.1.size), Nat.lt_of_lt_of_le h.2.2.2.2.2.1 hb.size, Nat.lt_of_lt_of_le h.2.2.2.2.2.2 hb.size⟩
/-- .. cell by cell, as the walk of a region asks it. -/
abbrev FlatFl (wr : World) (b b' p p' : Nat) (x y : Fl) (l l' : FlLay) (w : World) : Prop := (w.cell? ⟨b, p, none⟩ = some (.string x.name_) ∧ w.cell? ⟨b, p + 1, none⟩ = some (.slice l.A1 l.n1 l.c1) ∧ w.cell? ⟨b, p + 2, none⟩ = some (.int .i64 x.mode_) ∧ w.cell? ⟨b, p + 3, none⟩ = some (.int .i64 x.at_)) ∧ (w.cell? ⟨b', p', none⟩ = some (.string y.name_) ∧ w.cell? ⟨b', p' + 1, none⟩ = some (.slice l'.A1 l'.n1 l'.c1) ∧ w.cell? ⟨b', p' + 2, none⟩ = some (.int .i64 y.mode_) ∧ w.cell? ⟨b', p' + 3, none⟩ = some (.int .i64 y.at_)) ∧ TwoFl wr b b' p p' x y l l' w
theorem TwoFl.flat {wr w : World} {b b' p p' : Nat} {x y : Fl} {l l' : FlLay} (h : TwoFl wr b b' p p' x y l l' w) : FlatFl wr b b' p p' x y l l' w := ⟨h.1, h.2.1, h⟩
theorem TwoFl.drew {wr : World} {b b' p p' : Nat} {x y : Fl} {l l' : FlLay} (h : TwoFl wr b b' p p' x y l l' wr) : TwoFl wr b b' p p' x y l l' wr.drew := h.grow (Below.refl _ _).drew

set_option maxHeartbeats 1000000 in
set_option maxRecDepth 100000 in
theorem eqFileS_same (A A' : Option Addr) (n c c' : Nat) (xs : List Fl) (W : World) (ha : FlI W W.heap.size A n xs) (hb : FlI W W.heap.size A' n xs) :
    Calls Tryd.prog 43 #[.slice A n c, .slice A' n c'] W fun e w' => e = .returned (.bool true) ∧ Below W.heap.size W w' := by
  have HA := Lib.hid ha
  have HB := Lib.hid hb
  have hn := ha.2.1
  unfold maxLen at hn
  clear ha hb
  go_enter Tryd.func43, Tryd.ntmps43
  go_wp2
  go_loopw [5] (fun i wr => ∃ k : Nat, k ≤ n ∧ i = .int .i64 k ∧ Hid (Below W.heap.size W wr)) (fun i _ => n - (intOf i).toNat)
  case atStart => exact ⟨0, Nat.zero_le _, rfl, Below.refl _ _⟩
  case round =>
    obtain ⟨k, hk, rfl, HW⟩ := hrel
    by_cases hlt : k < n
    · obtain ⟨b, off, x, l, rfl, hg, hx, h1, hv1⟩ := (HA.out.go HW.out).at_ hlt
      obtain ⟨b', off', x', l', rfl, hg', hx', h2, hv2⟩ := (HB.out.go HW.out).at_ hlt
      obtain rfl : x = x' := Option.some.inj (hx.symm.trans hx')
      have H0 := Lib.hid (show TwoFl wr b b' (off + k * 4) (off' + k * 4) x x l l' wr from ⟨h1, h2, hv1, hv2, Below.refl _ _, hg, hg'⟩)
      have b0 : (0 : Int) ≤ (k : Int) := by omega
      have b1 : (k : Int) < (n : Int) := by omega
      clear h1 h2 hv1 hv2 hx hx' hg hg'
      go_wp2_with fail
      go_region_held3 (fun w' => FlatFl wr b b' (off + k * 4) (off' + k * 4) x x l l' w')
        (first | exact H0.out.drew.flat | exact (TwoFl.grow H0.out.drew hb).flat | go_keep)
        ((go_at_call 69; have HS := H0.out.drew; have HQ := eqFile_same x l l' _ HS.2.2.1 HS.2.2.2.1; refine Calls.mono HQ ?_; clear HQ; rintro e w1 ⟨rfl, hb⟩))
      go_wp2_with fail
      go_split_ands
      have h2 : TwoFl wr b b' (off + k * 4) (off' + k * 4) x x l l' _ := ‹_›
      go_roundw
      case rel => exact ⟨k + 1, by omega, by go_num, HW.out.trans (h2.2.2.2.2.1.mono HW.out.size)⟩
      case measure => simp [intOf]; omega
    · go_wp2_with fail
      go_ret
      exact ⟨rfl, HW.out⟩
end Go.Proofs.YtjhemdgeafglhaaDoor
