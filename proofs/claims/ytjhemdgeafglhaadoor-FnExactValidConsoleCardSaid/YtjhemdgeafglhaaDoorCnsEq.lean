/- laws.eqConsole, laws.eqConsoleS where both are the same. No condition. -/
import Derived.Test.YtjhemdgeafglhaaDoorCnsTo
namespace Go.Proofs.YtjhemdgeafglhaaDoor
open Go Go.RowKit

set_option maxHeartbeats 1000000 in
set_option maxRecDepth 100000 in
theorem eqConsole_same (x : Cn) (l l' : CnLay) (W : World) (ho : CnV W W.heap.size x l) (ho' : CnV W W.heap.size x l') :
    Calls Tryd.prog 18 #[x.ag l, x.ag l'] W fun e w' => e = .returned (.bool true) ∧ Below W.heap.size W w' := by
  obtain ⟨x0, x1, x2, x3, x4⟩ := x
  obtain ⟨A0, n0, c0, h0, A2, n2, c2, h2, A3, n3, c3, h3, A4, n4, c4, h4⟩ := l
  obtain ⟨A0', n0', c0', h0', A2', n2', c2', h2', A3', n3', c3', h3', A4', n4', c4', h4'⟩ := l'
  obtain ⟨k0, k2, k3, k4⟩ := ho
  obtain ⟨j0, j2, j3, j4⟩ := ho'
  try unfold CnV at k0 j0 k2 j2 k3 j3 k4 j4
  dsimp only at k0 j0 k2 j2 k3 j3 k4 j4
  obtain rfl : n0 = n0' := k0.1.symm.trans j0.1
  have HK0 := Lib.hid k0
  have HJ0 := Lib.hid j0
  obtain rfl : n2 = n2' := k2.1.symm.trans j2.1
  have HK2 := Lib.hid k2
  have HJ2 := Lib.hid j2
  obtain rfl : n3 = n3' := k3.1.symm.trans j3.1
  have HK3 := Lib.hid k3
  have HJ3 := Lib.hid j3
  obtain rfl : n4 = n4' := k4.1.symm.trans j4.1
  have HK4 := Lib.hid k4
  have HJ4 := Lib.hid j4
  clear k0 j0 k2 j2 k3 j3 k4 j4
  have HC := Lib.hid (two_new W 40 #[.slice A0 n0 c0, .int .i64 x1, .slice A2 n2 c2, .slice A3 n3 c3, .slice A4 n4 c4] #[.slice A0' n0 c0', .int .i64 x1, .slice A2' n2 c2', .slice A3' n3 c3', .slice A4' n4 c4'])
  show Calls Tryd.prog 18 #[.agg #[.slice A0 n0 c0, .int .i64 x1, .slice A2 n2 c2, .slice A3 n3 c3, .slice A4 n4 c4], .agg #[.slice A0' n0 c0', .int .i64 x1, .slice A2' n2 c2', .slice A3' n3 c3', .slice A4' n4 c4']] W _
  go_enter Tryd.func18, Tryd.ntmps18
  go_wp2_with (go_at_call 42; obtain ⟨g0, g1, g2, g3⟩ := HC.out _ rfl; have HQ := eqStringS_same A0 A0' n0 c0 c0' x0 _ (HK0.out.go g2) (HJ0.out.go g2); refine Calls.mono HQ ?_; clear HQ; rintro e w1 ⟨rfl, hb⟩; have HA1 := Lib.hid (g0.below hb (by omega)); have HD1 := Lib.hid (g1.below hb (by omega)); have HB1 := Lib.hid (g2.trans (hb.mono g2.size)); have HG1 : Hid (W.heap.size + 2 ≤ w1.heap.size) := (by have := hb.size; show _ ≤ _; omega); have q11 : w1.cell? ⟨W.heap.size, 1, none⟩ = some (.int .i64 x1) := HA1.out.cell 1; have p11 : w1.cell? ⟨W.heap.size + 1, 1, none⟩ = some (.int .i64 x1) := HD1.out.cell 1; have q12 : w1.cell? ⟨W.heap.size, 2, none⟩ = some (.slice A2 n2 c2) := HA1.out.cell 2; have p12 : w1.cell? ⟨W.heap.size + 1, 2, none⟩ = some (.slice A2' n2 c2') := HD1.out.cell 2; clear g0 g1 g2 g3 hb HK0)
  go_wp2_with (go_at_call 42; have HQ := eqStringS_same A2 A2' n2 c2 c2' x2 _ (HK2.out.go HB1.out) (HJ2.out.go HB1.out); refine Calls.mono HQ ?_; clear HQ; rintro e w2 ⟨rfl, hb⟩; have hg := HG1.out; have HA2 := Lib.hid (HA1.out.below hb (by omega)); have HD2 := Lib.hid (HD1.out.below hb (by omega)); have HB2 := Lib.hid (HB1.out.trans (hb.mono HB1.out.size)); have HG2 : Hid (W.heap.size + 2 ≤ w2.heap.size) := (Nat.le_trans hg hb.size); have q23 : w2.cell? ⟨W.heap.size, 3, none⟩ = some (.slice A3 n3 c3) := HA2.out.cell 3; have p23 : w2.cell? ⟨W.heap.size + 1, 3, none⟩ = some (.slice A3' n3 c3') := HD2.out.cell 3; clear hg hb HK2)
  go_wp2_with (go_at_call 43; have HQ := eqFileS_same A3 A3' n3 c3 c3' x3 _ (HK3.out.go HB2.out) (HJ3.out.go HB2.out); refine Calls.mono HQ ?_; clear HQ; rintro e w3 ⟨rfl, hb⟩; have hg := HG2.out; have HA3 := Lib.hid (HA2.out.below hb (by omega)); have HD3 := Lib.hid (HD2.out.below hb (by omega)); have HB3 := Lib.hid (HB2.out.trans (hb.mono HB2.out.size)); have HG3 : Hid (W.heap.size + 2 ≤ w3.heap.size) := (Nat.le_trans hg hb.size); have q34 : w3.cell? ⟨W.heap.size, 4, none⟩ = some (.slice A4 n4 c4) := HA3.out.cell 4; have p34 : w3.cell? ⟨W.heap.size + 1, 4, none⟩ = some (.slice A4' n4 c4') := HD3.out.cell 4; clear hg hb HK3)
  go_wp2_with (go_at_call 42; have HQ := eqStringS_same A4 A4' n4 c4 c4' x4 _ (HK4.out.go HB3.out) (HJ4.out.go HB3.out); refine Calls.mono HQ ?_; clear HQ; rintro e w4 ⟨rfl, hb⟩; have hg := HG3.out; have HA4 := Lib.hid (HA3.out.below hb (by omega)); have HD4 := Lib.hid (HD3.out.below hb (by omega)); have HB4 := Lib.hid (HB3.out.trans (hb.mono HB3.out.size)); have HG4 : Hid (W.heap.size + 2 ≤ w4.heap.size) := (Nat.le_trans hg hb.size); clear hg hb HK4)
  all_goals go_ret
  all_goals exact ⟨rfl, HB4.out⟩

/-- Two in two blocks, and their lists. -/
def TwoCn (wr : World) (b b' p p' : Nat) (x y : Cn) (l l' : CnLay) (w : World) : Prop := CnAt w b p x l ∧ CnAt w b' p' y l' ∧ CnV w w.heap.size x l ∧ CnV w w.heap.size y l' ∧ Below wr.heap.size wr w ∧ b < w.heap.size ∧ b' < w.heap.size
theorem TwoCn.grow {wr w w' : World} {b b' p p' : Nat} {x y : Cn} {l l' : CnLay} (h : TwoCn wr b b' p p' x y l l' w) (hb : Below w.heap.size w w') : TwoCn wr b b' p p' x y l l' w' :=
  ⟨h.1.below hb h.2.2.2.2.2.1, h.2.1.below hb h.2.2.2.2.2.2, (h.2.2.1.below hb).more hb.size, (h.2.2.2.1.below hb).more hb.size, h.2.2.2.2.1.trans (hb.mono h.2.2.2.2.1.size), Nat.lt_of_lt_of_le h.2.2.2.2.2.1 hb.size, Nat.lt_of_lt_of_le h.2.2.2.2.2.2 hb.size⟩
/-- .. cell by cell, as the walk of a region asks it. -/
abbrev FlatCn (wr : World) (b b' p p' : Nat) (x y : Cn) (l l' : CnLay) (w : World) : Prop := (w.cell? ⟨b, p, none⟩ = some (.slice l.A0 l.n0 l.c0) ∧ w.cell? ⟨b, p + 1, none⟩ = some (.int .i64 x.at_) ∧ w.cell? ⟨b, p + 2, none⟩ = some (.slice l.A2 l.n2 l.c2) ∧ w.cell? ⟨b, p + 3, none⟩ = some (.slice l.A3 l.n3 l.c3) ∧ w.cell? ⟨b, p + 4, none⟩ = some (.slice l.A4 l.n4 l.c4)) ∧ (w.cell? ⟨b', p', none⟩ = some (.slice l'.A0 l'.n0 l'.c0) ∧ w.cell? ⟨b', p' + 1, none⟩ = some (.int .i64 y.at_) ∧ w.cell? ⟨b', p' + 2, none⟩ = some (.slice l'.A2 l'.n2 l'.c2) ∧ w.cell? ⟨b', p' + 3, none⟩ = some (.slice l'.A3 l'.n3 l'.c3) ∧ w.cell? ⟨b', p' + 4, none⟩ = some (.slice l'.A4 l'.n4 l'.c4)) ∧ TwoCn wr b b' p p' x y l l' w
theorem TwoCn.flat {wr w : World} {b b' p p' : Nat} {x y : Cn} {l l' : CnLay} (h : TwoCn wr b b' p p' x y l l' w) : FlatCn wr b b' p p' x y l l' w := ⟨h.1, h.2.1, h⟩
theorem TwoCn.drew {wr : World} {b b' p p' : Nat} {x y : Cn} {l l' : CnLay} (h : TwoCn wr b b' p p' x y l l' wr) : TwoCn wr b b' p p' x y l l' wr.drew := h.grow (Below.refl _ _).drew

end Go.Proofs.YtjhemdgeafglhaaDoor
