/- laws.eqPatternCode, laws.eqPatternCodeS where both are the same. No condition. -/
import Derived.Test.YtpmbalodbjfjbaaPcdTo
namespace Go.Proofs.Ytpmbalodbjfjbaa
open Go Go.RowKit

set_option maxHeartbeats 1000000 in
set_option maxRecDepth 100000 in
theorem eqPatternCode_same (x : Pc) (l l' : PcLay) (W : World) (ho : PcV W W.heap.size x l) (ho' : PcV W W.heap.size x l') :
    Calls Try.prog 11 #[x.ag l, x.ag l'] W fun e w' => e = .returned (.bool true) ∧ Below W.heap.size W w' := by
  obtain ⟨x0, x1⟩ := x
  obtain ⟨A0, n0, c0, h0, A1, n1, c1, h1⟩ := l
  obtain ⟨A0', n0', c0', h0', A1', n1', c1', h1'⟩ := l'
  obtain ⟨k0, k1⟩ := ho
  obtain ⟨j0, j1⟩ := ho'
  try unfold PcV at k0 j0 k1 j1
  dsimp only at k0 j0 k1 j1
  obtain rfl : n0 = n0' := k0.1.symm.trans j0.1
  have HK0 := Lib.hid k0
  have HJ0 := Lib.hid j0
  obtain rfl : n1 = n1' := k1.1.symm.trans j1.1
  have HK1 := Lib.hid k1
  have HJ1 := Lib.hid j1
  clear k0 j0 k1 j1
  have HC := Lib.hid (two_new W 31 #[.slice A0 n0 c0, .slice A1 n1 c1] #[.slice A0' n0 c0', .slice A1' n1 c1'])
  show Calls Try.prog 11 #[.agg #[.slice A0 n0 c0, .slice A1 n1 c1], .agg #[.slice A0' n0 c0', .slice A1' n1 c1']] W _
  go_enter Try.func11, Try.ntmps11
  go_wp2_with (go_at_call 30; obtain ⟨g0, g1, g2, g3⟩ := HC.out _ rfl; have HQ := eqPatternInsS_same A0 A0' n0 c0 c0' x0 _ (HK0.out.go g2) (HJ0.out.go g2); refine Calls.mono HQ ?_; clear HQ; rintro e w1 ⟨rfl, hb⟩; have HA1 := Lib.hid (g0.below hb (by omega)); have HD1 := Lib.hid (g1.below hb (by omega)); have HB1 := Lib.hid (g2.trans (hb.mono g2.size)); have HG1 : Hid (W.heap.size + 2 ≤ w1.heap.size) := (by have := hb.size; show _ ≤ _; omega); have q11 : w1.cell? ⟨W.heap.size, 1, none⟩ = some (.slice A1 n1 c1) := HA1.out.cell 1; have p11 : w1.cell? ⟨W.heap.size + 1, 1, none⟩ = some (.slice A1' n1 c1') := HD1.out.cell 1; clear g0 g1 g2 g3 hb HK0)
  go_wp2_with (go_at_call 31; have HQ := eqPatternEntryS_same A1 A1' n1 c1 c1' x1 _ (HK1.out.go HB1.out) (HJ1.out.go HB1.out); refine Calls.mono HQ ?_; clear HQ; rintro e w2 ⟨rfl, hb⟩; have hg := HG1.out; have HA2 := Lib.hid (HA1.out.below hb (by omega)); have HD2 := Lib.hid (HD1.out.below hb (by omega)); have HB2 := Lib.hid (HB1.out.trans (hb.mono HB1.out.size)); have HG2 : Hid (W.heap.size + 2 ≤ w2.heap.size) := (Nat.le_trans hg hb.size); clear hg hb HK1)
  all_goals go_ret
  all_goals exact ⟨rfl, HB2.out⟩

/-- Two in two blocks, and their lists. -/
def TwoPc (wr : World) (b b' p p' : Nat) (x y : Pc) (l l' : PcLay) (w : World) : Prop := PcAt w b p x l ∧ PcAt w b' p' y l' ∧ PcV w w.heap.size x l ∧ PcV w w.heap.size y l' ∧ Below wr.heap.size wr w ∧ b < w.heap.size ∧ b' < w.heap.size
theorem TwoPc.grow {wr w w' : World} {b b' p p' : Nat} {x y : Pc} {l l' : PcLay} (h : TwoPc wr b b' p p' x y l l' w) (hb : Below w.heap.size w w') : TwoPc wr b b' p p' x y l l' w' :=
  ⟨h.1.below hb h.2.2.2.2.2.1, h.2.1.below hb h.2.2.2.2.2.2, (h.2.2.1.below hb).more hb.size, (h.2.2.2.1.below hb).more hb.size, h.2.2.2.2.1.trans (hb.mono h.2.2.2.2.1.size), Nat.lt_of_lt_of_le h.2.2.2.2.2.1 hb.size, Nat.lt_of_lt_of_le h.2.2.2.2.2.2 hb.size⟩
/-- .. cell by cell, as the walk of a region asks it. -/
abbrev FlatPc (wr : World) (b b' p p' : Nat) (x y : Pc) (l l' : PcLay) (w : World) : Prop := (w.cell? ⟨b, p, none⟩ = some (.slice l.A0 l.n0 l.c0) ∧ w.cell? ⟨b, p + 1, none⟩ = some (.slice l.A1 l.n1 l.c1)) ∧ (w.cell? ⟨b', p', none⟩ = some (.slice l'.A0 l'.n0 l'.c0) ∧ w.cell? ⟨b', p' + 1, none⟩ = some (.slice l'.A1 l'.n1 l'.c1)) ∧ TwoPc wr b b' p p' x y l l' w
theorem TwoPc.flat {wr w : World} {b b' p p' : Nat} {x y : Pc} {l l' : PcLay} (h : TwoPc wr b b' p p' x y l l' w) : FlatPc wr b b' p p' x y l l' w := ⟨h.1, h.2.1, h⟩
theorem TwoPc.drew {wr : World} {b b' p p' : Nat} {x y : Pc} {l l' : PcLay} (h : TwoPc wr b b' p p' x y l l' wr) : TwoPc wr b b' p p' x y l l' wr.drew := h.grow (Below.refl _ _).drew

end Go.Proofs.Ytpmbalodbjfjbaa
