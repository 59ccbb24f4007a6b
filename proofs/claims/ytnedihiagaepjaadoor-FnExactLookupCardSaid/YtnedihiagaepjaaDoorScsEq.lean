/- laws.eqScope, laws.eqScopeS where both are the same. No condition. -/
import Derived.Test.YtnedihiagaepjaaDoorScsTo
namespace Go.Proofs.YtnedihiagaepjaaDoor
open Go Go.RowKit

set_option maxHeartbeats 1000000 in
set_option maxRecDepth 100000 in
theorem eqScope_same (x : Sc) (l l' : ScLay) (W : World) (ho : ScV W W.heap.size x l) (ho' : ScV W W.heap.size x l') :
    Calls Tryd.prog 10 #[x.ag l, x.ag l'] W fun e w' => e = .returned (.bool true) ∧ Below W.heap.size W w' := by
  obtain ⟨x0, x1, x2⟩ := x
  obtain ⟨A0, n0, c0, h0, A1, n1, c1, h1, A2, n2, c2, h2⟩ := l
  obtain ⟨A0', n0', c0', h0', A1', n1', c1', h1', A2', n2', c2', h2'⟩ := l'
  obtain ⟨k0, k1, k2⟩ := ho
  obtain ⟨j0, j1, j2⟩ := ho'
  try unfold ScV at k0 j0 k1 j1 k2 j2
  dsimp only at k0 j0 k1 j1 k2 j2
  obtain rfl : n0 = n0' := k0.1.symm.trans j0.1
  have HK0 := Lib.hid k0
  have HJ0 := Lib.hid j0
  obtain rfl : n1 = n1' := k1.1.symm.trans j1.1
  have HK1 := Lib.hid k1
  have HJ1 := Lib.hid j1
  obtain rfl : n2 = n2' := k2.1.symm.trans j2.1
  have HK2 := Lib.hid k2
  have HJ2 := Lib.hid j2
  clear k0 j0 k1 j1 k2 j2
  have HC := Lib.hid (two_new W 36 #[.slice A0 n0 c0, .slice A1 n1 c1, .slice A2 n2 c2] #[.slice A0' n0 c0', .slice A1' n1 c1', .slice A2' n2 c2'])
  show Calls Tryd.prog 10 #[.agg #[.slice A0 n0 c0, .slice A1 n1 c1, .slice A2 n2 c2], .agg #[.slice A0' n0 c0', .slice A1' n1 c1', .slice A2' n2 c2']] W _
  go_enter Tryd.func10, Tryd.ntmps10
  go_wp2_with (go_at_call 15; obtain ⟨g0, g1, g2, g3⟩ := HC.out _ rfl; have HQ := eqBindingS_same A0 A0' n0 c0 c0' x0 _ (HK0.out.go g2) (HJ0.out.go g2); refine Calls.mono HQ ?_; clear HQ; rintro e w1 ⟨rfl, hb⟩; have HA1 := Lib.hid (g0.below hb (by omega)); have HD1 := Lib.hid (g1.below hb (by omega)); have HB1 := Lib.hid (g2.trans (hb.mono g2.size)); have HG1 : Hid (W.heap.size + 2 ≤ w1.heap.size) := (by have := hb.size; show _ ≤ _; omega); have q11 : w1.cell? ⟨W.heap.size, 1, none⟩ = some (.slice A1 n1 c1) := HA1.out.cell 1; have p11 : w1.cell? ⟨W.heap.size + 1, 1, none⟩ = some (.slice A1' n1 c1') := HD1.out.cell 1; clear g0 g1 g2 g3 hb HK0)
  go_wp2_with (go_at_call 33; have HQ := eqFunctionS_same A1 A1' n1 c1 c1' x1 _ (HK1.out.go HB1.out) (HJ1.out.go HB1.out); refine Calls.mono HQ ?_; clear HQ; rintro e w2 ⟨rfl, hb⟩; have hg := HG1.out; have HA2 := Lib.hid (HA1.out.below hb (by omega)); have HD2 := Lib.hid (HD1.out.below hb (by omega)); have HB2 := Lib.hid (HB1.out.trans (hb.mono HB1.out.size)); have HG2 : Hid (W.heap.size + 2 ≤ w2.heap.size) := (Nat.le_trans hg hb.size); have q22 : w2.cell? ⟨W.heap.size, 2, none⟩ = some (.slice A2 n2 c2) := HA2.out.cell 2; have p22 : w2.cell? ⟨W.heap.size + 1, 2, none⟩ = some (.slice A2' n2 c2') := HD2.out.cell 2; clear hg hb HK1)
  go_wp2_with (go_at_call 34; have HQ := eqRecordTypeS_same A2 A2' n2 c2 c2' x2 _ (HK2.out.go HB2.out) (HJ2.out.go HB2.out); refine Calls.mono HQ ?_; clear HQ; rintro e w3 ⟨rfl, hb⟩; have hg := HG2.out; have HA3 := Lib.hid (HA2.out.below hb (by omega)); have HD3 := Lib.hid (HD2.out.below hb (by omega)); have HB3 := Lib.hid (HB2.out.trans (hb.mono HB2.out.size)); have HG3 : Hid (W.heap.size + 2 ≤ w3.heap.size) := (Nat.le_trans hg hb.size); clear hg hb HK2)
  all_goals go_ret
  all_goals exact ⟨rfl, HB3.out⟩

/-- Two in two blocks, and their lists. -/
def TwoSc (wr : World) (b b' p p' : Nat) (x y : Sc) (l l' : ScLay) (w : World) : Prop := ScAt w b p x l ∧ ScAt w b' p' y l' ∧ ScV w w.heap.size x l ∧ ScV w w.heap.size y l' ∧ Below wr.heap.size wr w ∧ b < w.heap.size ∧ b' < w.heap.size
theorem TwoSc.grow {wr w w' : World} {b b' p p' : Nat} {x y : Sc} {l l' : ScLay} (h : TwoSc wr b b' p p' x y l l' w) (hb : Below w.heap.size w w') : TwoSc wr b b' p p' x y l l' w' :=
  ⟨h.1.below hb h.2.2.2.2.2.1, h.2.1.below hb h.2.2.2.2.2.2, (h.2.2.1.below hb).more hb.size, (h.2.2.2.1.below hb).more hb.size, h.2.2.2.2.1.trans (hb.mono h.2.2.2.2.1.size), Nat.lt_of_lt_of_le h.2.2.2.2.2.1 hb.size, Nat.lt_of_lt_of_le h.2.2.2.2.2.2 hb.size⟩
/-- .. cell by cell, as the walk of a region asks it. -/
abbrev FlatSc (wr : World) (b b' p p' : Nat) (x y : Sc) (l l' : ScLay) (w : World) : Prop := (w.cell? ⟨b, p, none⟩ = some (.slice l.A0 l.n0 l.c0) ∧ w.cell? ⟨b, p + 1, none⟩ = some (.slice l.A1 l.n1 l.c1) ∧ w.cell? ⟨b, p + 2, none⟩ = some (.slice l.A2 l.n2 l.c2)) ∧ (w.cell? ⟨b', p', none⟩ = some (.slice l'.A0 l'.n0 l'.c0) ∧ w.cell? ⟨b', p' + 1, none⟩ = some (.slice l'.A1 l'.n1 l'.c1) ∧ w.cell? ⟨b', p' + 2, none⟩ = some (.slice l'.A2 l'.n2 l'.c2)) ∧ TwoSc wr b b' p p' x y l l' w
theorem TwoSc.flat {wr w : World} {b b' p p' : Nat} {x y : Sc} {l l' : ScLay} (h : TwoSc wr b b' p p' x y l l' w) : FlatSc wr b b' p p' x y l l' w := ⟨h.1, h.2.1, h⟩
theorem TwoSc.drew {wr : World} {b b' p p' : Nat} {x y : Sc} {l l' : ScLay} (h : TwoSc wr b b' p p' x y l l' wr) : TwoSc wr b b' p p' x y l l' wr.drew := h.grow (Below.refl _ _).drew

end Go.Proofs.YtnedihiagaepjaaDoor
