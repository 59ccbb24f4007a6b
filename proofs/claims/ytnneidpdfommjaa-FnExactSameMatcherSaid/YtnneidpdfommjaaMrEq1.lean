/- laws.eqMatcher, laws.eqMatcherS where both are the same. No condition. -/
import Derived.Test.YtnneidpdfommjaaMrTo1
namespace Go.Proofs.Ytnneidpdfommjaa
open Go Go.RowKit

set_option maxHeartbeats 1000000 in
set_option maxRecDepth 100000 in
theorem eqMatcher_same (x : Mr) (l l' : MrLay) (W : World) (ho : MrV W W.heap.size x l) (ho' : MrV W W.heap.size x l') :
    Calls Try.prog 8 #[x.ag l, x.ag l'] W fun e w' => e = .returned (.bool true) ∧ Below W.heap.size W w' := by
  obtain ⟨x0, x1, x2, x3, x4, x5, x6, x7, x8, x9, x10, x11, x12, x13, x14⟩ := x
  obtain ⟨A11, n11, c11, h11, A12, n12, c12, h12, A13, n13, c13, h13, A14, n14, c14, h14⟩ := l
  obtain ⟨A11', n11', c11', h11', A12', n12', c12', h12', A13', n13', c13', h13', A14', n14', c14', h14'⟩ := l'
  obtain ⟨k11, k12, k13, k14, k2⟩ := ho
  obtain ⟨j11, j12, j13, j14, j2⟩ := ho'
  try unfold MrV at k11 j11 k12 j12 k13 j13 k14 j14 k2 j2
  dsimp only at k11 j11 k12 j12 k13 j13 k14 j14 k2 j2
  obtain rfl : n11 = n11' := k11.1.symm.trans j11.1
  have HK11 := Lib.hid k11
  have HJ11 := Lib.hid j11
  obtain rfl : n12 = n12' := k12.1.symm.trans j12.1
  have HK12 := Lib.hid k12
  have HJ12 := Lib.hid j12
  obtain rfl : n13 = n13' := k13.1.symm.trans j13.1
  have HK13 := Lib.hid k13
  have HJ13 := Lib.hid j13
  obtain rfl : n14 = n14' := k14.1.symm.trans j14.1
  have HK14 := Lib.hid k14
  have HJ14 := Lib.hid j14
  clear k11 j11 k12 j12 k13 j13 k14 j14 k2 j2
  have HC := Lib.hid (two_new W 33 #[.int .i64 x0, .int .i64 x1, .string x2, .bool x3, .int .i64 x4, .int .i64 x5, .int .i64 x6, .int .i64 x7, .bool x8, .int .i64 x9, .int .i64 x10, .slice A11 n11 c11, .slice A12 n12 c12, .slice A13 n13 c13, .slice A14 n14 c14] #[.int .i64 x0, .int .i64 x1, .string x2, .bool x3, .int .i64 x4, .int .i64 x5, .int .i64 x6, .int .i64 x7, .bool x8, .int .i64 x9, .int .i64 x10, .slice A11' n11 c11', .slice A12' n12 c12', .slice A13' n13 c13', .slice A14' n14 c14'])
  show Calls Try.prog 8 #[.agg #[.int .i64 x0, .int .i64 x1, .string x2, .bool x3, .int .i64 x4, .int .i64 x5, .int .i64 x6, .int .i64 x7, .bool x8, .int .i64 x9, .int .i64 x10, .slice A11 n11 c11, .slice A12 n12 c12, .slice A13 n13 c13, .slice A14 n14 c14], .agg #[.int .i64 x0, .int .i64 x1, .string x2, .bool x3, .int .i64 x4, .int .i64 x5, .int .i64 x6, .int .i64 x7, .bool x8, .int .i64 x9, .int .i64 x10, .slice A11' n11 c11', .slice A12' n12 c12', .slice A13' n13 c13', .slice A14' n14 c14']] W _
  go_enter Try.func8, Try.ntmps8
  go_wp2_with (go_at_call 20; obtain ⟨g0, g1, g2, g3⟩ := HC.out _ rfl; have HQ := eqMatchFrameS_same A11 A11' n11 c11 c11' x11 _ (HK11.out.go g2) (HJ11.out.go g2); refine Calls.mono HQ ?_; clear HQ; rintro e w1 ⟨rfl, hb⟩; have HA1 := Lib.hid (g0.below hb (by omega)); have HD1 := Lib.hid (g1.below hb (by omega)); have HB1 := Lib.hid (g2.trans (hb.mono g2.size)); have HG1 : Hid (W.heap.size + 2 ≤ w1.heap.size) := (by have := hb.size; show _ ≤ _; omega); have q112 : w1.cell? ⟨W.heap.size, 12, none⟩ = some (.slice A12 n12 c12) := HA1.out.cell 12; have p112 : w1.cell? ⟨W.heap.size + 1, 12, none⟩ = some (.slice A12' n12 c12') := HD1.out.cell 12; clear g0 g1 g2 g3 hb HK11)
  go_wp2_with (go_at_call 21; have HQ := eqMatchChoiceS_same A12 A12' n12 c12 c12' x12 _ (HK12.out.go HB1.out) (HJ12.out.go HB1.out); refine Calls.mono HQ ?_; clear HQ; rintro e w2 ⟨rfl, hb⟩; have hg := HG1.out; have HA2 := Lib.hid (HA1.out.below hb (by omega)); have HD2 := Lib.hid (HD1.out.below hb (by omega)); have HB2 := Lib.hid (HB1.out.trans (hb.mono HB1.out.size)); have HG2 : Hid (W.heap.size + 2 ≤ w2.heap.size) := (Nat.le_trans hg hb.size); have q213 : w2.cell? ⟨W.heap.size, 13, none⟩ = some (.slice A13 n13 c13) := HA2.out.cell 13; have p213 : w2.cell? ⟨W.heap.size + 1, 13, none⟩ = some (.slice A13' n13 c13') := HD2.out.cell 13; clear hg hb HK12)
  go_wp2_with (go_at_call 22; have HQ := eqCaptureS_same A13 A13' n13 c13 c13' x13 _ (HK13.out.go HB2.out) (HJ13.out.go HB2.out); refine Calls.mono HQ ?_; clear HQ; rintro e w3 ⟨rfl, hb⟩; have hg := HG2.out; have HA3 := Lib.hid (HA2.out.below hb (by omega)); have HD3 := Lib.hid (HD2.out.below hb (by omega)); have HB3 := Lib.hid (HB2.out.trans (hb.mono HB2.out.size)); have HG3 : Hid (W.heap.size + 2 ≤ w3.heap.size) := (Nat.le_trans hg hb.size); have q314 : w3.cell? ⟨W.heap.size, 14, none⟩ = some (.slice A14 n14 c14) := HA3.out.cell 14; have p314 : w3.cell? ⟨W.heap.size + 1, 14, none⟩ = some (.slice A14' n14 c14') := HD3.out.cell 14; clear hg hb HK13)
  go_wp2_with (go_at_call 22; have HQ := eqCaptureS_same A14 A14' n14 c14 c14' x14 _ (HK14.out.go HB3.out) (HJ14.out.go HB3.out); refine Calls.mono HQ ?_; clear HQ; rintro e w4 ⟨rfl, hb⟩; have hg := HG3.out; have HA4 := Lib.hid (HA3.out.below hb (by omega)); have HD4 := Lib.hid (HD3.out.below hb (by omega)); have HB4 := Lib.hid (HB3.out.trans (hb.mono HB3.out.size)); have HG4 : Hid (W.heap.size + 2 ≤ w4.heap.size) := (Nat.le_trans hg hb.size); clear hg hb HK14)
  all_goals go_ret
  all_goals exact ⟨rfl, HB4.out⟩

/-- Two in two blocks, and their lists. -/
def TwoMr (wr : World) (b b' p p' : Nat) (x y : Mr) (l l' : MrLay) (w : World) : Prop := MrAt w b p x l ∧ MrAt w b' p' y l' ∧ MrV w w.heap.size x l ∧ MrV w w.heap.size y l' ∧ Below wr.heap.size wr w ∧ b < w.heap.size ∧ b' < w.heap.size
theorem TwoMr.grow {wr w w' : World} {b b' p p' : Nat} {x y : Mr} {l l' : MrLay} (h : TwoMr wr b b' p p' x y l l' w) (hb : Below w.heap.size w w') : TwoMr wr b b' p p' x y l l' w' :=
  ⟨h.1.below hb h.2.2.2.2.2.1, h.2.1.below hb h.2.2.2.2.2.2, (h.2.2.1.below hb).more hb.size, (h.2.2.2.1.below hb).more hb.size, h.2.2.2.2.1.trans (hb.mono h.2.2.2.2.1.size), Nat.lt_of_lt_of_le h.2.2.2.2.2.1 hb.size, Nat.lt_of_lt_of_le h.2.2.2.2.2.2 hb.size⟩
/-- .. cell by cell, as the walk of a region asks it. -/
abbrev FlatMr (wr : World) (b b' p p' : Nat) (x y : Mr) (l l' : MrLay) (w : World) : Prop := (w.cell? ⟨b, p, none⟩ = some (.int .i64 x.status_) ∧ w.cell? ⟨b, p + 1, none⟩ = some (.int .i64 x.fault_) ∧ w.cell? ⟨b, p + 2, none⟩ = some (.string x.subject_) ∧ w.cell? ⟨b, p + 3, none⟩ = some (.bool x.anchored_) ∧ w.cell? ⟨b, p + 4, none⟩ = some (.int .i64 x.start_) ∧ w.cell? ⟨b, p + 5, none⟩ = some (.int .i64 x.pC_) ∧ w.cell? ⟨b, p + 6, none⟩ = some (.int .i64 x.cursor_) ∧ w.cell? ⟨b, p + 7, none⟩ = some (.int .i64 x.top_) ∧ w.cell? ⟨b, p + 8, none⟩ = some (.bool x.resume_) ∧ w.cell? ⟨b, p + 9, none⟩ = some (.int .i64 x.last_) ∧ w.cell? ⟨b, p + 10, none⟩ = some (.int .i64 x.steps_) ∧ w.cell? ⟨b, p + 11, none⟩ = some (.slice l.A11 l.n11 l.c11) ∧ w.cell? ⟨b, p + 12, none⟩ = some (.slice l.A12 l.n12 l.c12) ∧ w.cell? ⟨b, p + 13, none⟩ = some (.slice l.A13 l.n13 l.c13) ∧ w.cell? ⟨b, p + 14, none⟩ = some (.slice l.A14 l.n14 l.c14)) ∧ (w.cell? ⟨b', p', none⟩ = some (.int .i64 y.status_) ∧ w.cell? ⟨b', p' + 1, none⟩ = some (.int .i64 y.fault_) ∧ w.cell? ⟨b', p' + 2, none⟩ = some (.string y.subject_) ∧ w.cell? ⟨b', p' + 3, none⟩ = some (.bool y.anchored_) ∧ w.cell? ⟨b', p' + 4, none⟩ = some (.int .i64 y.start_) ∧ w.cell? ⟨b', p' + 5, none⟩ = some (.int .i64 y.pC_) ∧ w.cell? ⟨b', p' + 6, none⟩ = some (.int .i64 y.cursor_) ∧ w.cell? ⟨b', p' + 7, none⟩ = some (.int .i64 y.top_) ∧ w.cell? ⟨b', p' + 8, none⟩ = some (.bool y.resume_) ∧ w.cell? ⟨b', p' + 9, none⟩ = some (.int .i64 y.last_) ∧ w.cell? ⟨b', p' + 10, none⟩ = some (.int .i64 y.steps_) ∧ w.cell? ⟨b', p' + 11, none⟩ = some (.slice l'.A11 l'.n11 l'.c11) ∧ w.cell? ⟨b', p' + 12, none⟩ = some (.slice l'.A12 l'.n12 l'.c12) ∧ w.cell? ⟨b', p' + 13, none⟩ = some (.slice l'.A13 l'.n13 l'.c13) ∧ w.cell? ⟨b', p' + 14, none⟩ = some (.slice l'.A14 l'.n14 l'.c14)) ∧ TwoMr wr b b' p p' x y l l' w
theorem TwoMr.flat {wr w : World} {b b' p p' : Nat} {x y : Mr} {l l' : MrLay} (h : TwoMr wr b b' p p' x y l l' w) : FlatMr wr b b' p p' x y l l' w := ⟨h.1, h.2.1, h⟩
theorem TwoMr.drew {wr : World} {b b' p p' : Nat} {x y : Mr} {l l' : MrLay} (h : TwoMr wr b b' p p' x y l l' wr) : TwoMr wr b b' p p' x y l l' wr.drew := h.grow (Below.refl _ _).drew

end Go.Proofs.Ytnneidpdfommjaa
