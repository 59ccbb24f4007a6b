/- laws.eqMatch, laws.eqMatchS where both are the same. No condition. -/
import Derived.Test.YtdlhoakcpdaboaaMt1To
namespace Go.Proofs.Ytdlhoakcpdaboaa
open Go Go.RowKit

set_option maxHeartbeats 1000000 in
set_option maxRecDepth 100000 in
theorem eqMatch_same (x : Mt) (l l' : MtLay) (W : World) (ho : MtV W W.heap.size x l) (ho' : MtV W W.heap.size x l') :
    Calls Try.prog 14 #[x.ag l, x.ag l'] W fun e w' => e = .returned (.bool true) ∧ Below W.heap.size W w' := by
  obtain ⟨x0, x1, x2⟩ := x
  obtain ⟨A2, n2, c2, h2⟩ := l
  obtain ⟨A2', n2', c2', h2'⟩ := l'
  have k2 := ho
  have j2 := ho'
  try unfold MtV at k2 j2
  dsimp only at k2 j2
  obtain rfl : n2 = n2' := k2.1.symm.trans j2.1
  have HK2 := Lib.hid k2
  have HJ2 := Lib.hid j2
  clear k2 j2
  have HC := Lib.hid (two_new W 29 #[.int .i64 x0, .int .i64 x1, .slice A2 n2 c2] #[.int .i64 x0, .int .i64 x1, .slice A2' n2 c2'])
  show Calls Try.prog 14 #[.agg #[.int .i64 x0, .int .i64 x1, .slice A2 n2 c2], .agg #[.int .i64 x0, .int .i64 x1, .slice A2' n2 c2']] W _
  go_enter Try.func14, Try.ntmps14
  go_wp2_with (go_at_call 36; obtain ⟨g0, g1, g2, g3⟩ := HC.out _ rfl; have HQ := eqCaptureS_same A2 A2' n2 c2 c2' x2 _ (HK2.out.go g2) (HJ2.out.go g2); refine Calls.mono HQ ?_; clear HQ; rintro e w1 ⟨rfl, hb⟩; have HA1 := Lib.hid (g0.below hb (by omega)); have HD1 := Lib.hid (g1.below hb (by omega)); have HB1 := Lib.hid (g2.trans (hb.mono g2.size)); have HG1 : Hid (W.heap.size + 2 ≤ w1.heap.size) := (by have := hb.size; show _ ≤ _; omega); clear g0 g1 g2 g3 hb HK2)
  all_goals go_ret
  all_goals exact ⟨rfl, HB1.out⟩

/-- Two in two blocks, and their lists. -/
def TwoMt (wr : World) (b b' p p' : Nat) (x y : Mt) (l l' : MtLay) (w : World) : Prop := MtAt w b p x l ∧ MtAt w b' p' y l' ∧ MtV w w.heap.size x l ∧ MtV w w.heap.size y l' ∧ Below wr.heap.size wr w ∧ b < w.heap.size ∧ b' < w.heap.size
theorem TwoMt.grow {wr w w' : World} {b b' p p' : Nat} {x y : Mt} {l l' : MtLay} (h : TwoMt wr b b' p p' x y l l' w) (hb : Below w.heap.size w w') : TwoMt wr b b' p p' x y l l' w' :=
  ⟨h.1.below hb h.2.2.2.2.2.1, h.2.1.below hb h.2.2.2.2.2.2, (h.2.2.1.below hb).more hb.size, (h.2.2.2.1.below hb).more hb.size, h.2.2.2.2.1.trans (hb.mono h.2.2.2.2.1.size), Nat.lt_of_lt_of_le h.2.2.2.2.2.1 hb.size, Nat.lt_of_lt_of_le h.2.2.2.2.2.2 hb.size⟩
/-- .. cell by cell, as the walk of a region asks it. -/
abbrev FlatMt (wr : World) (b b' p p' : Nat) (x y : Mt) (l l' : MtLay) (w : World) : Prop := (w.cell? ⟨b, p, none⟩ = some (.int .i64 x.start_) ∧ w.cell? ⟨b, p + 1, none⟩ = some (.int .i64 x.end_) ∧ w.cell? ⟨b, p + 2, none⟩ = some (.slice l.A2 l.n2 l.c2)) ∧ (w.cell? ⟨b', p', none⟩ = some (.int .i64 y.start_) ∧ w.cell? ⟨b', p' + 1, none⟩ = some (.int .i64 y.end_) ∧ w.cell? ⟨b', p' + 2, none⟩ = some (.slice l'.A2 l'.n2 l'.c2)) ∧ TwoMt wr b b' p p' x y l l' w
theorem TwoMt.flat {wr w : World} {b b' p p' : Nat} {x y : Mt} {l l' : MtLay} (h : TwoMt wr b b' p p' x y l l' w) : FlatMt wr b b' p p' x y l l' w := ⟨h.1, h.2.1, h⟩
theorem TwoMt.drew {wr : World} {b b' p p' : Nat} {x y : Mt} {l l' : MtLay} (h : TwoMt wr b b' p p' x y l l' wr) : TwoMt wr b b' p p' x y l l' wr.drew := h.grow (Below.refl _ _).drew

end Go.Proofs.Ytdlhoakcpdaboaa
