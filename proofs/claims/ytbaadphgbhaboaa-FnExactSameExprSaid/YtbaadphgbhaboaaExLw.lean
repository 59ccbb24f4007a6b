/- Trees as one value with a layout: the laws' functions and SameExpr of both in that form. No condition. -/
import Derived.Test.YtbaadphgbhaboaaExsToU
import Derived.Test.YtbaadphgbhaboaaExSmI
namespace Go.Proofs.Ytbaadphgbhaboaa
open Go Go.RowKit

structure ExLay where
  A : Option Addr
  n : Nat
  c : Nat
abbrev Ex.agl (x : Ex) (l : ExLay) : Value := x.ag l.A l.n l.c
def ExW (w : World) (B : Nat) (x : Ex) (l : ExLay) : Prop := ∃ d, ExV w 0 B d x l.A l.n
def ExX (w : World) (B : Nat) (x : Ex) (l : ExLay) : Prop := ∃ d, ExUV w 0 B (d + 1) x l.A l.n
abbrev szEx1 (x : Ex) : Nat := exSz x
theorem small_Ex1 {x : Ex} (h : (szEx1 x : Int) ≤ 1048576) : szEx1 x ≤ 1048576 := by omega
section
variable {x y : Ex} {l l' : ExLay} {W w : World}
theorem ExW.go (h : ExW W W.heap.size x l) (hb : Below W.heap.size W w) : ExW w w.heap.size x l := by
  obtain ⟨d, h⟩ := h
  exact ⟨d, h.1, (h.2.below hb).more (Nat.le_refl _) hb.size⟩
theorem ExX.go (h : ExX W W.heap.size x l) (hb : Below W.heap.size W w) : ExX w w.heap.size x l := by
  obtain ⟨d, h⟩ := h
  exact ⟨d, h.1, (h.2.below hb).more (Nat.le_refl _) hb.size⟩
theorem ExX.read {B : Nat} (h : ExX w B x l) : ExW w B x l := by
  obtain ⟨d, h⟩ := h
  exact ⟨d + 1, h.1, h.2.tree⟩
theorem exD_lift {w : World} {lo B n : Nat} {A : Option Addr} {xs : List Ex} {d : Nat} (h : ExD w lo B d A n xs) : ∀ k, ExD w lo B (d + k) A n xs
  | 0 => h
  | k + 1 => (exD_lift h k).deeper
theorem exU_lift {w : World} {lo B n : Nat} {A : Option Addr} {xs : List Ex} {d : Nat} (h : ExU w lo B d A n xs) : ∀ k, ExU w lo B (d + k) A n xs
  | 0 => h
  | k + 1 => (exU_lift h k).deeper
end
theorem szExpr_l (x : Ex) (l : ExLay) (L : Int) (W : World) (h : ExW W W.heap.size x l) (h0 : 0 ≤ L) (h1 : L ≤ 1048576) : Calls Try.prog 16 #[x.agl l, .int .i64 L] W (SzL (szEx1 x) L W) := by
  obtain ⟨d, h⟩ := h
  exact szExpr_any d x l.A l.n l.c L W h h0 h1
theorem toExpr_l (x : Ex) (l : ExLay) (W : World) (h : ExW W W.heap.size x l) (hs : szEx1 x ≤ 1048576) :
    Calls Try.prog 18 #[x.agl l] W fun e w' => ∃ l' : ExLay, e = .returned (x.agl l') ∧ Hid (ExX w' w'.heap.size x l' ∧ Below W.heap.size W w' ∧ True) := by
  obtain ⟨d, h⟩ := h
  refine (toExpr_anyU d x l.A l.n l.c W h hs).mono ?_
  rintro e w' ⟨g, rfl, h⟩
  obtain ⟨hv, hb⟩ := h.out
  exact ⟨⟨some ⟨g, 0, none⟩, l.n, l.n⟩, rfl, Lib.hid ⟨⟨d, hv.1, hv.2.zero.deeper⟩, hb, trivial⟩⟩
theorem eqExpr_l (x : Ex) (l l' : ExLay) (W : World) (h : ExX W W.heap.size x l) (h' : ExX W W.heap.size x l') : Calls Try.prog 20 #[x.agl l, x.agl l'] W fun e w' => e = .returned (.bool true) ∧ Below W.heap.size W w' := by
  obtain ⟨A, n, c⟩ := l
  obtain ⟨A', n', c'⟩ := l'
  obtain ⟨d, h⟩ := h
  obtain ⟨d', h'⟩ := h'
  dsimp only at h h'
  obtain rfl : n = n' := h.2.len.1.symm.trans h'.2.len.1
  have k := exD_lift h.2.tree d'
  have k' := exD_lift h'.2.tree d
  rw [show d + 1 + d' = d + d' + 1 from by omega] at k
  rw [show d' + 1 + d = d + d' + 1 from by omega] at k'
  exact eqExpr_same (d + d' + 1) x A A' n c c' W ⟨h.1, k⟩ ⟨h'.1, k'⟩
theorem impl_SameExpr_l (x y : Ex) (l l' : ExLay) (W : World) (hx : ExX W W.heap.size x l) (hy : ExX W W.heap.size y l') (hs : szEx1 x ≤ 1048576) :
    Calls Try.prog 19 #[x.agl l, y.agl l'] W fun e w' => e = .returned (.bool (tt (x = y))) ∧ Below W.heap.size W w' := by
  obtain ⟨d, h⟩ := hx
  obtain ⟨d', h'⟩ := hy
  have k := exU_lift h.2 d'
  have k' := exU_lift h'.2 d
  rw [show d + 1 + d' = d + d' + 1 from by omega] at k
  rw [show d' + 1 + d = d + d' + 1 from by omega] at k'
  exact impl_SameExpr_any (d + d') x y l.A l'.A l.n l'.n l.c l'.c W ⟨h.1, k⟩ ⟨h'.1, k'⟩ (by have := exN_le x; unfold szEx1 at hs; omega)
set_option maxRecDepth 100000 in
theorem spec_SameExpr_l (x y : Ex) (l l' : ExLay) (W : World) (hx : ExX W W.heap.size x l) (hy : ExX W W.heap.size y l') :
    Calls Try.prog 17 #[x.agl l, y.agl l'] W fun e w' => e = .returned (.bool (tt (x = y))) ∧ Below W.heap.size W w' := by
  obtain ⟨A, n, c⟩ := l
  obtain ⟨A', n', c'⟩ := l'
  obtain ⟨d, h⟩ := hx.read
  obtain ⟨d', h'⟩ := hy.read
  dsimp only at h h'
  have HT : Hid (∀ X, X = (W.alloc (.cells #[.int .i64 x.k, .int .i64 x.n, .string x.t, .slice A n c] 41)).alloc (.cells #[.int .i64 y.k, .int .i64 y.n, .string y.t, .slice A' n' c'] 41) → TwoEx X (d + d') (d + d') W.heap.size (W.heap.size + 1) 0 0 x y A A' n n' c c' X ∧ Below W.heap.size W X) := by
    intro X e
    obtain ⟨g0, g1, g2, g3⟩ := two_new W _ _ _ X e
    have k := exD_lift h.2 d'
    have k' := exD_lift h'.2 d
    rw [Nat.add_comm d' d] at k'
    exact ⟨⟨⟨g0.cell 0, g0.cell 1, g0.cell 2, g0.cell 3⟩, ⟨g1.cell 0, g1.cell 1, g1.cell 2, g1.cell 3⟩, ⟨h.1, k.go g2⟩, ⟨h'.1, k'.go g2⟩, Below.refl _ _, by omega, by omega⟩, g2⟩
  clear h h' hx hy
  obtain ⟨E, hE⟩ : ∃ E, tt (x = y) = E := ⟨_, rfl⟩
  have HE := Lib.hid hE
  rw [hE]
  clear hE
  show Calls Try.prog 17 #[.agg #[.int .i64 x.k, .int .i64 x.n, .string x.t, .slice A n c], .agg #[.int .i64 y.k, .int .i64 y.n, .string y.t, .slice A' n' c']] W _
  go_enter Try.func17, Try.ntmps17
  go_wp2_with (go_at_call 42; obtain ⟨g0, g1⟩ := HT.out _ rfl; refine Calls.mono (sameEx_all (d + d') _ _ _ _ x y A A' n n' c c' _ g0) ?_; rintro e w1 ⟨rfl, hb⟩; rw [HE.out]; have HB1 := Lib.hid (g1.trans (hb.mono g1.size)); clear g0 g1 hb)
  go_ret
  exact ⟨rfl, HB1.out⟩
end Go.Proofs.Ytbaadphgbhaboaa
