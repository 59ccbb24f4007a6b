/- Trees as one value with a layout: the laws' functions and SamePattern of both in that form. No condition. -/
import Derived.Test.YtbaadphgbhaboaaPtsToU
import Derived.Test.YtbaadphgbhaboaaPtSmI
namespace Go.Proofs.Ytbaadphgbhaboaa
open Go Go.RowKit

structure PtLay where
  A : Option Addr
  n : Nat
  c : Nat
abbrev Pt.agl (x : Pt) (l : PtLay) : Value := x.ag l.A l.n l.c
def PtW (w : World) (B : Nat) (x : Pt) (l : PtLay) : Prop := ∃ d, PtV w 0 B d x l.A l.n
def PtX (w : World) (B : Nat) (x : Pt) (l : PtLay) : Prop := ∃ d, PtUV w 0 B (d + 1) x l.A l.n ∧ l.n ≤ l.c
abbrev szPt1 (x : Pt) : Nat := ptSz x
theorem small_Pt1 {x : Pt} (h : (szPt1 x : Int) ≤ 1048576) : szPt1 x ≤ 1048576 := by omega
section
variable {x y : Pt} {l l' : PtLay} {W w : World}
theorem PtW.go (h : PtW W W.heap.size x l) (hb : Below W.heap.size W w) : PtW w w.heap.size x l := by
  obtain ⟨d, h⟩ := h
  exact ⟨d, h.1, (h.2.below hb).more (Nat.le_refl _) hb.size⟩
theorem PtX.go (h : PtX W W.heap.size x l) (hb : Below W.heap.size W w) : PtX w w.heap.size x l := by
  obtain ⟨d, h, hc⟩ := h
  exact ⟨d, ⟨h.1, (h.2.below hb).more (Nat.le_refl _) hb.size⟩, hc⟩
theorem PtX.read {B : Nat} (h : PtX w B x l) : PtW w B x l := by
  obtain ⟨d, h, _⟩ := h
  exact ⟨d + 1, h.1, h.2.tree⟩
theorem ptD_lift {w : World} {lo B n : Nat} {A : Option Addr} {xs : List Pt} {d : Nat} (h : PtD w lo B d A n xs) : ∀ k, PtD w lo B (d + k) A n xs
  | 0 => h
  | k + 1 => (ptD_lift h k).deeper
theorem ptU_lift {w : World} {lo B n : Nat} {A : Option Addr} {xs : List Pt} {d : Nat} (h : PtU w lo B d A n xs) : ∀ k, PtU w lo B (d + k) A n xs
  | 0 => h
  | k + 1 => (ptU_lift h k).deeper
end
theorem szPattern_l (x : Pt) (l : PtLay) (L : Int) (W : World) (h : PtW W W.heap.size x l) (h0 : 0 ≤ L) (h1 : L ≤ 1048576) : Calls Try.prog 9 #[x.agl l, .int .i64 L] W (SzL (szPt1 x) L W) := by
  obtain ⟨d, h⟩ := h
  exact szPattern_any d x l.A l.n l.c L W h h0 h1
theorem toPattern_l (x : Pt) (l : PtLay) (W : World) (h : PtW W W.heap.size x l) (hs : szPt1 x ≤ 1048576) :
    Calls Try.prog 11 #[x.agl l] W fun e w' => ∃ l' : PtLay, e = .returned (x.agl l') ∧ Hid (PtX w' w'.heap.size x l' ∧ Below W.heap.size W w' ∧ True) := by
  obtain ⟨d, h⟩ := h
  refine (toPattern_anyU d x l.A l.n l.c W h hs).mono ?_
  rintro e w' ⟨g, rfl, h⟩
  obtain ⟨hv, hb⟩ := h.out
  exact ⟨⟨some ⟨g, 0, none⟩, l.n, l.n⟩, rfl, Lib.hid ⟨⟨d, ⟨hv.1, hv.2.zero.deeper⟩, Nat.le_refl _⟩, hb, trivial⟩⟩
theorem eqPattern_l (x : Pt) (l l' : PtLay) (W : World) (h : PtX W W.heap.size x l) (h' : PtX W W.heap.size x l') : Calls Try.prog 13 #[x.agl l, x.agl l'] W fun e w' => e = .returned (.bool true) ∧ Below W.heap.size W w' := by
  obtain ⟨A, n, c⟩ := l
  obtain ⟨A', n', c'⟩ := l'
  obtain ⟨d, h, _⟩ := h
  obtain ⟨d', h', _⟩ := h'
  dsimp only at h h'
  obtain rfl : n = n' := h.2.len.1.symm.trans h'.2.len.1
  have k := ptD_lift h.2.tree d'
  have k' := ptD_lift h'.2.tree d
  rw [show d + 1 + d' = d + d' + 1 from by omega] at k
  rw [show d' + 1 + d = d + d' + 1 from by omega] at k'
  exact eqPattern_same (d + d' + 1) x A A' n c c' W ⟨h.1, k⟩ ⟨h'.1, k'⟩
theorem impl_SamePattern_l (x y : Pt) (l l' : PtLay) (W : World) (hx : PtX W W.heap.size x l) (hy : PtX W W.heap.size y l') (hs : szPt1 x ≤ 1048576) :
    Calls Try.prog 12 #[x.agl l, y.agl l'] W fun e w' => e = .returned (.bool (tt (x = y))) ∧ Below W.heap.size W w' := by
  obtain ⟨d, h, hc⟩ := hx
  obtain ⟨d', h', hc'⟩ := hy
  have k := ptU_lift h.2 d'
  have k' := ptU_lift h'.2 d
  rw [show d + 1 + d' = d + d' + 1 from by omega] at k
  rw [show d' + 1 + d = d + d' + 1 from by omega] at k'
  exact impl_SamePattern_any (d + d' + 1) x y l.A l'.A l.n l'.n l.c l'.c W ⟨h.1, k⟩ ⟨h'.1, k'⟩ hc hc' (by have := ptN_le x; unfold szPt1 at hs; omega)
theorem spec_SamePattern_l (x y : Pt) (l l' : PtLay) (W : World) (hx : PtX W W.heap.size x l) (hy : PtX W W.heap.size y l') :
    Calls Try.prog 10 #[x.agl l, y.agl l'] W fun e w' => e = .returned (.bool (tt (x = y))) ∧ Below W.heap.size W w' := by
  obtain ⟨d, h⟩ := hx.read
  obtain ⟨d', h'⟩ := hy.read
  have k := ptD_lift h.2 d'
  have k' := ptD_lift h'.2 d
  rw [Nat.add_comm d' d] at k'
  exact samePt_all (d + d') x y l.A l'.A l.n l'.n l.c l'.c W ⟨h.1, k⟩ ⟨h'.1, k'⟩
end Go.Proofs.Ytbaadphgbhaboaa
