/- Trees as one value with a layout: the laws' functions and SameGen of both in that form. No condition. -/
import Derived.Test.YtbaadphgbhaboaaGnsToU
import Derived.Test.YtbaadphgbhaboaaGnSmI
namespace Go.Proofs.Ytbaadphgbhaboaa
open Go Go.RowKit

structure GnLay where
  A : Option Addr
  n : Nat
  c : Nat
abbrev Gn.agl (x : Gn) (l : GnLay) : Value := x.ag l.A l.n l.c
def GnW (w : World) (B : Nat) (x : Gn) (l : GnLay) : Prop := ∃ d, GnV w 0 B d x l.A l.n
def GnX (w : World) (B : Nat) (x : Gn) (l : GnLay) : Prop := ∃ d, GnUV w 0 B (d + 1) x l.A l.n
abbrev szGn1 (x : Gn) : Nat := gnSz x
theorem small_Gn1 {x : Gn} (h : (szGn1 x : Int) ≤ 1048576) : szGn1 x ≤ 1048576 := by omega
section
variable {x y : Gn} {l l' : GnLay} {W w : World}
theorem GnW.go (h : GnW W W.heap.size x l) (hb : Below W.heap.size W w) : GnW w w.heap.size x l := by
  obtain ⟨d, h⟩ := h
  exact ⟨d, h.1, (h.2.below hb).more (Nat.le_refl _) hb.size⟩
theorem GnX.go (h : GnX W W.heap.size x l) (hb : Below W.heap.size W w) : GnX w w.heap.size x l := by
  obtain ⟨d, h⟩ := h
  exact ⟨d, h.1, (h.2.below hb).more (Nat.le_refl _) hb.size⟩
theorem GnX.read {B : Nat} (h : GnX w B x l) : GnW w B x l := by
  obtain ⟨d, h⟩ := h
  exact ⟨d + 1, h.1, h.2.tree⟩
theorem gnD_lift {w : World} {lo B n : Nat} {A : Option Addr} {xs : List Gn} {d : Nat} (h : GnD w lo B d A n xs) : ∀ k, GnD w lo B (d + k) A n xs
  | 0 => h
  | k + 1 => (gnD_lift h k).deeper
theorem gnU_lift {w : World} {lo B n : Nat} {A : Option Addr} {xs : List Gn} {d : Nat} (h : GnU w lo B d A n xs) : ∀ k, GnU w lo B (d + k) A n xs
  | 0 => h
  | k + 1 => (gnU_lift h k).deeper
end
theorem szGen_l (x : Gn) (l : GnLay) (L : Int) (W : World) (h : GnW W W.heap.size x l) (h0 : 0 ≤ L) (h1 : L ≤ 1048576) : Calls Try.prog 31 #[x.agl l, .int .i64 L] W (SzL (szGn1 x) L W) := by
  obtain ⟨d, h⟩ := h
  exact szGen_any d x l.A l.n l.c L W h h0 h1
theorem toGen_l (x : Gn) (l : GnLay) (W : World) (h : GnW W W.heap.size x l) (hs : szGn1 x ≤ 1048576) :
    Calls Try.prog 33 #[x.agl l] W fun e w' => ∃ l' : GnLay, e = .returned (x.agl l') ∧ Hid (GnX w' w'.heap.size x l' ∧ Below W.heap.size W w' ∧ True) := by
  obtain ⟨d, h⟩ := h
  refine (toGen_anyU d x l.A l.n l.c W h hs).mono ?_
  rintro e w' ⟨g, rfl, h⟩
  obtain ⟨hv, hb⟩ := h.out
  exact ⟨⟨some ⟨g, 0, none⟩, l.n, l.n⟩, rfl, Lib.hid ⟨⟨d, hv.1, hv.2.zero.deeper⟩, hb, trivial⟩⟩
theorem eqGen_l (x : Gn) (l l' : GnLay) (W : World) (h : GnX W W.heap.size x l) (h' : GnX W W.heap.size x l') : Calls Try.prog 35 #[x.agl l, x.agl l'] W fun e w' => e = .returned (.bool true) ∧ Below W.heap.size W w' := by
  obtain ⟨A, n, c⟩ := l
  obtain ⟨A', n', c'⟩ := l'
  obtain ⟨d, h⟩ := h
  obtain ⟨d', h'⟩ := h'
  dsimp only at h h'
  obtain rfl : n = n' := h.2.len.1.symm.trans h'.2.len.1
  have k := gnD_lift h.2.tree d'
  have k' := gnD_lift h'.2.tree d
  rw [show d + 1 + d' = d + d' + 1 from by omega] at k
  rw [show d' + 1 + d = d + d' + 1 from by omega] at k'
  exact eqGen_same (d + d' + 1) x A A' n c c' W ⟨h.1, k⟩ ⟨h'.1, k'⟩
theorem impl_SameGen_l (x y : Gn) (l l' : GnLay) (W : World) (hx : GnX W W.heap.size x l) (hy : GnX W W.heap.size y l') (hs : szGn1 x ≤ 1048576) :
    Calls Try.prog 34 #[x.agl l, y.agl l'] W fun e w' => e = .returned (.bool (tt (x = y))) ∧ Below W.heap.size W w' := by
  obtain ⟨d, h⟩ := hx
  obtain ⟨d', h'⟩ := hy
  have k := gnU_lift h.2 d'
  have k' := gnU_lift h'.2 d
  rw [show d + 1 + d' = d + d' + 1 from by omega] at k
  rw [show d' + 1 + d = d + d' + 1 from by omega] at k'
  exact impl_SameGen_any (d + d') x y l.A l'.A l.n l'.n l.c l'.c W ⟨h.1, k⟩ ⟨h'.1, k'⟩ (by have := gnN_le x; unfold szGn1 at hs; omega)
set_option maxRecDepth 100000 in
theorem spec_SameGen_l (x y : Gn) (l l' : GnLay) (W : World) (hx : GnX W W.heap.size x l) (hy : GnX W W.heap.size y l') :
    Calls Try.prog 32 #[x.agl l, y.agl l'] W fun e w' => e = .returned (.bool (tt (x = y))) ∧ Below W.heap.size W w' := by
  obtain ⟨A, n, c⟩ := l
  obtain ⟨A', n', c'⟩ := l'
  obtain ⟨d, h⟩ := hx.read
  obtain ⟨d', h'⟩ := hy.read
  dsimp only at h h'
  have HT : Hid (∀ X, X = (W.alloc (.cells #[.int .i64 x.k, .int .i64 x.n, .string x.t, .int .i64 x.vk, .int .i64 x.vn, .string x.vt, .int .i64 x.vr, .slice A n c] 75)).alloc (.cells #[.int .i64 y.k, .int .i64 y.n, .string y.t, .int .i64 y.vk, .int .i64 y.vn, .string y.vt, .int .i64 y.vr, .slice A' n' c'] 75) → TwoGn X (d + d') (d + d') W.heap.size (W.heap.size + 1) 0 0 x y A A' n n' c c' X ∧ Below W.heap.size W X) := by
    intro X e
    obtain ⟨g0, g1, g2, g3⟩ := two_new W _ _ _ X e
    have k := gnD_lift h.2 d'
    have k' := gnD_lift h'.2 d
    rw [Nat.add_comm d' d] at k'
    exact ⟨⟨⟨g0.cell 0, g0.cell 1, g0.cell 2, g0.cell 3, g0.cell 4, g0.cell 5, g0.cell 6, g0.cell 7⟩, ⟨g1.cell 0, g1.cell 1, g1.cell 2, g1.cell 3, g1.cell 4, g1.cell 5, g1.cell 6, g1.cell 7⟩, ⟨h.1, k.go g2⟩, ⟨h'.1, k'.go g2⟩, Below.refl _ _, by omega, by omega⟩, g2⟩
  clear h h' hx hy
  obtain ⟨E, hE⟩ : ∃ E, tt (x = y) = E := ⟨_, rfl⟩
  have HE := Lib.hid hE
  rw [hE]
  clear hE
  show Calls Try.prog 32 #[.agg #[.int .i64 x.k, .int .i64 x.n, .string x.t, .int .i64 x.vk, .int .i64 x.vn, .string x.vt, .int .i64 x.vr, .slice A n c], .agg #[.int .i64 y.k, .int .i64 y.n, .string y.t, .int .i64 y.vk, .int .i64 y.vn, .string y.vt, .int .i64 y.vr, .slice A' n' c']] W _
  go_enter Try.func32, Try.ntmps32
  go_wp2_with (go_at_call 55; obtain ⟨g0, g1⟩ := HT.out _ rfl; refine Calls.mono (sameGn_all (d + d') _ _ _ _ x y A A' n n' c c' _ g0) ?_; rintro e w1 ⟨rfl, hb⟩; rw [HE.out]; have HB1 := Lib.hid (g1.trans (hb.mono g1.size)); clear g0 g1 hb)
  go_ret
  exact ⟨rfl, HB1.out⟩
end Go.Proofs.Ytbaadphgbhaboaa
