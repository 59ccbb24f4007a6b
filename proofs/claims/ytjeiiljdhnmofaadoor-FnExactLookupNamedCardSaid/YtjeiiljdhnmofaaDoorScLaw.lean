/- What the walk of the law of LookupNamed carries: the two answers. No condition. -/
import Derived.Test.YtjeiiljdhnmofaaDoorChain
import Derived.Test.YtjeiiljdhnmofaaDoorPtIter
import Derived.Test.YtjeiiljdhnmofaaDoorPtHeld
import Derived.Test.YtjeiiljdhnmofaaDoorPtsToO
import Derived.Test.YtjeiiljdhnmofaaDoorPtsEq
namespace Go.Proofs.YtjeiiljdhnmofaaDoor
open Go Go.RowKit Go.Shelf

theorem cell_same {W W' : World} {p : Addr} {v : Value} (h : W.cell? p = some v) (k : ∀ o, W.heap[p.block]? = some o → o.isCells = true → W'.heap[p.block]? = some o) : W'.cell? p = some v := by
  obtain ⟨o, ho, hc⟩ := cells_of_cell h
  have h2 := k o ho hc
  unfold World.cell? at h ⊢
  rw [h2]
  rw [ho] at h
  exact h
theorem PtD.keepO {w w' : World} {a b lo B d n : Nat} {A : Option Addr} {xs : List Pt} (hk : KeepO a b w w') (hB : B ≤ a ∨ b ≤ lo) (h : PtD w lo B d A n xs) : PtD w' lo B d A n xs :=
  h.keepR fun p v h1 h2 hv => cell_same hv fun o ho _ => (hk.block _ (Array.getElem?_eq_some_iff.1 ho).1 (by omega)).trans ho
/-- The model's answer in its box s3. -/
def SC0 (W : World) (s2 s3 D : Nat) (y : Pt) (A0 : Option Addr) (n0 c0 : Nat) (w : World) : Prop :=
  Below W.heap.size W w ∧ RW 29 w s3 #[.int .i64 y.k, .int .i64 y.n, .string y.t, .slice A0 n0 c0] ∧ (y.t.size ≤ maxLen ∧ PtD w s2 s3 D A0 n0 y.kids) ∧ (W.heap.size ≤ s2 ∧ s2 ≤ s3 ∧ s3 < w.heap.size)
section
variable {W w w' : World} {s2 s3 s4 s5 D n0 c0 n1 c1 B a b : Nat} {y : Pt} {A0 A1 : Option Addr} {ks : List Pt}
theorem SC0.below (h : SC0 W s2 s3 D y A0 n0 c0 w) (hb : Below B w w') (hB : s3 < B) : SC0 W s2 s3 D y A0 n0 c0 w' := by
  obtain ⟨h1, h2, ⟨h3, h4⟩, h5⟩ := h
  have := hb.size
  exact ⟨h1.trans (hb.mono (by omega)), h2.below hb hB, ⟨h3, h4.below (hb.mono (by omega))⟩, by omega⟩
theorem SC0.keepO (h : SC0 W s2 s3 D y A0 n0 c0 w) (hk : KeepO a b w w') (ha : s3 < a) : SC0 W s2 s3 D y A0 n0 c0 w' := by
  obtain ⟨h1, h2, ⟨h3, h4⟩, h5⟩ := h
  have := hk.size
  exact ⟨h1.trans (hk.below (by omega) (by omega)), hk.row h2 (.inl ha), ⟨h3, h4.keepO hk (.inl (by omega))⟩, by omega⟩
theorem SC0.tree (h : SC0 W s2 s3 D y A0 n0 c0 w) : PtV w 0 w.heap.size D y A0 n0 := ⟨h.2.2.1.1, h.2.2.1.2.more (Nat.zero_le _) (by have := h.2.2.2; omega)⟩
/-- .. and the program's in its box s5; its Kids read as ks. -/
def SC1 (W : World) (s2 s3 s4 s5 D : Nat) (y : Pt) (ks : List Pt) (A0 : Option Addr) (n0 c0 : Nat) (A1 : Option Addr) (n1 c1 : Nat) (w : World) : Prop :=
  SC0 W s2 s3 D y A0 n0 c0 w ∧ RW 29 w s5 #[.int .i64 y.k, .int .i64 y.n, .string y.t, .slice A1 n1 c1] ∧ PtO w D s4 s5 A1 n1 ks ∧ (s3 < s4 ∧ s4 ≤ s5 ∧ s5 < w.heap.size)
theorem SC1.below (h : SC1 W s2 s3 s4 s5 D y ks A0 n0 c0 A1 n1 c1 w) (hb : Below B w w') (hB : s5 < B) (hs : B ≤ w.heap.size) : SC1 W s2 s3 s4 s5 D y ks A0 n0 c0 A1 n1 c1 w' := by
  obtain ⟨h1, h2, h3, h4⟩ := h
  have := hb.size
  exact ⟨h1.below hb (by omega), h2.below hb hB, h3.below hb (by omega) hs, by omega⟩
theorem SC1.grow (h : SC1 W s2 s3 s4 s5 D y ks A0 n0 c0 A1 n1 c1 w) (hb : Below w.heap.size w w') : SC1 W s2 s3 s4 s5 D y ks A0 n0 c0 A1 n1 c1 w' := h.below hb h.2.2.2.2.2 (Nat.le_refl _)
theorem SC1.keepX (h : SC1 W s2 s3 s4 s5 D y ks A0 n0 c0 A1 n1 c1 w) (hk : KeepO a b w w') (ha : s3 < a) (hb : b ≤ s4) : SC1 W s2 s3 s4 s5 D y ks A0 n0 c0 A1 n1 c1 w' := by
  obtain ⟨h1, h2, h3, h4⟩ := h
  have := hk.size
  exact ⟨h1.keepO hk ha, hk.row h2 (.inr (by omega)), h3.keep hk (.inr hb), by omega⟩
theorem SC1.tree (h : SC1 W s2 s3 s4 s5 D y y.kids A0 n0 c0 A1 n1 c1 w) : PtV w 0 w.heap.size D y A1 n1 := ⟨h.1.2.2.1.1, h.2.2.1.tree.more (Nat.zero_le _) (by have := h.2.2.2; omega)⟩
theorem SC1.read (h : SC1 W s2 s3 s4 s5 D y ks A0 n0 c0 A1 n1 c1 w) : PtD w 0 w.heap.size D A1 n1 ks := h.2.2.1.tree.more (Nat.zero_le _) (by have := h.2.2.2; omega)
end
end Go.Proofs.YtjeiiljdhnmofaaDoor
