/- Plain facts: what l11Copy of the model carries: a row of copies that an append grows. No condition. -/
import Derived.Test.YtjeiiljdhnmofaaDoorClone
import Derived.Deep.AppendLies
import Derived.Deep.RegionLaw
namespace Go.Proofs.YtjeiiljdhnmofaaDoor
open Go Go.RowKit

theorem PtD.keepR {w w' : World} {lo hi : Nat} (hk : ∀ (p : Addr) (v : Value), lo ≤ p.block → p.block < hi → w.cell? p = some v → w'.cell? p = some v) : ∀ {d : Nat} {A : Option Addr} {n : Nat} {xs : List Pt}, PtD w lo hi d A n xs → PtD w' lo hi d A n xs
  | 0, _, _, _, h => h
  | d + 1, A, n, xs, h => ⟨h.1, h.2.1, fun hn => by
    obtain ⟨b, off, e, hl, hg, hc⟩ := h.2.2 hn
    refine ⟨b, off, e, hl, hg, fun j x hx => ?_⟩
    obtain ⟨A', n', c', h1, ⟨k0, k1, k2, k3⟩, h3, h4⟩ := hc j x hx
    exact ⟨A', n', c', h1, ⟨hk _ _ hl hg k0, hk _ _ hl hg k1, hk _ _ hl hg k2, hk _ _ hl hg k3⟩, h3, PtD.keepR hk h4⟩⟩
/-- What a copy of the model is. -/
def ToCo (d n : Nat) (x : Pt) (W : World) (e : Ending) (w' : World) : Prop :=
  ∃ (A' : Option Addr) (c' : Nat), n ≤ c' ∧ e = .returned (x.ag A' n c') ∧ Hid ((x.t.size ≤ maxLen ∧ PtD w' W.heap.size w'.heap.size d A' n x.kids) ∧ Below W.heap.size W w')
/-- The copies that stand in the row: each lies in blocks of its own, the row's not among them. -/
def CopyEls (B : Nat) (w : World) (v : Value) (d j : Nat) (xs : List Pt) (vals : List Value) : Prop :=
  ∀ (i : Nat) (x : Pt), i < j → xs[i]? = some x → ∃ (A' : Option Addr) (n' c' lo hi : Nat), n' ≤ c' ∧ (∀ q u, (x.vs A' n' c')[q]? = some u → vals[i * 4 + q]? = some u) ∧ x.t.size ≤ maxLen ∧ PtD w lo hi d A' n' x.kids ∧ B ≤ lo ∧ hi ≤ w.heap.size ∧ ∀ g, v.ownBlock = some g → g < lo ∨ hi ≤ g
theorem CopyEls.below {B : Nat} {w w' : World} {v : Value} {d j : Nat} {xs : List Pt} {vals : List Value} (h : CopyEls B w v d j xs vals) (hb : Below w.heap.size w w') : CopyEls B w' v d j xs vals := fun i x hi hx => by
  obtain ⟨A', n', c', lo, hi', h1, h2, h3, h4, h5, h6, h7⟩ := h i x hi hx
  exact ⟨A', n', c', lo, hi', h1, h2, h3, h4.below (hb.mono h6), h5, Nat.le_trans h6 hb.size, h7⟩
theorem CopyEls.set {B : Nat} {w : World} {v : Value} {d j : Nat} {xs : List Pt} {vals : List Value} (h : CopyEls B w v d j xs vals) {q : Addr} (hq : q.block < B) (u : Value) : CopyEls B (w.setCell q u) v d j xs vals := fun i x hi hx => by
  obtain ⟨A', n', c', lo, hi', h1, h2, h3, h4, h5, h6, h7⟩ := h i x hi hx
  exact ⟨A', n', c', lo, hi', h1, h2, h3, h4.other (.inl (by omega)) u, h5, by rw [size_set]; exact h6, h7⟩
theorem CopyEls.snoc {B H : Nat} {w w2 wa w3 : World} {v : Value} {d j n' c' g cap : Nat} {xs : List Pt} {vals : List Value} {x : Pt} {A' : Option Addr} (h : CopyEls B w v d j xs vals) (hvl : vals.length = j * 4) (hb : Below w.heap.size w w2) (hlt : ∀ g, v.ownBlock = some g → g < w.heap.size) (hB : B ≤ w.heap.size)
    (hx : xs[j]? = some x) (hnc : n' ≤ c') (ht : x.t.size ≤ maxLen) (hp : PtD w2 w.heap.size w2.heap.size d A' n' x.kids) (ha : Below w2.heap.size w2 wa) (hgr : wa.grownBy w3 v.ownBlock) (hat : v.ownBlock = some g ∨ g = H) (hH : w2.heap.size ≤ H) :
    CopyEls B w3 (.slice (some ⟨g, 0, none⟩) (j + 1) cap) d (j + 1) xs (vals ++ x.vs A' n' c') := by
  have key : ∀ (lo hi : Nat), hi ≤ w2.heap.size → (∀ g, v.ownBlock = some g → g < lo ∨ hi ≤ g) → ∀ (p : Addr) (u : Value), lo ≤ p.block → p.block < hi → w2.cell? p = some u → w3.cell? p = some u := by
    intro lo hi hh hno p u h1 h2 hu
    have hsz := ha.size
    rw [hgr.cell_far p (by omega) (fun e => by have := hno _ e.symm; omega)]
    exact (ha.cell (p := p) (by omega)).trans hu
  have hs3 : w2.heap.size ≤ w3.heap.size := Nat.le_trans ha.size hgr.size
  intro i y hi hy
  by_cases e : i = j
  · subst e
    rw [hx, Option.some.injEq] at hy
    subst hy
    refine ⟨A', n', c', w.heap.size, w2.heap.size, hnc, fun q u hq => by rw [List.getElem?_append_right (by omega), show i * 4 + q - vals.length = q from by omega]; exact hq, ht, hp.keepR (key _ _ (Nat.le_refl _) (fun g hg => .inl (hlt g hg))), hB, hs3, fun g' hg' => ?_⟩
    simp only [Value.ownBlock, Option.some.injEq] at hg'
    subst hg'
    rcases hat with e | e
    · exact .inl (hlt _ e)
    · exact .inr (by omega)
  · obtain ⟨A'', n'', c'', lo, hi', k1, k2, k3, k4, k5, k6, k7⟩ := h i y (by omega) hy
    have hs := hb.size
    refine ⟨A'', n'', c'', lo, hi', k1, fun q u hq => ?_, k3, (k4.below (hb.mono k6)).keepR (key _ _ (by omega) k7), k5, by omega, fun g' hg' => ?_⟩
    · have hq4 : q < 4 := (List.getElem?_eq_some_iff.1 hq).1
      rw [List.getElem?_append_left (by omega)]
      exact k2 q u hq
    · simp only [Value.ownBlock, Option.some.injEq] at hg'
      subst hg'
      rcases hat with e | e
      · exact k7 _ e
      · exact .inr (by omega)
theorem CopyEls.all {B W0 : Nat} {w : World} {v : Value} {d n : Nat} {xs : List Pt} {vals : List Value} (hown : w.ownsRow B 29 4 v n vals) (h : CopyEls B w v d n xs vals) (hl : xs.length = n) (hn : n ≤ maxLen) (hB : W0 ≤ B) : ∃ A c, v = .slice A n c ∧ n ≤ c ∧ PtD w W0 w.heap.size (d + 1) A n xs := by
  rcases hown.2 with ⟨rfl, rfl⟩ | ⟨g, cap, cur, rfl, hg, hh, hc, _, hs, ht⟩
  · exact ⟨none, 0, rfl, Nat.le_refl _, hl, Nat.zero_le _, fun h => absurd h (by omega)⟩
  · have hgl : g < w.heap.size := (Array.getElem?_eq_some_iff.1 hh).1
    refine ⟨some ⟨g, 0, none⟩, cap, rfl, hc, hl, hn, fun _ => ⟨g, 0, rfl, by omega, hgl, fun j x hx => ?_⟩⟩
    have hj : j < n := by rw [← hl]; exact (List.getElem?_eq_some_iff.1 hx).1
    obtain ⟨A', n', c', lo, hi, h1, h2, h3, h4, h5, h6, _⟩ := h j x hj hx
    have hcell : ∀ q u, (x.vs A' n' c')[q]? = some u → w.cell? ⟨g, j * 4 + q, none⟩ = some u := fun q u hq => by
      have hq4 : q < 4 := (List.getElem?_eq_some_iff.1 hq).1
      have k := h2 q u hq
      rw [← ht, List.getElem?_take, if_pos (by omega), Array.getElem?_toList] at k
      rw [cell_of_row w g _ cur _ (0, 0) hh]
      exact k
    refine ⟨A', n', c', h1, ?_, h3, h4.more (by omega) h6⟩
    rw [Nat.zero_add]
    exact ⟨hcell 0 _ rfl, hcell 1 _ rfl, hcell 2 _ rfl, hcell 3 _ rfl⟩
theorem row4_lt {w : World} {B n : Nat} {v : Value} {T : TypeId} {vals : List Value} (h : w.ownsRow B T 4 v n vals) : ∀ g, v.ownBlock = some g → B ≤ g ∧ g < w.heap.size := fun g hg => by
  rcases h.2 with ⟨rfl, _⟩ | ⟨g', cap, cur, rfl, hg', hh, _⟩
  · simp [Value.ownBlock] at hg
  · simp only [Value.ownBlock, Option.some.injEq] at hg
    subst hg
    exact ⟨hg', (Array.getElem?_eq_some_iff.1 hh).1⟩
theorem row4_keep {w w' : World} {B n : Nat} {v : Value} {T : TypeId} {vals : List Value} (h : w.ownsRow B T 4 v n vals) (hb : Below w.heap.size w w') : w'.ownsRow B T 4 v n vals :=
  h.kept (row := none) ⟨hb.os, hb.tape, hb.output, hb.size, fun j hj _ => hb.block j hj⟩ (by cases hv : v.ownBlock <;> simp)
theorem row4_set {w : World} {B n : Nat} {v : Value} {T : TypeId} {vals : List Value} (h : w.ownsRow B T 4 v n vals) {q : Addr} (hq : q.block < B) (u : Value) : (w.setCell q u).ownsRow B T 4 v n vals := by
  refine ⟨h.1, ?_⟩
  rcases h.2 with h0 | ⟨g, cap, cur, e, hg, hh, rest⟩
  · exact .inl h0
  · exact .inr ⟨g, cap, cur, e, hg, (Below.heap_setCell w q u g (by omega)).trans hh, rest⟩
end Go.Proofs.YtjeiiljdhnmofaaDoor
