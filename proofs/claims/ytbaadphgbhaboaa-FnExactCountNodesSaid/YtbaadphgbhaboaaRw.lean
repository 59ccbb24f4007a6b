/- Blocks of cells that are known, what a sz-function answers, a proposition as a bool: lemmas that no type of the program stands in. No condition. -/
import Derived.Test.YtbaadphgbhaboaaBase
import Derived.Test.YtbaadphgbhaboaaListOf
import Derived.Laws.OwnMore
import Derived.Maps.RangeWalk
import Derived.Deep.MidRow
import Derived.Laws.CopyOwn
import Derived.Deep.QuietTactic
import Derived.Deep.RegionHeld3
namespace Go.Proofs.Ytbaadphgbhaboaa
open Go Go.RowKit

theorem below_grown_none {w w' : World} (h : w.grownBy w' none) : Below w.heap.size w w' := (Below.refl _ _).grown h (Nat.le_refl _) (fun k hk => by cases hk)
theorem below_alloc (W : World) (o : Obj) : Below W.heap.size W (W.alloc o) := (Below.refl _ _).alloc (Nat.le_refl _) _
theorem lt_alloc (W : World) (o : Obj) : W.heap.size < (W.alloc o).heap.size := by simp
theorem below_set (w : World) {p : Addr} {B : Nat} (h : B ≤ p.block) (u : Value) : Below B w (w.setCell p u) := (Below.refl _ _).setCell h u
theorem size_set (w : World) (p : Addr) (u : Value) : (w.setCell p u).heap.size = w.heap.size := by simp [World.setCell]
/-- The cells of block g, from its head. -/
def Blk (w : World) (g : Nat) (vs : List Value) : Prop := ∀ (i : Nat) (v : Value), vs[i]? = some v → w.cell? ⟨g, i, none⟩ = some v
theorem Blk.below {w w' : World} {g B : Nat} {vs : List Value} (h : Blk w g vs) (hb : Below B w w') (hg : g < B) : Blk w' g vs := fun i v hi => (hb.cell (p := ⟨g, i, none⟩) hg).trans (h i v hi)
theorem Blk.new (W : World) (cs : Array Value) (T : TypeId) : Blk (W.alloc (.cells cs T)) W.heap.size cs.toList := by
  intro i v h
  rw [Array.getElem?_toList] at h
  have : (W.alloc (.cells cs T)).heap[W.heap.size]? = some (.cells cs T (0, 0)) := (MapKept.heap_alloc W _).1
  rw [cell_of_row _ _ i cs T (0, 0) this]
  exact h
/-- Block g is known: its cells, none frozen. -/
def RW (T : TypeId) (w : World) (g : Nat) (cs : Array Value) : Prop := w.heap[g]? = some (.cells cs T (0, 0))
section
variable {T : TypeId} {w w' : World} {g : Nat} {cs : Array Value}
theorem RW.lt (h : RW T w g cs) : g < w.heap.size := by
  rcases Nat.lt_or_ge g w.heap.size with hlt | hge
  · exact hlt
  · unfold RW at h; rw [Array.getElem?_eq_none hge] at h; cases h
theorem RW.cell (h : RW T w g cs) (i : Nat) : w.cell? ⟨g, i, none⟩ = cs[i]? := cell_of_row w g i cs _ (0, 0) h
theorem RW.frozen (h : RW T w g cs) (i : Nat) : w.frozen? ⟨g, i, none⟩ = false := by
  unfold RW at h
  simp [World.frozen?, h]
theorem RW.set_ (h : RW T w g cs) (i : Nat) (u : Value) : RW T (w.setCell ⟨g, i, none⟩ u) g (cs.setIfInBounds i u) := by
  unfold RW at h ⊢
  simp [World.setCell, Array.getElem?_modify, h]
theorem RW.below {B : Nat} (h : RW T w g cs) (hb : Below B w w') (hg : g < B) : RW T w' g cs := (hb.block g hg).trans h
theorem RW.new (W : World) (cs : Array Value) (T : TypeId) : RW T (W.alloc (.cells cs T)) W.heap.size cs := (MapKept.heap_alloc W _).1
theorem RW.alloc (h : RW T w g cs) (o : Obj) : RW T (w.alloc o) g cs := h.below (below_alloc w o) h.lt
theorem RW.blk (h : RW T w g cs) : Blk w g cs.toList := fun i v hi => by rw [Array.getElem?_toList] at hi; rw [h.cell]; exact hi
end
theorem RW.other {T : TypeId} {w : World} {g : Nat} {cs : Array Value} (h : RW T w g cs) {p : Addr} (hp : g ≠ p.block) (u : Value) : RW T (w.setCell p u) g cs := by
  unfold RW at h ⊢
  simp [World.setCell, Array.getElem?_modify, h]
  exact fun e => absurd e.symm hp
theorem RW.there {T : TypeId} {w : World} {g o n : Nat} {cs : Array Value} (h : RW T w g cs) (hn : o + n ≤ cs.size) : w.there g o n := fun j hj => ⟨by rw [h.cell, Array.getElem?_eq_getElem (by omega)]; rfl, h.frozen _⟩
/-- Cells stored from o on. -/
def putL (cs : Array Value) : Nat → List Value → Array Value
  | _, [] => cs
  | o, v :: r => putL (cs.setIfInBounds o v) (o + 1) r
theorem RW.cells {T : TypeId} {g : Nat} : ∀ {vs : List Value} {w : World} {cs : Array Value} {o : Nat}, RW T w g cs → RW T (w.setCells g o vs) g (putL cs o vs)
  | [], _, _, _, h => h
  | v :: r, w, cs, o, h => RW.cells (vs := r) (h.set_ o v)
theorem RW.others {T : TypeId} {g b : Nat} (hg : g ≠ b) : ∀ {vs : List Value} {w : World} {cs : Array Value} {o : Nat}, RW T w g cs → RW T (w.setCells b o vs) g cs
  | [], _, _, _, h => h
  | v :: r, w, cs, o, h => RW.others hg (vs := r) (h.other hg v)
theorem below_cells {B b : Nat} (h : B ≤ b) : ∀ (vs : List Value) (w : World) (o : Nat), Below B w (w.setCells b o vs)
  | [], w, _ => Below.refl _ _
  | v :: r, w, o => (below_set w (p := ⟨b, o, none⟩) h v).trans (below_cells h r _ _)
theorem putL_size : ∀ (vs : List Value) (cs : Array Value) (o : Nat), (putL cs o vs).size = cs.size
  | [], _, _ => rfl
  | v :: r, cs, o => by rw [putL, putL_size r]; simp
theorem putL_old : ∀ (vs : List Value) (cs : Array Value) (o i : Nat), i < o → (putL cs o vs)[i]? = cs[i]?
  | [], _, _, _, _ => rfl
  | v :: r, cs, o, i, h => by rw [putL, putL_old r _ _ _ (by omega), Array.getElem?_setIfInBounds_ne (by omega)]
theorem putL_new : ∀ (vs : List Value) (cs : Array Value) (o q : Nat) (v : Value), o + vs.length ≤ cs.size → vs[q]? = some v → (putL cs o vs)[o + q]? = some v
  | [], _, _, _, _, _, h => by simp at h
  | u :: r, cs, o, 0, v, hl, h => by
    simp only [List.getElem?_cons_zero, Option.some.injEq] at h
    subst h
    rw [putL, putL_old r _ _ _ (by omega), Nat.add_zero, Array.getElem?_setIfInBounds_self_of_lt (by simp at hl; omega)]
  | u :: r, cs, o, q + 1, v, hl, h => by
    simp only [List.getElem?_cons_succ] at h
    rw [putL, show o + (q + 1) = (o + 1) + q from by omega]
    exact putL_new r _ _ _ _ (by simp at hl ⊢; omega) h
theorem two_new (W : World) (T : TypeId) (c c' : Array Value) (X : World) (e : X = (W.alloc (.cells c T)).alloc (.cells c' T)) : RW T X W.heap.size c ∧ RW T X (W.heap.size + 1) c' ∧ Below W.heap.size W X ∧ X.heap.size = W.heap.size + 2 := by
  subst e
  refine ⟨(RW.new W c T).alloc _, ?_, (below_alloc _ _).alloc (by simp) _, by simp⟩
  have := RW.new (W.alloc (.cells c T)) c' T
  simpa using this
/-- What a sz-function answers: what is left of L, or -1. -/
def SzL (s : Nat) (L : Int) (W : World) (e : Ending) (w' : World) : Prop :=
  (((s : Int) ≤ L ∧ e = .returned (.int .i64 (L - (s : Int)))) ∨ (L < (s : Int) ∧ e = .returned (.int .i64 (-1)))) ∧ Below W.heap.size W w'
theorem SzL.fits {s : Nat} {L : Int} {W w' : World} {e : Ending} (h : SzL s L W e w') (hl : (s : Int) ≤ L) (hL : L ≤ 1048576) : ∃ z, e = .returned (.int .i64 z) ∧ z = L - (s : Int) ∧ 0 ≤ z ∧ z ≤ 1048576 ∧ Below W.heap.size W w' := by
  rcases h with ⟨⟨_, he⟩ | ⟨h1, _⟩, hb⟩
  · exact ⟨_, he, rfl, by omega, by omega, hb⟩
  · omega
theorem SzL.long {s : Nat} {L : Int} {W w' : World} {e : Ending} (h : SzL s L W e w') (hl : ¬ (s : Int) ≤ L) : e = .returned (.int .i64 (-1)) ∧ Below W.heap.size W w' := by
  rcases h with ⟨⟨h1, _⟩ | ⟨_, he⟩, hb⟩
  · exact absurd h1 hl
  · exact ⟨he, hb⟩
/-- A proposition as a bool. -/
noncomputable def tt (P : Prop) : Bool := @decide P (Classical.propDecidable P)
theorem tt_true {P : Prop} (h : P) : tt P = true := by unfold tt; simp [h]
theorem tt_false {P : Prop} (h : ¬ P) : tt P = false := by unfold tt; simp [h]
theorem tt_iff {P : Prop} : tt P = true ↔ P := by unfold tt; simp
theorem of_tt {P : Prop} (h : tt P = true) : P := tt_iff.1 h
theorem of_tt_false {P : Prop} (h : tt P = false) : ¬ P := fun hp => by rw [tt_true hp] at h; cases h
theorem tt_congr {P Q : Prop} (h : P ↔ Q) : tt P = tt Q := by rw [propext h]
section
variable {H : Type} {enc : TypeId × Value → H} {W : World} {base : Nat} {held : Bool}
theorem field_at {P : Program} {fs : Array Field} {m : Nat} {cs : List Value} {ys : List (DataW H × List MemPlace)} {i o k : Nat} {T : TypeId} {sp : Nat → Bool}
    (hf : ∀ (i : Nat) (f : Field), fs[i]? = some f → DataW.trod enc P W base sp held m f.type ((cs.drop f.offset).take (P.cellsOf f.type)) = ys[i]?)
    (h : (fs[i]?.map fun f => (f.type, f.offset)) = some (T, o)) (hk : P.cellsOf T = k) : DataW.trod enc P W base sp held m T ((cs.drop o).take k) = ys[i]? := by
  obtain ⟨f, h1, h2⟩ := Option.map_eq_some_iff.1 h
  simp only [Prod.mk.injEq] at h2
  obtain ⟨rfl, rfl⟩ := h2
  subst hk
  exact hf i f h1
end
/-- A slice's field, opened. -/
theorem open_slice1 {H : Type} {enc : TypeId × Value → H} {P : Program} {w : World} {base m : Nat} {sp : Nat → Bool} {held : Bool} {t e : TypeId} {v : Value} {y : DataW H × List MemPlace} (ht : P.underlying t = some (.slice e)) (h : DataW.trod enc P w base sp held m t [v] = some y) :
    ∃ A n c, n ≤ c ∧ [v] = [Value.slice A n c] := by
  rcases Go.Deep.open_slice ht h with ⟨h0, _⟩ | ⟨a, len, cap, _, _, _, _, hcs, _, hlc, _⟩
  · exact ⟨_, _, _, Nat.le_refl _, h0⟩
  · exact ⟨_, _, _, hlc, hcs⟩
theorem below_sets {B b : Nat} (h : B ≤ b) (vs : List Value) (w : World) (o : Nat) : w.heap.size ≤ (w.setCells b o vs).heap.size := (below_cells (B := 0) (Nat.zero_le _) vs w o).size
end Go.Proofs.Ytbaadphgbhaboaa
