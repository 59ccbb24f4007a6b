/- Plain facts on strings and lists, of no program. No condition. Small lemmas on endings and on what a range over a string leaves. No condition. Plain: a list out of what holds index by index. No condition. Blocks of cells that are known, what a sz-function answers, a proposition as a bool: lemmas that no type of the program stands in. No condition. Slices of strings: what came in or lies below B; szStringS, toStringS of the laws. No condition. laws.eqStringS where both are the same. No condition. File: as plain data and in memory; szFile, szFileS of the laws. No condition. toFile, toFileS of the laws. No condition. Small: the ending of a string; one byte made a string. No condition. Contract: laws.markText: some text that hangs on the number alone. No condition but a bound on the number. What a mark may turn; rows of strings that can be marked. No condition. toStringS of the laws: a row of its own. No condition. toFile, toFileS of the laws: rows of their own. No condition. Slices and blocks of strings. No condition. laws.markStringS on a row of strings: only its block turns. No condition. laws.markFileS on a row of one's own: only its blocks turn. No condition. laws.markStringS on a row of strings of one's own: only its block turns, and it holds the marks; heldStringS reads them. No condition. laws.markFileS, heldFileS on a row of files of one's own: the marks are there and are read, where its lists lie apart. No condition. -/
import Derived.PlainAid
import Derived.Lib.Strings
import Derived.Lib.Bytealg
import Derived.Test.YtlohjmlenbkbmaaDoorChecked
import Derived.WalkKit
import Derived.WalkLawsBesides
import Derived.Lib.Hide
import Derived.LoopTactic
import Derived.Below
import Derived.Deep.Slices
import Derived.Deep.Fields
import Derived.ChangeSame
import Derived.Lib.SmallJoins
import Derived.OpenShut
import Derived.Laws.OwnMore
import Derived.Maps.RangeWalk
import Derived.Deep.MidRow
import Derived.Laws.CopyOwn
import Derived.Deep.QuietTactic
import Derived.Deep.RegionHeld3
import Derived.BigQuiet
import Derived.Laws.BytesString
import Derived.IntWalk
namespace Go.Proofs.YtlohjmlenbkbmaaDoor
open Go

theorem size_toList (s : ByteArray) : s.toList.length = s.size := by rw [Lib.toList_data, ← Lib.size_eq]
theorem nil_of_size {s : ByteArray} (h : s.size = 0) : s.toList = [] := List.eq_nil_of_length_eq_zero (by rw [size_toList]; exact h)
theorem ne_nil_of_size {s : ByteArray} (h : 0 < s.size) : ¬ s.toList = [] := by
  intro e
  have := size_toList s
  rw [e] at this
  simp at this
  omega
theorem isEmpty_of_size {s : ByteArray} (h : s.size = 0) : s.toList.isEmpty = true := by rw [nil_of_size h]; rfl
theorem not_isEmpty_of_size {s : ByteArray} (h : 0 < s.size) : s.toList.isEmpty = false := by simpa using ne_nil_of_size h
theorem size_mk (l : List UInt8) : (⟨l.toArray⟩ : ByteArray).size = l.length := by rw [Lib.size_eq]
theorem get_mk (l : List UInt8) (i : Nat) (h : i < (⟨l.toArray⟩ : ByteArray).size) : (⟨l.toArray⟩ : ByteArray)[i] = l[i]'(by rwa [size_mk] at h) := rfl
theorem bt_mk (l : List UInt8) (i : Nat) (h : i < l.length) : PlainAid.bt ⟨l.toArray⟩ i = (l[i].toNat : Int) := by
  rw [← PlainAid.get_bt _ i (by rw [size_mk]; exact h), get_mk]
theorem bt_data (s : ByteArray) (i : Nat) (h : i < s.data.toList.length) : PlainAid.bt s i = (s.data.toList[i].toNat : Int) := by
  obtain ⟨⟨l⟩⟩ := s
  exact bt_mk l i h
/-- 's[:1] == c' is 's[0] == c'. -/
theorem ext_one (s : ByteArray) (c : UInt8) (h : 0 < s.size) : ((s.extract 0 1).toList == [c]) = (PlainAid.bt s 0 == (c.toNat : Int)) := by
  rw [Lib.size_eq] at h
  rw [bt_data s 0 h, Lib.extract_toList]
  generalize s.data.toList = l at h ⊢
  cases l with
  | nil => simp at h
  | cons x xs =>
    rw [Bool.eq_iff_iff]
    simp only [List.drop_zero, Nat.sub_zero, List.take_succ_cons, List.take_zero, beq_iff_eq, List.cons.injEq, and_true, List.getElem_cons_zero]
    exact ⟨fun h => by rw [h], fun h => UInt8.toNat_inj.mp (by omega)⟩

/-- All bytes satisfy p. -/
def allB (p : Int → Bool) (s : ByteArray) : Bool := (List.range s.size).all fun i => p (PlainAid.bt s i)
theorem allB_true {p : Int → Bool} {s : ByteArray} (h : ∀ i, i < s.size → p (PlainAid.bt s i) = true) : allB p s = true := by
  unfold allB
  rw [List.all_eq_true]
  intro i hi
  exact h i (by simpa using hi)
theorem allB_false {p : Int → Bool} {s : ByteArray} (i : Nat) (hi : i < s.size) (h : p (PlainAid.bt s i) = false) : allB p s = false := by
  unfold allB
  rw [List.all_eq_false]
  exact ⟨i, by simpa using hi, by simp [h]⟩
theorem of_allB {p : Int → Bool} {s : ByteArray} (h : allB p s = true) (i : Nat) (hi : i < s.size) : p (PlainAid.bt s i) = true := by
  unfold allB at h
  exact List.all_eq_true.1 h i (by simpa using hi)
theorem allB_congr {p q : Int → Bool} {s : ByteArray} (h : ∀ c, 0 ≤ c → c ≤ 255 → p c = q c) : allB p s = allB q s := by
  unfold allB
  congr 1
  funext i
  exact h _ (PlainAid.bt_nonneg s i) (PlainAid.bt_le s i)
theorem upto_succ {p : Nat → Prop} {k : Nat} (h : ∀ j, j < k → p j) (hk : p k) : ∀ j, j < k + 1 → p j := fun j hj => by
  rcases Nat.lt_or_ge j k with h1 | h1
  · exact h j h1
  · obtain rfl : j = k := by omega
    exact hk
/-- A printable byte; a newline besides where 'nl'. -/
def prnB (nl : Bool) (c : Int) : Bool := decide (32 ≤ c ∧ c ≤ 126) || (nl && c == 10)
theorem prnB_yes {nl : Bool} {c : Int} (h0 : 32 ≤ c) (h1 : c ≤ 126) : prnB nl c = true := by simp [prnB, h0, h1]
theorem prnB_nl : prnB true 10 = true := by decide
theorem prnB_no {c : Int} (h : c < 32 ∨ 126 < c) : prnB false c = false := by
  simp [prnB]; omega
theorem prnB_no' {c : Int} {nl : Bool} (h : c < 32 ∨ 126 < c) (h2 : ¬ c = 10) : prnB nl c = false := by
  simp [prnB, h2]; omega
end Go.Proofs.YtlohjmlenbkbmaaDoor

namespace Go.Proofs.YtlohjmlenbkbmaaDoor
open Go Go.RowKit

theorem bool_ret {a b : Bool} (h : a = b) : Ending.returned (.bool a) = .returned (.bool b) := by rw [h]
theorem below_iter {B : Nat} {a w : World} (h : Below B a w) (hB : B ≤ w.heap.size) (s : ByteArray) (pos : Nat) : Below B a (w.iter s pos) := h.alloc hB _
theorem bcell {W w1 : World} (hb : Below W.heap.size W w1) : (∀ b o, b < W.heap.size → w1.cell? ⟨b, o, none⟩ = W.cell? ⟨b, o, none⟩) ∧ (∀ b o, b < W.heap.size → w1.frozen? ⟨b, o, none⟩ = W.frozen? ⟨b, o, none⟩) :=
  ⟨fun b o h => hb.cell (p := ⟨b, o, none⟩) h, fun b o h => hb.frozen (p := ⟨b, o, none⟩) h⟩
end Go.Proofs.YtlohjmlenbkbmaaDoor

namespace Go.Proofs.YtlohjmlenbkbmaaDoor
open Go Go.ChangeShapes Go.WideShapes Go.Deep

theorem list_of {α : Type} {P : Nat → α → Prop} : ∀ {n : Nat}, (∀ i, i < n → ∃ x, P i x) → ∃ xs : List α, xs.length = n ∧ ∀ (j : Nat) (x : α), xs[j]? = some x → P j x
  | 0, _ => ⟨[], rfl, fun j x h => by simp at h⟩
  | n + 1, h => by
    obtain ⟨xs, hl, hp⟩ := list_of (n := n) fun i hi => h i (by omega)
    obtain ⟨y, hy⟩ := h n (by omega)
    refine ⟨xs ++ [y], by simp [hl], fun j x hx => ?_⟩
    by_cases hj : j < n
    · rw [List.getElem?_append_left (by omega)] at hx
      exact hp j x hx
    · have hlt : j < (xs ++ [y]).length := (List.getElem?_eq_some_iff.1 hx).1
      simp [hl] at hlt
      obtain rfl : j = n := by omega
      rw [List.getElem?_append_right (by omega), hl, Nat.sub_self] at hx
      simp at hx
      rw [← hx]
      exact hy

section
variable {H : Type} {enc : TypeId × Value → H} {P : Program} {w : World} {base : Nat} {spare : Nat → Bool} {held : Bool}
/-- An argument that is a slice of structs of one-cell fields: its cells, and each field's own reading. -/
theorem open_structs {t e : TypeId} {fs : Array Field} {fuel : Nat} {A : Option Addr} {n c : Nat} {x : DataW H × List MemPlace} (ht : P.underlying t = some (.slice e)) (he : P.underlying e = some (.struct fs))
    (hone : oneCellFields P fs = true) (hC : P.cellsOf e = fs.size) (hs : 0 < fs.size) (h : DataW.trod enc P w base (fun _ => true) held fuel t [.slice A n c] = some x) :
    n ≤ maxLen ∧ (0 < n → ∃ b off, A = some ⟨b, off, none⟩ ∧ b < w.heap.size ∧ ∀ i, i < n → ∀ (j : Nat) (f : Field), fs[j]? = some f → ∃ (v : Value) (y : DataW H × List MemPlace) (m : Nat), w.cell? ⟨b, off + (i * fs.size + j), none⟩ = some v ∧ DataW.trod enc P w base (fun _ => true) held m f.type [v] = some y) := by
  rcases open_slice ht h with ⟨h0, _⟩ | ⟨a, len, cap, m, k, D, Pl, hcs, hb, hl, hm, hmm, hx, hi⟩
  · simp at h0
    obtain ⟨rfl, rfl, rfl⟩ := h0
    exact ⟨Nat.zero_le _, fun h => absurd h (by omega)⟩
  · simp only [List.cons.injEq, Value.slice.injEq, and_true] at hcs
    obtain ⟨rfl, rfl, rfl⟩ := hcs
    simp only [if_true] at hmm
    have key : ∀ i, i < n → ∀ (j : Nat) (f : Field), fs[j]? = some f → ∃ (v : Value) (y : DataW H × List MemPlace) (m : Nat), w.cell? (a.add (i * fs.size + j)) = some v ∧ DataW.trod enc P w base (fun _ => true) held m f.type [v] = some y := by
      intro i hin j f hj
      obtain ⟨cs', hc, ht'⟩ := hi i (by omega)
      rw [hC] at hc
      obtain ⟨ys, n', hn', hy, hlen, hyl, hf⟩ := DataW.trod_struct he ht'
      obtain ⟨_, hcl, hat⟩ := World.cells?_some hc
      obtain ⟨ho, hk⟩ := hone_of hone j f hj
      have hjl : j < fs.size := (Array.getElem?_eq_some_iff.1 hj).1
      have hcell := hat j hjl
      have hv : cs'[j]? = some (cs'[j]'(by omega)) := List.getElem?_eq_getElem (by omega)
      have h1 := hf j f hj
      rw [ho, hk] at h1
      have hone' : (cs'.drop j).take 1 = [cs'[j]'(by omega)] := by
        rw [List.drop_eq_getElem_cons (by omega)]
        rfl
      rw [hone'] at h1
      have hys : ys[j]? = some (ys[j]'(by omega)) := List.getElem?_eq_getElem (by omega)
      exact ⟨_, _, n', by rw [← Go.Deep.add_add, hcell, hv], h1.trans hys⟩
    refine ⟨Nat.le_trans hl hm, fun hn => ?_⟩
    obtain ⟨ab, ao, spot⟩ := a
    obtain ⟨f0, hf0⟩ : ∃ f0, fs[0]? = some f0 := ⟨_, Array.getElem?_eq_getElem hs⟩
    obtain ⟨v, y, q, h0, _⟩ := key 0 hn 0 f0 hf0
    have hspot : spot = none := by simpa [Addr.add] using World.cell?_spot h0
    subst hspot
    rw [Addr.add_lit] at h0
    refine ⟨ab, ao, rfl, World.block_lt_of_cell? w ⟨ab, _, none⟩ h0, fun i hin j f hj => ?_⟩
    obtain ⟨v, y, q, h1, h2⟩ := key i hin j f hj
    rw [Addr.add_lit] at h1
    exact ⟨v, y, q, h1, h2⟩
end
end Go.Proofs.YtlohjmlenbkbmaaDoor

namespace Go.Proofs.YtlohjmlenbkbmaaDoor
open Go Go.RowKit

theorem below_grown_none {w w' : World} (h : w.grownBy w' none) : Below w.heap.size w w' := (Below.refl _ _).grown h (Nat.le_refl _) (fun k hk => by cases hk)
theorem below_alloc (W : World) (o : Obj) : Below W.heap.size W (W.alloc o) := (Below.refl _ _).alloc (Nat.le_refl _) _
theorem lt_alloc (W : World) (o : Obj) : W.heap.size < (W.alloc o).heap.size := by simp
theorem below_set (w : World) {p : Addr} {B : Nat} (h : B ≤ p.block) (u : Value) : Below B w (w.setCell p u) := (Below.refl _ _).setCell h u
theorem size_set (w : World) (p : Addr) (u : Value) : (w.setCell p u).heap.size = w.heap.size := by simp [World.setCell]
/-- The cells of block g, from its head. -/
def Blk (w : World) (g : Nat) (vs : List Value) : Prop := ∀ (i : Nat) (v : Value), vs[i]? = some v → w.cell? ⟨g, i, none⟩ = some v
theorem Blk.below {w w' : World} {g B : Nat} {vs : List Value} (h : Blk w g vs) (hb : Below B w w') (hg : g < B) : Blk w' g vs := fun i v hi => (hb.cell (p := ⟨g, i, none⟩) hg).trans (h i v hi)
theorem Blk.new (W : World) (cs : Array Value) (T : TypeId) : Blk (W.alloc (.cells cs T)) W.heap.size cs.toList := by
  intro i v h
  rw [Array.getElem?_toList] at h
  have : (W.alloc (.cells cs T)).heap[W.heap.size]? = some (.cells cs T (0, 0)) := (MapKept.heap_alloc W _).1
  rw [cell_of_row _ _ i cs T (0, 0) this]
  exact h
/-- Block g is known: its cells, none frozen. -/
def RW (T : TypeId) (w : World) (g : Nat) (cs : Array Value) : Prop := w.heap[g]? = some (.cells cs T (0, 0))
section
variable {T : TypeId} {w w' : World} {g : Nat} {cs : Array Value}
theorem RW.lt (h : RW T w g cs) : g < w.heap.size := by
  rcases Nat.lt_or_ge g w.heap.size with hlt | hge
  · exact hlt
  · unfold RW at h; rw [Array.getElem?_eq_none hge] at h; cases h
theorem RW.cell (h : RW T w g cs) (i : Nat) : w.cell? ⟨g, i, none⟩ = cs[i]? := cell_of_row w g i cs _ (0, 0) h
theorem RW.frozen (h : RW T w g cs) (i : Nat) : w.frozen? ⟨g, i, none⟩ = false := by
  unfold RW at h
  simp [World.frozen?, h]
theorem RW.set_ (h : RW T w g cs) (i : Nat) (u : Value) : RW T (w.setCell ⟨g, i, none⟩ u) g (cs.setIfInBounds i u) := by
  unfold RW at h ⊢
  simp [World.setCell, Array.getElem?_modify, h]
theorem RW.below {B : Nat} (h : RW T w g cs) (hb : Below B w w') (hg : g < B) : RW T w' g cs := (hb.block g hg).trans h
theorem RW.new (W : World) (cs : Array Value) (T : TypeId) : RW T (W.alloc (.cells cs T)) W.heap.size cs := (MapKept.heap_alloc W _).1
theorem RW.alloc (h : RW T w g cs) (o : Obj) : RW T (w.alloc o) g cs := h.below (below_alloc w o) h.lt
theorem RW.blk (h : RW T w g cs) : Blk w g cs.toList := fun i v hi => by rw [Array.getElem?_toList] at hi; rw [h.cell]; exact hi
end
theorem RW.other {T : TypeId} {w : World} {g : Nat} {cs : Array Value} (h : RW T w g cs) {p : Addr} (hp : g ≠ p.block) (u : Value) : RW T (w.setCell p u) g cs := by
  unfold RW at h ⊢
  simp [World.setCell, Array.getElem?_modify, h]
  exact fun e => absurd e.symm hp
theorem RW.there {T : TypeId} {w : World} {g o n : Nat} {cs : Array Value} (h : RW T w g cs) (hn : o + n ≤ cs.size) : w.there g o n := fun j hj => ⟨by rw [h.cell, Array.getElem?_eq_getElem (by omega)]; rfl, h.frozen _⟩
/-- Cells stored from o on. -/
def putL (cs : Array Value) : Nat → List Value → Array Value
  | _, [] => cs
  | o, v :: r => putL (cs.setIfInBounds o v) (o + 1) r
theorem RW.cells {T : TypeId} {g : Nat} : ∀ {vs : List Value} {w : World} {cs : Array Value} {o : Nat}, RW T w g cs → RW T (w.setCells g o vs) g (putL cs o vs)
  | [], _, _, _, h => h
  | v :: r, _, _, o, h => RW.cells (vs := r) (h.set_ o v)
theorem RW.others {T : TypeId} {g b : Nat} (hg : g ≠ b) : ∀ {vs : List Value} {w : World} {cs : Array Value} {o : Nat}, RW T w g cs → RW T (w.setCells b o vs) g cs
  | [], _, _, _, h => h
  | v :: r, _, _, _, h => RW.others hg (vs := r) (h.other hg v)
theorem below_cells {B b : Nat} (h : B ≤ b) : ∀ (vs : List Value) (w : World) (o : Nat), Below B w (w.setCells b o vs)
  | [], _, _ => Below.refl _ _
  | v :: r, w, o => (below_set w (p := ⟨b, o, none⟩) h v).trans (below_cells h r _ _)
theorem putL_size : ∀ (vs : List Value) (cs : Array Value) (o : Nat), (putL cs o vs).size = cs.size
  | [], _, _ => rfl
  | v :: r, cs, o => by rw [putL, putL_size r]; simp
theorem putL_old : ∀ (vs : List Value) (cs : Array Value) (o i : Nat), i < o → (putL cs o vs)[i]? = cs[i]?
  | [], _, _, _, _ => rfl
  | v :: r, cs, o, i, h => by rw [putL, putL_old r _ _ _ (by omega), Array.getElem?_setIfInBounds_ne (by omega)]
theorem putL_new : ∀ (vs : List Value) (cs : Array Value) (o q : Nat) (v : Value), o + vs.length ≤ cs.size → vs[q]? = some v → (putL cs o vs)[o + q]? = some v
  | [], _, _, _, _, _, h => by simp at h
  | u :: r, cs, o, 0, v, hl, h => by
    simp only [List.getElem?_cons_zero, Option.some.injEq] at h
    subst h
    rw [putL, putL_old r _ _ _ (by omega), Nat.add_zero, Array.getElem?_setIfInBounds_self_of_lt (by simp at hl; omega)]
  | u :: r, cs, o, q + 1, v, hl, h => by
    simp only [List.getElem?_cons_succ] at h
    rw [putL, show o + (q + 1) = (o + 1) + q from by omega]
    exact putL_new r _ _ _ _ (by simp at hl ⊢; omega) h
theorem two_new (W : World) (T : TypeId) (c c' : Array Value) (X : World) (e : X = (W.alloc (.cells c T)).alloc (.cells c' T)) : RW T X W.heap.size c ∧ RW T X (W.heap.size + 1) c' ∧ Below W.heap.size W X ∧ X.heap.size = W.heap.size + 2 := by
  subst e
  refine ⟨(RW.new W c T).alloc _, ?_, (below_alloc _ _).alloc (by simp) _, by simp⟩
  have := RW.new (W.alloc (.cells c T)) c' T
  simpa using this
/-- What a sz-function answers: what is left of L, or -1. -/
def SzL (s : Nat) (L : Int) (W : World) (e : Ending) (w' : World) : Prop :=
  (((s : Int) ≤ L ∧ e = .returned (.int .i64 (L - (s : Int)))) ∨ (L < (s : Int) ∧ e = .returned (.int .i64 (-1)))) ∧ Below W.heap.size W w'
theorem SzL.fits {s : Nat} {L : Int} {W w' : World} {e : Ending} (h : SzL s L W e w') (hl : (s : Int) ≤ L) (hL : L ≤ 1048576) : ∃ z, e = .returned (.int .i64 z) ∧ z = L - (s : Int) ∧ 0 ≤ z ∧ z ≤ 1048576 ∧ Below W.heap.size W w' := by
  rcases h with ⟨⟨_, he⟩ | ⟨h1, _⟩, hb⟩
  · exact ⟨_, he, rfl, by omega, by omega, hb⟩
  · omega
theorem SzL.long {s : Nat} {L : Int} {W w' : World} {e : Ending} (h : SzL s L W e w') (hl : ¬ (s : Int) ≤ L) : e = .returned (.int .i64 (-1)) ∧ Below W.heap.size W w' := by
  rcases h with ⟨⟨h1, _⟩ | ⟨_, he⟩, hb⟩
  · exact absurd h1 hl
  · exact ⟨he, hb⟩
/-- A proposition as a bool. -/
noncomputable def tt (P : Prop) : Bool := @decide P (Classical.propDecidable P)
theorem tt_true {P : Prop} (h : P) : tt P = true := by unfold tt; simp [h]
theorem tt_false {P : Prop} (h : ¬ P) : tt P = false := by unfold tt; simp [h]
theorem tt_iff {P : Prop} : tt P = true ↔ P := by unfold tt; simp
theorem of_tt {P : Prop} (h : tt P = true) : P := tt_iff.1 h
theorem of_tt_false {P : Prop} (h : tt P = false) : ¬ P := fun hp => by rw [tt_true hp] at h; cases h
theorem tt_congr {P Q : Prop} (h : P ↔ Q) : tt P = tt Q := by rw [propext h]
section
variable {H : Type} {enc : TypeId × Value → H} {W : World} {base : Nat} {held : Bool}
theorem field_at {P : Program} {fs : Array Field} {m : Nat} {cs : List Value} {ys : List (DataW H × List MemPlace)} {i o k : Nat} {T : TypeId} {sp : Nat → Bool}
    (hf : ∀ (i : Nat) (f : Field), fs[i]? = some f → DataW.trod enc P W base sp held m f.type ((cs.drop f.offset).take (P.cellsOf f.type)) = ys[i]?)
    (h : (fs[i]?.map fun f => (f.type, f.offset)) = some (T, o)) (hk : P.cellsOf T = k) : DataW.trod enc P W base sp held m T ((cs.drop o).take k) = ys[i]? := by
  obtain ⟨f, h1, h2⟩ := Option.map_eq_some_iff.1 h
  simp only [Prod.mk.injEq] at h2
  obtain ⟨rfl, rfl⟩ := h2
  subst hk
  exact hf i f h1
end
/-- A slice's field, opened. -/
theorem open_slice1 {H : Type} {enc : TypeId × Value → H} {P : Program} {w : World} {base m : Nat} {sp : Nat → Bool} {held : Bool} {t e : TypeId} {v : Value} {y : DataW H × List MemPlace} (ht : P.underlying t = some (.slice e)) (h : DataW.trod enc P w base sp held m t [v] = some y) :
    ∃ A n c, n ≤ c ∧ [v] = [Value.slice A n c] := by
  rcases Go.Deep.open_slice ht h with ⟨h0, _⟩ | ⟨a, len, cap, _, _, _, _, hcs, _, hlc, _⟩
  · exact ⟨_, _, _, Nat.le_refl _, h0⟩
  · exact ⟨_, _, _, hlc, hcs⟩
theorem below_sets {B b : Nat} (_ : B ≤ b) (vs : List Value) (w : World) (o : Nat) : w.heap.size ≤ (w.setCells b o vs).heap.size := (below_cells (B := 0) (Nat.zero_le _) vs w o).size
end Go.Proofs.YtlohjmlenbkbmaaDoor

namespace Go.Proofs.YtlohjmlenbkbmaaDoor
open Go Go.RowKit

/-- What holds of a world by its blocks from a to before b alone. -/
def Det (a b : Nat) (w : World) (P : World → Prop) : Prop := ∀ w', (∀ g, a ≤ g → g < b → w'.heap[g]? = w.heap[g]?) → P w'
theorem Det.self {a b : Nat} {w : World} {P : World → Prop} (h : Det a b w P) : P w := h w fun _ _ _ => rfl
theorem Det.wide {a b a' b' : Nat} {w : World} {P : World → Prop} (h : Det a b w P) (ha : a' ≤ a) (hb : b ≤ b') : Det a' b' w P := fun w' k => h w' fun g h1 h2 => k g (by omega) (by omega)
theorem Det.keep {a b : Nat} {w w' : World} {P : World → Prop} (h : Det a b w P) (k : ∀ g, a ≤ g → g < b → w'.heap[g]? = w.heap[g]?) : Det a b w' P := fun w'' k' => h w'' fun g h1 h2 => (k' g h1 h2).trans (k g h1 h2)
theorem Det.below {a b B : Nat} {w w' : World} {P : World → Prop} (h : Det a b w P) (hb : Below B w w') (hB : b ≤ B) : Det a b w' P := h.keep fun g _ h2 => hb.block g (by omega)
theorem Det.set {a b : Nat} {w : World} {P : World → Prop} (h : Det a b w P) {p : Addr} (hp : p.block < a) (u : Value) : Det a b (w.setCell p u) P := h.keep fun g h1 _ => Below.heap_setCell w p u g (by omega)
theorem Det.set' {a b : Nat} {w : World} {P : World → Prop} (h : Det a b w P) {p : Addr} (hp : b ≤ p.block) (u : Value) : Det a b (w.setCell p u) P := h.keep fun g _ h2 => Below.heap_setCell w p u g (by omega)
theorem Det.imp {a b : Nat} {w : World} {P Q : World → Prop} (h : Det a b w P) (k : ∀ w, P w → Q w) : Det a b w Q := fun w' k' => k w' (h w' k')
theorem cell_same {w w' : World} {b o : Nat} (h : w'.heap[b]? = w.heap[b]?) : w'.cell? ⟨b, o, none⟩ = w.cell? ⟨b, o, none⟩ := World.cell?_of_block (w := w) (a := ⟨b, o, none⟩) h

/-- A slice of strings whose cells lie below B. -/
def StI (w : World) (B : Nat) (A : Option Addr) (n : Nat) (xs : List ByteArray) : Prop :=
  xs.length = n ∧ n ≤ maxLen ∧ (0 < n → ∃ b off, A = some ⟨b, off, none⟩ ∧ b < B ∧ ∀ (j : Nat) (x : ByteArray), xs[j]? = some x → w.cell? ⟨b, off + j, none⟩ = some (.string x) ∧ x.size ≤ maxLen)
abbrev St := ByteArray
theorem StI.below {w w' : World} {B n : Nat} {A : Option Addr} {xs : List St} (h : StI w B A n xs) (hb : Below B w w') : StI w' B A n xs :=
  ⟨h.1, h.2.1, fun hn => by
    obtain ⟨b, off, e, hg, hc⟩ := h.2.2 hn
    exact ⟨b, off, e, hg, fun j x hx => ⟨(hb.cell (p := ⟨b, off + j, none⟩) hg).trans (hc j x hx).1, (hc j x hx).2⟩⟩⟩
theorem StI.more {w : World} {B B' n : Nat} {A : Option Addr} {xs : List St} (h : StI w B A n xs) (hB : B ≤ B') : StI w B' A n xs :=
  ⟨h.1, h.2.1, fun hn => by
    obtain ⟨b, off, e, hg, hc⟩ := h.2.2 hn
    exact ⟨b, off, e, by omega, hc⟩⟩
theorem StI.nil (w : World) (B : Nat) (A : Option Addr) : StI w B A 0 [] := ⟨rfl, Nat.zero_le _, fun h => absurd h (by omega)⟩
theorem StI.at_ {w : World} {B n k : Nat} {A : Option Addr} {xs : List St} (h : StI w B A n xs) (hk : k < n) : ∃ b off x, A = some ⟨b, off, none⟩ ∧ b < B ∧ xs[k]? = some x ∧ w.cell? ⟨b, off + k, none⟩ = some (.string x) ∧ x.size ≤ maxLen := by
  obtain ⟨b, off, e, hg, hc⟩ := h.2.2 (by omega)
  have hl : k < xs.length := by rw [h.1]; exact hk
  exact ⟨b, off, xs[k], e, hg, List.getElem?_eq_getElem hl, hc k _ (List.getElem?_eq_getElem hl)⟩
theorem StI.alloc {W : World} {A : Option Addr} {n : Nat} {xs : List St} (h : StI W W.heap.size A n xs) (o : Obj) : StI (W.alloc o) (W.alloc o).heap.size A n xs := (h.below (below_alloc W o)).more (by simp)
theorem StI.go {W w : World} {A : Option Addr} {n : Nat} {xs : List St} (h : StI W W.heap.size A n xs) (hb : Below W.heap.size W w) : StI w w.heap.size A n xs := (h.below hb).more hb.size
theorem StI.other {w : World} {B n b off : Nat} {xs : List St} (h : StI w B (some ⟨b, off, none⟩) n xs) {p : Addr} (hp : b ≠ p.block) (u : Value) : StI (w.setCell p u) B (some ⟨b, off, none⟩) n xs :=
  ⟨h.1, h.2.1, fun hn => by
    obtain ⟨b', off', e, hg, hc⟩ := h.2.2 hn
    simp only [Option.some.injEq, Addr.mk.injEq, and_true] at e
    obtain ⟨rfl, rfl⟩ := e
    exact ⟨b, off, rfl, hg, fun j x hx => ⟨(World.cell?_setCell_other w p ⟨b, off + j, none⟩ u (fun e => hp (by rw [e]))).trans (hc j x hx).1, (hc j x hx).2⟩⟩⟩
theorem StI.others {B n b off : Nat} {xs : List St} {g : Nat} (hp : b ≠ g) : ∀ {vs : List Value} {w : World} {o : Nat}, StI w B (some ⟨b, off, none⟩) n xs → StI (w.setCells g o vs) B (some ⟨b, off, none⟩) n xs
  | [], _, _, h => h
  | v :: r, _, o, h => StI.others hp (vs := r) (h.other (p := ⟨g, o, none⟩) hp v)
theorem StI.det {w : World} {B n b off : Nat} {xs : List St} (h : StI w B (some ⟨b, off, none⟩) n xs) : Det b B w fun w => StI w B (some ⟨b, off, none⟩) n xs := fun w' k =>
  ⟨h.1, h.2.1, fun hn => by
    obtain ⟨b', off', e, hg, hc⟩ := h.2.2 hn
    simp only [Option.some.injEq, Addr.mk.injEq, and_true] at e
    obtain ⟨rfl, rfl⟩ := e
    exact ⟨b, off, rfl, hg, fun j x hx => ⟨(cell_same (k b (Nat.le_refl _) hg)).trans (hc j x hx).1, (hc j x hx).2⟩⟩⟩

section
variable {H : Type} {enc : TypeId × Value → H} {W : World} {base : Nat} {held : Bool}
theorem open_StF {A : Option Addr} {n c fuel : Nat} {x : DataW H × List MemPlace} (hf : DataW.trod enc Tryd.prog W base (fun _ => true) held fuel 22 [.slice A n c] = some x) :
    ∃ xs, StI W W.heap.size A n xs := by
  rcases Go.Deep.open_slice Tryd.underlying22 hf with ⟨h0, _⟩ | ⟨a, len, cap, m, k, D, Pl, hcs, hb, hl, hm, hmm, hx, hi⟩
  · simp at h0
    obtain ⟨rfl, rfl, rfl⟩ := h0
    exact ⟨[], rfl, Nat.zero_le _, fun h => absurd h (by omega)⟩
  · simp only [List.cons.injEq, Value.slice.injEq, and_true] at hcs
    obtain ⟨rfl, rfl, rfl⟩ := hcs
    simp only [if_true] at hmm
    have hC : Tryd.prog.cellsOf 9 = 1 := by kernel_rfl
    have key : ∀ i, i < n → ∃ o : ByteArray, W.cell? (a.add i) = some (.string o) ∧ o.size ≤ maxLen := by
      intro i hin
      obtain ⟨cs', hc, ht'⟩ := hi i (by omega)
      rw [hC] at hc
      obtain ⟨_, hcl, hat⟩ := World.cells?_some hc
      match cs', hcl with
      | [c0], _ =>
        obtain ⟨z, e, _, hz⟩ := DataW.trod_string Tryd.underlying9 ht'
        simp only [List.cons.injEq, and_true] at e
        subst e
        refine ⟨z, ?_, hz⟩
        have := hat 0 (by decide)
        simpa [Addr.add, Nat.mul_one] using this
    have hnm : n ≤ maxLen := Nat.le_trans hl hm
    by_cases hn : 0 < n
    · obtain ⟨ab, ao, spot⟩ := a
      obtain ⟨o0, h0, _⟩ := key 0 hn
      have hspot : spot = none := by simpa [Addr.add] using World.cell?_spot h0
      subst hspot
      rw [Addr.add_lit] at h0
      obtain ⟨os, hl', hx'⟩ := list_of (α := ByteArray) (P := fun j o => W.cell? ⟨ab, ao + j, none⟩ = some (.string o) ∧ o.size ≤ maxLen) (n := n) fun i hin => by
        obtain ⟨o, hc, ho⟩ := key i hin
        rw [Addr.add_lit] at hc
        exact ⟨o, hc, ho⟩
      exact ⟨os, hl', hnm, fun _ => ⟨ab, ao, rfl, World.block_lt_of_cell? W ⟨ab, _, none⟩ h0, hx'⟩⟩
    · exact ⟨[], by simp; omega, hnm, fun h => absurd h hn⟩
end
theorem open_St {H : Type} {enc : TypeId × Value → H} {W : World} {A : Option Addr} {n c : Nat} {d : DataW H} {p : List MemPlace} (h : DataW.Trod enc Tryd.prog W 0 (fun _ => true) true 22 (.slice A n c) d p) :
    ∃ xs, StI W W.heap.size A n xs := by
  obtain ⟨fuel, hf⟩ := h
  exact open_StF (by simpa [Value.cells] using hf)

/-- The bytes of the first k. -/
def sumSt (xs : List St) : Nat → Nat
  | 0 => 0
  | k + 1 => sumSt xs k + ((xs[k]?.map fun (x : ByteArray) => x.size).getD 0)
theorem sumSt_next {xs : List St} {k : Nat} {x : St} (h : xs[k]? = some x) : sumSt xs (k + 1) = sumSt xs k + ByteArray.size x := by
  rw [sumSt, h]
  rfl
theorem sumSt_mono {xs : List St} {j : Nat} : ∀ {k : Nat}, j ≤ k → sumSt xs j ≤ sumSt xs k
  | 0, h => by obtain rfl : j = 0 := by omega
               exact Nat.le_refl _
  | k + 1, h => by
    by_cases e : j = k + 1
    · rw [e]; exact Nat.le_refl _
    · have := sumSt_mono (xs := xs) (show j ≤ k by omega)
      rw [sumSt]
      omega
/-- What szStringS takes of the bound. -/
def szSt (xs : List St) : Nat := xs.length + sumSt xs xs.length

set_option maxHeartbeats 1000000 in
set_option maxRecDepth 100000 in
theorem szStringS_any (A : Option Addr) (n c : Nat) (xs : List St) (L : Int) (W : World) (hr : StI W W.heap.size A n xs) (h0 : 0 ≤ L) (hL : L ≤ 1048576) :
    Calls Tryd.prog 26 #[.slice A n c, .int .i64 L] W (SzL (szSt xs) L W) := by
  have HR := Lib.hid hr
  have hn := hr.2.1
  have hxn := hr.1
  clear hr
  obtain ⟨s, hs⟩ : ∃ s, szSt xs = s := ⟨_, rfl⟩
  have HS : Hid (s = n + sumSt xs n) := by show _ = _; rw [← hs, szSt, hxn]
  rw [hs]
  clear hs hxn
  unfold maxLen at hn
  by_cases hbig : L < (n : Int)
  · have HB : Hid (L < (s : Int)) := by show _ < _; have := HS.out; omega
    have h2 : (n : Int) ≤ 9223372036854775807 := by omega
    have d0 : decide (L - n < 0) = true := by simp; omega
    go_enter Tryd.func26, Tryd.ntmps26
    go_wp2_with fail
    go_ret
    exact ⟨.inr ⟨HB.out, rfl⟩, Below.refl _ _⟩
  · have h1 : (n : Int) ≤ L := by omega
    have hn' : n ≤ 1048576 := by omega
    have d0 : decide (L - n < 0) = false := by simp; omega
    clear hbig
    go_enter Tryd.func26, Tryd.ntmps26
    go_wp2_with fail
    go_loopw [1, 5] (fun q i wr => ∃ k : Nat, ∃ z : Int, k ≤ n ∧ i = .int .i64 k ∧ q = .int .i64 z ∧ 0 ≤ z ∧ z ≤ 1048576 ∧ Hid (z = L - (n : Int) - (sumSt xs k : Int)) ∧ Hid (Below W.heap.size W wr)) (fun _ i _ => n - (intOf i).toNat)
    case atStart => exact ⟨0, _, Nat.zero_le _, rfl, rfl, by omega, by omega, by show _ = _; simp [sumSt], Below.refl _ _⟩
    case round =>
      obtain ⟨k, z, hk, rfl, rfl, hz0, hz1, HZ, HW⟩ := hrel
      by_cases hlt : k < n
      · obtain ⟨b, off, x, rfl, hg, hx, q0, hm0⟩ := (HR.out.below HW.out).at_ hlt
        have HX := Lib.hid hx
        have b0 : (0 : Int) ≤ (k : Int) := by omega
        have b1 : (k : Int) < (n : Int) := by omega
        have HZ0 : Hid (0 ≤ z) := hz0
        have HZ1 : Hid (z ≤ 1048576) := hz1
        unfold maxLen at hm0
        clear hx hg
        by_cases hf : (x.size : Int) ≤ z
        · have HF := Lib.hid hf
          have HN : Hid (sumSt xs (k + 1) = sumSt xs k + x.size) := sumSt_next HX.out
          have dz : decide (z - (x.size : Int) < 0) = false := by simp; omega
          clear hf
          go_wp2_with fail
          go_roundw
          case rel => exact ⟨k + 1, _, by omega, by go_num, rfl, by have := HF.out; omega, by omega, by show _ = _; rw [HN.out, HZ.out]; omega, HW⟩
          case measure => simp [intOf]; omega
        · have HF := Lib.hid hf
          have HBIG : Hid (L < (s : Int)) := by
            show _ < _
            have h1 := sumSt_mono (xs := xs) (j := k + 1) (k := n) (by omega)
            rw [sumSt_next HX.out] at h1
            have h2 := HZ.out
            have h3 := HS.out
            omega
          have dz : decide (z - (x.size : Int) < 0) = true := by simp; omega
          clear hf
          go_wp2_with fail
          go_ret
          exact ⟨.inr ⟨HBIG.out, rfl⟩, HW.out⟩
      · have hkn : k = n := by omega
        have HE : Hid ((s : Int) ≤ L ∧ z = L - (s : Int)) := by
          have h := HZ.out
          have h3 := HS.out
          rw [hkn] at h
          exact ⟨by omega, by omega⟩
        go_wp2_with fail
        go_ret
        exact ⟨.inl ⟨HE.out.1, by rw [HE.out.2]; rfl⟩, HW.out⟩

/-- The elements of block g ahead of j are filled. -/
def FilledSt (w : World) (g j n : Nat) (xs : List St) : Prop := ∃ cs, RW 9 w g cs ∧ n ≤ cs.size ∧ ∀ (i : Nat) (x : St), i < j → xs[i]? = some x → cs[i]? = some (.string x)
theorem infoSt : (Tryd.prog.info? 9).map (fun i => (i.zero, i.size, i.bytes)) = some (some (Value.string ⟨#[]⟩), 1, 16) := by kernel_rfl
theorem ownSt {w : World} {B g n : Nat} {xs : List Value} (h : w.ownsRow B 9 1 (.slice (some ⟨g, 0, none⟩) n n) n xs) : ∃ cs, RW 9 w g cs ∧ n ≤ cs.size := by
  rcases h.2 with ⟨h', _⟩ | ⟨g', cap', cur, h', _, hg, _, _, hsz, _⟩
  · simp at h'
  · simp only [Value.slice.injEq, Option.some.injEq, Addr.mk.injEq, and_true, true_and] at h'
    obtain ⟨rfl, rfl⟩ := h'
    exact ⟨cur, hg, by omega⟩
/-- What toStringS answers: a slice at the head of the first new block. -/
def ToSt (xs : List St) (n : Nat) (W : World) (e : Ending) (w' : World) : Prop :=
  e = .returned (.slice (some ⟨W.heap.size, 0, none⟩) n n) ∧ Hid (StI w' w'.heap.size (some ⟨W.heap.size, 0, none⟩) n xs ∧ Below W.heap.size W w')

set_option maxHeartbeats 2000000 in
set_option maxRecDepth 100000 in
theorem toStringS_any (A : Option Addr) (n c : Nat) (xs : List St) (W : World) (hr : StI W W.heap.size A n xs) (hn : n ≤ 1048576) :
    Calls Tryd.prog 34 #[.slice A n c] W (ToSt xs n W) := by
  obtain ⟨i0, hi, hz0, hz1, hz2⟩ := info_parts infoSt
  have HR := Lib.hid hr
  have h1 : (n : Int) ≤ 1048576 := by omega
  clear hr
  go_enter Tryd.func34, Tryd.ntmps34
  go_wp2_with (at_make; refine wpList_make_full _ rfl _ _ 22 rfl W.heap.size 9 i0 (.string ⟨#[]⟩) 1 Tryd.underlying22 hi hz0 hz1 .i64 .i64 n n n rfl rfl rfl rfl (by rw [hz2]; omega) (by unfold maxLen; omega) (Nat.le_refl _) ?_)
  intro w1 hown hgrow
  have HB1 : Hid (Below W.heap.size W w1) := below_grown_none hgrow
  obtain ⟨cs, hcs, hcn⟩ := ownSt hown
  have HG : Hid (W.heap.size < w1.heap.size) := hcs.lt
  have HM : Hid (FilledSt w1 W.heap.size 0 n xs) := ⟨cs, hcs, hcn, fun i x hi => absurd hi (by omega)⟩
  clear hown hgrow hcs hcn hi hz0 hz1 hz2
  go_wp2_with fail
  go_loopw [4] (fun i wr => ∃ j : Nat, j ≤ n ∧ i = .int .i64 j ∧ Hid (Below W.heap.size W wr) ∧ Hid (W.heap.size < wr.heap.size) ∧ Hid (FilledSt wr W.heap.size j n xs)) (fun i _ => n - (intOf i).toNat)
  case atStart => exact ⟨0, Nat.zero_le _, rfl, HB1, HG, HM⟩
  case round =>
    obtain ⟨j, hj, rfl, HW, HZ, HJ⟩ := hrel
    by_cases hlt : j < n
    · obtain ⟨b, off, x, rfl, hg, hx, q0, hxs⟩ := (HR.out.below HW.out).at_ hlt
      have HX := Lib.hid hx
      obtain ⟨cs, hs, hcs, hm⟩ := HJ.out
      have HSB := Lib.hid hs
      have HMM := Lib.hid hm
      have HL0 : Hid (j < cs.size) := by show _ < _; omega
      have HCS := Lib.hid hcs
      have p0 := (hs.cell j).trans (Array.getElem?_eq_getElem HL0.out)
      have z0 := hs.frozen j
      have b0 : (0 : Int) ≤ (j : Int) := by omega
      have b1 : (j : Int) < (n : Int) := by omega
      clear hs hm hx hxs hg hcs
      go_wp2_with fail
      go_roundw
      case rel =>
        refine ⟨j + 1, by omega, by go_num, ?_, ?_, ?_⟩
        · exact HW.out.setCell (Nat.le_refl _) _
        · have h2 := HZ.out
          show _ < _
          simp [World.setCell]
          omega
        · refine ⟨_, (HSB.out).set_ _ _, by simpa using HCS.out, fun i y hi hxi => ?_⟩
          by_cases e : i = j
          · subst e
            rw [HX.out, Option.some.injEq] at hxi
            subst hxi
            rw [Array.getElem?_setIfInBounds_self_of_lt HL0.out]
          · rw [Array.getElem?_setIfInBounds_ne (by omega)]
            exact HMM.out i y (by omega) hxi
      case measure => simp [intOf]; omega
    · have HN : Hid (j = n) := by show _ = _; omega
      go_wp2_with fail
      go_ret
      refine ⟨rfl, Lib.hid ⟨⟨HR.out.1, HR.out.2.1, fun _ => ⟨W.heap.size, 0, rfl, HZ.out, fun i x hx => ?_⟩⟩, HW.out⟩⟩
      obtain ⟨cs, hs, hcs, hm⟩ := HJ.out
      have hil : i < xs.length := (List.getElem?_eq_some_iff.1 hx).1
      have hij : i < j := by have := HN.out; have := HR.out.1; omega
      obtain ⟨_, _, _, _, hc⟩ := HR.out.2.2 (by have := HR.out.1; omega)
      rw [Nat.zero_add]
      exact ⟨(hs.cell _).trans (hm i x hij hx), (hc i x hx).2⟩
end Go.Proofs.YtlohjmlenbkbmaaDoor

namespace Go.Proofs.YtlohjmlenbkbmaaDoor
open Go Go.RowKit

set_option maxHeartbeats 1000000 in
set_option maxRecDepth 100000 in
theorem eqStringS_same (A A' : Option Addr) (n c c' : Nat) (xs : List St) (W : World) (ha : StI W W.heap.size A n xs) (hb : StI W W.heap.size A' n xs) :
    Calls Tryd.prog 41 #[.slice A n c, .slice A' n c'] W fun e w' => e = .returned (.bool true) ∧ Below W.heap.size W w' := by
  have HA := Lib.hid ha
  have HB := Lib.hid hb
  have hn := ha.2.1
  unfold maxLen at hn
  clear ha hb
  go_enter Tryd.func41, Tryd.ntmps41
  go_wp2
  go_loopw [5] (fun i wr => ∃ k : Nat, k ≤ n ∧ i = .int .i64 k ∧ Hid (Below W.heap.size W wr)) (fun i _ => n - (intOf i).toNat)
  case atStart => exact ⟨0, Nat.zero_le _, rfl, Below.refl _ _⟩
  case round =>
    obtain ⟨k, hk, rfl, HW⟩ := hrel
    by_cases hlt : k < n
    · obtain ⟨b, off, x, rfl, hg, hx, h1, _⟩ := HA.out.at_ hlt
      obtain ⟨b', off', x', rfl, hg', hx', h2, _⟩ := HB.out.at_ hlt
      obtain rfl : x = x' := Option.some.inj (hx.symm.trans hx')
      have q1 := (HW.out.cell (p := ⟨b, off + k, none⟩) hg).trans h1
      have q2 := (HW.out.cell (p := ⟨b', off' + k, none⟩) hg').trans h2
      have b0 : (0 : Int) ≤ (k : Int) := by omega
      have b1 : (k : Int) < (n : Int) := by omega
      clear h1 h2 hx hx' hg hg'
      go_wp2_with fail
      go_quiet (fail)
      go_wp2_with fail
      go_roundw
      case rel => exact ⟨k + 1, by omega, by go_num, below_drewN HW.out _⟩
      case measure => simp [intOf]; omega
    · go_wp2_with fail
      go_ret
      exact ⟨rfl, HW.out⟩
end Go.Proofs.YtlohjmlenbkbmaaDoor

namespace Go.Proofs.YtlohjmlenbkbmaaDoor
open Go Go.RowKit

structure Fl where
  name_ : ByteArray
  lines_ : List St
  mode_ : Int
  at_ : Int
/-- Where its lists lie. -/
structure FlLay where
  A1 : Option Addr
  n1 : Nat
  c1 : Nat
  h1 : n1 ≤ c1
/-- As one value. -/
abbrev Fl.ag (x : Fl) (l : FlLay) : Value := .agg #[.string x.name_, .slice l.A1 l.n1 l.c1, .int .i64 x.mode_, .int .i64 x.at_]
def Fl.vs (x : Fl) (l : FlLay) : List Value := [.string x.name_, .slice l.A1 l.n1 l.c1, .int .i64 x.mode_, .int .i64 x.at_]
/-- Its lists lie below B. -/
def FlV (w : World) (B : Nat) (x : Fl) (l : FlLay) : Prop := StI w B l.A1 l.n1 x.lines_ ∧ x.name_.size ≤ maxLen
theorem FlV.below {w w' : World} {B : Nat} {x : Fl} {l : FlLay} (h : FlV w B x l) (hb : Below B w w') : FlV w' B x l := by
  obtain ⟨h0, h1⟩ := h
  exact ⟨h0.below hb, h1⟩
theorem FlV.more {w : World} {B B' : Nat} {x : Fl} {l : FlLay} (h : FlV w B x l) (hB : B ≤ B') : FlV w B' x l := by
  obtain ⟨h0, h1⟩ := h
  exact ⟨h0.more hB, h1⟩
theorem FlV.go {W w : World} {x : Fl} {l : FlLay} (h : FlV W W.heap.size x l) (hb : Below W.heap.size W w) : FlV w w.heap.size x l := (h.below hb).more hb.size
theorem FlV.alloc {W : World} {x : Fl} {l : FlLay} (h : FlV W W.heap.size x l) (o : Obj) : FlV (W.alloc o) (W.alloc o).heap.size x l := h.go (below_alloc W o)
/-- Its cells from p on of block b. -/
def FlAt (w : World) (b p : Nat) (x : Fl) (l : FlLay) : Prop := w.cell? ⟨b, p, none⟩ = some (.string x.name_) ∧ w.cell? ⟨b, p + 1, none⟩ = some (.slice l.A1 l.n1 l.c1) ∧ w.cell? ⟨b, p + 2, none⟩ = some (.int .i64 x.mode_) ∧ w.cell? ⟨b, p + 3, none⟩ = some (.int .i64 x.at_)
theorem FlAt.below {w w' : World} {b p B : Nat} {x : Fl} {l : FlLay} (h : FlAt w b p x l) (hb : Below B w w') (hg : b < B) : FlAt w' b p x l := by
  obtain ⟨h0, h1, h2, h3⟩ := h
  exact ⟨(hb.cell (p := ⟨b, p, none⟩) hg).trans h0, (hb.cell (p := ⟨b, p + 1, none⟩) hg).trans h1, (hb.cell (p := ⟨b, p + 2, none⟩) hg).trans h2, (hb.cell (p := ⟨b, p + 3, none⟩) hg).trans h3⟩
theorem FlAt.range {w : World} {b p : Nat} {x : Fl} {l : FlLay} (h : FlAt w b p x l) : w.rangeAt b p (x.vs l) := by
  obtain ⟨h0, h1, h2, h3⟩ := h
  intro j v hj
  match j, hj with
  | 0, hj => cases hj; exact h0
  | 1, hj => cases hj; exact h1
  | 2, hj => cases hj; exact h2
  | 3, hj => cases hj; exact h3
  | j + 4, hj => simp [Fl.vs] at hj
/-- A slice of them that lies below B, with their lists. -/
def FlI (w : World) (B : Nat) (A : Option Addr) (n : Nat) (xs : List Fl) : Prop :=
  xs.length = n ∧ n ≤ maxLen ∧ (0 < n → ∃ b off, A = some ⟨b, off, none⟩ ∧ b < B ∧ ∀ (j : Nat) (x : Fl), xs[j]? = some x → ∃ l, FlAt w b (off + j * 4) x l ∧ FlV w B x l)
theorem FlI.below {w w' : World} {B n : Nat} {A : Option Addr} {xs : List Fl} (h : FlI w B A n xs) (hb : Below B w w') : FlI w' B A n xs :=
  ⟨h.1, h.2.1, fun hn => by
    obtain ⟨b, off, e, hg, hc⟩ := h.2.2 hn
    refine ⟨b, off, e, hg, fun j x hx => ?_⟩
    obtain ⟨l, h1, h2⟩ := hc j x hx
    exact ⟨l, h1.below hb hg, h2.below hb⟩⟩
theorem FlI.more {w : World} {B B' n : Nat} {A : Option Addr} {xs : List Fl} (h : FlI w B A n xs) (hB : B ≤ B') : FlI w B' A n xs :=
  ⟨h.1, h.2.1, fun hn => by
    obtain ⟨b, off, e, hg, hc⟩ := h.2.2 hn
    refine ⟨b, off, e, by omega, fun j x hx => ?_⟩
    obtain ⟨l, h1, h2⟩ := hc j x hx
    exact ⟨l, h1, h2.more hB⟩⟩
theorem FlI.at_ {w : World} {B n k : Nat} {A : Option Addr} {xs : List Fl} (h : FlI w B A n xs) (hk : k < n) : ∃ b off x l, A = some ⟨b, off, none⟩ ∧ b < B ∧ xs[k]? = some x ∧ FlAt w b (off + k * 4) x l ∧ FlV w B x l := by
  obtain ⟨b, off, e, hg, hc⟩ := h.2.2 (by omega)
  have hl : k < xs.length := by rw [h.1]; exact hk
  obtain ⟨l, h1, h2⟩ := hc k _ (List.getElem?_eq_getElem hl)
  exact ⟨b, off, xs[k], l, e, hg, List.getElem?_eq_getElem hl, h1, h2⟩
theorem FlI.go {W w : World} {A : Option Addr} {n : Nat} {xs : List Fl} (h : FlI W W.heap.size A n xs) (hb : Below W.heap.size W w) : FlI w w.heap.size A n xs := (h.below hb).more hb.size
theorem FlI.alloc {W : World} {A : Option Addr} {n : Nat} {xs : List Fl} (h : FlI W W.heap.size A n xs) (o : Obj) : FlI (W.alloc o) (W.alloc o).heap.size A n xs := h.go (below_alloc W o)

section
variable {H : Type} {enc : TypeId × Value → H} {W : World} {base : Nat} {held : Bool}
set_option maxRecDepth 100000 in
/-- Its cells, each with its own reading. -/
theorem open_FlN {fuel : Nat} {cs : List Value} {x : DataW H × List MemPlace} (h : DataW.trod enc Tryd.prog W base (fun _ => true) held fuel 80 cs = some x) :
    ∃ x l, cs = Fl.vs x l ∧ FlV W W.heap.size x l := by
  obtain ⟨ys, m, hm, _, hlen, _, hf⟩ := DataW.trod_struct Tryd.underlying80 h
  have hlen' : cs.length = 4 := hlen.trans (by kernel_rfl)
  match cs, hlen' with
  | [c0, c1, c2, c3], _ =>
    have hys : ∀ i, i < 4 → ∃ y, ys[i]? = some y := by
      intro i hi
      have : ys.length = 4 := by assumption
      exact ⟨_, List.getElem?_eq_getElem (by omega)⟩
    have f0 : DataW.trod enc Tryd.prog W base (fun _ => true) held m 9 [c0] = ys[0]? := field_at (i := 0) (o := 0) (k := 1) (T := 9) hf (by kernel_rfl) (by kernel_rfl)
    obtain ⟨y0, g0⟩ := hys 0 (by decide)
    rw [g0] at f0
    have f1 : DataW.trod enc Tryd.prog W base (fun _ => true) held m 22 [c1] = ys[1]? := field_at (i := 1) (o := 1) (k := 1) (T := 22) hf (by kernel_rfl) (by kernel_rfl)
    obtain ⟨y1, g1⟩ := hys 1 (by decide)
    rw [g1] at f1
    have f2 : DataW.trod enc Tryd.prog W base (fun _ => true) held m 2 [c2] = ys[2]? := field_at (i := 2) (o := 2) (k := 1) (T := 2) hf (by kernel_rfl) (by kernel_rfl)
    obtain ⟨y2, g2⟩ := hys 2 (by decide)
    rw [g2] at f2
    have f3 : DataW.trod enc Tryd.prog W base (fun _ => true) held m 2 [c3] = ys[3]? := field_at (i := 3) (o := 3) (k := 1) (T := 2) hf (by kernel_rfl) (by kernel_rfl)
    obtain ⟨y3, g3⟩ := hys 3 (by decide)
    rw [g3] at f3
    obtain ⟨z0, e0, _, hz0⟩ := DataW.trod_string Tryd.underlying9 f0
    obtain ⟨A1, n1, q1, hc1, e1⟩ := open_slice1 Tryd.underlying22 f1
    rw [e1] at f1
    obtain ⟨z1, hz1⟩ := open_StF f1
    obtain ⟨z2, e2, _, _⟩ := DataW.trod_int Tryd.underlying2 f2
    obtain ⟨z3, e3, _, _⟩ := DataW.trod_int Tryd.underlying2 f3
    simp only [List.cons.injEq, and_true] at e0 e1 e2 e3
    subst e0 e1 e2 e3
    exact ⟨⟨z0, z1, z2, z3⟩, ⟨A1, n1, q1, hc1⟩, rfl, hz1, hz0⟩
set_option maxRecDepth 100000 in
/-- An argument that is a slice. -/
theorem open_FlF {A : Option Addr} {n c fuel : Nat} {x : DataW H × List MemPlace} (hf : DataW.trod enc Tryd.prog W base (fun _ => true) held fuel 23 [.slice A n c] = some x) :
    ∃ xs, FlI W W.heap.size A n xs := by
  rcases Go.Deep.open_slice Tryd.underlying23 hf with ⟨h0, _⟩ | ⟨a, len, cap, m, k, D, Pl, hcs, hb, hl, hm, hmm, hx, hi⟩
  · simp at h0
    obtain ⟨rfl, rfl, rfl⟩ := h0
    exact ⟨[], rfl, Nat.zero_le _, fun h => absurd h (by omega)⟩
  · simp only [List.cons.injEq, Value.slice.injEq, and_true] at hcs
    obtain ⟨rfl, rfl, rfl⟩ := hcs
    simp only [if_true] at hmm
    have hC : Tryd.prog.cellsOf 80 = 4 := by kernel_rfl
    have key : ∀ i, i < n → ∃ o : Fl, ∃ l, (∀ j v, (Fl.vs o l)[j]? = some v → W.cell? (a.add (i * 4 + j)) = some v) ∧ FlV W W.heap.size o l := by
      intro i hin
      obtain ⟨cs', hc, ht'⟩ := hi i (by omega)
      rw [hC] at hc
      obtain ⟨o, l, e, ho⟩ := open_FlN ht'
      obtain ⟨_, hcl, hat⟩ := World.cells?_some hc
      refine ⟨o, l, fun j v hj => ?_, ho⟩
      rw [← e] at hj
      have hjl : j < 4 := by have := (List.getElem?_eq_some_iff.1 hj).1; omega
      rw [← Go.Deep.add_add, hat j hjl, hj]
    have hnm : n ≤ maxLen := Nat.le_trans hl hm
    by_cases hn : 0 < n
    · obtain ⟨ab, ao, spot⟩ := a
      obtain ⟨o0, l0, h0, _⟩ := key 0 hn
      have h00 := h0 0 _ rfl
      have hspot : spot = none := by simpa [Addr.add] using World.cell?_spot h00
      subst hspot
      rw [Addr.add_lit] at h00
      obtain ⟨os, hl', hx'⟩ := list_of (α := Fl) (P := fun j o => ∃ l, FlAt W ab (ao + j * 4) o l ∧ FlV W W.heap.size o l) (n := n) fun i hin => by
        obtain ⟨o, l, hc, ho⟩ := key i hin
        have hc' : ∀ j v, (Fl.vs o l)[j]? = some v → W.cell? ⟨ab, ao + i * 4 + j, none⟩ = some v := by
          intro j v hj
          have := hc j v hj
          rw [Addr.add_lit, ← Nat.add_assoc] at this
          exact this
        exact ⟨o, l, ⟨hc' 0 _ rfl, hc' 1 _ rfl, hc' 2 _ rfl, hc' 3 _ rfl⟩, ho⟩
      exact ⟨os, hl', hnm, fun _ => ⟨ab, ao, rfl, World.block_lt_of_cell? W ⟨ab, _, none⟩ h00, hx'⟩⟩
    · exact ⟨[], by simp; omega, hnm, fun h => absurd h hn⟩
end
set_option maxRecDepth 100000 in
/-- An argument. -/
theorem open_Fl {H : Type} {enc : TypeId × Value → H} {W : World} {v : Value} {d : DataW H} {p : List MemPlace} {r : Reach} {b0 : Nat} (hv : Value.okWide Tryd.prog W r b0 80 v) (h : DataW.Trod enc Tryd.prog W 0 (fun _ => true) true 80 v d p) :
    ∃ x l, v = Fl.ag x l ∧ FlV W W.heap.size x l := by
  obtain ⟨cs, rfl, hsz⟩ := Go.WideShapes.okWide_struct Tryd.underlying80 hv
  obtain ⟨fuel, hf⟩ := h
  obtain ⟨x, l, e, ho⟩ := open_FlN hf
  refine ⟨x, l, ?_, ho⟩
  have : cs.toList = Fl.vs x l := e
  rw [show cs = (Fl.vs x l).toArray from by rw [← this]]
  rfl
theorem open_FlS {H : Type} {enc : TypeId × Value → H} {W : World} {A : Option Addr} {n c : Nat} {d : DataW H} {p : List MemPlace} (h : DataW.Trod enc Tryd.prog W 0 (fun _ => true) true 23 (.slice A n c) d p) :
    ∃ xs, FlI W W.heap.size A n xs := by
  obtain ⟨fuel, hf⟩ := h
  exact open_FlF (by simpa [Value.cells] using hf)

/-- What szFile takes of the bound. -/
def szFl1 (x : Fl) : Nat := x.name_.size + szSt x.lines_

set_option maxHeartbeats 2000000 in
set_option maxRecDepth 100000 in
theorem szFile_any (x : Fl) (l : FlLay) (L : Int) (W : World) (ho : FlV W W.heap.size x l) (hLL : 0 ≤ L) (hL : L ≤ 1048576) :
    Calls Tryd.prog 61 #[x.ag l, .int .i64 L] W (SzL (szFl1 x) L W) := by
  obtain ⟨s, hs⟩ : ∃ s, szFl1 x = s := ⟨_, rfl⟩
  rw [hs]
  unfold szFl1 at hs
  obtain ⟨x0, x1, x2, x3⟩ := x
  obtain ⟨A1, n1, c1, h1⟩ := l
  obtain ⟨k1, k0⟩ := ho
  try unfold FlV at k1 k0
  dsimp only at hs k1 k0
  have HS := Lib.hid hs
  have HL0 := Lib.hid hLL
  have HL1 := Lib.hid hL
  have HK1 := Lib.hid k1
  unfold maxLen at k0
  have HC := Lib.hid (fun X (e : X = W.alloc (.cells #[.string x0, .slice A1 n1 c1, .int .i64 x2, .int .i64 x3] 80)) => (show RW 80 X W.heap.size #[.string x0, .slice A1 n1 c1, .int .i64 x2, .int .i64 x3] ∧ Below W.heap.size W X ∧ W.heap.size < X.heap.size from by rw [e]; exact ⟨RW.new _ _ _, below_alloc _ _, lt_alloc _ _⟩))
  clear hs k1
  show Calls Tryd.prog 61 #[.agg #[.string x0, .slice A1 n1 c1, .int .i64 x2, .int .i64 x3], .int .i64 L] W _
  by_cases cc0 : (x0.size : Int) ≤ L
  · have C0 := Lib.hid cc0
    clear cc0
    by_cases cc1 : (x0.size : Int) + (szSt x1 : Int) ≤ L
    · have C1 := Lib.hid cc1
      clear cc1
      have d0 : decide (L - (x0.size : Int) < 0) = false := (by have := C0.out; simp; omega)
      go_enter Tryd.func61, Tryd.ntmps61
      go_wp2_with (go_at_call 26; obtain ⟨g0, g1, g2⟩ := HC.out _ rfl; have HQ := szStringS_any A1 n1 c1 x1 (L - (x0.size : Int)) _ (HK1.out.go g1) (by have := C0.out; have := HL0.out; omega) (by have := C0.out; have := HL1.out; omega); refine Calls.mono HQ ?_; clear HQ; intro e w1 h; obtain ⟨z1, rfl, hz1, l1, u1, hb⟩ := h.fits (by have := C0.out; have := C1.out; omega) (by have := C0.out; have := HL1.out; omega); have Z1 := Lib.hid hz1; have d1 : decide (z1 < 0) = false := (by simp; omega); have HR1 := Lib.hid (g0.below hb g2); have HB1 := Lib.hid (g1.trans (hb.mono g1.size)); have HG1 := Lib.hid (Nat.lt_of_lt_of_le g2 hb.size); clear hb hz1 g0 g1 g2 HK1)
      go_ret
      refine ⟨.inl ⟨by have := C0.out; have := C1.out; have := Z1.out; have := HS.out; omega, ?_⟩, HB1.out⟩
      have hx : z1 = L - (s : Int) := by have := C0.out; have := C1.out; have := Z1.out; have := HS.out; omega
      rw [← hx]
      rfl
    · have C1 := Lib.hid cc1
      clear cc1
      have d0 : decide (L - (x0.size : Int) < 0) = false := (by have := C0.out; simp; omega)
      go_enter Tryd.func61, Tryd.ntmps61
      go_wp2_with (go_at_call 26; obtain ⟨g0, g1, g2⟩ := HC.out _ rfl; have HQ := szStringS_any A1 n1 c1 x1 (L - (x0.size : Int)) _ (HK1.out.go g1) (by have := C0.out; have := HL0.out; omega) (by have := C0.out; have := HL1.out; omega); refine Calls.mono HQ ?_; clear HQ; intro e w1 h; obtain ⟨rfl, hb⟩ := h.long (by have := C0.out; have := C1.out; omega); have HR1 := Lib.hid (g0.below hb g2); have HB1 := Lib.hid (g1.trans (hb.mono g1.size)); have HG1 := Lib.hid (Nat.lt_of_lt_of_le g2 hb.size); clear hb g0 g1 g2 HK1)
      go_ret
      exact ⟨.inr ⟨by have := C0.out; have := C1.out; have := HS.out; omega, rfl⟩, HB1.out⟩
  · have C0 := Lib.hid cc0
    clear cc0
    have d0 : decide (L - (x0.size : Int) < 0) = true := (by have := C0.out; simp; omega)
    go_enter Tryd.func61, Tryd.ntmps61
    go_wp2_with fail
    go_ret
    exact ⟨.inr ⟨by have := C0.out; have := HS.out; omega, rfl⟩, (below_alloc _ _)⟩

/-- Those of the first k. -/
def sumFl (xs : List Fl) : Nat → Nat
  | 0 => 0
  | k + 1 => sumFl xs k + ((xs[k]?.map szFl1).getD 0)
theorem sumFl_next {xs : List Fl} {k : Nat} {x : Fl} (h : xs[k]? = some x) : sumFl xs (k + 1) = sumFl xs k + szFl1 x := by
  rw [sumFl, h]
  rfl
theorem sumFl_mono {xs : List Fl} {j : Nat} : ∀ {k : Nat}, j ≤ k → sumFl xs j ≤ sumFl xs k
  | 0, h => by obtain rfl : j = 0 := by omega
               exact Nat.le_refl _
  | k + 1, h => by
    by_cases e : j = k + 1
    · rw [e]; exact Nat.le_refl _
    · have := sumFl_mono (xs := xs) (show j ≤ k by omega)
      rw [sumFl]
      omega
def szFl (xs : List Fl) : Nat := xs.length + sumFl xs xs.length

set_option maxHeartbeats 1000000 in
set_option maxRecDepth 100000 in
theorem szFileS_any (A : Option Addr) (n c : Nat) (xs : List Fl) (L : Int) (W : World) (hr : FlI W W.heap.size A n xs) (h0 : 0 ≤ L) (hL : L ≤ 1048576) :
    Calls Tryd.prog 27 #[.slice A n c, .int .i64 L] W (SzL (szFl xs) L W) := by
  have HR := Lib.hid hr
  have hn := hr.2.1
  have hxn := hr.1
  clear hr
  obtain ⟨s, hs⟩ : ∃ s, szFl xs = s := ⟨_, rfl⟩
  have HS : Hid (s = n + sumFl xs n) := by show _ = _; rw [← hs, szFl, hxn]
  rw [hs]
  clear hs hxn
  unfold maxLen at hn
  by_cases hbig : L < (n : Int)
  · have HB : Hid (L < (s : Int)) := by show _ < _; have := HS.out; omega
    have h2 : (n : Int) ≤ 9223372036854775807 := by omega
    have d0 : decide (L - n < 0) = true := by simp; omega
    go_enter Tryd.func27, Tryd.ntmps27
    go_wp2_with fail
    go_ret
    exact ⟨.inr ⟨HB.out, rfl⟩, Below.refl _ _⟩
  · have h1 : (n : Int) ≤ L := by omega
    have hn' : n ≤ 1048576 := by omega
    have d0 : decide (L - n < 0) = false := by simp; omega
    clear hbig
    go_enter Tryd.func27, Tryd.ntmps27
    go_wp2_with fail
    go_loopw [1, 5] (fun q i wr => ∃ k : Nat, ∃ z : Int, k ≤ n ∧ i = .int .i64 k ∧ q = .int .i64 z ∧ 0 ≤ z ∧ z ≤ 1048576 ∧ Hid (z = L - (n : Int) - (sumFl xs k : Int)) ∧ Hid (Below W.heap.size W wr)) (fun _ i _ => n - (intOf i).toNat)
    case atStart => exact ⟨0, _, Nat.zero_le _, rfl, rfl, by omega, by omega, by show _ = _; simp [sumFl], Below.refl _ _⟩
    case round =>
      obtain ⟨k, z, hk, rfl, rfl, hz0, hz1, HZ, HW⟩ := hrel
      by_cases hlt : k < n
      · obtain ⟨b, off, x, l, rfl, hg, hx, ⟨q0, q1, q2, q3⟩, hov⟩ := (HR.out.below HW.out).at_ hlt
        have HO := Lib.hid (hov.more HW.out.size)
        have HX := Lib.hid hx
        have b0 : (0 : Int) ≤ (k : Int) := by omega
        have b1 : (k : Int) < (n : Int) := by omega
        have HZ0 : Hid (0 ≤ z) := hz0
        have HZ1 : Hid (z ≤ 1048576) := hz1
        clear hx hov hg
        by_cases hf : (szFl1 x : Int) ≤ z
        · have HF := Lib.hid hf
          have HN : Hid (sumFl xs (k + 1) = sumFl xs k + szFl1 x) := sumFl_next HX.out
          clear hf
          go_wp2_with (go_at_call 61; refine (szFile_any x l _ _ HO.out HZ0.out HZ1.out).mono ?_; intro e w1 h; obtain ⟨z1, rfl, hz2, l1, u1, hb⟩ := h.fits HF.out HZ1.out; have Z1 := Lib.hid hz2; have dz : decide (z1 < 0) = false := (by simp; omega); have HW1 : Hid (Below W.heap.size W w1) := HW.out.trans (hb.mono HW.out.size); clear hb hz2)
          go_roundw
          case rel => exact ⟨k + 1, _, by omega, by go_num, rfl, by omega, by omega, by show _ = _; rw [HN.out, Z1.out, HZ.out]; omega, HW1⟩
          case measure => simp [intOf]; omega
        · have HF := Lib.hid hf
          have HBIG : Hid (L < (s : Int)) := by
            show _ < _
            have h1 := sumFl_mono (xs := xs) (j := k + 1) (k := n) (by omega)
            rw [sumFl_next HX.out] at h1
            have h2 := HZ.out
            have h3 := HS.out
            omega
          clear hf
          go_wp2_with (go_at_call 61; refine (szFile_any x l _ _ HO.out HZ0.out HZ1.out).mono ?_; intro e w1 h; obtain ⟨rfl, hb⟩ := h.long HF.out; have HW1 : Hid (Below W.heap.size W w1) := HW.out.trans (hb.mono HW.out.size); clear hb)
          go_ret
          exact ⟨.inr ⟨HBIG.out, rfl⟩, HW1.out⟩
      · have hkn : k = n := by omega
        have HE : Hid ((s : Int) ≤ L ∧ z = L - (s : Int)) := by
          have h := HZ.out
          have h3 := HS.out
          rw [hkn] at h
          exact ⟨by omega, by omega⟩
        go_wp2_with fail
        go_ret
        exact ⟨.inl ⟨HE.out.1, by rw [HE.out.2]; rfl⟩, HW.out⟩
/-- No list is too long. -/
def FlSmall (x : Fl) : Prop := x.lines_.length ≤ 1048576
theorem small_Fl1 {x : Fl} (h : (szFl1 x : Int) ≤ 1048576) : FlSmall x := by
  unfold szFl1 at h
  unfold FlSmall
  exact (by unfold szSt at h; omega)
theorem small_Fl {xs : List Fl} (h : (szFl xs : Int) ≤ 1048576) : (∀ (j : Nat) (x : Fl), xs[j]? = some x → FlSmall x) ∧ xs.length ≤ 1048576 := by
  unfold szFl at h
  refine ⟨fun j x hx => small_Fl1 ?_, by omega⟩
  have hl := (List.getElem?_eq_some_iff.1 hx).1
  have h1 := sumFl_mono (xs := xs) (j := j + 1) (k := xs.length) (by omega)
  rw [sumFl_next hx] at h1
  omega
end Go.Proofs.YtlohjmlenbkbmaaDoor

namespace Go.Proofs.YtlohjmlenbkbmaaDoor
open Go Go.RowKit

/-- What toFile answers. -/
def ToFl (x : Fl) (W : World) (e : Ending) (w' : World) : Prop := ∃ l, e = .returned (x.ag l) ∧ Hid (FlV w' w'.heap.size x l ∧ Below W.heap.size W w' ∧ l.n1 = x.lines_.length ∧ ∃ b1, l.A1 = some ⟨b1, 0, none⟩ ∧ W.heap.size ≤ b1)

set_option maxHeartbeats 2000000 in
set_option maxRecDepth 100000 in
theorem toFile_any (x : Fl) (l : FlLay) (W : World) (ho : FlV W W.heap.size x l) (hsm : FlSmall x) :
    Calls Tryd.prog 66 #[x.ag l] W (ToFl x W) := by
  obtain ⟨x0, x1, x2, x3⟩ := x
  obtain ⟨A1, n1, c1, h1⟩ := l
  obtain ⟨k1, k0⟩ := ho
  have s1 := hsm
  try unfold FlV at k1 k0
  try unfold FlSmall at s1
  dsimp only at k1 k0 s1
  rw [k1.1] at s1
  have HK1 := Lib.hid k1
  have HS1 := Lib.hid s1
  have HT0 := Lib.hid k0
  clear k1 k0 s1
  have HC := Lib.hid (fun (X Y : World) (T T' : TypeId) (c c' : Array Value) (eY : Y = W.alloc (.cells #[.string x0, .slice A1 n1 c1, .int .i64 x2, .int .i64 x3] T)) (eX : X = (Y.alloc (.cells c T')).alloc (.cells c' T')) =>
    (show RW T X W.heap.size #[.string x0, .slice A1 n1 c1, .int .i64 x2, .int .i64 x3] ∧ RW T' X (W.heap.size + 1 + 1) c' ∧ RW T' X (W.heap.size + 1) c ∧ Below W.heap.size W X ∧ X.heap.size = W.heap.size + 3 from by
      subst eX; subst eY
      refine ⟨((RW.new W _ T).alloc _).alloc _, ?_, ?_, ((below_alloc _ _).alloc (by simp) _).alloc (by simp; omega) _, by simp⟩
      · have := RW.new ((W.alloc (.cells #[.string x0, .slice A1 n1 c1, .int .i64 x2, .int .i64 x3] T)).alloc (.cells c T')) c' T'
        simpa using this
      · have := (RW.new (W.alloc (.cells #[.string x0, .slice A1 n1 c1, .int .i64 x2, .int .i64 x3] T)) c T').alloc (.cells c' T')
        simpa using this))
  show Calls Tryd.prog 66 #[.agg #[.string x0, .slice A1 n1 c1, .int .i64 x2, .int .i64 x3]] W _
  go_enter Tryd.func66, Tryd.ntmps66
  go_wp2_with (go_at_call 34; obtain ⟨g0, g1, g4, g2, g3⟩ := HC.out _ _ _ _ _ _ rfl rfl; have HQ := toStringS_any A1 n1 c1 x1 _ (HK1.out.go g2) HS1.out; refine Calls.mono HQ ?_; clear HQ; rintro e w1 ⟨rfl, h⟩; obtain ⟨hv, hb⟩ := h.out; have hd := hv.det; rw [g3] at hv hd; have HA1 := Lib.hid (g0.below hb (by omega)); have HR1 := Lib.hid (g1.below hb (by omega)); have HO1 := Lib.hid (g4.below hb (by omega)); have HB1 := Lib.hid (g2.trans (hb.mono g2.size)); have HV1_1 : Hid (Det (W.heap.size + 1 + 1 + 1) w1.heap.size w1 fun w => StI w w1.heap.size (some ⟨W.heap.size + 1 + 1 + 1, 0, none⟩) n1 x1) := hd; have HG1 : Hid (W.heap.size + 3 ≤ w1.heap.size) := (by have := hb.size; show _ ≤ _; omega); clear g0 g1 g2 g3 g4 h hv hd hb HK1; have q12 : w1.cell? ⟨W.heap.size, 2, none⟩ = some (.int .i64 x2) := HA1.out.cell 2; have q13 : w1.cell? ⟨W.heap.size, 3, none⟩ = some (.int .i64 x3) := HA1.out.cell 3; have p11 : w1.cell? ⟨W.heap.size + 1 + 1, 1, none⟩ = some (.slice none 0 0) := HR1.out.cell 1; have f11 := HR1.out.frozen 1; have p12 : w1.cell? ⟨W.heap.size + 1 + 1, 2, none⟩ = some (.int .i64 0) := HR1.out.cell 2; have f12 := HR1.out.frozen 2; have p13 : w1.cell? ⟨W.heap.size + 1 + 1, 3, none⟩ = some (.int .i64 0) := HR1.out.cell 3; have f13 := HR1.out.frozen 3; have p10 : w1.cell? ⟨W.heap.size + 1 + 1, 0, none⟩ = some (.string x0) := HR1.out.cell 0; have r0 : w1.cell? ⟨W.heap.size + 1, 0, none⟩ = some (.string ⟨#[]⟩) := HO1.out.cell 0; have z0 := HO1.out.frozen 0; have r1 : w1.cell? ⟨W.heap.size + 1, 1, none⟩ = some (.slice none 0 0) := HO1.out.cell 1; have z1 := HO1.out.frozen 1; have r2 : w1.cell? ⟨W.heap.size + 1, 2, none⟩ = some (.int .i64 0) := HO1.out.cell 2; have z2 := HO1.out.frozen 2; have r3 : w1.cell? ⟨W.heap.size + 1, 3, none⟩ = some (.int .i64 0) := HO1.out.cell 3; have z3 := HO1.out.frozen 3)
  have hs1 := HG1.out
  have hb1 : Below (W.heap.size + 1) w1 (((((((w1.setCell ⟨W.heap.size + 1 + 1, 1, none⟩ (.slice (some ⟨W.heap.size + 1 + 1 + 1, 0, none⟩) n1 n1)).setCell ⟨W.heap.size + 1 + 1, 2, none⟩ (.int .i64 x2)).setCell ⟨W.heap.size + 1 + 1, 3, none⟩ (.int .i64 x3)).setCell ⟨W.heap.size + 1, 0, none⟩ (.string x0)).setCell ⟨W.heap.size + 1, 1, none⟩ (.slice (some ⟨W.heap.size + 1 + 1 + 1, 0, none⟩) n1 n1)).setCell ⟨W.heap.size + 1, 2, none⟩ (.int .i64 x2)).setCell ⟨W.heap.size + 1, 3, none⟩ (.int .i64 x3)) := (((((((below_set w1 (p := ⟨W.heap.size + 1 + 1, 1, none⟩) (by simp) _).setCell (by simp) _).setCell (by simp) _).setCell (by simp) _).setCell (by simp) _).setCell (by simp) _).setCell (by simp) _)
  have hzz : (((((((w1.setCell ⟨W.heap.size + 1 + 1, 1, none⟩ (.slice (some ⟨W.heap.size + 1 + 1 + 1, 0, none⟩) n1 n1)).setCell ⟨W.heap.size + 1 + 1, 2, none⟩ (.int .i64 x2)).setCell ⟨W.heap.size + 1 + 1, 3, none⟩ (.int .i64 x3)).setCell ⟨W.heap.size + 1, 0, none⟩ (.string x0)).setCell ⟨W.heap.size + 1, 1, none⟩ (.slice (some ⟨W.heap.size + 1 + 1 + 1, 0, none⟩) n1 n1)).setCell ⟨W.heap.size + 1, 2, none⟩ (.int .i64 x2)).setCell ⟨W.heap.size + 1, 3, none⟩ (.int .i64 x3)).heap.size = w1.heap.size := by simp [World.setCell]
  refine bodyPost_ret (v := .agg #[.string x0, .slice (some ⟨W.heap.size + 1 + 1 + 1, 0, none⟩) n1 n1, .int .i64 x2, .int .i64 x3]) (results_cell_row Tryd.results66 _ _ (W.heap.size + 1) 50 _ (0, 0) _ rfl ((((((((((((((HO1.out).other (p := ⟨W.heap.size + 1 + 1, 1, none⟩) (by simp) (.slice (some ⟨W.heap.size + 1 + 1 + 1, 0, none⟩) n1 n1))).other (p := ⟨W.heap.size + 1 + 1, 2, none⟩) (by simp) (.int .i64 x2))).other (p := ⟨W.heap.size + 1 + 1, 3, none⟩) (by simp) (.int .i64 x3))).set_ 0 (.string x0))).set_ 1 (.slice (some ⟨W.heap.size + 1 + 1 + 1, 0, none⟩) n1 n1))).set_ 2 (.int .i64 x2))).set_ 3 (.int .i64 x3)) Tryd.underlying50 rfl (by kernel_rfl)) rfl ⟨⟨some ⟨W.heap.size + 1 + 1 + 1, 0, none⟩, n1, n1, Nat.le_refl _⟩, rfl, Lib.hid ⟨?_, HB1.out.trans (hb1.mono (by omega)), HV1_1.out.self.1.symm, _, rfl, by omega⟩⟩
  show FlV (((((((w1.setCell ⟨W.heap.size + 1 + 1, 1, none⟩ (.slice (some ⟨W.heap.size + 1 + 1 + 1, 0, none⟩) n1 n1)).setCell ⟨W.heap.size + 1 + 1, 2, none⟩ (.int .i64 x2)).setCell ⟨W.heap.size + 1 + 1, 3, none⟩ (.int .i64 x3)).setCell ⟨W.heap.size + 1, 0, none⟩ (.string x0)).setCell ⟨W.heap.size + 1, 1, none⟩ (.slice (some ⟨W.heap.size + 1 + 1 + 1, 0, none⟩) n1 n1)).setCell ⟨W.heap.size + 1, 2, none⟩ (.int .i64 x2)).setCell ⟨W.heap.size + 1, 3, none⟩ (.int .i64 x3)) (((((((w1.setCell ⟨W.heap.size + 1 + 1, 1, none⟩ (.slice (some ⟨W.heap.size + 1 + 1 + 1, 0, none⟩) n1 n1)).setCell ⟨W.heap.size + 1 + 1, 2, none⟩ (.int .i64 x2)).setCell ⟨W.heap.size + 1 + 1, 3, none⟩ (.int .i64 x3)).setCell ⟨W.heap.size + 1, 0, none⟩ (.string x0)).setCell ⟨W.heap.size + 1, 1, none⟩ (.slice (some ⟨W.heap.size + 1 + 1 + 1, 0, none⟩) n1 n1)).setCell ⟨W.heap.size + 1, 2, none⟩ (.int .i64 x2)).setCell ⟨W.heap.size + 1, 3, none⟩ (.int .i64 x3)).heap.size ⟨x0, x1, x2, x3⟩ ⟨some ⟨W.heap.size + 1 + 1 + 1, 0, none⟩, n1, n1, Nat.le_refl _⟩
  rw [hzz]
  exact ⟨((((((((((((((HV1_1.out).set (p := ⟨W.heap.size + 1 + 1, 1, none⟩) (by first | (dsimp only; omega) | omega) _)).set (p := ⟨W.heap.size + 1 + 1, 2, none⟩) (by first | (dsimp only; omega) | omega) _)).set (p := ⟨W.heap.size + 1 + 1, 3, none⟩) (by first | (dsimp only; omega) | omega) _)).set (p := ⟨W.heap.size + 1, 0, none⟩) (by first | (dsimp only; omega) | omega) _)).set (p := ⟨W.heap.size + 1, 1, none⟩) (by first | (dsimp only; omega) | omega) _)).set (p := ⟨W.heap.size + 1, 2, none⟩) (by first | (dsimp only; omega) | omega) _)).set (p := ⟨W.heap.size + 1, 3, none⟩) (by first | (dsimp only; omega) | omega) _).self, HT0.out⟩

/-- The elements of block g ahead of j are filled; their lists lie elsewhere. -/
def FilledFl (w : World) (g j n : Nat) (xs : List Fl) : Prop :=
  ∃ cs, RW 50 w g cs ∧ n * 4 ≤ cs.size ∧ ∀ (i : Nat) (x : Fl), i < j → xs[i]? = some x → ∃ l b1, l.A1 = some ⟨b1, 0, none⟩ ∧ g < b1 ∧ FlV w w.heap.size x l ∧ ∀ (q : Nat) (v : Value), (x.vs l)[q]? = some v → cs[i * 4 + q]? = some v
theorem FilledFl.below {w w' : World} {g j n : Nat} {xs : List Fl} (h : FilledFl w g j n xs) (hb : Below w.heap.size w w') : FilledFl w' g j n xs := by
  obtain ⟨cs, hr, hn, hm⟩ := h
  refine ⟨cs, hr.below hb hr.lt, hn, fun i x hi hx => ?_⟩
  obtain ⟨l, b1, h1, u1, h5, h6⟩ := hm i x hi hx
  exact ⟨l, b1, h1, u1, (h5.below hb).more hb.size, h6⟩
theorem FlV.others {w : World} {B g o : Nat} {x : Fl} {l : FlLay} {b1 : Nat} (h : FlV w B x l) (h1 : l.A1 = some ⟨b1, 0, none⟩) (u1 : b1 ≠ g) (vs : List Value) : FlV (w.setCells g o vs) B x l := by
  obtain ⟨a0, a1⟩ := h
  try unfold FlV at a0 a1 ⊢
  rw [h1] at a0
  refine ⟨?_, a1⟩
  · rw [h1]; exact a0.others u1
theorem size_setsFl (vs : List Value) (w : World) (g k : Nat) : (w.setCells g k vs).heap.size = w.heap.size := by
  induction vs generalizing w k with
  | nil => rfl
  | cons v r ih => exact (ih _ _).trans (size_set _ _ _)
theorem FilledFl.store {w : World} {g j n : Nat} {xs : List Fl} {x : Fl} {l : FlLay} {b1 : Nat} (h : FilledFl w g j n xs) (hx : xs[j]? = some x) (hj : j < n) (h1 : l.A1 = some ⟨b1, 0, none⟩) (u1 : g < b1) (h5 : FlV w w.heap.size x l) :
    FilledFl (w.setCells g (j * 4) (x.vs l)) g (j + 1) n xs := by
  obtain ⟨cs, hr, hn, hm⟩ := h
  have hs : (w.setCells g (j * 4) (x.vs l)).heap.size = w.heap.size := size_setsFl _ _ _ _
  have hlK : (x.vs l).length = 4 := rfl
  refine ⟨_, hr.cells, by rw [putL_size]; exact hn, fun i y hi hy => ?_⟩
  by_cases e : i = j
  · subst e
    rw [hx, Option.some.injEq] at hy
    subst hy
    refine ⟨l, b1, h1, u1, ?_, fun q v hq => putL_new _ _ _ _ _ (by rw [hlK]; omega) hq⟩
    rw [hs]
    exact h5.others h1 (by omega) _
  · obtain ⟨l', b1', j1, v1, k5, k6⟩ := hm i y (by omega) hy
    refine ⟨l', b1', j1, v1, ?_, fun q v hq => ?_⟩
    · rw [hs]
      exact k5.others j1 (by omega) _
    · have hqK : q < 4 := (List.getElem?_eq_some_iff.1 hq).1
      rw [putL_old _ _ _ _ (by omega)]
      exact k6 q v hq
theorem FilledFl.all {w : World} {g n : Nat} {xs : List Fl} (h : FilledFl w g n n xs) (hl : xs.length = n) (hn : n ≤ maxLen) : FlI w w.heap.size (some ⟨g, 0, none⟩) n xs := by
  obtain ⟨cs, hr, hc, hm⟩ := h
  refine ⟨hl, hn, fun _ => ⟨g, 0, rfl, hr.lt, fun j x hx => ?_⟩⟩
  obtain ⟨l, _, _, _, h5, h6⟩ := hm j x (by rw [← hl]; exact (List.getElem?_eq_some_iff.1 hx).1) hx
  rw [Nat.zero_add]
  have k : ∀ q v, (x.vs l)[q]? = some v → w.cell? ⟨g, j * 4 + q, none⟩ = some v := fun q v hq => (hr.cell _).trans (h6 q v hq)
  exact ⟨l, ⟨k 0 _ rfl, k 1 _ rfl, k 2 _ rfl, k 3 _ rfl⟩, h5⟩
theorem FilledFl.det {w : World} {g n : Nat} {xs : List Fl} (h : FilledFl w g n n xs) (hl : xs.length = n) (hn : n ≤ maxLen) : Det g w.heap.size w fun w' => FlI w' w.heap.size (some ⟨g, 0, none⟩) n xs := by
  intro w' hk
  obtain ⟨cs, hr, hc, hm⟩ := h
  have hr' : RW 50 w' g cs := (hk g (Nat.le_refl _) hr.lt).trans hr
  refine ⟨hl, hn, fun _ => ⟨g, 0, rfl, hr.lt, fun j x hx => ?_⟩⟩
  obtain ⟨l, b1, h1, u1, h5, h6⟩ := hm j x (by rw [← hl]; exact (List.getElem?_eq_some_iff.1 hx).1) hx
  rw [Nat.zero_add]
  have k : ∀ q v, (x.vs l)[q]? = some v → w'.cell? ⟨g, j * 4 + q, none⟩ = some v := fun q v hq => (hr'.cell _).trans (h6 q v hq)
  refine ⟨l, ⟨k 0 _ rfl, k 1 _ rfl, k 2 _ rfl, k 3 _ rfl⟩, ?_⟩
  obtain ⟨a0, a1⟩ := h5
  try unfold FlV at a0 a1 ⊢
  refine ⟨?_, a1⟩
  · rw [h1] at a0 ⊢; exact a0.det w' fun g' h1 h2 => hk g' (by omega) h2
theorem infoFl : (Tryd.prog.info? 50).map (fun i => (i.zero, i.size, i.bytes)) = some (some (Value.agg #[.string ⟨#[]⟩, .slice none 0 0, .int .i64 0, .int .i64 0]), 4, 56) := by kernel_rfl
theorem ownFl {w : World} {B g n : Nat} {xs : List Value} (h : w.ownsRow B 50 4 (.slice (some ⟨g, 0, none⟩) n n) n xs) : ∃ cs, RW 50 w g cs ∧ n * 4 ≤ cs.size := by
  rcases h.2 with ⟨h', _⟩ | ⟨g', cap', cur, h', _, hg, _, _, hsz, _⟩
  · simp at h'
  · simp only [Value.slice.injEq, Option.some.injEq, Addr.mk.injEq, and_true, true_and] at h'
    obtain ⟨rfl, rfl⟩ := h'
    exact ⟨cur, hg, by omega⟩
/-- What toFileS answers. -/
def ToFlS (xs : List Fl) (n : Nat) (W : World) (e : Ending) (w' : World) : Prop :=
  e = .returned (.slice (some ⟨W.heap.size, 0, none⟩) n n) ∧ Hid (FlI w' w'.heap.size (some ⟨W.heap.size, 0, none⟩) n xs ∧ Below W.heap.size W w' ∧ Det W.heap.size w'.heap.size w' fun w => FlI w w'.heap.size (some ⟨W.heap.size, 0, none⟩) n xs)

set_option maxHeartbeats 2000000 in
set_option maxRecDepth 100000 in
theorem toFileS_any (A : Option Addr) (n c : Nat) (xs : List Fl) (W : World) (hr : FlI W W.heap.size A n xs) (hs : ∀ (j : Nat) (x : Fl), xs[j]? = some x → FlSmall x) (hn : n ≤ 1048576) :
    Calls Tryd.prog 35 #[.slice A n c] W (ToFlS xs n W) := by
  obtain ⟨i0, hi, hz0, hz1, hz2⟩ := info_parts infoFl
  have HR := Lib.hid hr
  have HS := Lib.hid hs
  have h1 : (n : Int) ≤ 1048576 := by omega
  clear hr hs
  go_enter Tryd.func35, Tryd.ntmps35
  go_wp2_with (at_make; refine wpList_make_full _ rfl _ _ 27 rfl W.heap.size 50 i0 (.agg #[.string ⟨#[]⟩, .slice none 0 0, .int .i64 0, .int .i64 0]) 4 Tryd.underlying27 hi hz0 hz1 .i64 .i64 n n n rfl rfl rfl rfl (by rw [hz2]; omega) (by unfold maxLen; omega) (Nat.le_refl _) ?_)
  intro w1 hown hgrow
  have HB1 : Hid (Below W.heap.size W w1) := below_grown_none hgrow
  obtain ⟨cs, hcs, hcn⟩ := ownFl hown
  have HG : Hid (W.heap.size < w1.heap.size) := hcs.lt
  have HM : Hid (FilledFl w1 W.heap.size 0 n xs) := ⟨cs, hcs, hcn, fun i x hi => absurd hi (by omega)⟩
  clear hown hgrow hcs hcn hi hz0 hz1 hz2
  go_wp2_with fail
  go_loopw [4] (fun i wr => ∃ j : Nat, j ≤ n ∧ i = .int .i64 j ∧ Hid (Below W.heap.size W wr) ∧ Hid (W.heap.size < wr.heap.size) ∧ Hid (FilledFl wr W.heap.size j n xs)) (fun i _ => n - (intOf i).toNat)
  case atStart => exact ⟨0, Nat.zero_le _, rfl, HB1, HG, HM⟩
  case round =>
    obtain ⟨j, hj, rfl, HW, HZ, HJ⟩ := hrel
    by_cases hlt : j < n
    · obtain ⟨b, off, x, l, rfl, hg, hx, ⟨q0, q1, q2, q3⟩, hov⟩ := (HR.out.below HW.out).at_ hlt
      have HX := Lib.hid hx
      have HO := Lib.hid (hov.more HW.out.size)
      have HLT := Lib.hid hlt
      have HS1 := Lib.hid (HS.out j x hx)
      clear hx hov hg
      have b0 : (0 : Int) ≤ (j : Int) := by omega
      have b1 : (j : Int) < (n : Int) := by omega
      go_wp2_with (first | (go_at_call 66; have HQ := toFile_any x l _ HO.out HS1.out; refine Calls.mono HQ ?_; clear HQ; rintro e w2 ⟨⟨A1, n1, c1, h1⟩, rfl, h⟩; obtain ⟨g1, hb, en1, b1, e1, g1g⟩ := h.out; clear en1; have HF := Lib.hid (HJ.out.below hb); have hlt2 := HLT.out; have hzz := HZ.out; have HF2 : Hid (FilledFl (w2.setCells W.heap.size (j * 4) [.string x.name_, .slice A1 n1 c1, .int .i64 x.mode_, .int .i64 x.at_]) W.heap.size (j + 1) n xs) := (by have k := HF.out.store HX.out hlt2 e1 (Nat.lt_of_lt_of_le hzz g1g) g1; unfold Fl.vs at k; exact k); have HT : Hid (w2.there W.heap.size (j * 4) 4) := (by obtain ⟨cs, hr, hc, _⟩ := HF.out; exact hr.there (by omega)); have HW2 : Hid (Below W.heap.size W (w2.setCells W.heap.size (j * 4) [.string x.name_, .slice A1 n1 c1, .int .i64 x.mode_, .int .i64 x.at_])) := ((HW.out.trans (hb.mono HW.out.size)).trans (below_cells (Nat.le_refl _) _ _ _)); have HZ2 : Hid (W.heap.size < (w2.setCells W.heap.size (j * 4) [.string x.name_, .slice A1 n1 c1, .int .i64 x.mode_, .int .i64 x.at_]).heap.size) := (by obtain ⟨_, hr, _⟩ := HF2.out; exact hr.lt); have tk1 : True := trivial; clear h g1 hb e1 g1g hlt2 hzz q0 q1 q2 q3) | (clear tk1; refine wpList_store_mid rfl 50 (.tmp 21) (.tmp 20) rfl W.heap.size (j * 4) _ rfl rfl HT.out (by kernel_rfl) (by kernel_rfl) ?_; go_frame; clear HT; generalize w2.setCells W.heap.size (j * 4) [.string x.name_, .slice A1 n1 c1, .int .i64 x.mode_, .int .i64 x.at_] = w3 at HF2 HW2 HZ2 ⊢))
      go_roundw
      case rel => exact ⟨j + 1, by omega, by go_num, HW2, HZ2, HF2⟩
      case measure => simp [intOf]; omega
    · have HN : Hid (j = n) := by show _ = _; omega
      go_wp2_with fail
      go_ret
      have h := HJ.out
      rw [HN.out] at h
      exact ⟨rfl, Lib.hid ⟨h.all HR.out.1 HR.out.2.1, HW.out, h.det HR.out.1 HR.out.2.1⟩⟩
end Go.Proofs.YtlohjmlenbkbmaaDoor

namespace Go.Proofs.YtlohjmlenbkbmaaDoor
open Go Go.RowKit

theorem str_ret {a b : ByteArray} (h : a = b) : Ending.returned (.string a) = .returned (.string b) := by rw [h]
theorem conv_one (W : World) (x : Int) :
    (convert 103 9 (.slice (some ⟨W.heap.size, 0, none⟩) 1 1)).run Tryd.prog (W.alloc (.cells #[.int .u8 x] 5)) = .ok (.string ⟨#[UInt8.ofNat x.toNat]⟩) (W.alloc (.cells #[.int .u8 x] 5)) := by
  rw [run_convert_bytes_string _ _ _ 5 _ _ _ Tryd.underlying103 Tryd.underlying5 Tryd.underlying9]
  have hl : (loadCells ⟨W.heap.size, 0, none⟩ 1).run Tryd.prog (W.alloc (.cells #[.int .u8 x] 5)) = .ok (([x] : List Int).map (Value.int .u8)).toArray (W.alloc (.cells #[.int .u8 x] 5)) := by
    refine run_loadCells_list (P := Tryd.prog) _ ⟨W.heap.size, 0, none⟩ [Value.int .u8 x] fun j v hv => ?_
    match j, hv with
    | 0, hv => simp at hv; subst hv; simp [Addr.add]
  exact run_bytesToString (P := Tryd.prog) _ ⟨W.heap.size, 0, none⟩ 1 1 [x] hl
end Go.Proofs.YtlohjmlenbkbmaaDoor

namespace Go.Proofs.YtlohjmlenbkbmaaDoor
open Go Go.RowKit

/-- The digits of k ahead of acc. -/
def digitsOf (k : Nat) (acc : ByteArray) : ByteArray := if _h : k = 0 then acc else digitsOf (k / 10) (⟨#[48 + UInt8.ofNat (k % 10)]⟩ ++ acc)
termination_by k
decreasing_by omega
theorem digitsOf_zero (acc : ByteArray) : digitsOf 0 acc = acc := by rw [digitsOf, dif_pos rfl]
theorem digitsOf_step {k : Nat} (h : 0 < k) (acc : ByteArray) : digitsOf k acc = digitsOf (k / 10) (⟨#[48 + UInt8.ofNat (k % 10)]⟩ ++ acc) := by rw [digitsOf, dif_neg (by omega)]
/-- What markText answers at a number from 1 on. -/
def markT (k : Nat) : ByteArray := ⟨#[109]⟩ ++ digitsOf k ⟨#[]⟩

set_option maxRecDepth 100000 in
theorem markText_any (k : Nat) (W : World) (h0 : 0 < k) (h1 : k ≤ 16777216) :
    Calls Tryd.prog 74 #[.int .i64 k] W fun e w' => e = .returned (.string (markT k)) ∧ Below W.heap.size W w' := by
  have hk0 : decide ((k : Int) ≤ 0) = false := by simp; omega
  go_enter Tryd.func74, Tryd.ntmps74
  go_wp2
  go_loopw [0, 3] (fun i s wr => ∃ (j : Nat) (acc : ByteArray), i = .int .i64 j ∧ s = .string acc ∧ Below W.heap.size W wr ∧ acc.size + j ≤ 16777216 ∧ Hid (digitsOf k ⟨#[]⟩ = digitsOf j acc)) (fun i _ _ => (intOf i).toNat)
  case atStart => exact ⟨k, _, rfl, rfl, Below.refl _ _, by simp [ByteArray.size]; omega, rfl⟩
  case round =>
    obtain ⟨j, acc, rfl, rfl, hb, hsz, hE⟩ := hrel
    by_cases hj : 0 < j
    · have hd : decide (0 < (j : Int)) = true := by simp; omega
      have b0 : 0 ≤ (j : Int) % 10 := by omega
      have b1 : (j : Int) % 10 ≤ 9 := by omega
      have hcv := conv_one wr (48 + (j : Int) % 10)
      have HB := Lib.hid hb
      have HS : Hid (digitsOf j acc = digitsOf (j / 10) (⟨#[48 + UInt8.ofNat (j % 10)]⟩ ++ acc)) := digitsOf_step hj acc
      have hs' : acc.size ≤ 16777215 := by omega
      clear hb
      go_wp2_with fail
      go_roundw
      case rel =>
        refine ⟨j / 10, _, by go_num, rfl, HB.out.alloc HB.out.size _, ?_, hE.out.trans HS.out⟩
        rw [ByteArray.size_append]
        show 1 + acc.size + j / 10 ≤ _
        omega
      case measure => simp [intOf]; omega
    · have HZ : Hid (digitsOf j acc = acc) := by rw [show j = 0 by omega]; exact digitsOf_zero acc
      have hd : decide (0 < (j : Int)) = false := by simp; omega
      have HB := Lib.hid hb
      have hs' : acc.size ≤ 16777216 := by omega
      clear hb hsz
      go_wp2
      go_ret
      exact ⟨str_ret (by unfold markT; rw [hE.out, HZ.out]), HB.out⟩
end Go.Proofs.YtlohjmlenbkbmaaDoor

namespace Go.Proofs.YtlohjmlenbkbmaaDoor
open Go Go.RowKit

/-- Of what was there only blocks of S have turned; every row is still a row, as long as it was. -/
def Mut (S : Nat → Prop) (w w' : World) : Prop := w'.os = w.os ∧ w'.tape = w.tape ∧ w'.output = w.output ∧ w.heap.size ≤ w'.heap.size ∧ (∀ j, j < w.heap.size → ¬ S j → w'.heap[j]? = w.heap[j]?) ∧ ∀ (b : Nat) (cs : Array Value), RW 9 w b cs → ∃ cs', RW 9 w' b cs' ∧ cs'.size = cs.size
theorem Mut.refl (S : Nat → Prop) (w : World) : Mut S w w := ⟨rfl, rfl, rfl, Nat.le_refl _, fun _ _ _ => rfl, fun _ cs h => ⟨cs, h, rfl⟩⟩
theorem Mut.trans {S : Nat → Prop} {a b c : World} (h : Mut S a b) (h' : Mut S b c) : Mut S a c := by
  obtain ⟨h1, h2, h3, h4, h5, h6⟩ := h
  obtain ⟨k1, k2, k3, k4, k5, k6⟩ := h'
  refine ⟨k1.trans h1, k2.trans h2, k3.trans h3, Nat.le_trans h4 k4, fun j hj hn => (k5 j (Nat.lt_of_lt_of_le hj h4) hn).trans (h5 j hj hn), fun b cs hr => ?_⟩
  obtain ⟨cs1, r1, s1⟩ := h6 b cs hr
  obtain ⟨cs2, r2, s2⟩ := k6 b cs1 r1
  exact ⟨cs2, r2, s2.trans s1⟩
theorem Mut.mono {S S' : Nat → Prop} {a b : World} (h : Mut S a b) (hS : ∀ j, S j → S' j) : Mut S' a b := ⟨h.1, h.2.1, h.2.2.1, h.2.2.2.1, fun j hj hn => h.2.2.2.2.1 j hj fun hs => hn (hS j hs), h.2.2.2.2.2⟩
theorem Mut.of_below {S : Nat → Prop} {a b : World} (h : Below a.heap.size a b) : Mut S a b := ⟨h.os, h.tape, h.output, h.size, fun j hj _ => h.block j hj, fun _ cs hr => ⟨cs, hr.below h hr.lt, rfl⟩⟩
theorem RW.same {T T' : TypeId} {w : World} {g : Nat} {cs cs' : Array Value} (h : RW T w g cs) (h' : RW T' w g cs') : T = T' ∧ cs = cs' := by
  have e := (show w.heap[g]? = some (.cells cs T (0, 0)) from h).symm.trans (show w.heap[g]? = some (.cells cs' T' (0, 0)) from h')
  simp only [Option.some.injEq, Obj.cells.injEq, and_true] at e
  exact ⟨e.2, e.1⟩
theorem Mut.of_set {S : Nat → Prop} {T : TypeId} {w : World} {g : Nat} {cs : Array Value} (h : RW T w g cs) (hS : S g) (i : Nat) (v : Value) : Mut S w (w.setCell ⟨g, i, none⟩ v) := by
  refine ⟨rfl, rfl, rfl, by rw [size_set]; exact Nat.le_refl _, fun j _ hne => Below.heap_setCell w ⟨g, i, none⟩ v j (fun e => hne (by rw [e]; exact hS)), fun b cs' hr => ?_⟩
  by_cases e : b = g
  · subst e
    exact ⟨_, hr.set_ i v, by simp⟩
  · exact ⟨cs', hr.other (p := ⟨g, i, none⟩) e v, rfl⟩
theorem Mut.below {S : Nat → Prop} {a b : World} {B : Nat} (h : Mut S a b) (hS : ∀ j, S j → B ≤ j) (hB : B ≤ a.heap.size) : Below B a b := ⟨h.1, h.2.1, h.2.2.1, h.2.2.2.1, fun j hj => h.2.2.2.2.1 j (by omega) fun hs => by have := hS j hs; omega⟩
/-- A row that does not turn. -/
theorem Mut.row {S : Nat → Prop} {a b : World} {T : TypeId} {g : Nat} {cs : Array Value} (h : Mut S a b) (hr : RW T a g cs) (hn : ¬ S g) : RW T b g cs := (h.2.2.2.2.1 g hr.lt hn).trans hr
/-- A row of another kind turns. -/
theorem Mut.of_gb {w w' : World} {T : TypeId} {g : Nat} {cs : Array Value} (h : w.grownBy w' (some g)) (hr : RW T w g cs) (hT : 9 ≠ T) : Mut (fun b => b = g) w w' :=
  ⟨h.os, h.tape, h.output, h.size, fun j hj hn => h.block j hj (fun e => hn (Option.some.inj e)), fun b cs' hb => ⟨cs', (h.block b hb.lt (fun e => by have e' := Option.some.inj e; subst e'; exact hT (RW.same hb hr).1)).trans hb, rfl⟩⟩
/-- What holds by blocks a .. b - 1 alone still holds. -/
theorem Mut.det {S : Nat → Prop} {w w' : World} {a b : Nat} {P : World → Prop} (h : Mut S w w') (hd : Det a b w P) (hb : b ≤ w.heap.size) (hS : ∀ j, a ≤ j → j < b → ¬ S j) : Det a b w' P := hd.keep fun g h1 h2 => h.2.2.2.2.1 g (by omega) (hS g h1 h2)

/-- A row of strings that can be marked. -/
def StW (w : World) (A : Option Addr) (n : Nat) : Prop := 0 < n → ∃ b cs, A = some ⟨b, 0, none⟩ ∧ RW 9 w b cs ∧ n ≤ cs.size
theorem StW.mut {w w' : World} {A : Option Addr} {n : Nat} {S : Nat → Prop} (h : StW w A n) (hm : Mut S w w') : StW w' A n := fun hn => by
  obtain ⟨b, cs, e, hr, hs⟩ := h hn
  obtain ⟨cs', hr', hs'⟩ := hm.2.2.2.2.2 b cs hr
  exact ⟨b, cs', e, hr', by omega⟩
theorem StW.below {w w' : World} {A : Option Addr} {n B : Nat} (h : StW w A n) (hA : ∀ a, A = some a → a.block < B) (hb : Below B w w') : StW w' A n := fun hn => by
  obtain ⟨b, cs, e, hr, hs⟩ := h hn
  exact ⟨b, cs, e, hr.below hb (hA _ e), hs⟩
/-- Its block. -/
def Blk1 (A : Option Addr) (n : Nat) (b : Nat) : Prop := 0 < n ∧ A = some ⟨b, 0, none⟩
/-- A slice of strings, of one's own. -/
def StIO (w : World) (B : Nat) (A : Option Addr) (n : Nat) (xs : List St) : Prop := StI w B A n xs ∧ StW w A n
theorem StIO.blk {w : World} {B : Nat} {A : Option Addr} {n : Nat} {xs : List St} (h : StIO w B A n xs) : ∀ b, Blk1 A n b → b < B := fun b hb => by
  obtain ⟨b', off, e, hg, _⟩ := h.1.2.2 hb.1
  rw [hb.2] at e
  simp only [Option.some.injEq, Addr.mk.injEq, and_true] at e
  omega
theorem StIO.below {w w' : World} {B : Nat} {A : Option Addr} {n : Nat} {xs : List St} (h : StIO w B A n xs) (hb : Below B w w') : StIO w' B A n xs := ⟨h.1.below hb, fun hn => by
  obtain ⟨b, cs, e, hr, hs⟩ := h.2 hn
  exact ⟨b, cs, e, hr.below hb (h.blk b ⟨hn, e⟩), hs⟩⟩
theorem StIO.more {w : World} {B B' : Nat} {A : Option Addr} {n : Nat} {xs : List St} (h : StIO w B A n xs) (hB : B ≤ B') : StIO w B' A n xs := ⟨h.1.more hB, h.2⟩
theorem StIO.others {B n b off : Nat} {xs : List St} {g : Nat} (hp : b ≠ g) {vs : List Value} {w : World} {o : Nat} (h : StIO w B (some ⟨b, off, none⟩) n xs) : StIO (w.setCells g o vs) B (some ⟨b, off, none⟩) n xs := ⟨StI.others hp h.1, fun hn => by
  obtain ⟨b', cs, e, hr, hs⟩ := h.2 hn
  simp only [Option.some.injEq, Addr.mk.injEq, and_true] at e
  obtain ⟨rfl, rfl⟩ := e
  exact ⟨b, cs, rfl, hr.others hp, hs⟩⟩
theorem StIO.det {w : World} {B n b off : Nat} {xs : List St} (h : StIO w B (some ⟨b, off, none⟩) n xs) : Det b B w fun w => StIO w B (some ⟨b, off, none⟩) n xs := fun w' k => ⟨h.1.det w' k, fun hn => by
  obtain ⟨b', cs, e, hr, hs⟩ := h.2 hn
  have hlt := h.blk b' ⟨hn, e⟩
  simp only [Option.some.injEq, Addr.mk.injEq, and_true] at e
  obtain ⟨rfl, rfl⟩ := e
  exact ⟨b, cs, rfl, (k b (Nat.le_refl _) hlt).trans hr, hs⟩⟩
end Go.Proofs.YtlohjmlenbkbmaaDoor

namespace Go.Proofs.YtlohjmlenbkbmaaDoor
open Go Go.RowKit

/-- What toStringS answers: a slice at the head of the first new block. -/
def ToStO (xs : List St) (n : Nat) (W : World) (e : Ending) (w' : World) : Prop :=
  e = .returned (.slice (some ⟨W.heap.size, 0, none⟩) n n) ∧ Hid (StIO w' w'.heap.size (some ⟨W.heap.size, 0, none⟩) n xs ∧ Below W.heap.size W w')

set_option maxHeartbeats 2000000 in
set_option maxRecDepth 100000 in
theorem toStringS_own (A : Option Addr) (n c : Nat) (xs : List St) (W : World) (hr : StI W W.heap.size A n xs) (hn : n ≤ 1048576) :
    Calls Tryd.prog 34 #[.slice A n c] W (ToStO xs n W) := by
  obtain ⟨i0, hi, hz0, hz1, hz2⟩ := info_parts infoSt
  have HR := Lib.hid hr
  have h1 : (n : Int) ≤ 1048576 := by omega
  clear hr
  go_enter Tryd.func34, Tryd.ntmps34
  go_wp2_with (at_make; refine wpList_make_full _ rfl _ _ 22 rfl W.heap.size 9 i0 (.string ⟨#[]⟩) 1 Tryd.underlying22 hi hz0 hz1 .i64 .i64 n n n rfl rfl rfl rfl (by rw [hz2]; omega) (by unfold maxLen; omega) (Nat.le_refl _) ?_)
  intro w1 hown hgrow
  have HB1 : Hid (Below W.heap.size W w1) := below_grown_none hgrow
  obtain ⟨cs, hcs, hcn⟩ := ownSt hown
  have HG : Hid (W.heap.size < w1.heap.size) := hcs.lt
  have HM : Hid (FilledSt w1 W.heap.size 0 n xs) := ⟨cs, hcs, hcn, fun i x hi => absurd hi (by omega)⟩
  clear hown hgrow hcs hcn hi hz0 hz1 hz2
  go_wp2_with fail
  go_loopw [4] (fun i wr => ∃ j : Nat, j ≤ n ∧ i = .int .i64 j ∧ Hid (Below W.heap.size W wr) ∧ Hid (W.heap.size < wr.heap.size) ∧ Hid (FilledSt wr W.heap.size j n xs)) (fun i _ => n - (intOf i).toNat)
  case atStart => exact ⟨0, Nat.zero_le _, rfl, HB1, HG, HM⟩
  case round =>
    obtain ⟨j, hj, rfl, HW, HZ, HJ⟩ := hrel
    by_cases hlt : j < n
    · obtain ⟨b, off, x, rfl, hg, hx, q0, hxs⟩ := (HR.out.below HW.out).at_ hlt
      have HX := Lib.hid hx
      obtain ⟨cs, hs, hcs, hm⟩ := HJ.out
      have HSB := Lib.hid hs
      have HMM := Lib.hid hm
      have HL0 : Hid (j < cs.size) := by show _ < _; omega
      have HCS := Lib.hid hcs
      have p0 := (hs.cell j).trans (Array.getElem?_eq_getElem HL0.out)
      have z0 := hs.frozen j
      have b0 : (0 : Int) ≤ (j : Int) := by omega
      have b1 : (j : Int) < (n : Int) := by omega
      clear hs hm hx hxs hg hcs
      go_wp2_with fail
      go_roundw
      case rel =>
        refine ⟨j + 1, by omega, by go_num, ?_, ?_, ?_⟩
        · exact HW.out.setCell (Nat.le_refl _) _
        · have h2 := HZ.out
          show _ < _
          simp [World.setCell]
          omega
        · refine ⟨_, (HSB.out).set_ _ _, by simpa using HCS.out, fun i y hi hxi => ?_⟩
          by_cases e : i = j
          · subst e
            rw [HX.out, Option.some.injEq] at hxi
            subst hxi
            rw [Array.getElem?_setIfInBounds_self_of_lt HL0.out]
          · rw [Array.getElem?_setIfInBounds_ne (by omega)]
            exact HMM.out i y (by omega) hxi
      case measure => simp [intOf]; omega
    · have HN : Hid (j = n) := by show _ = _; omega
      go_wp2_with fail
      go_ret
      refine ⟨rfl, Lib.hid ⟨⟨⟨HR.out.1, HR.out.2.1, fun _ => ⟨W.heap.size, 0, rfl, HZ.out, fun i x hx => ?_⟩⟩, fun _ => ?_⟩, HW.out⟩⟩
      · obtain ⟨cs, hs, hcs, hm⟩ := HJ.out
        have hil : i < xs.length := (List.getElem?_eq_some_iff.1 hx).1
        have hij : i < j := by have := HN.out; have := HR.out.1; omega
        obtain ⟨_, _, _, _, hc⟩ := HR.out.2.2 (by have := HR.out.1; omega)
        rw [Nat.zero_add]
        exact ⟨(hs.cell _).trans (hm i x hij hx), (hc i x hx).2⟩
      · obtain ⟨cs, hs, hcs, _⟩ := HJ.out
        exact ⟨_, cs, rfl, hs, hcs⟩
end Go.Proofs.YtlohjmlenbkbmaaDoor

namespace Go.Proofs.YtlohjmlenbkbmaaDoor
open Go Go.RowKit

/-- Its lists are rows of one's own. -/
def FlVO (w : World) (B : Nat) (x : Fl) (l : FlLay) : Prop := StIO w B l.A1 l.n1 x.lines_ ∧ x.name_.size ≤ maxLen
theorem FlVO.below {w w' : World} {B : Nat} {x : Fl} {l : FlLay} (h : FlVO w B x l) (hb : Below B w w') : FlVO w' B x l := by
  obtain ⟨a0, a1⟩ := h
  exact ⟨a0.below hb, a1⟩
theorem FlVO.more {w : World} {B B' : Nat} {x : Fl} {l : FlLay} (h : FlVO w B x l) (hB : B ≤ B') : FlVO w B' x l := by
  obtain ⟨a0, a1⟩ := h
  exact ⟨a0.more hB, a1⟩
theorem FlVO.toV {w : World} {B : Nat} {x : Fl} {l : FlLay} (h : FlVO w B x l) : FlV w B x l := by
  obtain ⟨a0, a1⟩ := h
  exact ⟨a0.1, a1⟩
/-- A slice of them that lies below B: a row of one's own. -/
def FlIO (w : World) (B : Nat) (A : Option Addr) (n : Nat) (xs : List Fl) : Prop :=
  xs.length = n ∧ n ≤ maxLen ∧ (0 < n → ∃ g cs, A = some ⟨g, 0, none⟩ ∧ g < B ∧ RW 50 w g cs ∧ n * 4 ≤ cs.size ∧ ∀ (j : Nat) (x : Fl), xs[j]? = some x → ∃ l, (∀ (q : Nat) (v : Value), (x.vs l)[q]? = some v → cs[j * 4 + q]? = some v) ∧ FlVO w B x l ∧ (∀ a, l.A1 = some a → g < a.block))
theorem FlIO.below {w w' : World} {B n : Nat} {A : Option Addr} {xs : List Fl} (h : FlIO w B A n xs) (hb : Below B w w') : FlIO w' B A n xs :=
  ⟨h.1, h.2.1, fun hn => by
    obtain ⟨g, cs, e, hg, hr, hc, hm⟩ := h.2.2 hn
    refine ⟨g, cs, e, hg, hr.below hb hg, hc, fun j x hx => ?_⟩
    obtain ⟨l, h1, h2, h3⟩ := hm j x hx
    exact ⟨l, h1, h2.below hb, h3⟩⟩
theorem FlIO.more {w : World} {B B' n : Nat} {A : Option Addr} {xs : List Fl} (h : FlIO w B A n xs) (hB : B ≤ B') : FlIO w B' A n xs :=
  ⟨h.1, h.2.1, fun hn => by
    obtain ⟨g, cs, e, hg, hr, hc, hm⟩ := h.2.2 hn
    refine ⟨g, cs, e, by omega, hr, hc, fun j x hx => ?_⟩
    obtain ⟨l, h1, h2, h3⟩ := hm j x hx
    exact ⟨l, h1, h2.more hB, h3⟩⟩
theorem FlIO.toI {w : World} {B n : Nat} {A : Option Addr} {xs : List Fl} (h : FlIO w B A n xs) : FlI w B A n xs :=
  ⟨h.1, h.2.1, fun hn => by
    obtain ⟨g, cs, e, hg, hr, hc, hm⟩ := h.2.2 hn
    refine ⟨g, 0, e, hg, fun j x hx => ?_⟩
    obtain ⟨l, h1, h2, _⟩ := hm j x hx
    rw [Nat.zero_add]
    exact ⟨l, ⟨(hr.cell _).trans (h1 0 _ rfl), (hr.cell _).trans (h1 1 _ rfl), (hr.cell _).trans (h1 2 _ rfl), (hr.cell _).trans (h1 3 _ rfl)⟩, h2.toV⟩⟩

/-- What toFile answers. -/
def ToFlO (x : Fl) (W : World) (e : Ending) (w' : World) : Prop := ∃ l, e = .returned (x.ag l) ∧ Hid (FlVO w' w'.heap.size x l ∧ Below W.heap.size W w' ∧ l.n1 = x.lines_.length ∧ ∃ b1, l.A1 = some ⟨b1, 0, none⟩ ∧ W.heap.size ≤ b1)

set_option maxHeartbeats 2000000 in
set_option maxRecDepth 100000 in
theorem toFile_own (x : Fl) (l : FlLay) (W : World) (ho : FlV W W.heap.size x l) (hsm : FlSmall x) :
    Calls Tryd.prog 66 #[x.ag l] W (ToFlO x W) := by
  obtain ⟨x0, x1, x2, x3⟩ := x
  obtain ⟨A1, n1, c1, h1⟩ := l
  obtain ⟨k1, k0⟩ := ho
  have s1 := hsm
  try unfold FlVO at k1 k0
  try unfold FlSmall at s1
  dsimp only at k1 k0 s1
  rw [k1.1] at s1
  have HK1 := Lib.hid k1
  have HS1 := Lib.hid s1
  have HT0 := Lib.hid k0
  clear k1 k0 s1
  have HC := Lib.hid (fun (X Y : World) (T T' : TypeId) (c c' : Array Value) (eY : Y = W.alloc (.cells #[.string x0, .slice A1 n1 c1, .int .i64 x2, .int .i64 x3] T)) (eX : X = (Y.alloc (.cells c T')).alloc (.cells c' T')) =>
    (show RW T X W.heap.size #[.string x0, .slice A1 n1 c1, .int .i64 x2, .int .i64 x3] ∧ RW T' X (W.heap.size + 1 + 1) c' ∧ RW T' X (W.heap.size + 1) c ∧ Below W.heap.size W X ∧ X.heap.size = W.heap.size + 3 from by
      subst eX; subst eY
      refine ⟨((RW.new W _ T).alloc _).alloc _, ?_, ?_, ((below_alloc _ _).alloc (by simp) _).alloc (by simp; omega) _, by simp⟩
      · have := RW.new ((W.alloc (.cells #[.string x0, .slice A1 n1 c1, .int .i64 x2, .int .i64 x3] T)).alloc (.cells c T')) c' T'
        simpa using this
      · have := (RW.new (W.alloc (.cells #[.string x0, .slice A1 n1 c1, .int .i64 x2, .int .i64 x3] T)) c T').alloc (.cells c' T')
        simpa using this))
  show Calls Tryd.prog 66 #[.agg #[.string x0, .slice A1 n1 c1, .int .i64 x2, .int .i64 x3]] W _
  go_enter Tryd.func66, Tryd.ntmps66
  go_wp2_with (go_at_call 34; obtain ⟨g0, g1, g4, g2, g3⟩ := HC.out _ _ _ _ _ _ rfl rfl; have HQ := toStringS_own A1 n1 c1 x1 _ (HK1.out.go g2) HS1.out; refine Calls.mono HQ ?_; clear HQ; rintro e w1 ⟨rfl, h⟩; obtain ⟨hv, hb⟩ := h.out; have hd := hv.det; rw [g3] at hv hd; have HA1 := Lib.hid (g0.below hb (by omega)); have HR1 := Lib.hid (g1.below hb (by omega)); have HO1 := Lib.hid (g4.below hb (by omega)); have HB1 := Lib.hid (g2.trans (hb.mono g2.size)); have HV1_1 : Hid (Det (W.heap.size + 1 + 1 + 1) w1.heap.size w1 fun w => StIO w w1.heap.size (some ⟨W.heap.size + 1 + 1 + 1, 0, none⟩) n1 x1) := hd; have HG1 : Hid (W.heap.size + 3 ≤ w1.heap.size) := (by have := hb.size; show _ ≤ _; omega); clear g0 g1 g2 g3 g4 h hv hd hb HK1; have q12 : w1.cell? ⟨W.heap.size, 2, none⟩ = some (.int .i64 x2) := HA1.out.cell 2; have q13 : w1.cell? ⟨W.heap.size, 3, none⟩ = some (.int .i64 x3) := HA1.out.cell 3; have p11 : w1.cell? ⟨W.heap.size + 1 + 1, 1, none⟩ = some (.slice none 0 0) := HR1.out.cell 1; have f11 := HR1.out.frozen 1; have p12 : w1.cell? ⟨W.heap.size + 1 + 1, 2, none⟩ = some (.int .i64 0) := HR1.out.cell 2; have f12 := HR1.out.frozen 2; have p13 : w1.cell? ⟨W.heap.size + 1 + 1, 3, none⟩ = some (.int .i64 0) := HR1.out.cell 3; have f13 := HR1.out.frozen 3; have p10 : w1.cell? ⟨W.heap.size + 1 + 1, 0, none⟩ = some (.string x0) := HR1.out.cell 0; have r0 : w1.cell? ⟨W.heap.size + 1, 0, none⟩ = some (.string ⟨#[]⟩) := HO1.out.cell 0; have z0 := HO1.out.frozen 0; have r1 : w1.cell? ⟨W.heap.size + 1, 1, none⟩ = some (.slice none 0 0) := HO1.out.cell 1; have z1 := HO1.out.frozen 1; have r2 : w1.cell? ⟨W.heap.size + 1, 2, none⟩ = some (.int .i64 0) := HO1.out.cell 2; have z2 := HO1.out.frozen 2; have r3 : w1.cell? ⟨W.heap.size + 1, 3, none⟩ = some (.int .i64 0) := HO1.out.cell 3; have z3 := HO1.out.frozen 3)
  have hs1 := HG1.out
  have hb1 : Below (W.heap.size + 1) w1 (((((((w1.setCell ⟨W.heap.size + 1 + 1, 1, none⟩ (.slice (some ⟨W.heap.size + 1 + 1 + 1, 0, none⟩) n1 n1)).setCell ⟨W.heap.size + 1 + 1, 2, none⟩ (.int .i64 x2)).setCell ⟨W.heap.size + 1 + 1, 3, none⟩ (.int .i64 x3)).setCell ⟨W.heap.size + 1, 0, none⟩ (.string x0)).setCell ⟨W.heap.size + 1, 1, none⟩ (.slice (some ⟨W.heap.size + 1 + 1 + 1, 0, none⟩) n1 n1)).setCell ⟨W.heap.size + 1, 2, none⟩ (.int .i64 x2)).setCell ⟨W.heap.size + 1, 3, none⟩ (.int .i64 x3)) := (((((((below_set w1 (p := ⟨W.heap.size + 1 + 1, 1, none⟩) (by simp) _).setCell (by simp) _).setCell (by simp) _).setCell (by simp) _).setCell (by simp) _).setCell (by simp) _).setCell (by simp) _)
  have hzz : (((((((w1.setCell ⟨W.heap.size + 1 + 1, 1, none⟩ (.slice (some ⟨W.heap.size + 1 + 1 + 1, 0, none⟩) n1 n1)).setCell ⟨W.heap.size + 1 + 1, 2, none⟩ (.int .i64 x2)).setCell ⟨W.heap.size + 1 + 1, 3, none⟩ (.int .i64 x3)).setCell ⟨W.heap.size + 1, 0, none⟩ (.string x0)).setCell ⟨W.heap.size + 1, 1, none⟩ (.slice (some ⟨W.heap.size + 1 + 1 + 1, 0, none⟩) n1 n1)).setCell ⟨W.heap.size + 1, 2, none⟩ (.int .i64 x2)).setCell ⟨W.heap.size + 1, 3, none⟩ (.int .i64 x3)).heap.size = w1.heap.size := by simp [World.setCell]
  refine bodyPost_ret (v := .agg #[.string x0, .slice (some ⟨W.heap.size + 1 + 1 + 1, 0, none⟩) n1 n1, .int .i64 x2, .int .i64 x3]) (results_cell_row Tryd.results66 _ _ (W.heap.size + 1) 50 _ (0, 0) _ rfl ((((((((((((((HO1.out).other (p := ⟨W.heap.size + 1 + 1, 1, none⟩) (by simp) (.slice (some ⟨W.heap.size + 1 + 1 + 1, 0, none⟩) n1 n1))).other (p := ⟨W.heap.size + 1 + 1, 2, none⟩) (by simp) (.int .i64 x2))).other (p := ⟨W.heap.size + 1 + 1, 3, none⟩) (by simp) (.int .i64 x3))).set_ 0 (.string x0))).set_ 1 (.slice (some ⟨W.heap.size + 1 + 1 + 1, 0, none⟩) n1 n1))).set_ 2 (.int .i64 x2))).set_ 3 (.int .i64 x3)) Tryd.underlying50 rfl (by kernel_rfl)) rfl ⟨⟨some ⟨W.heap.size + 1 + 1 + 1, 0, none⟩, n1, n1, Nat.le_refl _⟩, rfl, Lib.hid ⟨?_, HB1.out.trans (hb1.mono (by omega)), HV1_1.out.self.1.1.symm, _, rfl, by omega⟩⟩
  show FlVO (((((((w1.setCell ⟨W.heap.size + 1 + 1, 1, none⟩ (.slice (some ⟨W.heap.size + 1 + 1 + 1, 0, none⟩) n1 n1)).setCell ⟨W.heap.size + 1 + 1, 2, none⟩ (.int .i64 x2)).setCell ⟨W.heap.size + 1 + 1, 3, none⟩ (.int .i64 x3)).setCell ⟨W.heap.size + 1, 0, none⟩ (.string x0)).setCell ⟨W.heap.size + 1, 1, none⟩ (.slice (some ⟨W.heap.size + 1 + 1 + 1, 0, none⟩) n1 n1)).setCell ⟨W.heap.size + 1, 2, none⟩ (.int .i64 x2)).setCell ⟨W.heap.size + 1, 3, none⟩ (.int .i64 x3)) (((((((w1.setCell ⟨W.heap.size + 1 + 1, 1, none⟩ (.slice (some ⟨W.heap.size + 1 + 1 + 1, 0, none⟩) n1 n1)).setCell ⟨W.heap.size + 1 + 1, 2, none⟩ (.int .i64 x2)).setCell ⟨W.heap.size + 1 + 1, 3, none⟩ (.int .i64 x3)).setCell ⟨W.heap.size + 1, 0, none⟩ (.string x0)).setCell ⟨W.heap.size + 1, 1, none⟩ (.slice (some ⟨W.heap.size + 1 + 1 + 1, 0, none⟩) n1 n1)).setCell ⟨W.heap.size + 1, 2, none⟩ (.int .i64 x2)).setCell ⟨W.heap.size + 1, 3, none⟩ (.int .i64 x3)).heap.size ⟨x0, x1, x2, x3⟩ ⟨some ⟨W.heap.size + 1 + 1 + 1, 0, none⟩, n1, n1, Nat.le_refl _⟩
  rw [hzz]
  exact ⟨((((((((((((((HV1_1.out).set (p := ⟨W.heap.size + 1 + 1, 1, none⟩) (by first | (dsimp only; omega) | omega) _)).set (p := ⟨W.heap.size + 1 + 1, 2, none⟩) (by first | (dsimp only; omega) | omega) _)).set (p := ⟨W.heap.size + 1 + 1, 3, none⟩) (by first | (dsimp only; omega) | omega) _)).set (p := ⟨W.heap.size + 1, 0, none⟩) (by first | (dsimp only; omega) | omega) _)).set (p := ⟨W.heap.size + 1, 1, none⟩) (by first | (dsimp only; omega) | omega) _)).set (p := ⟨W.heap.size + 1, 2, none⟩) (by first | (dsimp only; omega) | omega) _)).set (p := ⟨W.heap.size + 1, 3, none⟩) (by first | (dsimp only; omega) | omega) _).self, HT0.out⟩

/-- The elements of block g ahead of j are filled; their lists lie elsewhere. -/
def FilledFlO (w : World) (g j n : Nat) (xs : List Fl) : Prop :=
  ∃ cs, RW 50 w g cs ∧ n * 4 ≤ cs.size ∧ ∀ (i : Nat) (x : Fl), i < j → xs[i]? = some x → ∃ l b1, l.A1 = some ⟨b1, 0, none⟩ ∧ g < b1 ∧ FlVO w w.heap.size x l ∧ ∀ (q : Nat) (v : Value), (x.vs l)[q]? = some v → cs[i * 4 + q]? = some v
theorem FilledFlO.below {w w' : World} {g j n : Nat} {xs : List Fl} (h : FilledFlO w g j n xs) (hb : Below w.heap.size w w') : FilledFlO w' g j n xs := by
  obtain ⟨cs, hr, hn, hm⟩ := h
  refine ⟨cs, hr.below hb hr.lt, hn, fun i x hi hx => ?_⟩
  obtain ⟨l, b1, h1, u1, h5, h6⟩ := hm i x hi hx
  exact ⟨l, b1, h1, u1, (h5.below hb).more hb.size, h6⟩
theorem FlVO.others {w : World} {B g o : Nat} {x : Fl} {l : FlLay} {b1 : Nat} (h : FlVO w B x l) (h1 : l.A1 = some ⟨b1, 0, none⟩) (u1 : b1 ≠ g) (vs : List Value) : FlVO (w.setCells g o vs) B x l := by
  obtain ⟨a0, a1⟩ := h
  try unfold FlVO at a0 a1 ⊢
  rw [h1] at a0
  refine ⟨?_, a1⟩
  · rw [h1]; exact a0.others u1
theorem size_setsFlO (vs : List Value) (w : World) (g k : Nat) : (w.setCells g k vs).heap.size = w.heap.size := by
  induction vs generalizing w k with
  | nil => rfl
  | cons v r ih => exact (ih _ _).trans (size_set _ _ _)
theorem FilledFlO.store {w : World} {g j n : Nat} {xs : List Fl} {x : Fl} {l : FlLay} {b1 : Nat} (h : FilledFlO w g j n xs) (hx : xs[j]? = some x) (hj : j < n) (h1 : l.A1 = some ⟨b1, 0, none⟩) (u1 : g < b1) (h5 : FlVO w w.heap.size x l) :
    FilledFlO (w.setCells g (j * 4) (x.vs l)) g (j + 1) n xs := by
  obtain ⟨cs, hr, hn, hm⟩ := h
  have hs : (w.setCells g (j * 4) (x.vs l)).heap.size = w.heap.size := size_setsFlO _ _ _ _
  have hlK : (x.vs l).length = 4 := rfl
  refine ⟨_, hr.cells, by rw [putL_size]; exact hn, fun i y hi hy => ?_⟩
  by_cases e : i = j
  · subst e
    rw [hx, Option.some.injEq] at hy
    subst hy
    refine ⟨l, b1, h1, u1, ?_, fun q v hq => putL_new _ _ _ _ _ (by rw [hlK]; omega) hq⟩
    rw [hs]
    exact h5.others h1 (by omega) _
  · obtain ⟨l', b1', j1, v1, k5, k6⟩ := hm i y (by omega) hy
    refine ⟨l', b1', j1, v1, ?_, fun q v hq => ?_⟩
    · rw [hs]
      exact k5.others j1 (by omega) _
    · have hqK : q < 4 := (List.getElem?_eq_some_iff.1 hq).1
      rw [putL_old _ _ _ _ (by omega)]
      exact k6 q v hq
theorem FilledFlO.all {w : World} {g n : Nat} {xs : List Fl} (h : FilledFlO w g n n xs) (hl : xs.length = n) (hn : n ≤ maxLen) : FlIO w w.heap.size (some ⟨g, 0, none⟩) n xs := by
  obtain ⟨cs, hr, hc, hm⟩ := h
  refine ⟨hl, hn, fun _ => ⟨g, cs, rfl, hr.lt, hr, hc, fun j x hx => ?_⟩⟩
  obtain ⟨l, b1, h1, u1, h5, h6⟩ := hm j x (by rw [← hl]; exact (List.getElem?_eq_some_iff.1 hx).1) hx
  exact ⟨l, h6, h5, fun a ha => by rw [h1] at ha; cases ha; exact u1⟩
theorem FilledFlO.det {w : World} {g n : Nat} {xs : List Fl} (h : FilledFlO w g n n xs) (hl : xs.length = n) (hn : n ≤ maxLen) : Det g w.heap.size w fun w' => FlIO w' w.heap.size (some ⟨g, 0, none⟩) n xs := by
  intro w' hk
  obtain ⟨cs, hr, hc, hm⟩ := h
  have hr' : RW 50 w' g cs := (hk g (Nat.le_refl _) hr.lt).trans hr
  refine ⟨hl, hn, fun _ => ⟨g, cs, rfl, hr.lt, hr', hc, fun j x hx => ?_⟩⟩
  obtain ⟨l, b1, h1, u1, h5, h6⟩ := hm j x (by rw [← hl]; exact (List.getElem?_eq_some_iff.1 hx).1) hx
  obtain ⟨a0, a1⟩ := h5
  exact ⟨l, h6, ⟨by rw [h1] at a0 ⊢; exact a0.det w' fun g' k1 k2 => hk g' (by omega) k2, a1⟩, fun a ha => by rw [h1] at ha; cases ha; exact u1⟩
theorem infoFlO : (Tryd.prog.info? 50).map (fun i => (i.zero, i.size, i.bytes)) = some (some (Value.agg #[.string ⟨#[]⟩, .slice none 0 0, .int .i64 0, .int .i64 0]), 4, 56) := by kernel_rfl
theorem ownFlO {w : World} {B g n : Nat} {xs : List Value} (h : w.ownsRow B 50 4 (.slice (some ⟨g, 0, none⟩) n n) n xs) : ∃ cs, RW 50 w g cs ∧ n * 4 ≤ cs.size := by
  rcases h.2 with ⟨h', _⟩ | ⟨g', cap', cur, h', _, hg, _, _, hsz, _⟩
  · simp at h'
  · simp only [Value.slice.injEq, Option.some.injEq, Addr.mk.injEq, and_true, true_and] at h'
    obtain ⟨rfl, rfl⟩ := h'
    exact ⟨cur, hg, by omega⟩
/-- What toFileS answers. -/
def ToFlSO (xs : List Fl) (n : Nat) (W : World) (e : Ending) (w' : World) : Prop :=
  e = .returned (.slice (some ⟨W.heap.size, 0, none⟩) n n) ∧ Hid (FlIO w' w'.heap.size (some ⟨W.heap.size, 0, none⟩) n xs ∧ Below W.heap.size W w' ∧ Det W.heap.size w'.heap.size w' fun w => FlIO w w'.heap.size (some ⟨W.heap.size, 0, none⟩) n xs)

set_option maxHeartbeats 2000000 in
set_option maxRecDepth 100000 in
theorem toFileS_own (A : Option Addr) (n c : Nat) (xs : List Fl) (W : World) (hr : FlI W W.heap.size A n xs) (hs : ∀ (j : Nat) (x : Fl), xs[j]? = some x → FlSmall x) (hn : n ≤ 1048576) :
    Calls Tryd.prog 35 #[.slice A n c] W (ToFlSO xs n W) := by
  obtain ⟨i0, hi, hz0, hz1, hz2⟩ := info_parts infoFlO
  have HR := Lib.hid hr
  have HS := Lib.hid hs
  have h1 : (n : Int) ≤ 1048576 := by omega
  clear hr hs
  go_enter Tryd.func35, Tryd.ntmps35
  go_wp2_with (at_make; refine wpList_make_full _ rfl _ _ 27 rfl W.heap.size 50 i0 (.agg #[.string ⟨#[]⟩, .slice none 0 0, .int .i64 0, .int .i64 0]) 4 Tryd.underlying27 hi hz0 hz1 .i64 .i64 n n n rfl rfl rfl rfl (by rw [hz2]; omega) (by unfold maxLen; omega) (Nat.le_refl _) ?_)
  intro w1 hown hgrow
  have HB1 : Hid (Below W.heap.size W w1) := below_grown_none hgrow
  obtain ⟨cs, hcs, hcn⟩ := ownFlO hown
  have HG : Hid (W.heap.size < w1.heap.size) := hcs.lt
  have HM : Hid (FilledFlO w1 W.heap.size 0 n xs) := ⟨cs, hcs, hcn, fun i x hi => absurd hi (by omega)⟩
  clear hown hgrow hcs hcn hi hz0 hz1 hz2
  go_wp2_with fail
  go_loopw [4] (fun i wr => ∃ j : Nat, j ≤ n ∧ i = .int .i64 j ∧ Hid (Below W.heap.size W wr) ∧ Hid (W.heap.size < wr.heap.size) ∧ Hid (FilledFlO wr W.heap.size j n xs)) (fun i _ => n - (intOf i).toNat)
  case atStart => exact ⟨0, Nat.zero_le _, rfl, HB1, HG, HM⟩
  case round =>
    obtain ⟨j, hj, rfl, HW, HZ, HJ⟩ := hrel
    by_cases hlt : j < n
    · obtain ⟨b, off, x, l, rfl, hg, hx, ⟨q0, q1, q2, q3⟩, hov⟩ := (HR.out.below HW.out).at_ hlt
      have HX := Lib.hid hx
      have HO := Lib.hid (hov.more HW.out.size)
      have HLT := Lib.hid hlt
      have HS1 := Lib.hid (HS.out j x hx)
      clear hx hov hg
      have b0 : (0 : Int) ≤ (j : Int) := by omega
      have b1 : (j : Int) < (n : Int) := by omega
      go_wp2_with (first | (go_at_call 66; have HQ := toFile_own x l _ HO.out HS1.out; refine Calls.mono HQ ?_; clear HQ; rintro e w2 ⟨⟨A1, n1, c1, h1⟩, rfl, h⟩; obtain ⟨g1, hb, en1, b1, e1, g1g⟩ := h.out; clear en1; have HF := Lib.hid (HJ.out.below hb); have hlt2 := HLT.out; have hzz := HZ.out; have HF2 : Hid (FilledFlO (w2.setCells W.heap.size (j * 4) [.string x.name_, .slice A1 n1 c1, .int .i64 x.mode_, .int .i64 x.at_]) W.heap.size (j + 1) n xs) := (by have k := HF.out.store HX.out hlt2 e1 (Nat.lt_of_lt_of_le hzz g1g) g1; unfold Fl.vs at k; exact k); have HT : Hid (w2.there W.heap.size (j * 4) 4) := (by obtain ⟨cs, hr, hc, _⟩ := HF.out; exact hr.there (by omega)); have HW2 : Hid (Below W.heap.size W (w2.setCells W.heap.size (j * 4) [.string x.name_, .slice A1 n1 c1, .int .i64 x.mode_, .int .i64 x.at_])) := ((HW.out.trans (hb.mono HW.out.size)).trans (below_cells (Nat.le_refl _) _ _ _)); have HZ2 : Hid (W.heap.size < (w2.setCells W.heap.size (j * 4) [.string x.name_, .slice A1 n1 c1, .int .i64 x.mode_, .int .i64 x.at_]).heap.size) := (by obtain ⟨_, hr, _⟩ := HF2.out; exact hr.lt); have tk1 : True := trivial; clear h g1 hb e1 g1g hlt2 hzz q0 q1 q2 q3) | (clear tk1; refine wpList_store_mid rfl 50 (.tmp 21) (.tmp 20) rfl W.heap.size (j * 4) _ rfl rfl HT.out (by kernel_rfl) (by kernel_rfl) ?_; go_frame; clear HT; generalize w2.setCells W.heap.size (j * 4) [.string x.name_, .slice A1 n1 c1, .int .i64 x.mode_, .int .i64 x.at_] = w3 at HF2 HW2 HZ2 ⊢))
      go_roundw
      case rel => exact ⟨j + 1, by omega, by go_num, HW2, HZ2, HF2⟩
      case measure => simp [intOf]; omega
    · have HN : Hid (j = n) := by show _ = _; omega
      go_wp2_with fail
      go_ret
      have h := HJ.out
      rw [HN.out] at h
      exact ⟨rfl, Lib.hid ⟨h.all HR.out.1 HR.out.2.1, HW.out, h.det HR.out.1 HR.out.2.1⟩⟩
end Go.Proofs.YtlohjmlenbkbmaaDoor

namespace Go.Proofs.YtlohjmlenbkbmaaDoor
open Go Go.RowKit

/-- A slice of strings that begins at the head of a block below B, and reads as xs. -/
def SR (w : World) (B : Nat) (A : Option Addr) (n : Nat) (xs : List ByteArray) : Prop :=
  xs.length = n ∧ (0 < n → ∃ g, A = some ⟨g, 0, none⟩ ∧ g < B ∧ ∀ j x, xs[j]? = some x → w.cell? ⟨g, j, none⟩ = some (.string x))
theorem SR.at_ {w : World} {B n k : Nat} {A : Option Addr} {xs : List ByteArray} (h : SR w B A n xs) (hk : k < n) (hl : k < xs.length) : ∃ g, A = some ⟨g, 0, none⟩ ∧ g < B ∧ w.cell? ⟨g, k, none⟩ = some (.string xs[k]) := by
  obtain ⟨g, rfl, hg, hc⟩ := h.2 (by omega)
  exact ⟨g, rfl, hg, hc k _ (List.getElem?_eq_getElem hl)⟩
theorem SR.below {w w' : World} {B n : Nat} {A : Option Addr} {xs : List ByteArray} (h : SR w B A n xs) (hb : Below B w w') : SR w' B A n xs :=
  ⟨h.1, fun hn => by
    obtain ⟨g, e, hg, hc⟩ := h.2 hn
    exact ⟨g, e, hg, fun j x hx => (hb.cell (p := ⟨g, j, none⟩) hg).trans (hc j x hx)⟩⟩
theorem SR.more {w : World} {B B' n : Nat} {A : Option Addr} {xs : List ByteArray} (h : SR w B A n xs) (hB : B ≤ B') : SR w B' A n xs :=
  ⟨h.1, fun hn => by
    obtain ⟨g, e, hg, hc⟩ := h.2 hn
    exact ⟨g, e, by omega, hc⟩⟩

theorem i64_ret {a b : Nat} (h : a = b) : Ending.returned (.int .i64 (a : Int)) = .returned (.int .i64 (b : Int)) := by rw [h]
/-- Block g of strings is known: its cells, none frozen. -/
def SB (w : World) (g : Nat) (cs : Array Value) : Prop := w.heap[g]? = some (.cells cs 9 (0, 0))
theorem SB.lt {w : World} {g : Nat} {cs : Array Value} (h : SB w g cs) : g < w.heap.size := by
  rcases Nat.lt_or_ge g w.heap.size with hlt | hge
  · exact hlt
  · unfold SB at h; rw [Array.getElem?_eq_none hge] at h; cases h
theorem SB.cell {w : World} {g : Nat} {cs : Array Value} (h : SB w g cs) (i : Nat) : w.cell? ⟨g, i, none⟩ = cs[i]? := cell_of_row w g i cs _ (0, 0) h
theorem SB.frozen {w : World} {g : Nat} {cs : Array Value} (h : SB w g cs) (i : Nat) : w.frozen? ⟨g, i, none⟩ = false := by
  unfold SB at h
  simp [World.frozen?, h]
theorem SB.set_ {w : World} {g : Nat} {cs : Array Value} (h : SB w g cs) (i : Nat) (u : Value) : SB (w.setCell ⟨g, i, none⟩ u) g (cs.setIfInBounds i u) := by
  unfold SB at h ⊢
  simp [World.setCell, Array.getElem?_modify, h]
theorem SB.below {w w' : World} {g B : Nat} {cs : Array Value} (h : SB w g cs) (hb : Below B w w') (hg : g < B) : SB w' g cs := (hb.block g hg).trans h
end Go.Proofs.YtlohjmlenbkbmaaDoor

namespace Go.Proofs.YtlohjmlenbkbmaaDoor
open Go Go.RowKit

set_option maxHeartbeats 2000000 in
set_option maxRecDepth 100000 in
theorem markStringS_mut (A : Option Addr) (n c k0 : Nat) (W : World) (hw : StW W A n) (h0 : 0 < k0) (hk : k0 + n ≤ 16777000) :
    Calls Tryd.prog 43 #[.slice A n c, .int .i64 k0] W fun e w' => e = .returned (.int .i64 ((k0 + n : Nat) : Int)) ∧ Mut (Blk1 A n) W w' := by
  rcases Nat.eq_zero_or_pos n with hn | hn
  · subst hn
    go_enter Tryd.func43, Tryd.ntmps43
    go_wp2
    go_loopw [1, 5] (fun q i wr => i = .int .i64 0 ∧ q = .int .i64 (k0 : Int) ∧ wr = W) (fun _ _ _ => 0)
    case atStart => exact ⟨rfl, rfl, rfl⟩
    case round =>
      obtain ⟨rfl, rfl, rfl⟩ := hrel
      go_wp2_with fail
      go_ret
      exact ⟨by simp, Mut.refl _ _⟩
  obtain ⟨g, cs, rfl, hs, hcs⟩ := hw hn
  have HSG : Hid (Blk1 (some ⟨g, 0, none⟩) n g) := ⟨hn, rfl⟩
  have HM : Hid (∃ cs, RW 9 W g cs ∧ n ≤ cs.size) := ⟨cs, hs, hcs⟩
  clear hs hcs hw hn
  go_enter Tryd.func43, Tryd.ntmps43
  go_wp2
  go_loopw [1, 5] (fun q i wr => ∃ j : Nat, j ≤ n ∧ i = .int .i64 j ∧ q = .int .i64 ((k0 + j : Nat) : Int) ∧ Hid (Mut (Blk1 (some ⟨g, 0, none⟩) n) W wr) ∧ Hid (∃ cs, RW 9 wr g cs ∧ n ≤ cs.size)) (fun _ i _ => n - (intOf i).toNat)
  case atStart => exact ⟨0, Nat.zero_le _, rfl, by simp, Mut.refl _ _, HM⟩
  case round =>
    obtain ⟨j, hj, rfl, rfl, HW, HJ⟩ := hrel
    by_cases hlt : j < n
    · obtain ⟨cs, hs, hcs⟩ := HJ.out
      have HSB := Lib.hid hs
      have HCS := Lib.hid hcs
      have hcs2 : j < cs.size := by omega
      clear hs hcs
      have b0 : (0 : Int) ≤ (j : Int) := by omega
      have b1 : (j : Int) < (n : Int) := by omega
      obtain ⟨t, ht⟩ : ∃ t, k0 + j = t := ⟨_, rfl⟩
      have HT := Lib.hid ht
      rw [ht]
      have ht0 : 0 < t := by omega
      have ht1 : t < 16777200 := by omega
      clear ht
      go_wp2_with (go_at_call 74; refine (markText_any t _ ht0 (by omega)).mono ?_; rintro e w0 ⟨rfl, hb⟩; have HB0 := Lib.hid hb; have HS0 : Hid (RW 9 w0 g cs) := HSB.out.below hb HSB.out.lt; have y0 := (HS0.out.cell j).trans (Array.getElem?_eq_getElem hcs2); have x0 := HS0.out.frozen j; clear hb)
      go_roundw
      case rel =>
        refine ⟨j + 1, by omega, by go_num, ?_, ?_, ?_⟩
        · have := HT.out
          congr 1
          omega
        · exact Lib.hid ((HW.out.trans (Mut.of_below HB0.out)).trans (Mut.of_set HS0.out HSG.out _ _))
        · exact Lib.hid ⟨_, HS0.out.set_ _ _, by simpa using HCS.out⟩
      case measure => simp [intOf]; omega
    · have HN : Hid (j = n) := by show _ = _; omega
      go_wp2_with fail
      go_ret
      exact ⟨i64_ret (by rw [HN.out]), HW.out⟩
end Go.Proofs.YtlohjmlenbkbmaaDoor

namespace Go.Proofs.YtlohjmlenbkbmaaDoor
open Go Go.RowKit

/-- A row that can be marked: where its lists lie is written in it. -/
def FlM (w : World) (g n : Nat) (sh : Nat → FlLay) : Prop := (∃ cs, RW 50 w g cs ∧ n * 4 ≤ cs.size ∧ ∀ j, j < n → cs[j * 4 + 1]? = some (.slice (sh j).A1 (sh j).n1 (sh j).c1)) ∧ ∀ j, j < n → StW w (sh j).A1 (sh j).n1
/-- How many marks it takes. -/
def cntFl (sh : Nat → FlLay) : Nat → Nat
  | 0 => 0
  | j + 1 => cntFl sh j + (3 + (sh j).n1)
theorem cntFl_mono {sh : Nat → FlLay} {j : Nat} : ∀ {k : Nat}, j ≤ k → cntFl sh j ≤ cntFl sh k
  | 0, h => by obtain rfl : j = 0 := by omega
               exact Nat.le_refl _
  | k + 1, h => by
    by_cases e : j = k + 1
    · rw [e]; exact Nat.le_refl _
    · have := cntFl_mono (sh := sh) (show j ≤ k by omega)
      rw [cntFl]
      omega
theorem cntFl_ge (sh : Nat → FlLay) : ∀ n, n ≤ cntFl sh n
  | 0 => Nat.le_refl _
  | n + 1 => by have := cntFl_ge sh n; rw [cntFl]; omega
/-- Its blocks. -/
def SFl (g n : Nat) (sh : Nat → FlLay) (b : Nat) : Prop := b = g ∨ ∃ j, j < n ∧ (Blk1 (sh j).A1 (sh j).n1 b)
theorem str_ne_Fl : 9 ≠ 50 := by decide
/-- A row of strings turns. -/
theorem FlM.str {w w' : World} {g n m : Nat} {sh : Nat → FlLay} {A : Option Addr} (h : FlM w g n sh) (hs : StW w A m) (hm : Mut (Blk1 A m) w w') : FlM w' g n sh := by
  obtain ⟨⟨cs, hr, hc, hl⟩, ht⟩ := h
  refine ⟨⟨cs, hm.row hr fun hb => ?_, hc, hl⟩, fun j hj => ?_⟩
  · obtain ⟨b, cs', e, hr', _⟩ := hs hb.1
    rw [hb.2] at e
    simp only [Option.some.injEq, Addr.mk.injEq, and_true] at e
    subst e
    exact str_ne_Fl (RW.same hr' hr).1
  · have := ht j hj
    exact this.mut hm
theorem FlM.below {w w' : World} {g n : Nat} {sh : Nat → FlLay} (h : FlM w g n sh) (hb : Below w.heap.size w w') : FlM w' g n sh := by
  obtain ⟨⟨cs, hr, hc, hl⟩, ht⟩ := h
  refine ⟨⟨cs, hr.below hb hr.lt, hc, hl⟩, fun j hj => ?_⟩
  have := ht j hj
  have hm : Mut (fun _ => False) w w' := Mut.of_below hb
  exact this.mut hm
/-- A field that is no list is stored. -/
theorem FlM.set {w : World} {g n i q : Nat} {sh : Nat → FlLay} (h : FlM w g n sh) (hq : q < 4) (hl : q ≠ 1) (v : Value) : FlM (w.setCell ⟨g, i * 4 + q, none⟩ v) g n sh := by
  obtain ⟨⟨cs, hr, hc, hm⟩, ht⟩ := h
  refine ⟨⟨_, hr.set_ _ v, by simpa using hc, fun j hj => ?_⟩, fun j hj => ?_⟩
  · have k := hm j hj
    have e1 : i * 4 + q ≠ j * 4 + 1 := by omega
    skip
    · rw [Array.getElem?_setIfInBounds_ne e1]; exact k
  · have := ht j hj
    have hm : Mut (fun b => b = g) w (w.setCell ⟨g, i * 4 + q, none⟩ v) := Mut.of_set (S := fun b => b = g) hr rfl _ _
    exact this.mut hm
theorem FlM.row {w : World} {g n : Nat} {sh : Nat → FlLay} (h : FlM w g n sh) {j q : Nat} (hj : j < n) (hq : q < 4) : (∃ u, w.cell? ⟨g, j * 4 + q, none⟩ = some u) ∧ w.frozen? ⟨g, j * 4 + q, none⟩ = false := by
  obtain ⟨⟨cs, hr, hc, _⟩, _⟩ := h
  have hi : j * 4 + q < cs.size := by
    have : (j + 1) * 4 ≤ n * 4 := Nat.mul_le_mul_right _ hj
    omega
  exact ⟨⟨_, (hr.cell _).trans (Array.getElem?_eq_getElem hi)⟩, hr.frozen _⟩
theorem FlM.at1 {w : World} {g n : Nat} {sh : Nat → FlLay} (h : FlM w g n sh) {j : Nat} (hj : j < n) : w.cell? ⟨g, j * 4 + 1, none⟩ = some (.slice (sh j).A1 (sh j).n1 (sh j).c1) := by
  obtain ⟨⟨cs, hr, hc, hm⟩, _⟩ := h
  exact (hr.cell _).trans ((hm j hj))
theorem FlM.of_set_mut {w : World} {g n j q : Nat} {sh : Nat → FlLay} (h : FlM w g n sh) (v : Value) : Mut (SFl g n sh) w (w.setCell ⟨g, j * 4 + q, none⟩ v) := by
  obtain ⟨⟨cs, hr, _, _⟩, _⟩ := h
  exact Mut.of_set hr (.inl rfl) _ _
/-- A row of one's own has that shape. -/
theorem FlIO.toM {w : World} {B g n : Nat} {xs : List Fl} (h : FlIO w B (some ⟨g, 0, none⟩) n xs) (hn : 0 < n) : ∃ sh, FlM w g n sh ∧ (∀ b, SFl g n sh b → g ≤ b ∧ b < B) ∧ ∀ (j : Nat) (x : Fl), xs[j]? = some x → (sh j).n1 = x.lines_.length := by
  obtain ⟨g', cs, e, hg, hr, hc, hm⟩ := h.2.2 hn
  simp only [Option.some.injEq, Addr.mk.injEq, and_true] at e
  subst e
  have hex : ∀ j, ∃ l : FlLay, ∀ x, xs[j]? = some x → (∀ (q : Nat) (v : Value), (x.vs l)[q]? = some v → cs[j * 4 + q]? = some v) ∧ FlVO w B x l ∧ (∀ a, l.A1 = some a → g < a.block) := fun j => by
    rcases hx : xs[j]? with _ | x
    · exact ⟨⟨none, 0, 0, Nat.le_refl _⟩, fun x hx' => by cases hx'⟩
    · obtain ⟨l, h1, h2⟩ := hm j x hx
      exact ⟨l, fun y hy => by cases hy; exact ⟨h1, h2⟩⟩
  refine ⟨fun j => Classical.choose (hex j), ⟨⟨cs, hr, hc, fun j hj => ?_⟩, fun j hj => ?_⟩, fun b hb => ?_, fun j x hx => ?_⟩
  · obtain ⟨h1, h2, h3⟩ := Classical.choose_spec (hex j) (xs[j]'(by rw [h.1]; exact hj)) (List.getElem?_eq_getElem _)
    exact h1 1 _ rfl
  · obtain ⟨h1, h2, h3⟩ := Classical.choose_spec (hex j) (xs[j]'(by rw [h.1]; exact hj)) (List.getElem?_eq_getElem _)
    exact h2.1.2
  · rcases hb with rfl | ⟨j, hj, hb⟩
    · exact ⟨Nat.le_refl _, hg⟩
    · obtain ⟨h1, h2, h3⟩ := Classical.choose_spec (hex j) (xs[j]'(by rw [h.1]; exact hj)) (List.getElem?_eq_getElem _)
      skip
      · exact ⟨Nat.le_of_lt (h3 _ hb.2), h2.1.blk b hb⟩
  · obtain ⟨h1, h2, h3⟩ := Classical.choose_spec (hex j) x hx
    exact h2.1.1.1.symm

set_option maxHeartbeats 4000000 in
set_option maxRecDepth 100000 in
theorem markFileS_mut (g n c k0 : Nat) (sh : Nat → FlLay) (W : World) (hw : FlM W g n sh) (h0 : 0 < k0) (hk : k0 + cntFl sh n ≤ 16777000) :
    Calls Tryd.prog 44 #[.slice (some ⟨g, 0, none⟩) n c, .int .i64 k0] W fun e w' => e = .returned (.int .i64 ((k0 + cntFl sh n : Nat) : Int)) ∧ Mut (SFl g n sh) W w' ∧ FlM w' g n sh := by
  have HM := Lib.hid hw
  have hnn : n ≤ 16777000 := by have := cntFl_ge sh n; omega
  clear hw
  go_enter Tryd.func44, Tryd.ntmps44
  go_wp2
  go_loopw [1, 5] (fun q i wr => ∃ j : Nat, j ≤ n ∧ i = .int .i64 j ∧ q = .int .i64 ((k0 + cntFl sh j : Nat) : Int) ∧ Hid (Mut (SFl g n sh) W wr) ∧ Hid (FlM wr g n sh)) (fun _ i _ => n - (intOf i).toNat)
  case atStart => exact ⟨0, Nat.zero_le _, rfl, by simp [cntFl], Mut.refl _ _, HM⟩
  case round =>
    obtain ⟨j, hj, rfl, rfl, HW, HJ⟩ := hrel
    by_cases hlt : j < n
    · have HLT := Lib.hid hlt
      have hmono := cntFl_mono (sh := sh) (show j + 1 ≤ n by omega)
      have hnext : cntFl sh (j + 1) = cntFl sh j + (3 + (sh j).n1) := rfl
      obtain ⟨l, hl⟩ : ∃ l, sh j = l := ⟨_, rfl⟩
      have HLJ := Lib.hid hl
      rw [hl] at hnext
      obtain ⟨A1, n1, c1, h1⟩ := l
      dsimp only at hnext
      have b0 : (0 : Int) ≤ (j : Int) := by omega
      have b1 : (j : Int) < (n : Int) := by omega
      obtain ⟨t, ht⟩ : ∃ t, k0 + cntFl sh j = t := ⟨_, rfl⟩
      have HT := Lib.hid ht
      have HNX : Hid (k0 + cntFl sh (j + 1) = t + (3 + n1)) := by show _ = _; omega
      rw [ht]
      have ht0 : 0 < t := by omega
      have ht1 : t + (3 + n1) ≤ 16777000 := by omega
      clear ht hl hmono hnext
      have tk1 : True := trivial
      have tk2 : True := trivial
      go_wp2_with (first
        | (go_at_call 74; have tk := tk1; have hh := markText_any (t) (wr) (by omega) (by omega); try rw [show ((t : Nat) : Int) = (t : Int) by push_cast; rfl] at hh; refine hh.mono ?_; clear hh; rintro e w1 ⟨rfl, hb⟩; have HM1 := Lib.hid ((HJ.out).below hb); have HU1 := Lib.hid ((HW.out).trans (Mut.of_below hb)); obtain ⟨⟨u0, y0⟩, x0⟩ := (HM1.out).row (q := 0) HLT.out (by decide); rw [Nat.add_zero] at y0 x0; have y1 := (HM1.out).at1 HLT.out; rw [HLJ.out] at y1; clear hb tk tk1)
        | (go_at_call 43; have tk := tk2; have hst := (show StW _ A1 n1 from by have q := (((HM1.out).set (i := j) (q := 0) (by decide) (by decide) (.string (markT (t))))).2 j HLT.out; rw [HLJ.out] at q; exact q); have hh := markStringS_mut A1 n1 c1 (t + 1) ((w1.setCell ⟨g, j * 4, none⟩ (.string (markT (t))))) hst (by omega) (by omega); try rw [show ((t + 1 : Nat) : Int) = (t : Int) + 1 by push_cast; rfl] at hh; refine hh.mono ?_; clear hh; rintro e w2 ⟨rfl, hm⟩; have HM2 := Lib.hid ((((HM1.out).set (i := j) (q := 0) (by decide) (by decide) (.string (markT (t))))).str hst hm); have HU2 := Lib.hid ((((HU1.out).trans ((HM1.out).of_set_mut (j := j) (q := 0) (.string (markT (t)))))).trans (Mut.mono hm fun b hb => .inr ⟨j, HLT.out, by rw [HLJ.out]; exact hb⟩)); obtain ⟨⟨u2, y2⟩, x2⟩ := (HM2.out).row (q := 2) HLT.out (by decide); obtain ⟨⟨u3, y3⟩, x3⟩ := (HM2.out).row (q := 3) HLT.out (by decide); clear hst hm tk tk2))
      go_roundw
      case rel =>
        refine ⟨j + 1, by omega, by go_num, ?_, Lib.hid ((((HU2.out).trans ((HM2.out).of_set_mut (j := j) (q := 2) (.int .i64 (((t + 1 + n1 : Nat) : Int)))))).trans ((((HM2.out).set (i := j) (q := 2) (by decide) (by decide) (.int .i64 (((t + 1 + n1 : Nat) : Int))))).of_set_mut (j := j) (q := 3) (.int .i64 (((t + 1 + n1 : Nat) : Int) + 1)))), Lib.hid ((((HM2.out).set (i := j) (q := 2) (by decide) (by decide) (.int .i64 (((t + 1 + n1 : Nat) : Int))))).set (i := j) (q := 3) (by decide) (by decide) (.int .i64 (((t + 1 + n1 : Nat) : Int) + 1)))⟩
        rw [HNX.out]
        congr 1
        push_cast
        omega
      case measure => simp [intOf]; have := HLT.out; omega
    · have HN : Hid (j = n) := by show _ = _; omega
      go_wp2_with fail
      go_ret
      have hM := HJ.out
      exact ⟨i64_ret (by rw [HN.out]), HW.out, hM⟩
end Go.Proofs.YtlohjmlenbkbmaaDoor

namespace Go.Proofs.YtlohjmlenbkbmaaDoor
open Go Go.RowKit

/-- The marks k0, k0 + 1 .. as texts. -/
def marksO (k0 n : Nat) : List ByteArray := (List.range n).map fun i => markT (k0 + i)
theorem marksO_length (k0 n : Nat) : (marksO k0 n).length = n := by simp [marksO]

theorem held_keepO {wr wx w1 : World} {g j : Nat} {v : Value} (hg : g < wr.heap.size) (h : wx.cell? ⟨g, j, none⟩ = some v ∧ Below wr.heap.size wr wx) (hb : Below wx.heap.size wx w1) :
    w1.cell? ⟨g, j, none⟩ = some v ∧ Below wr.heap.size wr w1 :=
  ⟨(hb.cell (p := ⟨g, j, none⟩) (Nat.lt_of_lt_of_le hg h.2.size)).trans h.1, h.2.trans (hb.mono h.2.size)⟩

set_option maxHeartbeats 2000000 in
set_option maxRecDepth 100000 in
theorem heldStringS_own (A : Option Addr) (n c k0 : Nat) (W : World) (ha : SR W W.heap.size A n (marksO k0 n)) (h0 : 0 < k0) (hk : k0 + n ≤ 16777216) :
    Calls Tryd.prog 45 #[.slice A n c, .int .i64 k0] W fun e w' => e = .returned (.int .i64 ((k0 + n : Nat) : Int)) ∧ Below W.heap.size W w' := by
  have HA := Lib.hid ha
  clear ha
  go_enter Tryd.func45, Tryd.ntmps45
  go_wp2
  go_loopw [1, 5] (fun q i wr => ∃ j : Nat, j ≤ n ∧ i = .int .i64 j ∧ q = .int .i64 ((k0 + j : Nat) : Int) ∧ Hid (Below W.heap.size W wr)) (fun _ i _ => n - (intOf i).toNat)
  case atStart => exact ⟨0, Nat.zero_le _, rfl, rfl, Below.refl _ _⟩
  case round =>
    obtain ⟨j, hj, rfl, rfl, HW⟩ := hrel
    by_cases hlt : j < n
    · obtain ⟨g, rfl, hg, hc⟩ := HA.out.at_ hlt (by rw [marksO_length]; exact hlt)
      have q1 := (HW.out.cell (p := ⟨g, j, none⟩) hg).trans hc
      have hx : (marksO k0 n)[j]'(by rw [marksO_length]; exact hlt) = markT (k0 + j) := by simp [marksO]
      rw [hx] at q1
      clear hc hx
      have HG : Hid (g < wr.heap.size) := Nat.lt_of_lt_of_le hg HW.out.size
      have b0 : (0 : Int) ≤ (j : Int) := by omega
      have b1 : (j : Int) < (n : Int) := by omega
      obtain ⟨t, ht⟩ : ∃ t, k0 + j = t := ⟨_, rfl⟩
      have HT := Lib.hid ht
      rw [ht] at q1 ⊢
      have ht0 : 0 < t := by omega
      have ht1 : t < 16777216 := by omega
      clear ht
      generalize hm : markT t = x at q1
      have HX := Lib.hid hm
      clear hm hg
      go_wp2_with fail
      go_region_held3 (fun w' => w'.cell? ⟨g, j, none⟩ = some (.string x) ∧ Below wr.heap.size wr w') (first | (exact ⟨q1, (Below.refl _ _).drew⟩) | (go_split_ands; exact held_keepO HG.out ⟨by assumption, by assumption⟩ hb) | go_keep)
        ((go_at_call 74; refine (markText_any t _ ht0 (by omega)).mono ?_; rintro e w1 ⟨rfl, hb⟩; rw [HX.out]))
      go_wp2_with fail
      go_split_ands
      go_roundw
      case rel => exact ⟨j + 1, by omega, by go_num, by rw [← HT.out]; go_num, HW.out.trans (Below.mono (by assumption) HW.out.size)⟩
      case measure => simp [intOf]; omega
    · have HN : Hid (j = n) := by show _ = _; omega
      go_wp2_with fail
      go_ret
      exact ⟨i64_ret (by rw [HN.out]), HW.out⟩

/-- A row of strings that holds the marks k0, k0 + 1 .. -/
def StH (w : World) (A : Option Addr) (n k0 : Nat) : Prop := 0 < n → ∃ b cs, A = some ⟨b, 0, none⟩ ∧ RW 9 w b cs ∧ n ≤ cs.size ∧ ∀ i, i < n → cs[i]? = some (.string (markT (k0 + i)))
theorem StH.keep {w w' : World} {A : Option Addr} {n k0 : Nat} (h : StH w A n k0) (hk : ∀ b, Blk1 A n b → w'.heap[b]? = w.heap[b]?) : StH w' A n k0 := fun hn => by
  obtain ⟨b, cs, e, hr, hc, hm⟩ := h hn
  exact ⟨b, cs, e, (hk b ⟨hn, e⟩).trans hr, hc, hm⟩
theorem StH.toW {w : World} {A : Option Addr} {n k0 : Nat} (h : StH w A n k0) : StW w A n := fun hn => by
  obtain ⟨b, cs, e, hr, hc, _⟩ := h hn
  exact ⟨b, cs, e, hr, hc⟩
theorem StW.blk_lt {w : World} {A : Option Addr} {n : Nat} (h : StW w A n) : ∀ b, Blk1 A n b → b < w.heap.size := fun b hb => by
  obtain ⟨b', cs, e, hr, hc⟩ := h hb.1
  rw [hb.2] at e
  simp only [Option.some.injEq, Addr.mk.injEq, and_true] at e
  subst e
  exact hr.lt
theorem StH.below {w w' : World} {A : Option Addr} {n k0 : Nat} (h : StH w A n k0) (hb : Below w.heap.size w w') : StH w' A n k0 := h.keep fun b hbl => hb.block b (h.toW.blk_lt b hbl)
theorem StH.mut {w w' : World} {A : Option Addr} {n k0 : Nat} {S : Nat → Prop} (h : StH w A n k0) (hm : Mut S w w') (hd : ∀ b, Blk1 A n b → ¬ S b) : StH w' A n k0 := h.keep fun b hbl => hm.2.2.2.2.1 b (h.toW.blk_lt b hbl) (hd b hbl)
theorem StH.toSR {w : World} {A : Option Addr} {n k0 : Nat} (h : StH w A n k0) : SR w w.heap.size A n (marksO k0 n) := ⟨marksO_length _ _, fun hn => by
  obtain ⟨b, cs, e, hr, hc, hm⟩ := h hn
  refine ⟨b, e, hr.lt, fun i x hx => ?_⟩
  have hi : i < n := by
    have := (List.getElem?_eq_some_iff.1 hx).1
    rwa [marksO_length] at this
  rw [hr.cell i, hm i hi]
  simp only [marksO, List.getElem?_map, List.getElem?_range hi, Option.map_some, Option.some.injEq] at hx
  rw [hx]⟩
theorem held_of_StH (A : Option Addr) (n c k0 : Nat) (W : World) (h : StH W A n k0) (h0 : 0 < k0) (hk : k0 + n ≤ 16777216) :
    Calls Tryd.prog 45 #[.slice A n c, .int .i64 k0] W fun e w' => e = .returned (.int .i64 ((k0 + n : Nat) : Int)) ∧ Below W.heap.size W w' := heldStringS_own A n c k0 W h.toSR h0 hk

set_option maxHeartbeats 2000000 in
set_option maxRecDepth 100000 in
theorem markStringS_str (A : Option Addr) (n c k0 : Nat) (W : World) (hw : StW W A n) (h0 : 0 < k0) (hk : k0 + n ≤ 16777000) :
    Calls Tryd.prog 43 #[.slice A n c, .int .i64 k0] W fun e w' => e = .returned (.int .i64 ((k0 + n : Nat) : Int)) ∧ Mut (Blk1 A n) W w' ∧ StH w' A n k0 := by
  rcases Nat.eq_zero_or_pos n with hn | hn
  · subst hn
    go_enter Tryd.func43, Tryd.ntmps43
    go_wp2
    go_loopw [1, 5] (fun q i wr => i = .int .i64 0 ∧ q = .int .i64 (k0 : Int) ∧ wr = W) (fun _ _ _ => 0)
    case atStart => exact ⟨rfl, rfl, rfl⟩
    case round =>
      obtain ⟨rfl, rfl, rfl⟩ := hrel
      go_wp2_with fail
      go_ret
      exact ⟨by simp, Mut.refl _ _, fun h => absurd h (by omega)⟩
  obtain ⟨g, cs, rfl, hs, hcs⟩ := hw hn
  have HSG : Hid (Blk1 (some ⟨g, 0, none⟩) n g) := ⟨hn, rfl⟩
  have HM : Hid (∃ cs, RW 9 W g cs ∧ n ≤ cs.size ∧ ∀ i, i < 0 → cs[i]? = some (.string (markT (k0 + i)))) := ⟨cs, hs, hcs, fun i hi => absurd hi (by omega)⟩
  clear hs hcs hw hn
  go_enter Tryd.func43, Tryd.ntmps43
  go_wp2
  go_loopw [1, 5] (fun q i wr => ∃ j : Nat, j ≤ n ∧ i = .int .i64 j ∧ q = .int .i64 ((k0 + j : Nat) : Int) ∧ Hid (Mut (Blk1 (some ⟨g, 0, none⟩) n) W wr) ∧ Hid (∃ cs, RW 9 wr g cs ∧ n ≤ cs.size ∧ ∀ i, i < j → cs[i]? = some (.string (markT (k0 + i))))) (fun _ i _ => n - (intOf i).toNat)
  case atStart => exact ⟨0, Nat.zero_le _, rfl, by simp, Mut.refl _ _, HM⟩
  case round =>
    obtain ⟨j, hj, rfl, rfl, HW, HJ⟩ := hrel
    by_cases hlt : j < n
    · obtain ⟨cs, hs, hcs, hmm⟩ := HJ.out
      have HMM := Lib.hid hmm
      have HSB := Lib.hid hs
      have HCS := Lib.hid hcs
      have hcs2 : j < cs.size := by omega
      clear hs hcs hmm
      have HC2 := Lib.hid hcs2
      have b0 : (0 : Int) ≤ (j : Int) := by omega
      have b1 : (j : Int) < (n : Int) := by omega
      obtain ⟨t, ht⟩ : ∃ t, k0 + j = t := ⟨_, rfl⟩
      have HT := Lib.hid ht
      rw [ht]
      have ht0 : 0 < t := by omega
      have ht1 : t < 16777200 := by omega
      clear ht
      go_wp2_with (go_at_call 74; refine (markText_any t _ ht0 (by omega)).mono ?_; rintro e w0 ⟨rfl, hb⟩; have HB0 := Lib.hid hb; have HS0 : Hid (RW 9 w0 g cs) := HSB.out.below hb HSB.out.lt; have y0 := (HS0.out.cell j).trans (Array.getElem?_eq_getElem hcs2); have x0 := HS0.out.frozen j; clear hb)
      go_roundw
      case rel =>
        refine ⟨j + 1, by omega, by go_num, ?_, ?_, ?_⟩
        · have := HT.out
          congr 1
          omega
        · exact Lib.hid ((HW.out.trans (Mut.of_below HB0.out)).trans (Mut.of_set HS0.out HSG.out _ _))
        · refine Lib.hid ⟨_, HS0.out.set_ _ _, by simpa using HCS.out, fun i hi => ?_⟩
          by_cases e : i = j
          · subst e
            rw [Array.getElem?_setIfInBounds_self_of_lt HC2.out, HT.out]
          · rw [Array.getElem?_setIfInBounds_ne (fun h => e h.symm)]
            exact HMM.out i (by omega)
      case measure => simp [intOf]; omega
    · have HN : Hid (j = n) := by show _ = _; omega
      go_wp2_with fail
      go_ret
      refine ⟨i64_ret (by rw [HN.out]), HW.out, fun _ => ?_⟩
      obtain ⟨cs, hs, hcs, hmm⟩ := HJ.out
      exact ⟨g, cs, rfl, hs, hcs, fun i hi => hmm i (by have := HN.out; omega)⟩
end Go.Proofs.YtlohjmlenbkbmaaDoor

namespace Go.Proofs.YtlohjmlenbkbmaaDoor
open Go Go.RowKit

/-- The first j files hold their marks. -/
def FlHd (w : World) (g : Nat) (sh : Nat → FlLay) (k0 j : Nat) : Prop :=
  (∃ cs, RW 50 w g cs ∧ ∀ i, i < j → cs[i * 4]? = some (.string (markT (k0 + cntFl sh i))) ∧ cs[i * 4 + 1]? = some (.slice (sh i).A1 (sh i).n1 (sh i).c1) ∧ cs[i * 4 + 2]? = some (.int .i64 ((k0 + cntFl sh i + 1 + (sh i).n1 : Nat) : Int)) ∧ cs[i * 4 + 3]? = some (.int .i64 (((k0 + cntFl sh i + 1 + (sh i).n1 : Nat) : Int) + 1))) ∧
  ∀ i, i < j → StH w (sh i).A1 (sh i).n1 (k0 + cntFl sh i + 1)
/-- The lists of its files lie apart. -/
def FlD (n : Nat) (sh : Nat → FlLay) : Prop := ∀ i j, i < n → j < n → i ≠ j → ∀ b, Blk1 (sh i).A1 (sh i).n1 b → ¬ Blk1 (sh j).A1 (sh j).n1 b
theorem FlHd.zero {w : World} {g n k0 : Nat} {sh : Nat → FlLay} (h : FlM w g n sh) : FlHd w g sh k0 0 := by
  obtain ⟨⟨cs, hr, _, _⟩, _⟩ := h
  exact ⟨⟨cs, hr, fun i hi => absurd hi (by omega)⟩, fun i hi => absurd hi (by omega)⟩
theorem FlHd.row {w : World} {g k0 j : Nat} {sh : Nat → FlLay} (h : FlHd w g sh k0 j) : ∃ cs, RW 50 w g cs := by
  obtain ⟨⟨cs, hr, _⟩, _⟩ := h
  exact ⟨cs, hr⟩
theorem FlHd.keep {w w' : World} {g k0 j : Nat} {sh : Nat → FlLay} (h : FlHd w g sh k0 j) (hg : w'.heap[g]? = w.heap[g]?) (hk : ∀ i, i < j → ∀ b, Blk1 (sh i).A1 (sh i).n1 b → w'.heap[b]? = w.heap[b]?) : FlHd w' g sh k0 j := by
  obtain ⟨⟨cs, hr, hm⟩, hs⟩ := h
  exact ⟨⟨cs, hg.trans hr, hm⟩, fun i hi => (hs i hi).keep (hk i hi)⟩
theorem FlHd.below {w w' : World} {g k0 j : Nat} {sh : Nat → FlLay} (h : FlHd w g sh k0 j) (hb : Below w.heap.size w w') : FlHd w' g sh k0 j := by
  obtain ⟨cs, hr⟩ := h.row
  exact h.keep (hb.block g hr.lt) fun i hi b hbl => hb.block b ((h.2 i hi).toW.blk_lt b hbl)
theorem blk_ne {w : World} {g n b : Nat} {A : Option Addr} {cs : Array Value} (h : StW w A n) (hr : RW 50 w g cs) (hb : Blk1 A n b) : b ≠ g := by
  obtain ⟨b', cs', e, hr', _⟩ := h hb.1
  rw [hb.2] at e
  simp only [Option.some.injEq, Addr.mk.injEq, and_true] at e
  subst e
  intro e
  subst e
  exact str_ne_Fl (RW.same hr' hr).1
theorem FlHd.str {w w' : World} {g k0 j m : Nat} {sh : Nat → FlLay} {A : Option Addr} (h : FlHd w g sh k0 j) (hs : StW w A m) (hm : Mut (Blk1 A m) w w') (hd : ∀ i, i < j → ∀ b, Blk1 (sh i).A1 (sh i).n1 b → ¬ Blk1 A m b) : FlHd w' g sh k0 j := by
  obtain ⟨cs, hr⟩ := h.row
  exact h.keep (hm.2.2.2.2.1 g hr.lt fun hb => blk_ne hs hr hb rfl) fun i hi b hbl => hm.2.2.2.2.1 b ((h.2 i hi).toW.blk_lt b hbl) (hd i hi b hbl)
theorem FlHd.set {w : World} {g k0 j p : Nat} {sh : Nat → FlLay} (h : FlHd w g sh k0 j) (hp : j * 4 ≤ p) (v : Value) : FlHd (w.setCell ⟨g, p, none⟩ v) g sh k0 j := by
  obtain ⟨⟨cs, hr, hm⟩, hs⟩ := h
  have hmu : Mut (fun b => b = g) w (w.setCell ⟨g, p, none⟩ v) := Mut.of_set (S := fun b => b = g) hr rfl _ _
  refine ⟨⟨_, hr.set_ _ v, fun i hi => ?_⟩, fun i hi => (hs i hi).mut hmu fun b hb => blk_ne (hs i hi).toW hr hb⟩
  have h4 : i * 4 + 4 ≤ p := by
    have : (i + 1) * 4 ≤ j * 4 := Nat.mul_le_mul_right _ hi
    omega
  obtain ⟨m0, m1, m2, m3⟩ := hm i hi
  refine ⟨?_, ?_, ?_, ?_⟩ <;> rw [Array.getElem?_setIfInBounds_ne (by omega)] <;> assumption
theorem FlHd.step {w : World} {g n k0 j t : Nat} {sh : Nat → FlLay} {A1 : Option Addr} {n1 c1 : Nat} {h1 : n1 ≤ c1} (h : FlHd w g sh k0 j) (hM : FlM w g n sh) (hj : j < n) (hl : sh j = ⟨A1, n1, c1, h1⟩) (ht : k0 + cntFl sh j = t)
    (hn : w.cell? ⟨g, j * 4, none⟩ = some (.string (markT t))) (hs : StH w A1 n1 (t + 1)) :
    FlHd ((w.setCell ⟨g, j * 4 + 2, none⟩ (.int .i64 ((t + 1 + n1 : Nat) : Int))).setCell ⟨g, j * 4 + 3, none⟩ (.int .i64 (((t + 1 + n1 : Nat) : Int) + 1))) g sh k0 (j + 1) := by
  have hA := (h.set (p := j * 4 + 2) (by omega) (.int .i64 ((t + 1 + n1 : Nat) : Int))).set (p := j * 4 + 3) (by omega) (.int .i64 (((t + 1 + n1 : Nat) : Int) + 1))
  obtain ⟨⟨cs, hr, hc, hm⟩, _⟩ := hM
  have hsz : j * 4 + 4 ≤ cs.size := by
    have : (j + 1) * 4 ≤ n * 4 := Nat.mul_le_mul_right _ hj
    omega
  have hr2 : RW 50 ((w.setCell ⟨g, j * 4 + 2, none⟩ (.int .i64 ((t + 1 + n1 : Nat) : Int))).setCell ⟨g, j * 4 + 3, none⟩ (.int .i64 (((t + 1 + n1 : Nat) : Int) + 1))) g _ := (hr.set_ _ _).set_ _ _
  obtain ⟨⟨cs', hr', hm'⟩, hs'⟩ := hA
  have e := (RW.same hr' hr2).2
  subst e
  have hmu1 : Mut (fun b => b = g) w (w.setCell ⟨g, j * 4 + 2, none⟩ (.int .i64 ((t + 1 + n1 : Nat) : Int))) := Mut.of_set (S := fun b => b = g) hr rfl _ _
  have hmu2 : Mut (fun b => b = g) (w.setCell ⟨g, j * 4 + 2, none⟩ (.int .i64 ((t + 1 + n1 : Nat) : Int))) ((w.setCell ⟨g, j * 4 + 2, none⟩ (.int .i64 ((t + 1 + n1 : Nat) : Int))).setCell ⟨g, j * 4 + 3, none⟩ (.int .i64 (((t + 1 + n1 : Nat) : Int) + 1))) := Mut.of_set (S := fun b => b = g) (hr.set_ _ _) rfl _ _
  refine ⟨⟨_, hr', fun i hi => ?_⟩, fun i hi => ?_⟩
  · rcases Nat.lt_or_ge i j with hlt | hge
    · exact hm' i hlt
    · obtain rfl : i = j := by omega
      rw [hl, ht]
      dsimp only
      have k0 := hm i hj
      rw [hl] at k0
      dsimp only at k0
      have n0 := (hr.cell _).symm.trans hn
      refine ⟨?_, ?_, ?_, ?_⟩
      · rw [Array.getElem?_setIfInBounds_ne (by omega), Array.getElem?_setIfInBounds_ne (by omega)]; exact n0
      · rw [Array.getElem?_setIfInBounds_ne (by omega), Array.getElem?_setIfInBounds_ne (by omega)]; exact k0
      · rw [Array.getElem?_setIfInBounds_ne (by omega), Array.getElem?_setIfInBounds_self_of_lt (by omega)]
      · rw [Array.getElem?_setIfInBounds_self_of_lt (by rw [Array.size_setIfInBounds]; omega)]
  · rcases Nat.lt_or_ge i j with hlt | hge
    · exact hs' i hlt
    · obtain rfl : i = j := by omega
      rw [hl, ht]
      exact (hs.mut hmu1 fun b hb => blk_ne hs.toW hr hb).mut hmu2 fun b hb => blk_ne hs.toW hr hb

theorem named_keep {w w' : World} {g n j m : Nat} {sh : Nat → FlLay} {A : Option Addr} (h : FlM w g n sh) (hj : j < n) (v : Value) (hs : StW (w.setCell ⟨g, j * 4, none⟩ v) A m) (hm : Mut (Blk1 A m) (w.setCell ⟨g, j * 4, none⟩ v) w') : w'.cell? ⟨g, j * 4, none⟩ = some v := by
  obtain ⟨⟨cs, hr, hc, _⟩, _⟩ := h
  have hr2 := hr.set_ (j * 4) v
  have hr3 : RW 50 w' g _ := (hm.2.2.2.2.1 g hr2.lt fun hb => blk_ne hs hr2 hb rfl).trans hr2
  rw [hr3.cell]
  exact Array.getElem?_setIfInBounds_self_of_lt (by
    have : (j + 1) * 4 ≤ n * 4 := Nat.mul_le_mul_right _ hj
    omega)

set_option maxHeartbeats 4000000 in
set_option maxRecDepth 100000 in
theorem markFileS_str (g n c k0 : Nat) (sh : Nat → FlLay) (W : World) (hw : FlM W g n sh) (hd : FlD n sh) (h0 : 0 < k0) (hk : k0 + cntFl sh n ≤ 16777000) :
    Calls Tryd.prog 44 #[.slice (some ⟨g, 0, none⟩) n c, .int .i64 k0] W fun e w' => e = .returned (.int .i64 ((k0 + cntFl sh n : Nat) : Int)) ∧ Mut (SFl g n sh) W w' ∧ FlM w' g n sh ∧ FlHd w' g sh k0 n := by
  have HM := Lib.hid hw
  have HD := Lib.hid hd
  have hnn : n ≤ 16777000 := by have := cntFl_ge sh n; omega
  clear hw hd
  go_enter Tryd.func44, Tryd.ntmps44
  go_wp2
  go_loopw [1, 5] (fun q i wr => ∃ j : Nat, j ≤ n ∧ i = .int .i64 j ∧ q = .int .i64 ((k0 + cntFl sh j : Nat) : Int) ∧ Hid (Mut (SFl g n sh) W wr) ∧ Hid (FlM wr g n sh) ∧ Hid (FlHd wr g sh k0 j)) (fun _ i _ => n - (intOf i).toNat)
  case atStart => exact ⟨0, Nat.zero_le _, rfl, by simp [cntFl], Mut.refl _ _, HM, Lib.hid (FlHd.zero HM.out)⟩
  case round =>
    obtain ⟨j, hj, rfl, rfl, HW, HJ, HHD⟩ := hrel
    by_cases hlt : j < n
    · have HLT := Lib.hid hlt
      have hmono := cntFl_mono (sh := sh) (show j + 1 ≤ n by omega)
      have hnext : cntFl sh (j + 1) = cntFl sh j + (3 + (sh j).n1) := rfl
      obtain ⟨l, hl⟩ : ∃ l, sh j = l := ⟨_, rfl⟩
      have HLJ := Lib.hid hl
      rw [hl] at hnext
      obtain ⟨A1, n1, c1, h1⟩ := l
      dsimp only at hnext
      have b0 : (0 : Int) ≤ (j : Int) := by omega
      have b1 : (j : Int) < (n : Int) := by omega
      obtain ⟨t, ht⟩ : ∃ t, k0 + cntFl sh j = t := ⟨_, rfl⟩
      have HT := Lib.hid ht
      have HNX : Hid (k0 + cntFl sh (j + 1) = t + (3 + n1)) := by show _ = _; omega
      rw [ht]
      have ht0 : 0 < t := by omega
      have ht1 : t + (3 + n1) ≤ 16777000 := by omega
      clear ht hl hmono hnext
      have tk1 : True := trivial
      have tk2 : True := trivial
      go_wp2_with (first
        | (go_at_call 74; have tk := tk1; have hh := markText_any (t) (wr) (by omega) (by omega); try rw [show ((t : Nat) : Int) = (t : Int) by push_cast; rfl] at hh; refine hh.mono ?_; clear hh; rintro e w1 ⟨rfl, hb⟩; have HM1 := Lib.hid ((HJ.out).below hb); have HU1 := Lib.hid ((HW.out).trans (Mut.of_below hb)); have HH1 := Lib.hid (HHD.out.below hb); obtain ⟨⟨u0, y0⟩, x0⟩ := (HM1.out).row (q := 0) HLT.out (by decide); rw [Nat.add_zero] at y0 x0; have y1 := (HM1.out).at1 HLT.out; rw [HLJ.out] at y1; clear hb tk tk1)
        | (go_at_call 43; have tk := tk2; have hst := (show StW _ A1 n1 from by have q := (((HM1.out).set (i := j) (q := 0) (by decide) (by decide) (.string (markT (t))))).2 j HLT.out; rw [HLJ.out] at q; exact q); have hh := markStringS_str A1 n1 c1 (t + 1) ((w1.setCell ⟨g, j * 4, none⟩ (.string (markT (t))))) hst (by omega) (by omega); try rw [show ((t + 1 : Nat) : Int) = (t : Int) + 1 by push_cast; rfl] at hh; refine hh.mono ?_; clear hh; rintro e w2 ⟨rfl, hm, hsh⟩; have HSH2 := Lib.hid hsh; have HH2 := Lib.hid ((HH1.out.set (p := j * 4) (Nat.le_refl _) (.string (markT (t)))).str hst hm (fun i hi b hb => by have hq := HD.out i j (by have := HLT.out; omega) HLT.out (by omega) b hb; rw [HLJ.out] at hq; exact hq)); have HNM2 : Hid (w2.cell? ⟨g, j * 4, none⟩ = some (.string (markT (t)))) := (named_keep HM1.out HLT.out _ hst hm); have HM2 := Lib.hid ((((HM1.out).set (i := j) (q := 0) (by decide) (by decide) (.string (markT (t))))).str hst hm); have HU2 := Lib.hid ((((HU1.out).trans ((HM1.out).of_set_mut (j := j) (q := 0) (.string (markT (t)))))).trans (Mut.mono hm fun b hb => .inr ⟨j, HLT.out, by rw [HLJ.out]; exact hb⟩)); obtain ⟨⟨u2, y2⟩, x2⟩ := (HM2.out).row (q := 2) HLT.out (by decide); obtain ⟨⟨u3, y3⟩, x3⟩ := (HM2.out).row (q := 3) HLT.out (by decide); clear hst hm hsh tk tk2))
      go_roundw
      case rel =>
        refine ⟨j + 1, by omega, by go_num, ?_, Lib.hid ((((HU2.out).trans ((HM2.out).of_set_mut (j := j) (q := 2) (.int .i64 (((t + 1 + n1 : Nat) : Int)))))).trans ((((HM2.out).set (i := j) (q := 2) (by decide) (by decide) (.int .i64 (((t + 1 + n1 : Nat) : Int))))).of_set_mut (j := j) (q := 3) (.int .i64 (((t + 1 + n1 : Nat) : Int) + 1)))), Lib.hid ((((HM2.out).set (i := j) (q := 2) (by decide) (by decide) (.int .i64 (((t + 1 + n1 : Nat) : Int))))).set (i := j) (q := 3) (by decide) (by decide) (.int .i64 (((t + 1 + n1 : Nat) : Int) + 1))), Lib.hid (FlHd.step HH2.out HM2.out HLT.out HLJ.out HT.out HNM2.out HSH2.out)⟩
        rw [HNX.out]
        congr 1
        push_cast
        omega
      case measure => simp [intOf]; have := HLT.out; omega
    · have HN : Hid (j = n) := by show _ = _; omega
      go_wp2_with fail
      go_ret
      have hM := HJ.out
      have hH := HHD.out
      rw [HN.out] at hH
      exact ⟨i64_ret (by rw [HN.out]), HW.out, hM, hH⟩

theorem FlHd.at_ {w : World} {g k0 n j : Nat} {sh : Nat → FlLay} {A1 : Option Addr} {n1 c1 t : Nat} {h1 : n1 ≤ c1} (h : FlHd w g sh k0 n) (hj : j < n) (hl : sh j = ⟨A1, n1, c1, h1⟩) (ht : k0 + cntFl sh j = t) :
    (w.cell? ⟨g, j * 4, none⟩ = some (.string (markT t)) ∧ w.cell? ⟨g, j * 4 + 1, none⟩ = some (.slice A1 n1 c1) ∧ w.cell? ⟨g, j * 4 + 2, none⟩ = some (.int .i64 ((t + 1 + n1 : Nat) : Int)) ∧ w.cell? ⟨g, j * 4 + 3, none⟩ = some (.int .i64 (((t + 1 + n1 : Nat) : Int) + 1))) ∧ StH w A1 n1 (t + 1) ∧ g < w.heap.size := by
  obtain ⟨⟨cs, hr, hm⟩, hs⟩ := h
  have k := hm j hj
  have s := hs j hj
  rw [hl, ht] at k s
  exact ⟨⟨(hr.cell _).trans k.1, (hr.cell _).trans k.2.1, (hr.cell _).trans k.2.2.1, (hr.cell _).trans k.2.2.2⟩, s, hr.lt⟩

set_option maxHeartbeats 4000000 in
set_option maxRecDepth 100000 in
theorem heldFileS_own (g n c k0 : Nat) (sh : Nat → FlLay) (W : World) (hw : FlHd W g sh k0 n) (h0 : 0 < k0) (hk : k0 + cntFl sh n ≤ 16777000) :
    Calls Tryd.prog 46 #[.slice (some ⟨g, 0, none⟩) n c, .int .i64 k0] W fun e w' => e = .returned (.int .i64 ((k0 + cntFl sh n : Nat) : Int)) ∧ Below W.heap.size W w' := by
  have HM := Lib.hid hw
  have hnn : n ≤ 16777000 := by have := cntFl_ge sh n; omega
  clear hw
  go_enter Tryd.func46, Tryd.ntmps46
  go_wp2
  go_loopw [1, 5] (fun q i wr => ∃ j : Nat, j ≤ n ∧ i = .int .i64 j ∧ q = .int .i64 ((k0 + cntFl sh j : Nat) : Int) ∧ Hid (Below W.heap.size W wr)) (fun _ i _ => n - (intOf i).toNat)
  case atStart => exact ⟨0, Nat.zero_le _, rfl, by simp [cntFl], Below.refl _ _⟩
  case round =>
    obtain ⟨j, hj, rfl, rfl, HW⟩ := hrel
    by_cases hlt : j < n
    · have HLT := Lib.hid hlt
      have hmono := cntFl_mono (sh := sh) (show j + 1 ≤ n by omega)
      have hnext : cntFl sh (j + 1) = cntFl sh j + (3 + (sh j).n1) := rfl
      obtain ⟨l, hl⟩ : ∃ l, sh j = l := ⟨_, rfl⟩
      rw [hl] at hnext
      obtain ⟨A1, n1, c1, h1⟩ := l
      dsimp only at hnext
      have b0 : (0 : Int) ≤ (j : Int) := by omega
      have b1 : (j : Int) < (n : Int) := by omega
      obtain ⟨t, ht⟩ : ∃ t, k0 + cntFl sh j = t := ⟨_, rfl⟩
      have HT := Lib.hid ht
      have HNX : Hid (k0 + cntFl sh (j + 1) = t + (3 + n1)) := by show _ = _; omega
      have hat := (HM.out.below HW.out).at_ hlt hl ht
      rw [ht]
      have ht0 : 0 < t := by omega
      have ht1 : t + (3 + n1) ≤ 16777000 := by omega
      obtain ⟨⟨p0, p1, p2, p3⟩, hst, hgl⟩ := hat
      have HST := Lib.hid hst
      have HGL := Lib.hid hgl
      have HMT : Hid (∀ w, Calls Tryd.prog 74 #[.int .i64 ((t : Int))] w fun e w' => e = .returned (.string (markT t)) ∧ Below w.heap.size w w') := fun w => markText_any t w (by omega) (by omega)
      generalize markT t = x0 at p0 HMT
      have HQ : Hid (∀ w, StH w A1 n1 (t + 1) → Calls Tryd.prog 45 #[.slice A1 n1 c1, .int .i64 ((t : Int) + 1)] w fun e w' => e = .returned (.int .i64 ((t + 1 + n1 : Nat) : Int)) ∧ Below w.heap.size w w') := fun w h => by
        have := held_of_StH A1 n1 c1 (t + 1) w h (by omega) (by omega)
        rw [show ((t + 1 : Nat) : Int) = (t : Int) + 1 by omega] at this
        exact this
      have HU : Hid (((t + 1 + n1 : Nat) : Int) + 1 + 1 = ((t + (3 + n1) : Nat) : Int)) := by show _ = _; omega
      obtain ⟨u, hu⟩ : ∃ u, t + 1 + n1 = u := ⟨_, rfl⟩
      rw [hu] at p2 p3 HQ HU
      have hu1 : (u : Int) ≤ 16777000 := by omega
      have hu0 : (0 : Int) ≤ (u : Int) := by omega
      have htt : (t : Int) ≤ 16777000 := by omega
      clear ht hl hmono hnext hst hgl hu ht1
      have P123 : Hid (wr.cell? ⟨g, j * 4 + 1, none⟩ = some (.slice A1 n1 c1) ∧ wr.cell? ⟨g, j * 4 + 2, none⟩ = some (.int .i64 (u : Int)) ∧ wr.cell? ⟨g, j * 4 + 3, none⟩ = some (.int .i64 ((u : Int) + 1))) := ⟨p1, p2, p3⟩
      clear p1 p2 p3
      go_wp2_with fail
      go_region_held3 (fun w' => w'.cell? ⟨g, j * 4, none⟩ = some (.string x0))
        (first | (exact p0) | (exact F1.out))
        ((go_at_call 74; refine (HMT.out _).mono ?_; rintro e w1 ⟨rfl, hb⟩; have F1 : Hid (w1.cell? ⟨g, j * 4, none⟩ = some (.string x0)) := (hb.cell (p := ⟨g, j * 4, none⟩) HGL.out).trans p0; have HB1 : Hid (Below wr.heap.size wr w1) := (Below.refl _ _).drew.trans hb; have q1 : w1.cell? ⟨g, j * 4 + 1, none⟩ = some (.slice A1 n1 c1) := (HB1.out.cell (p := ⟨g, j * 4 + 1, none⟩) HGL.out).trans P123.out.1; clear hb))
      go_wp2_with (go_at_call 45; refine (HQ.out _ (HST.out.below HB1.out)).mono ?_; rintro e w2 ⟨rfl, hb⟩; have HB2 : Hid (Below wr.heap.size wr w2) := HB1.out.trans (hb.mono HB1.out.size); have q2 : w2.cell? ⟨g, j * 4 + 2, none⟩ = some (.int .i64 (u : Int)) := (HB2.out.cell (p := ⟨g, j * 4 + 2, none⟩) HGL.out).trans P123.out.2.1; have q3 : w2.cell? ⟨g, j * 4 + 3, none⟩ = some (.int .i64 ((u : Int) + 1)) := (HB2.out.cell (p := ⟨g, j * 4 + 3, none⟩) HGL.out).trans P123.out.2.2; have d0 : decide ((u : Int) < 0) = false := (by simp); clear hb)
      go_roundw
      case rel =>
        refine ⟨j + 1, HLT.out, by go_num, ?_, Lib.hid (HW.out.trans (HB2.out.mono HW.out.size))⟩
        rw [HNX.out, ← HU.out]
      case measure => have := HLT.out; simp [intOf]; omega
    · have HN : Hid (j = n) := by show _ = _; omega
      go_wp2_with fail
      go_ret
      exact ⟨i64_ret (by rw [HN.out]), HW.out⟩
end Go.Proofs.YtlohjmlenbkbmaaDoor
