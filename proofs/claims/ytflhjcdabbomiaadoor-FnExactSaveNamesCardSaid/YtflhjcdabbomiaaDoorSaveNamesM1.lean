/- Plain facts on strings and lists, of no program. No condition. Small lemmas on endings and on what a range over a string leaves. No condition. Plain: a list out of what holds index by index. No condition. Blocks of cells that are known, what a sz-function answers, a proposition as a bool: lemmas that no type of the program stands in. No condition. Slices of strings: what came in or lies below B; szStringS, toStringS of the laws. No condition. laws.eqStringS where both are the same. No condition. The classes of bytes as a plain function; facts on bytes. No condition. Contracts: impl.classOf, spec.l02Operator. Condition of the first: the table holds what the program's text lays. Names as plain functions. No condition. Contracts: letters, digits, the end of a name, IsName of the model and of the program. Condition of the last: the table holds what the program's text lays. Lists of names: which are all names and no two alike; contracts of the model's l17At, l18Names. No condition. DERIVED: THE SHELF's CONTRACTS AT THIS DUMP, IN PLAIN WORDS (tools/lay-plain.mjs out of 'YtflhjcdabbomiaaDoorShelf.lean', which tools/lay-shelf.mjs wrote): THE SAME DECLARATIONS UNDER THE SAME NAMES: 'import', 'namespace', 'open', 'def', 'theorem' AND NOTHING ELSE: no command of the shelf's: FOR A HAND-IN. Each laying: the table of numbers ('.._ren') and one theorem, a field a fact of the dump's own or the kernel's comparison; each contract: ONE APPLICATION. Contract: areDifferentNames of the program. Conditions: the table holds what the program's text lays; the slice's length is at most its capacity. append of any slice, a nil one too, onto a row of one's own; at a region that draws and at one that does not. No condition. Contracts: slices.Grow, slices.Concat at two slices of strings. No condition but that they are short. Contract: l00In of the model. No condition. A number's bounds. Plain. Contracts: l06Plain, ValidValue of the model. No condition but that a string fits in memory. Contract: textValue of the program; the cells of a value. No condition. -/
import Derived.PlainAid
import Derived.Lib.Strings
import Derived.Lib.Bytealg
import Derived.Test.YtflhjcdabbomiaaDoorChecked
import Derived.WalkKit
import Derived.WalkLawsBesides
import Derived.Lib.Hide
import Derived.LoopTactic
import Derived.Below
import Derived.Deep.Slices
import Derived.Deep.Fields
import Derived.ChangeSame
import Derived.Lib.SmallJoins
import Derived.OpenShut
import Derived.Laws.OwnMore
import Derived.Maps.RangeWalk
import Derived.Deep.MidRow
import Derived.Laws.CopyOwn
import Derived.Deep.QuietTactic
import Derived.Deep.RegionHeld3
import Derived.BigQuiet
import Derived.Lib.LaidTab
import Derived.Shelf.Slices.Turned
import Derived.Test.YtflhjcdabbomiaaDoorProg
import Derived.Deep.AppendLies
import Derived.Lib.AppendZeros
import Derived.Laws.StructEq
import Derived.Lib.QuietBelow
namespace Go.Proofs.YtflhjcdabbomiaaDoor
open Go

theorem size_toList (s : ByteArray) : s.toList.length = s.size := by rw [Lib.toList_data, ← Lib.size_eq]
theorem nil_of_size {s : ByteArray} (h : s.size = 0) : s.toList = [] := List.eq_nil_of_length_eq_zero (by rw [size_toList]; exact h)
theorem ne_nil_of_size {s : ByteArray} (h : 0 < s.size) : ¬ s.toList = [] := by
  intro e
  have := size_toList s
  rw [e] at this
  simp at this
  omega
theorem isEmpty_of_size {s : ByteArray} (h : s.size = 0) : s.toList.isEmpty = true := by rw [nil_of_size h]; rfl
theorem not_isEmpty_of_size {s : ByteArray} (h : 0 < s.size) : s.toList.isEmpty = false := by simpa using ne_nil_of_size h
theorem size_mk (l : List UInt8) : (⟨l.toArray⟩ : ByteArray).size = l.length := by rw [Lib.size_eq]
theorem get_mk (l : List UInt8) (i : Nat) (h : i < (⟨l.toArray⟩ : ByteArray).size) : (⟨l.toArray⟩ : ByteArray)[i] = l[i]'(by rwa [size_mk] at h) := rfl
theorem bt_mk (l : List UInt8) (i : Nat) (h : i < l.length) : PlainAid.bt ⟨l.toArray⟩ i = (l[i].toNat : Int) := by
  rw [← PlainAid.get_bt _ i (by rw [size_mk]; exact h), get_mk]
theorem bt_data (s : ByteArray) (i : Nat) (h : i < s.data.toList.length) : PlainAid.bt s i = (s.data.toList[i].toNat : Int) := by
  obtain ⟨⟨l⟩⟩ := s
  exact bt_mk l i h
/-- 's[:1] == c' is 's[0] == c'. -/
theorem ext_one (s : ByteArray) (c : UInt8) (h : 0 < s.size) : ((s.extract 0 1).toList == [c]) = (PlainAid.bt s 0 == (c.toNat : Int)) := by
  rw [Lib.size_eq] at h
  rw [bt_data s 0 h, Lib.extract_toList]
  generalize s.data.toList = l at h ⊢
  cases l with
  | nil => simp at h
  | cons x xs =>
    rw [Bool.eq_iff_iff]
    simp only [List.drop_zero, Nat.sub_zero, List.take_succ_cons, List.take_zero, beq_iff_eq, List.cons.injEq, and_true, List.getElem_cons_zero]
    exact ⟨fun h => by rw [h], fun h => UInt8.toNat_inj.mp (by omega)⟩

/-- All bytes satisfy p. -/
def allB (p : Int → Bool) (s : ByteArray) : Bool := (List.range s.size).all fun i => p (PlainAid.bt s i)
theorem allB_true {p : Int → Bool} {s : ByteArray} (h : ∀ i, i < s.size → p (PlainAid.bt s i) = true) : allB p s = true := by
  unfold allB
  rw [List.all_eq_true]
  intro i hi
  exact h i (by simpa using hi)
theorem allB_false {p : Int → Bool} {s : ByteArray} (i : Nat) (hi : i < s.size) (h : p (PlainAid.bt s i) = false) : allB p s = false := by
  unfold allB
  rw [List.all_eq_false]
  exact ⟨i, by simpa using hi, by simp [h]⟩
theorem of_allB {p : Int → Bool} {s : ByteArray} (h : allB p s = true) (i : Nat) (hi : i < s.size) : p (PlainAid.bt s i) = true := by
  unfold allB at h
  exact List.all_eq_true.1 h i (by simpa using hi)
theorem allB_congr {p q : Int → Bool} {s : ByteArray} (h : ∀ c, 0 ≤ c → c ≤ 255 → p c = q c) : allB p s = allB q s := by
  unfold allB
  congr 1
  funext i
  exact h _ (PlainAid.bt_nonneg s i) (PlainAid.bt_le s i)
theorem upto_succ {p : Nat → Prop} {k : Nat} (h : ∀ j, j < k → p j) (hk : p k) : ∀ j, j < k + 1 → p j := fun j hj => by
  rcases Nat.lt_or_ge j k with h1 | h1
  · exact h j h1
  · obtain rfl : j = k := by omega
    exact hk
/-- A printable byte; a newline besides where 'nl'. -/
def prnB (nl : Bool) (c : Int) : Bool := decide (32 ≤ c ∧ c ≤ 126) || (nl && c == 10)
theorem prnB_yes {nl : Bool} {c : Int} (h0 : 32 ≤ c) (h1 : c ≤ 126) : prnB nl c = true := by simp [prnB, h0, h1]
theorem prnB_nl : prnB true 10 = true := by decide
theorem prnB_no {c : Int} (h : c < 32 ∨ 126 < c) : prnB false c = false := by
  simp [prnB]; omega
theorem prnB_no' {c : Int} {nl : Bool} (h : c < 32 ∨ 126 < c) (h2 : ¬ c = 10) : prnB nl c = false := by
  simp [prnB, h2]; omega
end Go.Proofs.YtflhjcdabbomiaaDoor

namespace Go.Proofs.YtflhjcdabbomiaaDoor
open Go Go.RowKit

theorem bool_ret {a b : Bool} (h : a = b) : Ending.returned (.bool a) = .returned (.bool b) := by rw [h]
theorem below_iter {B : Nat} {a w : World} (h : Below B a w) (hB : B ≤ w.heap.size) (s : ByteArray) (pos : Nat) : Below B a (w.iter s pos) := h.alloc hB _
theorem bcell {W w1 : World} (hb : Below W.heap.size W w1) : (∀ b o, b < W.heap.size → w1.cell? ⟨b, o, none⟩ = W.cell? ⟨b, o, none⟩) ∧ (∀ b o, b < W.heap.size → w1.frozen? ⟨b, o, none⟩ = W.frozen? ⟨b, o, none⟩) :=
  ⟨fun b o h => hb.cell (p := ⟨b, o, none⟩) h, fun b o h => hb.frozen (p := ⟨b, o, none⟩) h⟩
end Go.Proofs.YtflhjcdabbomiaaDoor

namespace Go.Proofs.YtflhjcdabbomiaaDoor
open Go Go.ChangeShapes Go.WideShapes Go.Deep

theorem list_of {α : Type} {P : Nat → α → Prop} : ∀ {n : Nat}, (∀ i, i < n → ∃ x, P i x) → ∃ xs : List α, xs.length = n ∧ ∀ (j : Nat) (x : α), xs[j]? = some x → P j x
  | 0, _ => ⟨[], rfl, fun j x h => by simp at h⟩
  | n + 1, h => by
    obtain ⟨xs, hl, hp⟩ := list_of (n := n) fun i hi => h i (by omega)
    obtain ⟨y, hy⟩ := h n (by omega)
    refine ⟨xs ++ [y], by simp [hl], fun j x hx => ?_⟩
    by_cases hj : j < n
    · rw [List.getElem?_append_left (by omega)] at hx
      exact hp j x hx
    · have hlt : j < (xs ++ [y]).length := (List.getElem?_eq_some_iff.1 hx).1
      simp [hl] at hlt
      obtain rfl : j = n := by omega
      rw [List.getElem?_append_right (by omega), hl, Nat.sub_self] at hx
      simp at hx
      rw [← hx]
      exact hy

section
variable {H : Type} {enc : TypeId × Value → H} {P : Program} {w : World} {base : Nat} {spare : Nat → Bool} {held : Bool}
/-- An argument that is a slice of structs of one-cell fields: its cells, and each field's own reading. -/
theorem open_structs {t e : TypeId} {fs : Array Field} {fuel : Nat} {A : Option Addr} {n c : Nat} {x : DataW H × List MemPlace} (ht : P.underlying t = some (.slice e)) (he : P.underlying e = some (.struct fs))
    (hone : oneCellFields P fs = true) (hC : P.cellsOf e = fs.size) (hs : 0 < fs.size) (h : DataW.trod enc P w base (fun _ => true) held fuel t [.slice A n c] = some x) :
    n ≤ maxLen ∧ (0 < n → ∃ b off, A = some ⟨b, off, none⟩ ∧ b < w.heap.size ∧ ∀ i, i < n → ∀ (j : Nat) (f : Field), fs[j]? = some f → ∃ (v : Value) (y : DataW H × List MemPlace) (m : Nat), w.cell? ⟨b, off + (i * fs.size + j), none⟩ = some v ∧ DataW.trod enc P w base (fun _ => true) held m f.type [v] = some y) := by
  rcases open_slice ht h with ⟨h0, _⟩ | ⟨a, len, cap, m, k, D, Pl, hcs, hb, hl, hm, hmm, hx, hi⟩
  · simp at h0
    obtain ⟨rfl, rfl, rfl⟩ := h0
    exact ⟨Nat.zero_le _, fun h => absurd h (by omega)⟩
  · simp only [List.cons.injEq, Value.slice.injEq, and_true] at hcs
    obtain ⟨rfl, rfl, rfl⟩ := hcs
    simp only [if_true] at hmm
    have key : ∀ i, i < n → ∀ (j : Nat) (f : Field), fs[j]? = some f → ∃ (v : Value) (y : DataW H × List MemPlace) (m : Nat), w.cell? (a.add (i * fs.size + j)) = some v ∧ DataW.trod enc P w base (fun _ => true) held m f.type [v] = some y := by
      intro i hin j f hj
      obtain ⟨cs', hc, ht'⟩ := hi i (by omega)
      rw [hC] at hc
      obtain ⟨ys, n', hn', hy, hlen, hyl, hf⟩ := DataW.trod_struct he ht'
      obtain ⟨_, hcl, hat⟩ := World.cells?_some hc
      obtain ⟨ho, hk⟩ := hone_of hone j f hj
      have hjl : j < fs.size := (Array.getElem?_eq_some_iff.1 hj).1
      have hcell := hat j hjl
      have hv : cs'[j]? = some (cs'[j]'(by omega)) := List.getElem?_eq_getElem (by omega)
      have h1 := hf j f hj
      rw [ho, hk] at h1
      have hone' : (cs'.drop j).take 1 = [cs'[j]'(by omega)] := by
        rw [List.drop_eq_getElem_cons (by omega)]
        rfl
      rw [hone'] at h1
      have hys : ys[j]? = some (ys[j]'(by omega)) := List.getElem?_eq_getElem (by omega)
      exact ⟨_, _, n', by rw [← Go.Deep.add_add, hcell, hv], h1.trans hys⟩
    refine ⟨Nat.le_trans hl hm, fun hn => ?_⟩
    obtain ⟨ab, ao, spot⟩ := a
    obtain ⟨f0, hf0⟩ : ∃ f0, fs[0]? = some f0 := ⟨_, Array.getElem?_eq_getElem hs⟩
    obtain ⟨v, y, q, h0, _⟩ := key 0 hn 0 f0 hf0
    have hspot : spot = none := by simpa [Addr.add] using World.cell?_spot h0
    subst hspot
    rw [Addr.add_lit] at h0
    refine ⟨ab, ao, rfl, World.block_lt_of_cell? w ⟨ab, _, none⟩ h0, fun i hin j f hj => ?_⟩
    obtain ⟨v, y, q, h1, h2⟩ := key i hin j f hj
    rw [Addr.add_lit] at h1
    exact ⟨v, y, q, h1, h2⟩
end
end Go.Proofs.YtflhjcdabbomiaaDoor

namespace Go.Proofs.YtflhjcdabbomiaaDoor
open Go Go.RowKit

theorem below_grown_none {w w' : World} (h : w.grownBy w' none) : Below w.heap.size w w' := (Below.refl _ _).grown h (Nat.le_refl _) (fun k hk => by cases hk)
theorem below_alloc (W : World) (o : Obj) : Below W.heap.size W (W.alloc o) := (Below.refl _ _).alloc (Nat.le_refl _) _
theorem lt_alloc (W : World) (o : Obj) : W.heap.size < (W.alloc o).heap.size := by simp
theorem below_set (w : World) {p : Addr} {B : Nat} (h : B ≤ p.block) (u : Value) : Below B w (w.setCell p u) := (Below.refl _ _).setCell h u
theorem size_set (w : World) (p : Addr) (u : Value) : (w.setCell p u).heap.size = w.heap.size := by simp [World.setCell]
/-- The cells of block g, from its head. -/
def Blk (w : World) (g : Nat) (vs : List Value) : Prop := ∀ (i : Nat) (v : Value), vs[i]? = some v → w.cell? ⟨g, i, none⟩ = some v
theorem Blk.below {w w' : World} {g B : Nat} {vs : List Value} (h : Blk w g vs) (hb : Below B w w') (hg : g < B) : Blk w' g vs := fun i v hi => (hb.cell (p := ⟨g, i, none⟩) hg).trans (h i v hi)
theorem Blk.new (W : World) (cs : Array Value) (T : TypeId) : Blk (W.alloc (.cells cs T)) W.heap.size cs.toList := by
  intro i v h
  rw [Array.getElem?_toList] at h
  have : (W.alloc (.cells cs T)).heap[W.heap.size]? = some (.cells cs T (0, 0)) := (MapKept.heap_alloc W _).1
  rw [cell_of_row _ _ i cs T (0, 0) this]
  exact h
/-- Block g is known: its cells, none frozen. -/
def RW (T : TypeId) (w : World) (g : Nat) (cs : Array Value) : Prop := w.heap[g]? = some (.cells cs T (0, 0))
section
variable {T : TypeId} {w w' : World} {g : Nat} {cs : Array Value}
theorem RW.lt (h : RW T w g cs) : g < w.heap.size := by
  rcases Nat.lt_or_ge g w.heap.size with hlt | hge
  · exact hlt
  · unfold RW at h; rw [Array.getElem?_eq_none hge] at h; cases h
theorem RW.cell (h : RW T w g cs) (i : Nat) : w.cell? ⟨g, i, none⟩ = cs[i]? := cell_of_row w g i cs _ (0, 0) h
theorem RW.frozen (h : RW T w g cs) (i : Nat) : w.frozen? ⟨g, i, none⟩ = false := by
  unfold RW at h
  simp [World.frozen?, h]
theorem RW.set_ (h : RW T w g cs) (i : Nat) (u : Value) : RW T (w.setCell ⟨g, i, none⟩ u) g (cs.setIfInBounds i u) := by
  unfold RW at h ⊢
  simp [World.setCell, Array.getElem?_modify, h]
theorem RW.below {B : Nat} (h : RW T w g cs) (hb : Below B w w') (hg : g < B) : RW T w' g cs := (hb.block g hg).trans h
theorem RW.new (W : World) (cs : Array Value) (T : TypeId) : RW T (W.alloc (.cells cs T)) W.heap.size cs := (MapKept.heap_alloc W _).1
theorem RW.alloc (h : RW T w g cs) (o : Obj) : RW T (w.alloc o) g cs := h.below (below_alloc w o) h.lt
theorem RW.blk (h : RW T w g cs) : Blk w g cs.toList := fun i v hi => by rw [Array.getElem?_toList] at hi; rw [h.cell]; exact hi
end
theorem RW.other {T : TypeId} {w : World} {g : Nat} {cs : Array Value} (h : RW T w g cs) {p : Addr} (hp : g ≠ p.block) (u : Value) : RW T (w.setCell p u) g cs := by
  unfold RW at h ⊢
  simp [World.setCell, Array.getElem?_modify, h]
  exact fun e => absurd e.symm hp
theorem RW.there {T : TypeId} {w : World} {g o n : Nat} {cs : Array Value} (h : RW T w g cs) (hn : o + n ≤ cs.size) : w.there g o n := fun j hj => ⟨by rw [h.cell, Array.getElem?_eq_getElem (by omega)]; rfl, h.frozen _⟩
/-- Cells stored from o on. -/
def putL (cs : Array Value) : Nat → List Value → Array Value
  | _, [] => cs
  | o, v :: r => putL (cs.setIfInBounds o v) (o + 1) r
theorem RW.cells {T : TypeId} {g : Nat} : ∀ {vs : List Value} {w : World} {cs : Array Value} {o : Nat}, RW T w g cs → RW T (w.setCells g o vs) g (putL cs o vs)
  | [], _, _, _, h => h
  | v :: r, w, cs, o, h => RW.cells (vs := r) (h.set_ o v)
theorem RW.others {T : TypeId} {g b : Nat} (hg : g ≠ b) : ∀ {vs : List Value} {w : World} {cs : Array Value} {o : Nat}, RW T w g cs → RW T (w.setCells b o vs) g cs
  | [], _, _, _, h => h
  | v :: r, w, cs, o, h => RW.others hg (vs := r) (h.other hg v)
theorem below_cells {B b : Nat} (h : B ≤ b) : ∀ (vs : List Value) (w : World) (o : Nat), Below B w (w.setCells b o vs)
  | [], w, _ => Below.refl _ _
  | v :: r, w, o => (below_set w (p := ⟨b, o, none⟩) h v).trans (below_cells h r _ _)
theorem putL_size : ∀ (vs : List Value) (cs : Array Value) (o : Nat), (putL cs o vs).size = cs.size
  | [], _, _ => rfl
  | v :: r, cs, o => by rw [putL, putL_size r]; simp
theorem putL_old : ∀ (vs : List Value) (cs : Array Value) (o i : Nat), i < o → (putL cs o vs)[i]? = cs[i]?
  | [], _, _, _, _ => rfl
  | v :: r, cs, o, i, h => by rw [putL, putL_old r _ _ _ (by omega), Array.getElem?_setIfInBounds_ne (by omega)]
theorem putL_new : ∀ (vs : List Value) (cs : Array Value) (o q : Nat) (v : Value), o + vs.length ≤ cs.size → vs[q]? = some v → (putL cs o vs)[o + q]? = some v
  | [], _, _, _, _, _, h => by simp at h
  | u :: r, cs, o, 0, v, hl, h => by
    simp only [List.getElem?_cons_zero, Option.some.injEq] at h
    subst h
    rw [putL, putL_old r _ _ _ (by omega), Nat.add_zero, Array.getElem?_setIfInBounds_self_of_lt (by simp at hl; omega)]
  | u :: r, cs, o, q + 1, v, hl, h => by
    simp only [List.getElem?_cons_succ] at h
    rw [putL, show o + (q + 1) = (o + 1) + q from by omega]
    exact putL_new r _ _ _ _ (by simp at hl ⊢; omega) h
theorem two_new (W : World) (T : TypeId) (c c' : Array Value) (X : World) (e : X = (W.alloc (.cells c T)).alloc (.cells c' T)) : RW T X W.heap.size c ∧ RW T X (W.heap.size + 1) c' ∧ Below W.heap.size W X ∧ X.heap.size = W.heap.size + 2 := by
  subst e
  refine ⟨(RW.new W c T).alloc _, ?_, (below_alloc _ _).alloc (by simp) _, by simp⟩
  have := RW.new (W.alloc (.cells c T)) c' T
  simpa using this
/-- What a sz-function answers: what is left of L, or -1. -/
def SzL (s : Nat) (L : Int) (W : World) (e : Ending) (w' : World) : Prop :=
  (((s : Int) ≤ L ∧ e = .returned (.int .i64 (L - (s : Int)))) ∨ (L < (s : Int) ∧ e = .returned (.int .i64 (-1)))) ∧ Below W.heap.size W w'
theorem SzL.fits {s : Nat} {L : Int} {W w' : World} {e : Ending} (h : SzL s L W e w') (hl : (s : Int) ≤ L) (hL : L ≤ 1048576) : ∃ z, e = .returned (.int .i64 z) ∧ z = L - (s : Int) ∧ 0 ≤ z ∧ z ≤ 1048576 ∧ Below W.heap.size W w' := by
  rcases h with ⟨⟨_, he⟩ | ⟨h1, _⟩, hb⟩
  · exact ⟨_, he, rfl, by omega, by omega, hb⟩
  · omega
theorem SzL.long {s : Nat} {L : Int} {W w' : World} {e : Ending} (h : SzL s L W e w') (hl : ¬ (s : Int) ≤ L) : e = .returned (.int .i64 (-1)) ∧ Below W.heap.size W w' := by
  rcases h with ⟨⟨h1, _⟩ | ⟨_, he⟩, hb⟩
  · exact absurd h1 hl
  · exact ⟨he, hb⟩
/-- A proposition as a bool. -/
noncomputable def tt (P : Prop) : Bool := @decide P (Classical.propDecidable P)
theorem tt_true {P : Prop} (h : P) : tt P = true := by unfold tt; simp [h]
theorem tt_false {P : Prop} (h : ¬ P) : tt P = false := by unfold tt; simp [h]
theorem tt_iff {P : Prop} : tt P = true ↔ P := by unfold tt; simp
theorem of_tt {P : Prop} (h : tt P = true) : P := tt_iff.1 h
theorem of_tt_false {P : Prop} (h : tt P = false) : ¬ P := fun hp => by rw [tt_true hp] at h; cases h
theorem tt_congr {P Q : Prop} (h : P ↔ Q) : tt P = tt Q := by rw [propext h]
section
variable {H : Type} {enc : TypeId × Value → H} {W : World} {base : Nat} {held : Bool}
theorem field_at {P : Program} {fs : Array Field} {m : Nat} {cs : List Value} {ys : List (DataW H × List MemPlace)} {i o k : Nat} {T : TypeId} {sp : Nat → Bool}
    (hf : ∀ (i : Nat) (f : Field), fs[i]? = some f → DataW.trod enc P W base sp held m f.type ((cs.drop f.offset).take (P.cellsOf f.type)) = ys[i]?)
    (h : (fs[i]?.map fun f => (f.type, f.offset)) = some (T, o)) (hk : P.cellsOf T = k) : DataW.trod enc P W base sp held m T ((cs.drop o).take k) = ys[i]? := by
  obtain ⟨f, h1, h2⟩ := Option.map_eq_some_iff.1 h
  simp only [Prod.mk.injEq] at h2
  obtain ⟨rfl, rfl⟩ := h2
  subst hk
  exact hf i f h1
end
/-- A slice's field, opened. -/
theorem open_slice1 {H : Type} {enc : TypeId × Value → H} {P : Program} {w : World} {base m : Nat} {sp : Nat → Bool} {held : Bool} {t e : TypeId} {v : Value} {y : DataW H × List MemPlace} (ht : P.underlying t = some (.slice e)) (h : DataW.trod enc P w base sp held m t [v] = some y) :
    ∃ A n c, n ≤ c ∧ [v] = [Value.slice A n c] := by
  rcases Go.Deep.open_slice ht h with ⟨h0, _⟩ | ⟨a, len, cap, _, _, _, _, hcs, _, hlc, _⟩
  · exact ⟨_, _, _, Nat.le_refl _, h0⟩
  · exact ⟨_, _, _, hlc, hcs⟩
theorem below_sets {B b : Nat} (h : B ≤ b) (vs : List Value) (w : World) (o : Nat) : w.heap.size ≤ (w.setCells b o vs).heap.size := (below_cells (B := 0) (Nat.zero_le _) vs w o).size
end Go.Proofs.YtflhjcdabbomiaaDoor

namespace Go.Proofs.YtflhjcdabbomiaaDoor
open Go Go.RowKit

/-- What holds of a world by its blocks from a to before b alone. -/
def Det (a b : Nat) (w : World) (P : World → Prop) : Prop := ∀ w', (∀ g, a ≤ g → g < b → w'.heap[g]? = w.heap[g]?) → P w'
theorem Det.self {a b : Nat} {w : World} {P : World → Prop} (h : Det a b w P) : P w := h w fun _ _ _ => rfl
theorem Det.wide {a b a' b' : Nat} {w : World} {P : World → Prop} (h : Det a b w P) (ha : a' ≤ a) (hb : b ≤ b') : Det a' b' w P := fun w' k => h w' fun g h1 h2 => k g (by omega) (by omega)
theorem Det.keep {a b : Nat} {w w' : World} {P : World → Prop} (h : Det a b w P) (k : ∀ g, a ≤ g → g < b → w'.heap[g]? = w.heap[g]?) : Det a b w' P := fun w'' k' => h w'' fun g h1 h2 => (k' g h1 h2).trans (k g h1 h2)
theorem Det.below {a b B : Nat} {w w' : World} {P : World → Prop} (h : Det a b w P) (hb : Below B w w') (hB : b ≤ B) : Det a b w' P := h.keep fun g _ h2 => hb.block g (by omega)
theorem Det.set {a b : Nat} {w : World} {P : World → Prop} (h : Det a b w P) {p : Addr} (hp : p.block < a) (u : Value) : Det a b (w.setCell p u) P := h.keep fun g h1 _ => Below.heap_setCell w p u g (by omega)
theorem Det.set' {a b : Nat} {w : World} {P : World → Prop} (h : Det a b w P) {p : Addr} (hp : b ≤ p.block) (u : Value) : Det a b (w.setCell p u) P := h.keep fun g _ h2 => Below.heap_setCell w p u g (by omega)
theorem Det.imp {a b : Nat} {w : World} {P Q : World → Prop} (h : Det a b w P) (k : ∀ w, P w → Q w) : Det a b w Q := fun w' k' => k w' (h w' k')
theorem cell_same {w w' : World} {b o : Nat} (h : w'.heap[b]? = w.heap[b]?) : w'.cell? ⟨b, o, none⟩ = w.cell? ⟨b, o, none⟩ := World.cell?_of_block (w := w) (a := ⟨b, o, none⟩) h

/-- A slice of strings whose cells lie below B. -/
def StI (w : World) (B : Nat) (A : Option Addr) (n : Nat) (xs : List ByteArray) : Prop :=
  xs.length = n ∧ n ≤ maxLen ∧ (0 < n → ∃ b off, A = some ⟨b, off, none⟩ ∧ b < B ∧ ∀ (j : Nat) (x : ByteArray), xs[j]? = some x → w.cell? ⟨b, off + j, none⟩ = some (.string x) ∧ x.size ≤ maxLen)
abbrev St := ByteArray
theorem StI.below {w w' : World} {B n : Nat} {A : Option Addr} {xs : List St} (h : StI w B A n xs) (hb : Below B w w') : StI w' B A n xs :=
  ⟨h.1, h.2.1, fun hn => by
    obtain ⟨b, off, e, hg, hc⟩ := h.2.2 hn
    exact ⟨b, off, e, hg, fun j x hx => ⟨(hb.cell (p := ⟨b, off + j, none⟩) hg).trans (hc j x hx).1, (hc j x hx).2⟩⟩⟩
theorem StI.more {w : World} {B B' n : Nat} {A : Option Addr} {xs : List St} (h : StI w B A n xs) (hB : B ≤ B') : StI w B' A n xs :=
  ⟨h.1, h.2.1, fun hn => by
    obtain ⟨b, off, e, hg, hc⟩ := h.2.2 hn
    exact ⟨b, off, e, by omega, hc⟩⟩
theorem StI.nil (w : World) (B : Nat) (A : Option Addr) : StI w B A 0 [] := ⟨rfl, Nat.zero_le _, fun h => absurd h (by omega)⟩
theorem StI.at_ {w : World} {B n k : Nat} {A : Option Addr} {xs : List St} (h : StI w B A n xs) (hk : k < n) : ∃ b off x, A = some ⟨b, off, none⟩ ∧ b < B ∧ xs[k]? = some x ∧ w.cell? ⟨b, off + k, none⟩ = some (.string x) ∧ x.size ≤ maxLen := by
  obtain ⟨b, off, e, hg, hc⟩ := h.2.2 (by omega)
  have hl : k < xs.length := by rw [h.1]; exact hk
  exact ⟨b, off, xs[k], e, hg, List.getElem?_eq_getElem hl, hc k _ (List.getElem?_eq_getElem hl)⟩
theorem StI.alloc {W : World} {A : Option Addr} {n : Nat} {xs : List St} (h : StI W W.heap.size A n xs) (o : Obj) : StI (W.alloc o) (W.alloc o).heap.size A n xs := (h.below (below_alloc W o)).more (by simp)
theorem StI.go {W w : World} {A : Option Addr} {n : Nat} {xs : List St} (h : StI W W.heap.size A n xs) (hb : Below W.heap.size W w) : StI w w.heap.size A n xs := (h.below hb).more hb.size
theorem StI.other {w : World} {B n b off : Nat} {xs : List St} (h : StI w B (some ⟨b, off, none⟩) n xs) {p : Addr} (hp : b ≠ p.block) (u : Value) : StI (w.setCell p u) B (some ⟨b, off, none⟩) n xs :=
  ⟨h.1, h.2.1, fun hn => by
    obtain ⟨b', off', e, hg, hc⟩ := h.2.2 hn
    simp only [Option.some.injEq, Addr.mk.injEq, and_true] at e
    obtain ⟨rfl, rfl⟩ := e
    exact ⟨b, off, rfl, hg, fun j x hx => ⟨(World.cell?_setCell_other w p ⟨b, off + j, none⟩ u (fun e => hp (by rw [e]))).trans (hc j x hx).1, (hc j x hx).2⟩⟩⟩
theorem StI.others {B n b off : Nat} {xs : List St} {g : Nat} (hp : b ≠ g) : ∀ {vs : List Value} {w : World} {o : Nat}, StI w B (some ⟨b, off, none⟩) n xs → StI (w.setCells g o vs) B (some ⟨b, off, none⟩) n xs
  | [], _, _, h => h
  | v :: r, w, o, h => StI.others hp (vs := r) (h.other (p := ⟨g, o, none⟩) hp v)
theorem StI.det {w : World} {B n b off : Nat} {xs : List St} (h : StI w B (some ⟨b, off, none⟩) n xs) : Det b B w fun w => StI w B (some ⟨b, off, none⟩) n xs := fun w' k =>
  ⟨h.1, h.2.1, fun hn => by
    obtain ⟨b', off', e, hg, hc⟩ := h.2.2 hn
    simp only [Option.some.injEq, Addr.mk.injEq, and_true] at e
    obtain ⟨rfl, rfl⟩ := e
    exact ⟨b, off, rfl, hg, fun j x hx => ⟨(cell_same (k b (Nat.le_refl _) hg)).trans (hc j x hx).1, (hc j x hx).2⟩⟩⟩

section
variable {H : Type} {enc : TypeId × Value → H} {W : World} {base : Nat} {held : Bool}
theorem open_StF {A : Option Addr} {n c fuel : Nat} {x : DataW H × List MemPlace} (hf : DataW.trod enc Tryd.prog W base (fun _ => true) held fuel 41 [.slice A n c] = some x) :
    ∃ xs, StI W W.heap.size A n xs := by
  rcases Go.Deep.open_slice Tryd.underlying41 hf with ⟨h0, _⟩ | ⟨a, len, cap, m, k, D, Pl, hcs, hb, hl, hm, hmm, hx, hi⟩
  · simp at h0
    obtain ⟨rfl, rfl, rfl⟩ := h0
    exact ⟨[], rfl, Nat.zero_le _, fun h => absurd h (by omega)⟩
  · simp only [List.cons.injEq, Value.slice.injEq, and_true] at hcs
    obtain ⟨rfl, rfl, rfl⟩ := hcs
    simp only [if_true] at hmm
    have hC : Tryd.prog.cellsOf 9 = 1 := by kernel_rfl
    have key : ∀ i, i < n → ∃ o : ByteArray, W.cell? (a.add i) = some (.string o) ∧ o.size ≤ maxLen := by
      intro i hin
      obtain ⟨cs', hc, ht'⟩ := hi i (by omega)
      rw [hC] at hc
      obtain ⟨_, hcl, hat⟩ := World.cells?_some hc
      match cs', hcl with
      | [c0], _ =>
        obtain ⟨z, e, _, hz⟩ := DataW.trod_string Tryd.underlying9 ht'
        simp only [List.cons.injEq, and_true] at e
        subst e
        refine ⟨z, ?_, hz⟩
        have := hat 0 (by decide)
        simpa [Addr.add, Nat.mul_one] using this
    have hnm : n ≤ maxLen := Nat.le_trans hl hm
    by_cases hn : 0 < n
    · obtain ⟨ab, ao, spot⟩ := a
      obtain ⟨o0, h0, _⟩ := key 0 hn
      have hspot : spot = none := by simpa [Addr.add] using World.cell?_spot h0
      subst hspot
      rw [Addr.add_lit] at h0
      obtain ⟨os, hl', hx'⟩ := list_of (α := ByteArray) (P := fun j o => W.cell? ⟨ab, ao + j, none⟩ = some (.string o) ∧ o.size ≤ maxLen) (n := n) fun i hin => by
        obtain ⟨o, hc, ho⟩ := key i hin
        rw [Addr.add_lit] at hc
        exact ⟨o, hc, ho⟩
      exact ⟨os, hl', hnm, fun _ => ⟨ab, ao, rfl, World.block_lt_of_cell? W ⟨ab, _, none⟩ h0, hx'⟩⟩
    · exact ⟨[], by simp; omega, hnm, fun h => absurd h hn⟩
end
theorem open_St {H : Type} {enc : TypeId × Value → H} {W : World} {A : Option Addr} {n c : Nat} {d : DataW H} {p : List MemPlace} (h : DataW.Trod enc Tryd.prog W 0 (fun _ => true) true 41 (.slice A n c) d p) :
    ∃ xs, StI W W.heap.size A n xs := by
  obtain ⟨fuel, hf⟩ := h
  exact open_StF (by simpa [Value.cells] using hf)

/-- The bytes of the first k. -/
def sumSt (xs : List St) : Nat → Nat
  | 0 => 0
  | k + 1 => sumSt xs k + ((xs[k]?.map fun (x : ByteArray) => x.size).getD 0)
theorem sumSt_next {xs : List St} {k : Nat} {x : St} (h : xs[k]? = some x) : sumSt xs (k + 1) = sumSt xs k + ByteArray.size x := by
  rw [sumSt, h]
  rfl
theorem sumSt_mono {xs : List St} {j : Nat} : ∀ {k : Nat}, j ≤ k → sumSt xs j ≤ sumSt xs k
  | 0, h => by obtain rfl : j = 0 := by omega
               exact Nat.le_refl _
  | k + 1, h => by
    by_cases e : j = k + 1
    · rw [e]; exact Nat.le_refl _
    · have := sumSt_mono (xs := xs) (show j ≤ k by omega)
      rw [sumSt]
      omega
/-- What szStringS takes of the bound. -/
def szSt (xs : List St) : Nat := xs.length + sumSt xs xs.length

set_option maxHeartbeats 1000000 in
set_option maxRecDepth 100000 in
theorem szStringS_any (A : Option Addr) (n c : Nat) (xs : List St) (L : Int) (W : World) (hr : StI W W.heap.size A n xs) (h0 : 0 ≤ L) (hL : L ≤ 1048576) :
    Calls Tryd.prog 11 #[.slice A n c, .int .i64 L] W (SzL (szSt xs) L W) := by
  have HR := Lib.hid hr
  have hn := hr.2.1
  have hxn := hr.1
  clear hr
  obtain ⟨s, hs⟩ : ∃ s, szSt xs = s := ⟨_, rfl⟩
  have HS : Hid (s = n + sumSt xs n) := by show _ = _; rw [← hs, szSt, hxn]
  rw [hs]
  clear hs hxn
  unfold maxLen at hn
  by_cases hbig : L < (n : Int)
  · have HB : Hid (L < (s : Int)) := by show _ < _; have := HS.out; omega
    have h2 : (n : Int) ≤ 9223372036854775807 := by omega
    have d0 : decide (L - n < 0) = true := by simp; omega
    go_enter Tryd.func11, Tryd.ntmps11
    go_wp2_with fail
    go_ret
    exact ⟨.inr ⟨HB.out, rfl⟩, Below.refl _ _⟩
  · have h1 : (n : Int) ≤ L := by omega
    have hn' : n ≤ 1048576 := by omega
    have d0 : decide (L - n < 0) = false := by simp; omega
    clear hbig
    go_enter Tryd.func11, Tryd.ntmps11
    go_wp2_with fail
    go_loopw [1, 5] (fun q i wr => ∃ k : Nat, ∃ z : Int, k ≤ n ∧ i = .int .i64 k ∧ q = .int .i64 z ∧ 0 ≤ z ∧ z ≤ 1048576 ∧ Hid (z = L - (n : Int) - (sumSt xs k : Int)) ∧ Hid (Below W.heap.size W wr)) (fun _ i _ => n - (intOf i).toNat)
    case atStart => exact ⟨0, _, Nat.zero_le _, rfl, rfl, by omega, by omega, by show _ = _; simp [sumSt], Below.refl _ _⟩
    case round =>
      obtain ⟨k, z, hk, rfl, rfl, hz0, hz1, HZ, HW⟩ := hrel
      by_cases hlt : k < n
      · obtain ⟨b, off, x, rfl, hg, hx, q0, hm0⟩ := (HR.out.below HW.out).at_ hlt
        have HX := Lib.hid hx
        have b0 : (0 : Int) ≤ (k : Int) := by omega
        have b1 : (k : Int) < (n : Int) := by omega
        have HZ0 : Hid (0 ≤ z) := hz0
        have HZ1 : Hid (z ≤ 1048576) := hz1
        unfold maxLen at hm0
        clear hx hg
        by_cases hf : (x.size : Int) ≤ z
        · have HF := Lib.hid hf
          have HN : Hid (sumSt xs (k + 1) = sumSt xs k + x.size) := sumSt_next HX.out
          have dz : decide (z - (x.size : Int) < 0) = false := by simp; omega
          clear hf
          go_wp2_with fail
          go_roundw
          case rel => exact ⟨k + 1, _, by omega, by go_num, rfl, by have := HF.out; omega, by omega, by show _ = _; rw [HN.out, HZ.out]; omega, HW⟩
          case measure => simp [intOf]; omega
        · have HF := Lib.hid hf
          have HBIG : Hid (L < (s : Int)) := by
            show _ < _
            have h1 := sumSt_mono (xs := xs) (j := k + 1) (k := n) (by omega)
            rw [sumSt_next HX.out] at h1
            have h2 := HZ.out
            have h3 := HS.out
            omega
          have dz : decide (z - (x.size : Int) < 0) = true := by simp; omega
          clear hf
          go_wp2_with fail
          go_ret
          exact ⟨.inr ⟨HBIG.out, rfl⟩, HW.out⟩
      · have hkn : k = n := by omega
        have HE : Hid ((s : Int) ≤ L ∧ z = L - (s : Int)) := by
          have h := HZ.out
          have h3 := HS.out
          rw [hkn] at h
          exact ⟨by omega, by omega⟩
        go_wp2_with fail
        go_ret
        exact ⟨.inl ⟨HE.out.1, by rw [HE.out.2]; rfl⟩, HW.out⟩

/-- The elements of block g ahead of j are filled. -/
def FilledSt (w : World) (g j n : Nat) (xs : List St) : Prop := ∃ cs, RW 9 w g cs ∧ n ≤ cs.size ∧ ∀ (i : Nat) (x : St), i < j → xs[i]? = some x → cs[i]? = some (.string x)
theorem infoSt : (Tryd.prog.info? 9).map (fun i => (i.zero, i.size, i.bytes)) = some (some (Value.string ⟨#[]⟩), 1, 16) := by kernel_rfl
theorem ownSt {w : World} {B g n : Nat} {xs : List Value} (h : w.ownsRow B 9 1 (.slice (some ⟨g, 0, none⟩) n n) n xs) : ∃ cs, RW 9 w g cs ∧ n ≤ cs.size := by
  rcases h.2 with ⟨h', _⟩ | ⟨g', cap', cur, h', _, hg, _, _, hsz, _⟩
  · simp at h'
  · simp only [Value.slice.injEq, Option.some.injEq, Addr.mk.injEq, and_true, true_and] at h'
    obtain ⟨rfl, rfl⟩ := h'
    exact ⟨cur, hg, by omega⟩
/-- What toStringS answers: a slice at the head of the first new block. -/
def ToSt (xs : List St) (n : Nat) (W : World) (e : Ending) (w' : World) : Prop :=
  e = .returned (.slice (some ⟨W.heap.size, 0, none⟩) n n) ∧ Hid (StI w' w'.heap.size (some ⟨W.heap.size, 0, none⟩) n xs ∧ Below W.heap.size W w')

set_option maxHeartbeats 2000000 in
set_option maxRecDepth 100000 in
theorem toStringS_any (A : Option Addr) (n c : Nat) (xs : List St) (W : World) (hr : StI W W.heap.size A n xs) (hn : n ≤ 1048576) :
    Calls Tryd.prog 13 #[.slice A n c] W (ToSt xs n W) := by
  obtain ⟨i0, hi, hz0, hz1, hz2⟩ := info_parts infoSt
  have HR := Lib.hid hr
  have h1 : (n : Int) ≤ 1048576 := by omega
  clear hr
  go_enter Tryd.func13, Tryd.ntmps13
  go_wp2_with (at_make; refine wpList_make_full _ rfl _ _ 41 rfl W.heap.size 9 i0 (.string ⟨#[]⟩) 1 Tryd.underlying41 hi hz0 hz1 .i64 .i64 n n n rfl rfl rfl rfl (by rw [hz2]; omega) (by unfold maxLen; omega) (Nat.le_refl _) ?_)
  intro w1 hown hgrow
  have HB1 : Hid (Below W.heap.size W w1) := below_grown_none hgrow
  obtain ⟨cs, hcs, hcn⟩ := ownSt hown
  have HG : Hid (W.heap.size < w1.heap.size) := hcs.lt
  have HM : Hid (FilledSt w1 W.heap.size 0 n xs) := ⟨cs, hcs, hcn, fun i x hi => absurd hi (by omega)⟩
  clear hown hgrow hcs hcn hi hz0 hz1 hz2
  go_wp2_with fail
  go_loopw [4] (fun i wr => ∃ j : Nat, j ≤ n ∧ i = .int .i64 j ∧ Hid (Below W.heap.size W wr) ∧ Hid (W.heap.size < wr.heap.size) ∧ Hid (FilledSt wr W.heap.size j n xs)) (fun i _ => n - (intOf i).toNat)
  case atStart => exact ⟨0, Nat.zero_le _, rfl, HB1, HG, HM⟩
  case round =>
    obtain ⟨j, hj, rfl, HW, HZ, HJ⟩ := hrel
    by_cases hlt : j < n
    · obtain ⟨b, off, x, rfl, hg, hx, q0, hxs⟩ := (HR.out.below HW.out).at_ hlt
      have HX := Lib.hid hx
      obtain ⟨cs, hs, hcs, hm⟩ := HJ.out
      have HSB := Lib.hid hs
      have HMM := Lib.hid hm
      have HL0 : Hid (j < cs.size) := by show _ < _; omega
      have HCS := Lib.hid hcs
      have p0 := (hs.cell j).trans (Array.getElem?_eq_getElem HL0.out)
      have z0 := hs.frozen j
      have b0 : (0 : Int) ≤ (j : Int) := by omega
      have b1 : (j : Int) < (n : Int) := by omega
      clear hs hm hx hxs hg hcs
      go_wp2_with fail
      go_roundw
      case rel =>
        refine ⟨j + 1, by omega, by go_num, ?_, ?_, ?_⟩
        · exact HW.out.setCell (Nat.le_refl _) _
        · have h2 := HZ.out
          show _ < _
          simp [World.setCell]
          omega
        · refine ⟨_, (HSB.out).set_ _ _, by simpa using HCS.out, fun i y hi hxi => ?_⟩
          by_cases e : i = j
          · subst e
            rw [HX.out, Option.some.injEq] at hxi
            subst hxi
            rw [Array.getElem?_setIfInBounds_self_of_lt HL0.out]
          · rw [Array.getElem?_setIfInBounds_ne (by omega)]
            exact HMM.out i y (by omega) hxi
      case measure => simp [intOf]; omega
    · have HN : Hid (j = n) := by show _ = _; omega
      go_wp2_with fail
      go_ret
      refine ⟨rfl, Lib.hid ⟨⟨HR.out.1, HR.out.2.1, fun _ => ⟨W.heap.size, 0, rfl, HZ.out, fun i x hx => ?_⟩⟩, HW.out⟩⟩
      obtain ⟨cs, hs, hcs, hm⟩ := HJ.out
      have hil : i < xs.length := (List.getElem?_eq_some_iff.1 hx).1
      have hij : i < j := by have := HN.out; have := HR.out.1; omega
      obtain ⟨_, _, _, _, hc⟩ := HR.out.2.2 (by have := HR.out.1; omega)
      rw [Nat.zero_add]
      exact ⟨(hs.cell _).trans (hm i x hij hx), (hc i x hx).2⟩
end Go.Proofs.YtflhjcdabbomiaaDoor

namespace Go.Proofs.YtflhjcdabbomiaaDoor
open Go Go.RowKit

set_option maxHeartbeats 1000000 in
set_option maxRecDepth 100000 in
theorem eqStringS_same (A A' : Option Addr) (n c c' : Nat) (xs : List St) (W : World) (ha : StI W W.heap.size A n xs) (hb : StI W W.heap.size A' n xs) :
    Calls Tryd.prog 16 #[.slice A n c, .slice A' n c'] W fun e w' => e = .returned (.bool true) ∧ Below W.heap.size W w' := by
  have HA := Lib.hid ha
  have HB := Lib.hid hb
  have hn := ha.2.1
  unfold maxLen at hn
  clear ha hb
  go_enter Tryd.func16, Tryd.ntmps16
  go_wp2
  go_loopw [5] (fun i wr => ∃ k : Nat, k ≤ n ∧ i = .int .i64 k ∧ Hid (Below W.heap.size W wr)) (fun i _ => n - (intOf i).toNat)
  case atStart => exact ⟨0, Nat.zero_le _, rfl, Below.refl _ _⟩
  case round =>
    obtain ⟨k, hk, rfl, HW⟩ := hrel
    by_cases hlt : k < n
    · obtain ⟨b, off, x, rfl, hg, hx, h1, _⟩ := HA.out.at_ hlt
      obtain ⟨b', off', x', rfl, hg', hx', h2, _⟩ := HB.out.at_ hlt
      obtain rfl : x = x' := Option.some.inj (hx.symm.trans hx')
      have q1 := (HW.out.cell (p := ⟨b, off + k, none⟩) hg).trans h1
      have q2 := (HW.out.cell (p := ⟨b', off' + k, none⟩) hg').trans h2
      have b0 : (0 : Int) ≤ (k : Int) := by omega
      have b1 : (k : Int) < (n : Int) := by omega
      clear h1 h2 hx hx' hg hg'
      go_wp2_with fail
      go_quiet (fail)
      go_wp2_with fail
      go_roundw
      case rel => exact ⟨k + 1, by omega, by go_num, below_drewN HW.out _⟩
      case measure => simp [intOf]; omega
    · go_wp2_with fail
      go_ret
      exact ⟨rfl, HW.out⟩
end Go.Proofs.YtflhjcdabbomiaaDoor

namespace Go.Proofs.YtflhjcdabbomiaaDoor
open Go

/-- The table of the program's text. -/
def classes : List Int := [0, 0, 0, 0, 0, 0, 0, 0, 0, 0, 0, 0, 0, 0, 0, 0, 0, 0, 0, 0, 0, 0, 0, 0, 0, 0, 0, 0, 0, 0, 0, 0, 0, 0, 3, 0, 4, 0, 0, 3, 5, 6, 4, 4, 9, 4, 4, 4, 2, 2, 2, 2, 2, 2, 2, 2, 2, 2, 10, 0, 7, 4, 8, 0, 4, 1, 1, 1, 1, 1, 1, 1, 1, 1, 1, 1, 1, 1, 1, 1, 1, 1, 1, 1, 1, 1, 1, 1, 1, 1, 1, 0, 0, 0, 0, 11, 0, 1, 1, 1, 1, 1, 1, 1, 1, 1, 1, 1, 1, 1, 1, 1, 1, 1, 1, 1, 1, 1, 1, 1, 1, 1, 1, 0, 4, 0, 0, 0]
set_option maxRecDepth 10000 in
theorem classes_length : classes.length = 128 := by decide +kernel
/-- The class of a character. -/
def cls (r : Int) : Int := if 0 ≤ r ∧ r < 128 then classes.getD r.toNat 0 else 0
theorem cls_in {r : Int} (h0 : 0 ≤ r) (h1 : r < 128) : cls r = classes.getD r.toNat 0 := by unfold cls; rw [if_pos ⟨h0, h1⟩]
theorem cls_out {r : Int} (h : r < 0 ∨ 128 ≤ r) : cls r = 0 := by unfold cls; rw [if_neg (by omega)]
theorem all_small {p : Int → Bool} (h : (List.range 256).all (fun i => p (i : Int)) = true) {c : Int} (h0 : 0 ≤ c) (h1 : c ≤ 255) : p c = true := by
  have e : c = ((c.toNat : Nat) : Int) := by omega
  rw [e]
  exact List.all_eq_true.1 h c.toNat (by simp; omega)
theorem cls_bd (r : Int) : 0 ≤ cls r ∧ cls r ≤ 11 := by
  by_cases h : 0 ≤ r ∧ r < 128
  · have := all_small (p := fun c => decide (0 ≤ cls c ∧ cls c ≤ 11)) (by decide +kernel) h.1 (by omega)
    simpa using this
  · rw [cls_out (by omega)]; omega
/-- An operator's byte. -/
def opB (c : Int) : Bool := cls c == 4
theorem opB_mem {c : Int} (h0 : 0 ≤ c) (h1 : c ≤ 255) : opB c = (c == 43 || c == 45 || c == 42 || c == 47 || c == 124 || c == 46 || c == 36 || c == 64 || c == 61) := by
  have := all_small (p := fun c => opB c == (c == 43 || c == 45 || c == 42 || c == 47 || c == 124 || c == 46 || c == 36 || c == 64 || c == 61)) (by decide +kernel) h0 h1
  simpa using this
end Go.Proofs.YtflhjcdabbomiaaDoor

namespace Go.Proofs.YtflhjcdabbomiaaDoor
open Go Go.RowKit

theorem gClasses : Tryd.prog.globalNamed "loop.example/g00873/impl.byteClasses" = some 0 := by kernel_rfl
abbrev Classes (W : World) : Prop := Lib.TabIs Tryd.prog W "loop.example/g00873/impl.byteClasses" .u8 classes
theorem Classes.at_ {W : World} (h : Classes W) (i : Nat) (hi : i < 128) : W.cell? ⟨0, i, none⟩ = some (.int .u8 (classes.getD i 0)) := h.cell gClasses i hi

theorem heap_pos {W : World} {o : Nat} {b : Nat} {v : Value} (h : W.cell? ⟨b, o, none⟩ = some v) : b < W.heap.size := by
  rcases Nat.lt_or_ge b W.heap.size with h1 | h1
  · exact h1
  · simp [World.cell?, Array.getElem?_eq_none h1] at h
theorem Classes.below {B : Nat} {W W' : World} (h : Classes W) (hb : Below B W W') (hB : 0 < B) : Classes W' := var?_below hb gClasses hB h

theorem classOf_any (r : Int) (W : World) (hT : Classes W) :
    Calls Tryd.prog 59 #[.int .i32 r] W fun e w' => e = .returned (.int .u8 (cls r)) ∧ W = w' := by
  by_cases h0 : r < 0
  · rw [cls_out (.inl h0)]
    clear hT
    go_enter Tryd.func59, Tryd.ntmps59
    go_wp2
    go_ret
    exact ⟨rfl, rfl⟩
  · by_cases h1 : 128 ≤ r
    · rw [cls_out (.inr h1)]
      clear hT
      go_enter Tryd.func59, Tryd.ntmps59
      go_wp2
      go_ret
      exact ⟨rfl, rfl⟩
    · have hc := hT.at_ r.toNat (by omega)
      rw [cls_in (by omega) (by omega)]
      generalize classes.getD r.toNat 0 = v at hc ⊢
      clear hT
      have h0' : 0 ≤ r := by omega
      have h1' : r < 128 := by omega
      go_enter Tryd.func59, Tryd.ntmps59
      go_wp2
      go_ret
      exact ⟨rfl, rfl⟩
theorem classes_go {w w' : World} (h : Classes w) (hb : Below w.heap.size w w') : Classes w' := h.below hb (heap_pos (h.at_ 0 (by decide)))
end Go.Proofs.YtflhjcdabbomiaaDoor

namespace Go.Proofs.YtflhjcdabbomiaaDoor
open Go

def letterB (c : Int) : Bool := cls c == 1
def digitB (c : Int) : Bool := cls c == 2
def contB (c : Int) : Bool := cls c == 1 || cls c == 2 || cls c == 11
theorem letterB_range {c : Int} (h0 : 0 ≤ c) (h1 : c ≤ 255) : letterB c = (decide (65 ≤ c ∧ c ≤ 90) || decide (97 ≤ c ∧ c ≤ 122)) := by
  have := all_small (p := fun c => letterB c == (decide (65 ≤ c ∧ c ≤ 90) || decide (97 ≤ c ∧ c ≤ 122))) (by decide +kernel) h0 h1
  simpa using this
theorem digitB_range {c : Int} (h0 : 0 ≤ c) (h1 : c ≤ 255) : digitB c = decide (48 ≤ c ∧ c ≤ 57) := by
  have := all_small (p := fun c => digitB c == decide (48 ≤ c ∧ c ≤ 57)) (by decide +kernel) h0 h1
  simpa using this
theorem contB_parts {c : Int} (h0 : 0 ≤ c) (h1 : c ≤ 255) : contB c = (letterB c || digitB c || c == 95) := by
  have := all_small (p := fun c => contB c == (letterB c || digitB c || c == 95)) (by decide +kernel) h0 h1
  simpa using this
theorem contB_of_letter {c : Int} (h : letterB c = true) : contB c = true := by
  unfold letterB at h
  unfold contB
  rw [h]
  rfl
theorem contB_high {r : Int} (h : 128 ≤ r) : contB r = false := by
  unfold contB
  rw [cls_out (.inr h)]
  rfl

/-- The end of the longest run of bytes that satisfy p, from k on. -/
def runEnd (p : Int → Bool) (s : ByteArray) (k : Nat) : Nat :=
  if _h : k < s.size ∧ p (PlainAid.bt s k) = true then runEnd p s (k + 1) else k
termination_by s.size - k
theorem runEnd_step {p : Int → Bool} {s : ByteArray} {k : Nat} (h : k < s.size) (hp : p (PlainAid.bt s k) = true) : runEnd p s k = runEnd p s (k + 1) := by
  rw [runEnd, dif_pos ⟨h, hp⟩]
theorem runEnd_stop {p : Int → Bool} {s : ByteArray} {k : Nat} (h : k < s.size → p (PlainAid.bt s k) = false) : runEnd p s k = k := by
  rw [runEnd, dif_neg]
  rintro ⟨h1, h2⟩
  rw [h h1] at h2
  cases h2
theorem runEnd_spec (p : Int → Bool) (s : ByteArray) : ∀ (n k : Nat), s.size - k ≤ n → k ≤ runEnd p s k ∧ (k ≤ s.size → runEnd p s k ≤ s.size) ∧ (∀ j, k ≤ j → j < runEnd p s k → p (PlainAid.bt s j) = true) ∧ (runEnd p s k < s.size → p (PlainAid.bt s (runEnd p s k)) = false)
  | n, k, hn => by
    by_cases h : k < s.size ∧ p (PlainAid.bt s k) = true
    · rw [runEnd_step h.1 h.2]
      cases n with
      | zero => omega
      | succ n =>
        obtain ⟨h1, h2, h3, h4⟩ := runEnd_spec p s n (k + 1) (by omega)
        refine ⟨by omega, fun _ => h2 (by omega), fun j hj1 hj2 => ?_, h4⟩
        by_cases e : j = k
        · rw [e]; exact h.2
        · exact h3 j (by omega) hj2
    · have hs : k < s.size → p (PlainAid.bt s k) = false := fun h1 => by
        cases e : p (PlainAid.bt s k) with
        | false => rfl
        | true => exact absurd ⟨h1, e⟩ h
      rw [runEnd_stop hs]
      exact ⟨Nat.le_refl _, id, fun j h1 h2 => absurd h2 (by omega), hs⟩
theorem runEnd_ge (p : Int → Bool) (s : ByteArray) (k : Nat) : k ≤ runEnd p s k := (runEnd_spec p s _ k (Nat.le_refl _)).1
theorem runEnd_le {p : Int → Bool} {s : ByteArray} {k : Nat} (h : k ≤ s.size) : runEnd p s k ≤ s.size := (runEnd_spec p s _ k (Nat.le_refl _)).2.1 h
theorem runEnd_in {p : Int → Bool} {s : ByteArray} {k : Nat} (j : Nat) (h1 : k ≤ j) (h2 : j < runEnd p s k) : p (PlainAid.bt s j) = true := (runEnd_spec p s _ k (Nat.le_refl _)).2.2.1 j h1 h2
theorem runEnd_at {p : Int → Bool} {s : ByteArray} {k : Nat} (h : runEnd p s k < s.size) : p (PlainAid.bt s (runEnd p s k)) = false := (runEnd_spec p s _ k (Nat.le_refl _)).2.2.2 h
theorem runEnd_all {p : Int → Bool} {s : ByteArray} : decide (runEnd p s 0 = s.size) = allB p s := by
  by_cases h : runEnd p s 0 = s.size
  · rw [allB_true fun i hi => runEnd_in i (Nat.zero_le _) (by omega)]
    simpa using h
  · have := runEnd_le (p := p) (Nat.zero_le s.size)
    rw [allB_false (runEnd p s 0) (by omega) (runEnd_at (by omega))]
    simpa using h

/-- The end of the longest name at an offset. -/
def nameEnd (s : ByteArray) (k : Nat) : Nat := if k < s.size ∧ letterB (PlainAid.bt s k) = true then runEnd contB s k else k
theorem nameEnd_no {s : ByteArray} {k : Nat} (h : k < s.size → letterB (PlainAid.bt s k) = false) : nameEnd s k = k := by
  unfold nameEnd
  rw [if_neg]
  rintro ⟨h1, h2⟩
  rw [h h1] at h2
  cases h2
theorem nameEnd_yes {s : ByteArray} {k : Nat} (h : k < s.size) (h2 : letterB (PlainAid.bt s k) = true) : nameEnd s k = runEnd contB s k := by
  unfold nameEnd
  rw [if_pos ⟨h, h2⟩]
theorem nameEnd_le {s : ByteArray} {k : Nat} (h : k ≤ s.size) : nameEnd s k ≤ s.size := by
  unfold nameEnd
  split
  · exact runEnd_le h
  · exact h

/-- What IsName answers. -/
def isNameB (s : ByteArray) : Bool := decide (0 < s.size ∧ s.size ≤ 12) && letterB (PlainAid.bt s 0) && allB contB s
theorem isName_end {s : ByteArray} (h : 0 < s.size) (h2 : s.size ≤ 12) : isNameB s = decide (nameEnd s 0 = s.size) := by
  unfold isNameB
  have e : decide (0 < s.size ∧ s.size ≤ 12) = true := by simp [h, h2]
  rw [e, Bool.true_and]
  cases hl : letterB (PlainAid.bt s 0) with
  | true =>
    rw [nameEnd_yes h hl, runEnd_all]
    rfl
  | false =>
    rw [nameEnd_no fun _ => hl]
    have : ¬ 0 = s.size := by omega
    simp [this]
theorem isName_out {s : ByteArray} (h : s.size = 0 ∨ 12 < s.size) : isNameB s = false := by
  unfold isNameB
  have e : decide (0 < s.size ∧ s.size ≤ 12) = false := by simp; omega
  rw [e]
  rfl
theorem isName_in {s : ByteArray} (h : 0 < s.size) (h2 : s.size ≤ 12) : isNameB s = (letterB (PlainAid.bt s 0) && allB contB s) := by
  unfold isNameB
  have e : decide (0 < s.size ∧ s.size ≤ 12) = true := by simp [h, h2]
  rw [e, Bool.true_and]
end Go.Proofs.YtflhjcdabbomiaaDoor

namespace Go.Proofs.YtflhjcdabbomiaaDoor
open Go Go.RowKit

theorem l02Letter_any (c : Int) (W : World) (h0 : 0 ≤ c) (h1 : c ≤ 255) :
    Calls Tryd.prog 69 #[.int .u8 c] W fun e w' => e = .returned (.bool (letterB c)) ∧ W = w' := by
  rw [letterB_range h0 h1]
  by_cases a : 65 ≤ c
  · have da : decide (65 ≤ c) = true := by simp [a]
    by_cases b : c ≤ 90
    · have db : decide (c ≤ 90) = true := by simp [b]
      have e : (decide (65 ≤ c ∧ c ≤ 90) || decide (97 ≤ c ∧ c ≤ 122)) = true := by simp [a, b]
      rw [e]
      go_enter Tryd.func69, Tryd.ntmps69
      go_wp2
      all_goals go_ret
      all_goals exact ⟨rfl, rfl⟩
    · have db : decide (c ≤ 90) = false := by simp; omega
      by_cases x : 97 ≤ c
      · have dx : decide (97 ≤ c) = true := by simp [x]
        by_cases y : c ≤ 122
        · have dy : decide (c ≤ 122) = true := by simp [y]
          have e : (decide (65 ≤ c ∧ c ≤ 90) || decide (97 ≤ c ∧ c ≤ 122)) = true := by simp [x, y]
          rw [e]
          go_enter Tryd.func69, Tryd.ntmps69
          go_wp2
          all_goals go_ret
          all_goals exact ⟨rfl, rfl⟩
        · have dy : decide (c ≤ 122) = false := by simp; omega
          have e : (decide (65 ≤ c ∧ c ≤ 90) || decide (97 ≤ c ∧ c ≤ 122)) = false := by simp; omega
          rw [e]
          go_enter Tryd.func69, Tryd.ntmps69
          go_wp2
          all_goals go_ret
          all_goals exact ⟨rfl, rfl⟩
      · have dx : decide (97 ≤ c) = false := by simp; omega
        have e : (decide (65 ≤ c ∧ c ≤ 90) || decide (97 ≤ c ∧ c ≤ 122)) = false := by simp; omega
        rw [e]
        go_enter Tryd.func69, Tryd.ntmps69
        go_wp2
        all_goals go_ret
        all_goals exact ⟨rfl, rfl⟩
  · have da : decide (65 ≤ c) = false := by simp; omega
    have dx : decide (97 ≤ c) = false := by simp; omega
    have e : (decide (65 ≤ c ∧ c ≤ 90) || decide (97 ≤ c ∧ c ≤ 122)) = false := by simp; omega
    rw [e]
    go_enter Tryd.func69, Tryd.ntmps69
    go_wp2
    all_goals go_ret
    all_goals exact ⟨rfl, rfl⟩

theorem l02Digit_any (c : Int) (W : World) (h0 : 0 ≤ c) (h1 : c ≤ 255) :
    Calls Tryd.prog 70 #[.int .u8 c] W fun e w' => e = .returned (.bool (digitB c)) ∧ W = w' := by
  rw [digitB_range h0 h1]
  by_cases a : 48 ≤ c
  · have da : decide (48 ≤ c) = true := by simp [a]
    by_cases b : c ≤ 57
    · have db : decide (c ≤ 57) = true := by simp [b]
      have e : decide (48 ≤ c ∧ c ≤ 57) = true := by simp [a, b]
      rw [e]
      go_enter Tryd.func70, Tryd.ntmps70
      go_wp2
      all_goals go_ret
      all_goals exact ⟨rfl, rfl⟩
    · have db : decide (c ≤ 57) = false := by simp; omega
      have e : decide (48 ≤ c ∧ c ≤ 57) = false := by simp; omega
      rw [e]
      go_enter Tryd.func70, Tryd.ntmps70
      go_wp2
      all_goals go_ret
      all_goals exact ⟨rfl, rfl⟩
  · have da : decide (48 ≤ c) = false := by simp; omega
    have e : decide (48 ≤ c ∧ c ≤ 57) = false := by simp; omega
    rw [e]
    go_enter Tryd.func70, Tryd.ntmps70
    go_wp2
    all_goals go_ret
    all_goals exact ⟨rfl, rfl⟩

theorem nat_ret {a b : Nat} (h : a = b) : Ending.returned (.int .i64 (a : Int)) = .returned (.int .i64 (b : Int)) := by rw [h]

set_option maxHeartbeats 1000000 in
theorem l02NameEnd_any (s : ByteArray) (k : Nat) (W : World) (hs : s.size ≤ maxLen) (hk : k ≤ s.size) :
    Calls Tryd.prog 48 #[.string s, .int .i64 k] W fun e w' => e = .returned (.int .i64 (nameEnd s k)) ∧ W = w' := by
  unfold maxLen at hs
  have hb := PlainAid.get_bt s
  by_cases hlt : k < s.size
  · have b0 := PlainAid.bt_nonneg s k
    have b1 := PlainAid.bt_le s k
    have dl : decide (s.size ≤ k) = false := by simp; omega
    obtain ⟨p, hp⟩ : ∃ p, letterB (PlainAid.bt s k) = p := ⟨_, rfl⟩
    have HP := Lib.hid hp
    cases p
    · have HE : Hid (nameEnd s k = k) := nameEnd_no fun _ => hp
      clear hp
      go_enter Tryd.func48, Tryd.ntmps48
      go_wp2_with (go_at_call 69; refine (l02Letter_any _ _ (by omega) (by omega)).mono ?_; rintro e w' ⟨rfl, rfl⟩; rw [HP.out])
      go_ret
      exact ⟨nat_ret HE.out.symm, rfl⟩
    · have HE : Hid (nameEnd s k = runEnd contB s k) := nameEnd_yes hlt hp
      clear hp
      go_enter Tryd.func48, Tryd.ntmps48
      go_wp2_with (go_at_call 69; refine (l02Letter_any _ _ (by omega) (by omega)).mono ?_; rintro e w' ⟨rfl, rfl⟩; rw [HP.out])
      go_loop [1] (fun i => ∃ j : Nat, j ≤ s.size ∧ i = .int .i64 j ∧ Hid (runEnd contB s k = runEnd contB s j)) (fun i => s.size - (intOf i).toNat)
      case atStart => exact ⟨k, hk, rfl, rfl⟩
      case round =>
        obtain ⟨j, hj, rfl, hE⟩ := hrel
        clear b0 b1 dl hlt
        by_cases hlt : j < s.size
        · have b0 := PlainAid.bt_nonneg s j
          have b1 := PlainAid.bt_le s j
          obtain ⟨x, hx⟩ : ∃ x, letterB (PlainAid.bt s j) = x := ⟨_, rfl⟩
          obtain ⟨y, hy⟩ : ∃ y, digitB (PlainAid.bt s j) = y := ⟨_, rfl⟩
          obtain ⟨z, hz⟩ : ∃ z, (PlainAid.bt s j == 95) = z := ⟨_, rfl⟩
          have hc : contB (PlainAid.bt s j) = (x || y || z) := by rw [contB_parts b0 b1, hx, hy, hz]
          have HX := Lib.hid hx
          have HY := Lib.hid hy
          have HC := Lib.hid hc
          clear hx hy hc
          cases x <;> cases y <;> cases z
          all_goals
            go_wp2_with (first
              | (go_at_call 69; refine (l02Letter_any _ _ (by omega) (by omega)).mono ?_; rintro e w' ⟨rfl, rfl⟩; rw [HX.out])
              | (go_at_call 70; refine (l02Digit_any _ _ (by omega) (by omega)).mono ?_; rintro e w' ⟨rfl, rfl⟩; rw [HY.out]))
          · have HS : Hid (runEnd contB s j = j) := runEnd_stop fun _ => HC.out
            go_ret
            exact ⟨nat_ret (by rw [HE.out, hE.out, HS.out]), rfl⟩
          all_goals
            have HS : Hid (runEnd contB s j = runEnd contB s (j + 1)) := runEnd_step hlt HC.out
            go_round
            case rel => exact ⟨j + 1, by omega, by go_num, hE.out.trans HS.out⟩
            case measure => simp [intOf]; omega
        · have HS : Hid (runEnd contB s j = j) := runEnd_stop fun h => absurd h hlt
          go_wp2_with fail
          go_ret
          exact ⟨nat_ret (by rw [HE.out, hE.out, HS.out]), rfl⟩
  · have HE : Hid (nameEnd s k = k) := nameEnd_no fun h => absurd h hlt
    have dl : decide (s.size ≤ k) = true := by simp; omega
    go_enter Tryd.func48, Tryd.ntmps48
    go_wp2_with fail
    go_ret
    exact ⟨nat_ret HE.out.symm, rfl⟩

theorem l02NameEnd_zero (s : ByteArray) (W : World) (hs : s.size ≤ maxLen) :
    Calls Tryd.prog 48 #[.string s, .int .i64 0] W fun e w' => e = .returned (.int .i64 (nameEnd s 0)) ∧ W = w' := l02NameEnd_any s 0 W hs (Nat.zero_le _)

theorem spec_IsName_any (s : ByteArray) (W : World) (hs : s.size ≤ maxLen) :
    Calls Tryd.prog 25 #[.string s] W fun e w' => e = .returned (.bool (isNameB s)) ∧ W = w' := by
  have HS : Hid (s.size ≤ maxLen) := hs
  unfold maxLen at hs
  by_cases h0 : s.size = 0
  · rw [isName_out (.inl h0)]
    have e1 := nil_of_size h0
    have e2 := isEmpty_of_size h0
    go_enter Tryd.func25, Tryd.ntmps25
    go_wp2_with fail
    go_ret
    exact ⟨rfl, rfl⟩
  have hp : 0 < s.size := by omega
  have e1 := ne_nil_of_size hp
  have e2 := not_isEmpty_of_size hp
  by_cases h1 : s.size ≤ 12
  · rw [isName_end hp h1]
    have d1 : decide ((s.size : Int) ≤ 12) = true := by simp; omega
    have hr : ((nameEnd s 0 : Int) == (s.size : Int)) = decide (nameEnd s 0 = s.size) := by
      rw [Bool.eq_iff_iff]; simp; omega
    obtain ⟨x, hx⟩ : ∃ x, decide (nameEnd s 0 = s.size) = x := ⟨_, rfl⟩
    rw [hx] at hr ⊢
    clear hx h0
    have hn : (nameEnd s 0 : Int) ≤ s.size := by
      have := nameEnd_le (Nat.zero_le s.size)
      omega
    cases x
    all_goals
      go_enter Tryd.func25, Tryd.ntmps25
      go_wp2_with (go_at_call 48; refine (l02NameEnd_zero _ _ HS.out).mono ?_; rintro e w' ⟨rfl, rfl⟩)
      go_ret
      exact ⟨rfl, rfl⟩
  · rw [isName_out (.inr (by omega))]
    have d1 : decide ((s.size : Int) ≤ 12) = false := by simp; omega
    go_enter Tryd.func25, Tryd.ntmps25
    go_wp2_with fail
    go_ret
    exact ⟨rfl, rfl⟩

theorem continuesName_any (r : Int) (W : World) (hT : Classes W) :
    Calls Tryd.prog 60 #[.int .i32 r] W fun e w' => e = .returned (.bool (contB r)) ∧ W = w' := by
  unfold contB
  have HT : Hid (Classes W) := hT
  clear hT
  obtain ⟨c, hc⟩ : ∃ c, cls r = c := ⟨_, rfl⟩
  have HC := Lib.hid hc
  rw [hc]
  clear hc
  by_cases a : c = 1
  · subst a
    go_enter Tryd.func60, Tryd.ntmps60
    go_wp2_with (go_at_call 59; refine (classOf_any _ _ HT.out).mono ?_; rintro e w' ⟨rfl, rfl⟩; rw [HC.out])
    go_ret
    exact ⟨rfl, rfl⟩
  by_cases b : c = 2
  · subst b
    go_enter Tryd.func60, Tryd.ntmps60
    go_wp2_with (go_at_call 59; refine (classOf_any _ _ HT.out).mono ?_; rintro e w' ⟨rfl, rfl⟩; rw [HC.out])
    go_ret
    exact ⟨rfl, rfl⟩
  by_cases d : c = 11
  · subst d
    go_enter Tryd.func60, Tryd.ntmps60
    go_wp2_with (go_at_call 59; refine (classOf_any _ _ HT.out).mono ?_; rintro e w' ⟨rfl, rfl⟩; rw [HC.out])
    go_ret
    exact ⟨rfl, rfl⟩
  have ha : (c == 1) = false := by simpa using a
  have hb : (c == 2) = false := by simpa using b
  have hd : (c == 11) = false := by simpa using d
  have hz : (c == 1 || c == 2 || c == 11) = false := by rw [ha, hb, hd]; rfl
  rw [hz]
  clear a b d hz
  go_enter Tryd.func60, Tryd.ntmps60
  go_wp2_with (go_at_call 59; refine (classOf_any _ _ HT.out).mono ?_; rintro e w' ⟨rfl, rfl⟩; rw [HC.out])
  go_ret
  exact ⟨rfl, rfl⟩

theorem impl_IsName_any (s : ByteArray) (W : World) (hs : s.size ≤ maxLen) (hT : Classes W) :
    Calls Tryd.prog 31 #[.string s] W fun e w' => e = .returned (.bool (isNameB s)) ∧ Below W.heap.size W w' := by
  unfold maxLen at hs
  have HT : Hid (Classes W) := hT
  have HG : Hid (0 < W.heap.size) := heap_pos (hT.at_ 0 (by decide))
  have hb := PlainAid.get_bt s
  clear hT
  by_cases h0 : s.size = 0
  · rw [isName_out (.inl h0)]
    have e1 := nil_of_size h0
    have e2 := isEmpty_of_size h0
    go_enter Tryd.func31, Tryd.ntmps31
    go_wp2_with fail
    go_ret
    exact ⟨rfl, Below.refl _ _⟩
  have hp : 0 < s.size := by omega
  have e1 := ne_nil_of_size hp
  have e2 := not_isEmpty_of_size hp
  by_cases h1 : s.size ≤ 12
  · rw [isName_in hp h1]
    have d1 : decide (12 < (s.size : Int)) = false := by simp; omega
    have b0 := PlainAid.bt_nonneg s 0
    have b1 := PlainAid.bt_le s 0
    obtain ⟨x, hx⟩ : ∃ x, letterB (PlainAid.bt s 0) = x := ⟨_, rfl⟩
    rw [hx]
    cases x
    · have hx' : (cls (PlainAid.bt s 0) == 1) = false := hx
      have hx2 : (cls (PlainAid.bt s 0) != 1) = true := by rw [bne, hx']; rfl
      clear hx h0
      go_enter Tryd.func31, Tryd.ntmps31
      go_wp2_with (go_at_call 59; refine (classOf_any _ _ HT.out).mono ?_; rintro e w' ⟨rfl, rfl⟩)
      go_ret
      exact ⟨rfl, Below.refl _ _⟩
    · have hx' : (cls (PlainAid.bt s 0) == 1) = true := hx
      have hx2 : (cls (PlainAid.bt s 0) != 1) = false := by rw [bne, hx']; rfl
      clear hx h0
      go_enter Tryd.func31, Tryd.ntmps31
      go_wp2_with (go_at_call 59; refine (classOf_any _ _ HT.out).mono ?_; rintro e w' ⟨rfl, rfl⟩)
      clear hx' hx2 b0 b1 hb
      go_loopw [] (fun w' => ∃ k : Nat, k ≤ s.size ∧ w' = W.iter s k ∧ Hid (∀ j, j < k → contB (PlainAid.bt s j) = true)) (fun w' => s.size - w'.iterPos W.heap.size)
      case atStart => exact ⟨0, Nat.zero_le _, rfl, fun _ h => absurd h (by omega)⟩
      case round =>
        obtain ⟨k, hk, rfl, hq⟩ := hrel
        have HT2 : Hid (Classes (W.iter s k)) := HT.out.below (below_iter (Below.refl _ _) (Nat.le_refl _) _ _) HG.out
        by_cases hlt : k < s.size
        · have b0 := PlainAid.bt_nonneg s k
          have b1 := PlainAid.bt_le s k
          have hb := PlainAid.get_bt s k hlt
          by_cases h1 : contB (PlainAid.bt s k) = true
          · have HB : Hid (contB (PlainAid.bt s k) = true) := h1
            have hsmall : PlainAid.bt s k < 128 := by
              by_cases hh : 128 ≤ PlainAid.bt s k
              · rw [contB_high hh] at h1
                cases h1
              · omega
            have hd := decode_ascii s k hlt (by omega)
            have hnx : ∀ ty, (Instr.next (.pointer (some ⟨W.heap.size, 0, none⟩)) true ty).run Tryd.prog (W.iter s k) = .ok (.tuple #[.bool true, .int .i64 k, .int .i32 (PlainAid.bt s k)]) (W.iter s (k + 1)) := fun ty => by
              rw [run_next_any W s k ty hlt, hd]
              simp only [hb]
            clear hd h1 hb hsmall
            have HT3 : Hid (Classes (W.iter s (k + 1))) := HT.out.below (below_iter (Below.refl _ _) (Nat.le_refl _) _ _) HG.out
            go_wp2_with (go_at_call 60; refine (continuesName_any _ _ HT3.out).mono ?_; rintro e w' ⟨rfl, rfl⟩; rw [HB.out])
            go_roundw
            case rel => exact ⟨k + 1, by omega, rfl, upto_succ hq.out HB.out⟩
            case measure => simp; omega
          · have h2 : contB (PlainAid.bt s k) = false := by simpa using h1
            have HF : Hid (allB contB s = false) := allB_false k hlt h2
            have hbad : contB ((Utf8.decode s k).1 : Int) = false := by
              by_cases ha : (s[k]'hlt).toNat < 128
              · rw [decode_ascii s k hlt ha]
                simp only [hb]
                exact h2
              · exact contB_high (by have := (decode_high s k hlt (by omega)).1; omega)
            have hnx : ∀ ty, (Instr.next (.pointer (some ⟨W.heap.size, 0, none⟩)) true ty).run Tryd.prog (W.iter s k) = _ := fun ty => run_next_any W s k ty hlt
            generalize (Utf8.decode s k).1 = r at hbad hnx
            generalize (Utf8.decode s k).2 = u at hnx
            have HB := Lib.hid hbad
            have HT3 : Hid (Classes (W.iter s (k + u))) := HT.out.below (below_iter (Below.refl _ _) (Nat.le_refl _) _ _) HG.out
            clear hbad h1 h2 hb
            go_wp2_with (go_at_call 60; refine (continuesName_any _ _ HT3.out).mono ?_; rintro e w' ⟨rfl, rfl⟩; rw [HB.out])
            go_ret
            exact ⟨bool_ret (by rw [HF.out]; rfl), below_iter (Below.refl _ _) (Nat.le_refl _) _ _⟩
        · obtain rfl : k = s.size := by omega
          have HA : Hid (allB contB s = true) := allB_true hq.out
          have hnx : ∀ ty, (Instr.next (.pointer (some ⟨W.heap.size, 0, none⟩)) true ty).run Tryd.prog (W.iter s s.size) = _ := fun ty => run_next_end W s s.size ty hlt
          go_wp2_with fail
          go_ret
          exact ⟨bool_ret (by rw [HA.out]; rfl), below_iter (Below.refl _ _) (Nat.le_refl _) _ _⟩
  · rw [isName_out (.inr (by omega))]
    have d1 : decide (12 < (s.size : Int)) = true := by simp; omega
    go_enter Tryd.func31, Tryd.ntmps31
    go_wp2_with fail
    go_ret
    exact ⟨rfl, Below.refl _ _⟩
end Go.Proofs.YtflhjcdabbomiaaDoor

namespace Go.Proofs.YtflhjcdabbomiaaDoor
open Go Go.RowKit

/-- Where x stands first in a list, or -1. -/
def AtP (xs : List St) (x : St) (f : Int) : Prop := (∃ k : Nat, xs[k]? = some x ∧ (∀ j, j < k → xs[j]? ≠ some x) ∧ f = (k : Int)) ∨ ((∀ j : Nat, xs[j]? ≠ some x) ∧ f = -1)
theorem AtP.uniq {xs : List St} {x : St} {f g : Int} (h : AtP xs x f) (h' : AtP xs x g) : f = g := by
  rcases h with ⟨k, h1, h2, rfl⟩ | ⟨h1, rfl⟩
  · rcases h' with ⟨k', h1', h2', rfl⟩ | ⟨h1', _⟩
    · rcases Nat.lt_trichotomy k k' with h | h | h
      · exact absurd h1 (h2' k h)
      · rw [h]
      · exact absurd h1' (h2 k' h)
    · exact absurd h1 (h1' k)
  · rcases h' with ⟨k', h1', _, _⟩ | ⟨_, rfl⟩
    · exact absurd h1' (h1 k')
    · rfl
theorem AtP.ex (xs : List St) (x : St) : ∃ f, AtP xs x f := by
  by_cases h : ∃ k : Nat, xs[k]? = some x
  · have : ∀ n (k : Nat), k ≤ n → xs[k]? = some x → ∃ m : Nat, xs[m]? = some x ∧ ∀ j, j < m → xs[j]? ≠ some x := by
      intro n
      induction n with
      | zero => intro k hk hx; exact ⟨k, hx, fun j hj => by omega⟩
      | succ n ih =>
        intro k hk hx
        by_cases hh : ∃ j, j < k ∧ xs[j]? = some x
        · obtain ⟨j, hj, hxj⟩ := hh
          exact ih j (by omega) hxj
        · exact ⟨k, hx, fun j hj e => hh ⟨j, hj, e⟩⟩
    obtain ⟨k, hk⟩ := h
    obtain ⟨m, h1, h2⟩ := this k k (Nat.le_refl _) hk
    exact ⟨m, .inl ⟨m, h1, h2, rfl⟩⟩
  · exact ⟨-1, .inr ⟨fun j e => h ⟨j, e⟩, rfl⟩⟩
/-- All are names, and no two alike. -/
def OkNames (xs : List St) : Prop := ∀ (i : Nat) (x : St), xs[i]? = some x → isNameB x = true ∧ ∀ j, j < i → xs[j]? ≠ some x

theorem beq_bytes {a b : ByteArray} : (a.toList == b.toList) = true ↔ a = b := by
  rw [beq_iff_eq]
  exact ⟨fun h => WideShapes.bytes_inj (by rw [← ByteArray.toList_eq, ← ByteArray.toList_eq]; exact h), fun h => by rw [h]⟩

set_option maxHeartbeats 1000000 in
set_option maxRecDepth 100000 in
theorem l17At_any (A : Option Addr) (n c : Nat) (xs : List St) (x : St) (f : Int) (W : World) (ha : StI W W.heap.size A n xs) (hf : AtP xs x f) :
    Calls Tryd.prog 74 #[.slice A n c, .string x] W fun e w' => e = .returned (.int .i64 f) ∧ Below W.heap.size W w' := by
  have HA := Lib.hid ha
  have HF := Lib.hid hf
  have hn := ha.2.1
  unfold maxLen at hn
  clear ha hf
  go_enter Tryd.func74, Tryd.ntmps74
  go_wp2_with fail
  go_loopw [5] (fun i wr => ∃ k : Nat, k ≤ n ∧ i = .int .i64 k ∧ Hid (Below W.heap.size W wr) ∧ Hid (∀ (j : Nat), j < k → xs[j]? ≠ some x)) (fun i _ => n - (intOf i).toNat)
  case atStart => exact ⟨0, Nat.zero_le _, rfl, Below.refl _ _, Lib.hid (fun j hj => absurd hj (by omega))⟩
  case round =>
    obtain ⟨k, hk, rfl, HW, HV⟩ := hrel
    by_cases hlt : k < n
    · obtain ⟨b, off, y, rfl, hg, hy, h1, _⟩ := HA.out.at_ hlt
      have q1 := (HW.out.cell (p := ⟨b, off + k, none⟩) hg).trans h1
      have HY := Lib.hid hy
      have HS := Lib.hid (@beq_bytes y x)
      have b0 : (0 : Int) ≤ (k : Int) := by omega
      have b1 : (k : Int) < (n : Int) := by omega
      clear h1 hy hg
      obtain ⟨z, hz⟩ : ∃ z, (y.toList == x.toList) = z := ⟨_, rfl⟩
      have HZ := Lib.hid hz
      cases z
      · go_wp2_with fail
        go_roundw
        case rel =>
          refine ⟨k + 1, by omega, by go_num, HW.out, Lib.hid (fun j hj => ?_)⟩
          by_cases e : j = k
          · rw [e, HY.out]
            intro e2
            have h := HS.out.2 (Option.some.inj e2)
            rw [HZ.out] at h
            cases h
          · exact HV.out j (by omega)
        case measure => simp [intOf]; omega
      · have HE : Hid ((k : Int) = f) := by
          show _ = _
          refine AtP.uniq (.inl ⟨k, ?_, HV.out, rfl⟩) HF.out
          rw [HY.out, HS.out.1 HZ.out]
        go_wp2_with fail
        go_ret
        exact ⟨by rw [← HE.out]; rfl, HW.out⟩
    · have HE : Hid ((-1 : Int) = f) := by
        show _ = _
        refine AtP.uniq (.inr ⟨fun j => ?_, rfl⟩) HF.out
        by_cases e : j < n
        · exact HV.out j (by omega)
        · rw [List.getElem?_eq_none (by have := HA.out.1; omega)]
          exact fun h => by cases h
      go_wp2_with fail
      go_ret
      exact ⟨by rw [← HE.out]; rfl, HW.out⟩

set_option maxHeartbeats 1000000 in
set_option maxRecDepth 100000 in
theorem l18Names_any (A : Option Addr) (n c : Nat) (xs : List St) (W : World) (ha : StI W W.heap.size A n xs) :
    Calls Tryd.prog 68 #[.slice A n c] W fun e w' => e = .returned (.bool (tt (OkNames xs))) ∧ Below W.heap.size W w' := by
  obtain ⟨P, hP⟩ : ∃ P, tt (OkNames xs) = P := ⟨_, rfl⟩
  have HP := Lib.hid hP
  rw [hP]
  have HA := Lib.hid ha
  have hn := ha.2.1
  unfold maxLen at hn
  clear ha hP
  go_enter Tryd.func68, Tryd.ntmps68
  go_wp2_with fail
  go_loopw [3] (fun i wr => ∃ k : Nat, k ≤ n ∧ i = .int .i64 k ∧ Hid (Below W.heap.size W wr) ∧ Hid (∀ (i : Nat) (x : St), i < k → xs[i]? = some x → isNameB x = true ∧ ∀ j, j < i → xs[j]? ≠ some x)) (fun i _ => n - (intOf i).toNat)
  case atStart => exact ⟨0, Nat.zero_le _, rfl, Below.refl _ _, Lib.hid (fun j x hj => absurd hj (by omega))⟩
  case round =>
    obtain ⟨k, hk, rfl, HW, HV⟩ := hrel
    by_cases hlt : k < n
    · obtain ⟨b, off, y, hA, hg, hy, h1, hsz⟩ := HA.out.at_ hlt
      obtain ⟨f, hf⟩ := AtP.ex xs y
      have HFF := Lib.hid hf
      have HI := Lib.hid (HA.out.go HW.out)
      subst hA
      have q1 := (HW.out.cell (p := ⟨b, off + k, none⟩) hg).trans h1
      have HG : Hid (b < W.heap.size) := hg
      have H1 := Lib.hid h1
      have HY := Lib.hid hy
      have HM := Lib.hid hsz
      have b0 : (0 : Int) ≤ (k : Int) := by omega
      have b1 : (k : Int) < (n : Int) := by omega
      clear h1 hy hg hsz hf
      obtain ⟨z, hz⟩ : ∃ z, isNameB y = z := ⟨_, rfl⟩
      have HZ := Lib.hid hz
      clear hz
      cases z
      · have HF : Hid (P = false) := by
          show _ = _
          rw [← HP.out]
          refine tt_false fun e => ?_
          have := (e k y HY.out).1
          rw [HZ.out] at this
          cases this
        go_wp2_with (go_at_call 25; refine (spec_IsName_any y _ HM.out).mono ?_; rintro e w1 ⟨rfl, rfl⟩; rw [HZ.out])
        go_ret
        exact ⟨by rw [HF.out]; rfl, HW.out⟩
      · by_cases he : f = (k : Int)
        · have hne : (f != (k : Int)) = false := by rw [he]; simp
          have HV2 : Hid (∀ (i : Nat) (x : St), i < k + 1 → xs[i]? = some x → isNameB x = true ∧ ∀ j, j < i → xs[j]? ≠ some x) := by
            show ∀ _ _, _
            intro i x hi hx
            by_cases e : i = k
            · subst e
              rw [HY.out, Option.some.injEq] at hx
              subst hx
              refine ⟨HZ.out, ?_⟩
              rcases HFF.out with ⟨q, _, h2, h3⟩ | ⟨_, h3⟩
              · obtain rfl : q = i := by omega
                exact h2
              · omega
            · exact HV.out i x (by omega) hx
          have HE := Lib.hid he
          clear he
          go_wp2_with (first
            | (go_at_call 25; refine (spec_IsName_any y _ HM.out).mono ?_; rintro e w1 ⟨rfl, rfl⟩; rw [HZ.out])
            | (go_at_call 74; refine (l17At_any _ n c xs y f _ HI.out HFF.out).mono ?_; rintro e w2 ⟨rfl, hb⟩; have HW2 : Hid (Below W.heap.size W w2) := HW.out.trans (hb.mono HW.out.size); clear hb))
          go_roundw
          case rel => exact ⟨k + 1, by omega, by go_num, HW2, HV2⟩
          case measure => simp [intOf]; omega
        · have hne : (f != (k : Int)) = true := by simp [bne, he]
          have HF : Hid (P = false) := by
            show _ = _
            rw [← HP.out]
            refine tt_false fun e => he ?_
            exact AtP.uniq HFF.out (.inl ⟨k, HY.out, (e k y HY.out).2, rfl⟩)
          go_wp2_with (first
            | (go_at_call 25; refine (spec_IsName_any y _ HM.out).mono ?_; rintro e w1 ⟨rfl, rfl⟩; rw [HZ.out])
            | (go_at_call 74; refine (l17At_any _ n c xs y f _ HI.out HFF.out).mono ?_; rintro e w2 ⟨rfl, hb⟩; have HW2 : Hid (Below W.heap.size W w2) := HW.out.trans (hb.mono HW.out.size); clear hb))
          go_ret
          exact ⟨by rw [HF.out]; rfl, HW2.out⟩
    · have HE : Hid (P = true) := by
        show _ = _
        rw [← HP.out]
        refine tt_true fun i x hx => HV.out i x ?_ hx
        have := (List.getElem?_eq_some_iff.1 hx).1
        have := HA.out.1
        omega
      go_wp2_with fail
      go_ret
      exact ⟨by rw [HE.out]; rfl, HW.out⟩
end Go.Proofs.YtflhjcdabbomiaaDoor

namespace Go.Proofs
open Go.Shelf
def Tryd.lays109_ren : Go.Shelf.Ren := ⟨fun | 109 => 110 | n => n, fun | 31 => 41 | 9 => 9 | 3 => 3 | 0 => 0 | 4 => 4 | n => n, fun | n => n⟩
theorem Tryd.lays109 : Go.Proofs.Lays.n109 Tryd.prog Tryd.lays109_ren := {
  mixed := by kernel_rfl
  f109 := Tryd.func110.trans (congrArg some (by kernel_rfl))
  t0 := Tryd.underlying0
  a0 := Tryd.isAgg0
  z0 := Tryd.sizeOf0
  v0 := Tryd.zeroValue0
  t3 := Tryd.underlying3
  a3 := Tryd.isAgg3
  z3 := Tryd.sizeOf3
  v3 := Tryd.zeroValue3
  t4 := Tryd.underlying4
  a4 := Tryd.isAgg4
  z4 := Tryd.sizeOf4
  v4 := Tryd.zeroValue4
  t9 := Tryd.underlying9
  a9 := Tryd.isAgg9
  z9 := Tryd.sizeOf9
  v9 := Tryd.zeroValue9
  t31 := Tryd.underlying41
  a31 := Tryd.isAgg41
  z31 := Tryd.sizeOf41
  v31 := Tryd.zeroValue41 }
open Go.Lib in
/-- slices.Index at []string: "Index returns the index of the first occurrence of v in s, or -1 if not present.": IT RETURNS 'Lib.idxOfS (the elements) v'; the world is as it was. 'zs': what the cells behind the slice's address hold (its spare capacity too, if you have it); 'zs.take n': its elements. (LAID: no walk: one application.) -/
theorem Tryd.slices_Index_string (b off n c : Nat) (zs : List ByteArray) (x : ByteArray) (w : World) (hz : n ≤ zs.length) (hbig : n ≤ 9223372036854775807) (hc : ∀ j, j < zs.length → w.cell? ⟨b, off + j, none⟩ = some (.string (zs.getD j ByteArray.empty))) :
    Calls Tryd.prog 110 #[.slice (some ⟨b, off, none⟩) n c, .string x] w fun e w' => e = .returned (.int .i64 (Lib.idxOfS (zs.take n) x)) ∧ w' = w := Any.slices_Index_string Tryd.lays109 b off n c zs x w hz hbig hc
open Go.Lib in
/-- The same at a slice of length 0, a nil one too: no cell is known, none is asked for. (LAID: no walk: one application.) -/
theorem Tryd.slices_Index_string_empty (a : Option Addr) (c : Nat) (x : ByteArray) (w : World) :
    Calls Tryd.prog 110 #[.slice a 0 c, .string x] w fun e w' => e = .returned (.int .i64 (Lib.idxOfS [] x)) ∧ w' = w := Any.slices_Index_string_empty Tryd.lays109 a c x w
def Tryd.lays110_ren : Go.Shelf.Ren := ⟨fun | 110 => 108 | 109 => 110 | n => n, fun | 31 => 41 | 9 => 9 | 4 => 4 | 3 => 3 | 0 => 0 | n => n, fun | n => n⟩
theorem Tryd.lays110 : Go.Proofs.Lays.n110 Tryd.prog Tryd.lays110_ren := {
  mixed := by kernel_rfl
  f109 := Tryd.func110.trans (congrArg some (by kernel_rfl))
  f110 := Tryd.func108.trans (congrArg some (by kernel_rfl))
  t0 := Tryd.underlying0
  a0 := Tryd.isAgg0
  z0 := Tryd.sizeOf0
  v0 := Tryd.zeroValue0
  t3 := Tryd.underlying3
  a3 := Tryd.isAgg3
  z3 := Tryd.sizeOf3
  v3 := Tryd.zeroValue3
  t4 := Tryd.underlying4
  a4 := Tryd.isAgg4
  z4 := Tryd.sizeOf4
  v4 := Tryd.zeroValue4
  t9 := Tryd.underlying9
  a9 := Tryd.isAgg9
  z9 := Tryd.sizeOf9
  v9 := Tryd.zeroValue9
  t31 := Tryd.underlying41
  a31 := Tryd.isAgg41
  z31 := Tryd.sizeOf41
  v31 := Tryd.zeroValue41 }
open Go.Lib in
/-- slices.Contains at []string: "Contains reports whether v is present in s.": IT RETURNS 'Lib.containsS (the elements) v', which is true just where v is among them ('Lib.containsS_iff'); the world is as it was. ITS CALLEE slices.Index IS MET BY ITS OWN CONTRACT OFF THE SHELF (lay that first): no loop is walked here. (LAID: no walk: one application.) -/
theorem Tryd.slices_Contains_string (b off n c : Nat) (zs : List ByteArray) (x : ByteArray) (w : World) (hz : n ≤ zs.length) (hbig : n ≤ 9223372036854775807) (hc : ∀ j, j < zs.length → w.cell? ⟨b, off + j, none⟩ = some (.string (zs.getD j ByteArray.empty))) :
    Calls Tryd.prog 108 #[.slice (some ⟨b, off, none⟩) n c, .string x] w fun e w' => e = .returned (.bool (Lib.containsS (zs.take n) x)) ∧ w' = w := Any.slices_Contains_string Tryd.lays110 b off n c zs x w hz hbig hc
open Go.Lib in
/-- The same at a slice of length 0, a nil one too. (LAID: no walk: one application.) -/
theorem Tryd.slices_Contains_string_empty (a : Option Addr) (c : Nat) (x : ByteArray) (w : World) :
    Calls Tryd.prog 108 #[.slice a 0 c, .string x] w fun e w' => e = .returned (.bool false) ∧ w' = w := Any.slices_Contains_string_empty Tryd.lays110 a c x w
end Go.Proofs

namespace Go.Proofs.YtflhjcdabbomiaaDoor
open Go Go.RowKit

set_option maxHeartbeats 2000000 in
set_option maxRecDepth 100000 in
theorem areDifferentNames_any (A : Option Addr) (n c : Nat) (xs : List St) (W : World) (hr : StI W W.heap.size A n xs) (hnc : n ≤ c) (hT : Classes W) :
    Calls Tryd.prog 106 #[.slice A n c] W fun e w' => e = .returned (.bool (tt (OkNames xs))) ∧ Below W.heap.size W w' := by
  have HR := Lib.hid hr
  have hn := hr.2.1
  have HN := Lib.hid hr.1
  have HTT := Lib.hid hT
  have hn2 : n ≤ 9223372036854775807 := by unfold maxLen at hn; omega
  unfold maxLen at hn
  clear hr hT
  obtain ⟨P, hP⟩ : ∃ P, tt (OkNames xs) = P := ⟨_, rfl⟩
  have HP := Lib.hid hP
  rw [hP]
  clear hP
  go_enter Tryd.func106, Tryd.ntmps106
  go_wp2_with fail
  go_loopw [7] (fun i wr => ∃ k : Nat, k ≤ n ∧ i = .int .i64 k ∧ Hid (Below W.heap.size W wr) ∧ Hid (∀ (i : Nat) (x : St), i < k → xs[i]? = some x → isNameB x = true ∧ ∀ j, j < i → xs[j]? ≠ some x)) (fun i _ => n - (intOf i).toNat)
  case atStart => exact ⟨0, Nat.zero_le _, rfl, Below.refl _ _, Lib.hid (fun i x hi => absurd hi (by omega))⟩
  case round =>
    obtain ⟨k, hk, rfl, HW, HV⟩ := hrel
    by_cases hlt : k < n
    · have b0 : (0 : Int) ≤ (k : Int) := by omega
      have b1 : (k : Int) < (n : Int) := by omega
      have b2 : (k : Int) ≤ (c : Int) := by omega
      have b3 : k ≤ c := by omega
      obtain ⟨b, off, x, rfl, hg, hx, q0, hxs⟩ := (HR.out.go HW.out).at_ hlt
      have HX := Lib.hid hx
      have HXS := Lib.hid hxs
      have HT1 : Hid (Classes wr) := HTT.out.below HW.out (heap_pos (HTT.out.at_ 0 (by decide)))
      have HCON : Hid (∀ w, Below wr.heap.size wr w → Calls Tryd.prog 108 #[.slice (some ⟨b, off, none⟩) k c, .string x] w fun e w' => e = .returned (.bool (Lib.containsS (xs.take k) x)) ∧ w' = w) :=
        fun w hb => Tryd.slices_Contains_string b off k c xs x w (by have := HN.out; omega) (by omega) (fun j hj => by
          obtain ⟨b', off', e, _, hc⟩ := ((HR.out.go HW.out).go hb).2.2 (by omega)
          simp only [Option.some.injEq, Addr.mk.injEq, and_true] at e
          obtain ⟨rfl, rfl⟩ := e
          have hj' : xs[j]? = some (xs.getD j ByteArray.empty) := by rw [List.getD_eq_getElem?_getD, List.getElem?_eq_getElem hj]; rfl
          exact (hc j _ hj').1)
      obtain ⟨z, hz⟩ : ∃ z, isNameB x = z := ⟨_, rfl⟩
      obtain ⟨y, hy⟩ : ∃ y, Lib.containsS (xs.take k) x = y := ⟨_, rfl⟩
      have HZ := Lib.hid hz
      have HY := Lib.hid hy
      rw [hy] at HCON
      clear hx hxs hg hz hy
      cases z
      · have HF : Hid (P = false) := by
          show _ = _
          rw [← HP.out]
          refine tt_false fun e => ?_
          have h := (e k x HX.out).1
          rw [HZ.out] at h
          cases h
        go_wp2_with (go_at_call 31; refine (impl_IsName_any x _ HXS.out HT1.out).mono ?_; rintro e w1 ⟨rfl, hb⟩; rw [HZ.out]; have HW1 : Hid (Below W.heap.size W w1) := HW.out.trans (hb.mono HW.out.size); clear hb)
        go_ret
        exact ⟨by rw [HF.out]; rfl, HW1.out⟩
      have HMEM := Lib.hid (Lib.containsS_iff (xs.take k) x)
      cases y
      · have HV2 : Hid (∀ (i : Nat) (x : St), i < k + 1 → xs[i]? = some x → isNameB x = true ∧ ∀ j, j < i → xs[j]? ≠ some x) := by
          show ∀ _ _, _
          intro i u hi hu
          by_cases e : i = k
          · subst e
            rw [HX.out, Option.some.injEq] at hu
            subst hu
            refine ⟨HZ.out, fun j hj e2 => ?_⟩
            have hmem : x ∈ xs.take i := by
              rw [List.mem_iff_getElem?]
              exact ⟨j, by rw [List.getElem?_take, if_pos hj]; exact e2⟩
            have h := HMEM.out.2 hmem
            rw [HY.out] at h
            cases h
          · exact HV.out i u (by omega) hu
        go_wp2_with (first
          | (go_at_call 31; refine (impl_IsName_any x _ HXS.out HT1.out).mono ?_; rintro e w1 ⟨rfl, hb⟩; rw [HZ.out]; have HW1 : Hid (Below W.heap.size W w1) := HW.out.trans (hb.mono HW.out.size); have HCC := Lib.hid (HCON.out _ hb); clear hb)
          | (go_at_call 108; have HQ := HCC.out; refine Calls.mono HQ ?_; clear HQ; rintro e w2 ⟨rfl, rfl⟩))
        go_roundw
        case rel => exact ⟨k + 1, by omega, by go_num, HW1, HV2⟩
        case measure => simp [intOf]; omega
      · have HF : Hid (P = false) := by
          show _ = _
          rw [← HP.out]
          refine tt_false fun e => ?_
          have hmem := HMEM.out.1 HY.out
          obtain ⟨j, hj⟩ := List.mem_iff_getElem?.1 hmem
          rw [List.getElem?_take] at hj
          split at hj
          · rename_i hjk
            exact (e k x HX.out).2 j hjk hj
          · cases hj
        go_wp2_with (first
          | (go_at_call 31; refine (impl_IsName_any x _ HXS.out HT1.out).mono ?_; rintro e w1 ⟨rfl, hb⟩; rw [HZ.out]; have HW1 : Hid (Below W.heap.size W w1) := HW.out.trans (hb.mono HW.out.size); have HCC := Lib.hid (HCON.out _ hb); clear hb)
          | (go_at_call 108; have HQ := HCC.out; refine Calls.mono HQ ?_; clear HQ; rintro e w2 ⟨rfl, rfl⟩))
        go_ret
        exact ⟨by rw [HF.out]; rfl, HW1.out⟩
    · have HE : Hid (P = true) := by
        show _ = _
        rw [← HP.out]
        refine tt_true fun i x hx => HV.out i x ?_ hx
        have := (List.getElem?_eq_some_iff.1 hx).1
        have := HN.out
        omega
      go_wp2_with fail
      go_ret
      exact ⟨by rw [HE.out]; rfl, HW.out⟩
end Go.Proofs.YtflhjcdabbomiaaDoor

namespace Go.Proofs.YtflhjcdabbomiaaDoor
open Go Go.RowKit

section
variable {P : Program} (w : World)
theorem run_append_src (t ty : TypeId) (base : Nat) (e : TypeId) (i : TypeInfo) (z : Value) (size bytes : Nat) (ht : P.underlying t = some (.slice e)) (hi : P.info? e = some i) (hz : i.zero = some z)
    (hsize : i.size = size) (hby : i.bytes = bytes) (hzs : z.cells.size = size) (hsz : 0 < size)
    (v : Value) (n : Nat) (xs : List Value) (hown : w.ownsRow base e size v n xs)
    (A : Option Addr) (m c : Nat) (news : List Value) (hl : news.length = m * size) (hnews : 0 < m → ∃ ad, A = some ad ∧ ∀ j u, news[j]? = some u → w.cell? (ad.add j) = some u) (h1 : ∀ u ∈ news, u.oneCell' = true)
    (h63 : n + m ≤ maxLen) (hbytes : (n + m) * bytes ≤ 140737488355328) (hbase : base ≤ w.heap.size) :
    ∃ v' w', (Builtin.append_ #[t, t] ty #[v, .slice A m c]).run P w = .ok v' w' ∧ w'.ownsRow base e size v' (n + m) (xs ++ news) ∧ w.grownBy w' v.ownBlock := by
  cases A with
  | none =>
    have hm : m = 0 := by
      rcases Nat.eq_zero_or_pos m with h | h
      · exact h
      · obtain ⟨ad, e, _⟩ := hnews h
        cases e
    subst hm
    have hnil : news = [] := List.length_eq_zero_iff.1 (by simpa using hl)
    subst hnil
    refine ⟨v, w, ?_, by simpa using hown, ⟨rfl, rfl, rfl, Nat.le_refl _, fun _ _ _ => rfl⟩⟩
    rcases hown.2 with ⟨rfl, rfl⟩ | ⟨g, cap, cur, rfl, _, _, hnc, _⟩
    · simp [Builtin.append_, run_underlying ht, sizeOf, typeInfo, hi, Builtin.lenOf, Builtin.firstCells]
    · simp [Builtin.append_, run_underlying ht, sizeOf, typeInfo, hi, Builtin.lenOf, Builtin.firstCells, hnc, storeCells]
  | some ad =>
    obtain ⟨v', w', hr, h2, h3, _, _⟩ := run_append_own_at (P := P) w base t ty e i z size bytes ht hi hz hsize hby hzs hsz v n xs hown ad m c news hl (fun j u hu => by
      have hm : 0 < m := by
        rcases Nat.eq_zero_or_pos m with h | h
        · subst h
          have hnil : news = [] := List.length_eq_zero_iff.1 (by simpa using hl)
          subst hnil
          simp at hu
        · exact h
      obtain ⟨ad', e', h⟩ := hnews hm
      cases e'
      exact h j u hu) h1 h63 hbytes hbase
    exact ⟨v', w', hr, h2, h3⟩

theorem wp_append_src {o : Oper} {a : Act} {K : Act → World → Prop} {Q : Exit → Act → World → Prop} (s x : Operand) (t : TypeId)
    (ho : o.op = .call { callee := .builtin .append, args := #[s, x], argTypes := #[t, t] })
    (base : Nat) (e : TypeId) (i : TypeInfo) (z : Value) (size bytes : Nat) (ht : P.underlying t = some (.slice e)) (hi : P.info? e = some i) (hz : i.zero = some z)
    (hsize : i.size = size) (hby : i.bytes = bytes) (hzs : z.cells.size = size) (hsz : 0 < size)
    (v : Value) (n : Nat) (xs : List Value) (hs : a.eval s = v) (hown : w.ownsRow base e size v n xs)
    (A : Option Addr) (m c : Nat) (news : List Value) (hx : a.eval x = .slice A m c) (hl : news.length = m * size) (hnews : 0 < m → ∃ ad, A = some ad ∧ ∀ j u, news[j]? = some u → w.cell? (ad.add j) = some u) (h1 : ∀ u ∈ news, u.oneCell' = true)
    (h63 : n + m ≤ maxLen) (hbytes : (n + m) * bytes ≤ 140737488355328) (hbase : base ≤ w.heap.size)
    (h : ∀ v' w', w'.ownsRow base e size v' (n + m) (xs ++ news) → w.grownBy w' v.ownBlock → K (a.put o.dst v') w') : o.wp P a w K Q := by
  obtain ⟨v', w', hr, h2, h3⟩ := run_append_src (P := P) w t o.type base e i z size bytes ht hi hz hsize hby hzs hsz v n xs hown A m c news hl hnews h1 h63 hbytes hbase
  unfold Oper.wp execOp
  simp only [ho, resolve, invoke, builtin, Sem.run_bind, Sem.run_pure, Result.andThen_ok, List.map_toArray, List.map_cons, List.map_nil, hs, hx, hr]
  exact h v' w' h2 h3

/-- At the list of a plain region. -/
theorem wpList_append_src {ops : Array Oper} {rest : List Oper} {o : Oper} {a : Act} {Q : Exit → Act → World → Prop} (hgd : o.guard = none) (s x : Operand) (t : TypeId)
    (ho : o.op = .call { callee := .builtin .append, args := #[s, x], argTypes := #[t, t] })
    (base : Nat) (e : TypeId) (i : TypeInfo) (z : Value) (size bytes : Nat) (ht : P.underlying t = some (.slice e)) (hi : P.info? e = some i) (hz : i.zero = some z)
    (hsize : i.size = size) (hby : i.bytes = bytes) (hzs : z.cells.size = size) (hsz : 0 < size)
    (v : Value) (n : Nat) (xs : List Value) (hs : a.eval s = v) (hown : w.ownsRow base e size v n xs)
    (A : Option Addr) (m c : Nat) (news : List Value) (hx : a.eval x = .slice A m c) (hl : news.length = m * size) (hnews : 0 < m → ∃ ad, A = some ad ∧ ∀ j u, news[j]? = some u → w.cell? (ad.add j) = some u) (h1 : ∀ u ∈ news, u.oneCell' = true)
    (h63 : n + m ≤ maxLen) (hbytes : (n + m) * bytes ≤ 140737488355328) (hbase : base ≤ w.heap.size)
    (h : ∀ v' w', w'.ownsRow base e size v' (n + m) (xs ++ news) → w.grownBy w' v.ownBlock → wpList P ops Q rest (a.put o.dst v') w') : wpList P ops Q (o :: rest) a w :=
  wpList_plain hgd fun _ hK => wp_append_src w s x t ho base e i z size bytes ht hi hz hsize hby hzs hsz v n xs hs hown A m c news hx hl hnews h1 h63 hbytes hbase fun v' w' h2 h3 => hK _ _ (h v' w' h2 h3)

/-- At a step of a region that draws. -/
theorem step_append_src {ops : Array Oper} {o : Oper} {a : Act} {K : Act → World → Prop} {Q : Exit → Act → World → Prop} {E : Prop} (hgd : o.guard = none) (s x : Operand) (t : TypeId)
    (ho : o.op = .call { callee := .builtin .append, args := #[s, x], argTypes := #[t, t] })
    (base : Nat) (e : TypeId) (i : TypeInfo) (z : Value) (size bytes : Nat) (ht : P.underlying t = some (.slice e)) (hi : P.info? e = some i) (hz : i.zero = some z)
    (hsize : i.size = size) (hby : i.bytes = bytes) (hzs : z.cells.size = size) (hsz : 0 < size)
    (v : Value) (n : Nat) (xs : List Value) (hs : a.eval s = v) (hown : w.ownsRow base e size v n xs)
    (A : Option Addr) (m c : Nat) (news : List Value) (hx : a.eval x = .slice A m c) (hl : news.length = m * size) (hnews : 0 < m → ∃ ad, A = some ad ∧ ∀ j u, news[j]? = some u → w.cell? (ad.add j) = some u) (h1 : ∀ u ∈ news, u.oneCell' = true)
    (h63 : n + m ≤ maxLen) (hbytes : (n + m) * bytes ≤ 140737488355328) (hbase : base ≤ w.heap.size)
    (h : ∀ v' w', w'.ownsRow base e size v' (n + m) (xs ++ news) → w.grownBy w' v.ownBlock → K (a.put o.dst v') w') :
    if Region.wanted o (yielded ops a.tmps) = true then Oper.wp P o a w K Q else E := by
  have hw : Region.wanted o (yielded ops a.tmps) = true := by simp [Region.wanted, hgd]
  rw [if_pos hw]
  exact wp_append_src w s x t ho base e i z size bytes ht hi hz hsize hby hzs hsz v n xs hs hown A m c news hx hl hnews h1 h63 hbytes hbase h
end

/-- Strings as values. -/
def valsSt (xs : List St) : List Value := xs.map Value.string
theorem valsSt_append (xs ys : List St) : valsSt xs ++ valsSt ys = valsSt (xs ++ ys) := by simp [valsSt]
theorem valsSt_len (xs : List St) : (valsSt xs).length = xs.length := by simp [valsSt]
theorem valsSt_one (xs : List St) : ∀ u ∈ valsSt xs, u.oneCell' = true := by
  intro u hu
  simp only [valsSt, List.mem_map] at hu
  obtain ⟨x, _, rfl⟩ := hu
  rfl
theorem StI.src {w : World} {B n : Nat} {A : Option Addr} {xs : List St} (h : StI w B A n xs) : 0 < n → ∃ ad, A = some ad ∧ ∀ j u, (valsSt xs)[j]? = some u → w.cell? (ad.add j) = some u := by
  intro hn
  obtain ⟨b, off, e, _, hc⟩ := h.2.2 hn
  refine ⟨_, e, fun j u hu => ?_⟩
  simp only [valsSt, List.getElem?_map, Option.map_eq_some_iff] at hu
  obtain ⟨x, hx, rfl⟩ := hu
  rw [Addr.add_lit]
  exact (hc j x hx).1
/-- A row of strings of one's own reads as a slice. -/
theorem own_StI {w : World} {base n : Nat} {v : Value} {xs : List St} (h : w.ownsRow base 9 1 v n (valsSt xs)) (hs : ∀ (j : Nat) (x : St), xs[j]? = some x → ByteArray.size x ≤ maxLen) : ∃ A c, v = .slice A n c ∧ n ≤ c ∧ StI w w.heap.size A n xs := by
  have hl : xs.length = n := by have := h.1; rw [valsSt_len] at this; omega
  rcases h.2 with ⟨rfl, h0⟩ | ⟨g, cap, cur, rfl, hb, hh, hnc, hcm, hcs, ht⟩
  · subst h0
    obtain rfl : xs = [] := List.length_eq_zero_iff.1 hl
    exact ⟨none, 0, rfl, Nat.le_refl _, rfl, Nat.zero_le _, fun h => absurd h (by omega)⟩
  · have hlt : g < w.heap.size := by
      rcases Nat.lt_or_ge g w.heap.size with hlt | hge
      · exact hlt
      · rw [Array.getElem?_eq_none hge] at hh; cases hh
    refine ⟨_, cap, rfl, hnc, hl, by omega, fun _ => ⟨g, 0, rfl, hlt, fun j x hx => ⟨?_, hs j x hx⟩⟩⟩
    have hj : j < n := by have := (List.getElem?_eq_some_iff.1 hx).1; omega
    have h1 := congrArg (·[j]?) ht
    simp only [List.getElem?_take, Nat.mul_one, if_pos hj, valsSt, List.getElem?_map, hx, Option.map_some, Array.getElem?_toList] at h1
    simp [World.cell?, hh, h1]
theorem own_ge {w : World} {base n size : Nat} {e : TypeId} {v : Value} {xs : List Value} (h : w.ownsRow base e size v n xs) : ∀ b, v.ownBlock = some b → base ≤ b := by
  intro b hb
  rcases h.2 with ⟨rfl, _⟩ | ⟨g, cap, cur, rfl, hg, _⟩
  · cases hb
  · obtain rfl : g = b := Option.some.inj hb
    exact hg
theorem own_below {w w' : World} {base B n size : Nat} {e : TypeId} {v : Value} {xs : List Value} (h : w.ownsRow base e size v n xs) (hb : Below w.heap.size w w') : w'.ownsRow base e size v n xs := by
  refine ⟨h.1, ?_⟩
  rcases h.2 with h0 | ⟨b, cap, cur, hv, hbb, hh, r⟩
  · exact .inl h0
  · refine .inr ⟨b, cap, cur, hv, hbb, ?_, r⟩
    have hl : b < w.heap.size := (Array.getElem?_eq_some_iff.1 hh).1
    exact (hb.block b hl).trans hh
end Go.Proofs.YtflhjcdabbomiaaDoor

namespace Go.Proofs.YtflhjcdabbomiaaDoor
open Go Go.RowKit

theorem stInfo : ∃ i0, Tryd.prog.info? 9 = some i0 ∧ i0.zero = some (Value.string ⟨#[]⟩) ∧ i0.size = 1 ∧ i0.bytes = 16 := info_parts infoSt

set_option maxHeartbeats 1000000 in
set_option maxRecDepth 100000 in
theorem growS_any (n : Nat) (W : World) (hn : n ≤ 100000) :
    Calls Tryd.prog 109 #[.slice none 0 0, .int .i64 n] W fun e w' => ∃ v, e = .returned v ∧ w'.ownsRow W.heap.size 9 1 v 0 [] ∧ Below W.heap.size W w' := by
  obtain ⟨i0, hi0, hz0, hz1, hz2⟩ := stInfo
  have hneg : ¬ ((n : Int) < 0) := by omega
  have hsub : wrap64 ((0 : Int) - 0) = 0 := by unfold wrap64; omega
  have hsub2 : wrap64 ((n : Int) - 0) = n := by unfold wrap64; omega
  by_cases h0 : n = 0
  · subst h0
    go_enter Tryd.func109, Tryd.ntmps109
    go_wp2_with fail
    go_ret
    exact ⟨_, rfl, World.ownsRow_nil _ _ _ _, Below.refl _ _⟩
  · have hpos : (0 : Int) < (n : Int) := by omega
    have HR := Lib.hid (fun w => Lib.run_append_nil_zeros (P := Tryd.prog) w 41 3 41 9 i0 (.string ⟨#[]⟩) .i64 .i64 Tryd.underlying41 Tryd.underlying3 hi0 hz0 n (by omega) (by omega) (by omega) (by rw [hz2]; omega))
    have HO : Hid (∀ c : Nat, c ≤ maxLen → n ≤ c → (W.drew.alloc (.cells (Builtin.zeroCells #[Value.string ⟨#[]⟩] n ++ Builtin.zeroCells #[Value.string ⟨#[]⟩] (c - n)) 9)).ownsRow W.heap.size 9 1 (.slice (some ⟨W.heap.size, 0, none⟩) 0 c) 0 []) := by
      show ∀ _, _
      intro c hc hnc
      refine ⟨rfl, .inr ⟨W.heap.size, c, _, rfl, Nat.le_refl _, heap_alloc_new W.drew _, Nat.zero_le _, hc, ?_, rfl⟩⟩
      simp only [Array.size_append, size_zeroCells, List.size_toArray, List.length_cons, List.length_nil]
      omega
    have hcap : grownCap W n 0 9 ≤ maxLen := grownCap_le_maxLen W n 0 _ (by unfold maxLen; omega)
    have hge := grownCap_ge W n 0 9
    go_enter Tryd.func109, Tryd.ntmps109
    go_wp2_with (at_builtin; refine Lib.wpList_append_run _ rfl _ _ _ _ rfl _ _ rfl rfl _ _ (HR.out _) ?_)
    go_ret
    exact ⟨_, rfl, HO.out _ hcap hge, ((Below.refl W.heap.size W).drew).alloc (Nat.le_refl _) _⟩

set_option maxHeartbeats 4000000 in
set_option maxRecDepth 100000 in
theorem concatS_any (g : Nat) (A1 A2 : Option Addr) (m1 c1 m2 c2 : Nat) (xs ys : List St) (W : World) (hg : g < W.heap.size) (h0 : W.cell? ⟨g, 0, none⟩ = some (.slice A1 m1 c1)) (h1 : W.cell? ⟨g, 1, none⟩ = some (.slice A2 m2 c2)) (hx : StI W W.heap.size A1 m1 xs) (hy : StI W W.heap.size A2 m2 ys) (hm1 : m1 ≤ 1000) (hm2 : m2 ≤ 1000) (hsx : ∀ (j : Nat) (x : St), xs[j]? = some x → ByteArray.size x ≤ maxLen) (hsy : ∀ (j : Nat) (x : St), ys[j]? = some x → ByteArray.size x ≤ maxLen) :
    Calls Tryd.prog 107 #[.slice (some ⟨g, 0, none⟩) 2 2] W fun e w' => ∃ A c, e = .returned (.slice A (m1 + m2) c) ∧ Hid (m1 + m2 ≤ c ∧ StI w' w'.heap.size A (m1 + m2) (xs ++ ys) ∧ Below W.heap.size W w') := by
  obtain ⟨i0, hi0, hz0, hz1, hz2⟩ := stInfo
  have HX := Lib.hid hx
  have HY := Lib.hid hy
  have HSX := Lib.hid hsx
  have HSY := Lib.hid hsy
  have H0 := Lib.hid h0
  have H1 := Lib.hid h1
  have HG := Lib.hid hg
  have HLX := Lib.hid hx.1
  have HLY := Lib.hid hy.1
  clear hx hy hsx hsy hg
  obtain ⟨s, hs⟩ : ∃ s, m1 + m2 = s := ⟨_, rfl⟩
  have HSM := Lib.hid hs
  rw [hs]
  have hss : s ≤ 2000 := by omega
  have w1 : wrap64 (0 + (m1 : Int)) = m1 := by unfold wrap64; omega
  have w2 : wrap64 ((m1 : Int) + (m2 : Int)) = s := by unfold wrap64; omega
  have n1 : ¬ ((m1 : Int) < 0) := by omega
  have n2 : ¬ ((s : Int) < 0) := by omega
  go_enter Tryd.func107, Tryd.ntmps107
  go_wp2_with fail
  go_loopw [3, 11] (fun q i wr => Hid (wr = W) ∧ ((q = .int .i64 0 ∧ i = .int .i64 0) ∨ (q = .int .i64 m1 ∧ i = .int .i64 1) ∨ (q = .int .i64 s ∧ i = .int .i64 2))) (fun _ i _ => 2 - (intOf i).toNat)
  case atStart => exact ⟨Lib.hid rfl, .inl ⟨rfl, rfl⟩⟩
  case round =>
    obtain ⟨HW, hr⟩ := hrel
    have eW := HW.out.symm
    clear HW
    subst eW
    rcases hr with ⟨rfl, rfl⟩ | ⟨rfl, rfl⟩ | ⟨rfl, rfl⟩
    · go_wp2_with fail
      go_roundw
      case rel => exact ⟨Lib.hid trivial, .inr (.inl ⟨by go_num, by go_num⟩)⟩
      case measure => simp [intOf]
    · go_wp2_with fail
      go_roundw
      case rel => exact ⟨Lib.hid trivial, .inr (.inr ⟨by go_num, by go_num⟩)⟩
      case measure => simp [intOf]
    · clear h0 h1
      go_wp2_with (go_at_call 109; have HQ := growS_any s W (by omega); refine Calls.mono HQ ?_; clear HQ; rintro e wg ⟨v, rfl, hown, hb⟩; have HO := Lib.hid hown; have HB := Lib.hid hb; clear hown hb)
      go_loopw [6, 27] (fun u i wr => Hid (Below W.heap.size W wr) ∧ ((i = .int .i64 0 ∧ Hid (wr.ownsRow W.heap.size 9 1 u 0 [])) ∨ (i = .int .i64 1 ∧ Hid (wr.ownsRow W.heap.size 9 1 u m1 (valsSt xs))) ∨ (i = .int .i64 2 ∧ Hid (wr.ownsRow W.heap.size 9 1 u s (valsSt (xs ++ ys)))))) (fun _ i _ => 2 - (intOf i).toNat)
      case atStart => exact ⟨HB, .inl ⟨rfl, HO⟩⟩
      case round =>
        obtain ⟨HBB, hr⟩ := hrel
        rcases hr with ⟨rfl, HOO⟩ | ⟨rfl, HOO⟩ | ⟨rfl, HOO⟩
        · have q0 := (HBB.out.cell (p := ⟨g, 0, none⟩) HG.out).trans H0.out
          go_wp2_with (at_builtin; refine wpList_append_src _ rfl _ _ 41 rfl W.heap.size 9 i0 (.string ⟨#[]⟩) 1 16 Tryd.underlying41 hi0 hz0 hz1 hz2 rfl (by decide) _ 0 [] rfl HOO.out A1 m1 c1 (valsSt xs) rfl (by rw [valsSt_len]; have := HLX.out; omega) (StI.src (HX.out.below HBB.out)) (valsSt_one _) (by unfold maxLen; omega) (by omega) HBB.out.size ?_; intro v2 wz hown2 hgr2; have HO2 := Lib.hid hown2; have HB2 : Hid (Below W.heap.size W wz) := HBB.out.grown hgr2 HBB.out.size (fun b hb => own_ge HOO.out b hb); clear hown2 hgr2)
          go_roundw
          case rel => exact ⟨HB2, .inr (.inl ⟨by go_num, by have h := HO2.out; rw [Nat.zero_add, List.nil_append] at h; exact h⟩)⟩
          case measure => simp [intOf]
        · have q0 := (HBB.out.cell (p := ⟨g, 1, none⟩) HG.out).trans H1.out
          go_wp2_with (at_builtin; refine wpList_append_src _ rfl _ _ 41 rfl W.heap.size 9 i0 (.string ⟨#[]⟩) 1 16 Tryd.underlying41 hi0 hz0 hz1 hz2 rfl (by decide) _ m1 (valsSt xs) rfl HOO.out A2 m2 c2 (valsSt ys) rfl (by rw [valsSt_len]; have := HLY.out; omega) (StI.src (HY.out.below HBB.out)) (valsSt_one _) (by unfold maxLen; omega) (by omega) HBB.out.size ?_; intro v2 wz hown2 hgr2; have HO2 := Lib.hid hown2; have HB2 : Hid (Below W.heap.size W wz) := HBB.out.grown hgr2 HBB.out.size (fun b hb => own_ge HOO.out b hb); clear hown2 hgr2)
          go_roundw
          case rel => exact ⟨HB2, .inr (.inr ⟨by go_num, by have h := HO2.out; rw [valsSt_append, HSM.out] at h; exact h⟩)⟩
          case measure => simp [intOf]
        · go_wp2_with fail
          go_ret
          obtain ⟨A, c, rfl, hc, hi⟩ := own_StI HOO.out (fun j x hx => by
            rcases Nat.lt_or_ge j xs.length with h | h
            · rw [List.getElem?_append_left h] at hx; exact HSX.out j x hx
            · rw [List.getElem?_append_right h] at hx; exact HSY.out _ x hx)
          exact ⟨A, c, rfl, Lib.hid ⟨hc, hi, HBB.out⟩⟩
end Go.Proofs.YtflhjcdabbomiaaDoor

namespace Go.Proofs.YtflhjcdabbomiaaDoor
open Go Go.RowKit

theorem l00In_any (x lo hi : Int) (W : World) :
    Calls Tryd.prog 67 #[.int .i64 x, .int .i64 lo, .int .i64 hi] W fun e w' => e = .returned (.bool (decide (lo ≤ x ∧ x ≤ hi))) ∧ W = w' := by
  by_cases h0 : lo ≤ x
  · have d0 : decide (lo ≤ x) = true := by simp [h0]
    by_cases h1 : x ≤ hi
    · have d1 : decide (x ≤ hi) = true := by simp [h1]
      have e : decide (lo ≤ x ∧ x ≤ hi) = true := by simp [h0, h1]
      rw [e]
      go_enter Tryd.func67, Tryd.ntmps67
      go_wp2
      all_goals go_ret
      all_goals exact ⟨rfl, rfl⟩
    · have d1 : decide (x ≤ hi) = false := by simp; omega
      have e : decide (lo ≤ x ∧ x ≤ hi) = false := by simp; omega
      rw [e]
      go_enter Tryd.func67, Tryd.ntmps67
      go_wp2
      all_goals go_ret
      all_goals exact ⟨rfl, rfl⟩
  · have d0 : decide (lo ≤ x) = false := by simp; omega
    have e : decide (lo ≤ x ∧ x ≤ hi) = false := by simp; omega
    rw [e]
    go_enter Tryd.func67, Tryd.ntmps67
    go_wp2
    all_goals go_ret
    all_goals exact ⟨rfl, rfl⟩
end Go.Proofs.YtflhjcdabbomiaaDoor

namespace Go.Proofs.YtflhjcdabbomiaaDoor
open Go Go.RowKit

theorem wf_lo {n : Int} (h : (Lit.int .i64 n).wf = true) : -9223372036854775808 ≤ n := by
  unfold Lit.wf at h
  simp only [Bool.and_eq_true, decide_eq_true_eq] at h
  exact h.1
theorem wf_hi {n : Int} (h : (Lit.int .i64 n).wf = true) : n ≤ 9223372036854775807 := by
  unfold Lit.wf at h
  simp only [Bool.and_eq_true, decide_eq_true_eq] at h
  exact h.2
end Go.Proofs.YtflhjcdabbomiaaDoor

namespace Go.Proofs.YtflhjcdabbomiaaDoor
open Go Go.RowKit

/-- What ValidValue answers. -/
def validV (k n : Int) (t : ByteArray) (r : Int) : Bool :=
  if k = 1 then (n == 0 && r == 0) && decide (t.size ≤ 200) else if k = 2 then (t.size == 0 && r == 0) && decide (-1000000000000 ≤ n ∧ n ≤ 1000000000000)
  else if k = 3 then (n == 0 && r == 0) && decide (1 ≤ (t.size : Int) ∧ (t.size : Int) ≤ 1200) else if k = 4 ∨ k = 5 ∨ k = 6 then (n == 0 && t.size == 0) && decide (1 ≤ r ∧ r ≤ 1000000)
  else if k = 7 ∨ k = 8 then (n == 0 && r == 0) && isNameB t else false

theorem l06Plain_text (k n : Int) (t : ByteArray) (r : Int) (W : World) :
    Calls Tryd.prog 66 #[.agg #[.int .i64 k, .int .i64 n, .string t, .int .i64 r], .bool false, .bool true, .bool false] W fun e w' => e = .returned (.bool (n == 0 && r == 0)) ∧ Below W.heap.size W w' := by
  obtain ⟨z, hz⟩ : ∃ z, (n == 0) = z := ⟨_, rfl⟩
  obtain ⟨y, hy⟩ : ∃ y, (r == 0) = y := ⟨_, rfl⟩
  rw [hz, hy]
  cases z <;> cases y
  all_goals
    go_enter Tryd.func66, Tryd.ntmps66
    go_wp2_with fail
    go_ret
    exact ⟨rfl, (Below.refl _ _).alloc (Nat.le_refl _) _⟩
theorem l06Plain_num (k n : Int) (t : ByteArray) (r : Int) (W : World) :
    Calls Tryd.prog 66 #[.agg #[.int .i64 k, .int .i64 n, .string t, .int .i64 r], .bool true, .bool false, .bool false] W fun e w' => e = .returned (.bool (t.size == 0 && r == 0)) ∧ Below W.heap.size W w' := by
  obtain ⟨y, hy⟩ : ∃ y, (r == 0) = y := ⟨_, rfl⟩
  rw [hy]
  by_cases h0 : t.size = 0
  · have e1 := nil_of_size h0
    have e2 := isEmpty_of_size h0
    have e3 : (t.size == 0) = true := by simp [h0]
    rw [e3]
    clear e3 h0
    cases y
    all_goals
      go_enter Tryd.func66, Tryd.ntmps66
      go_wp2_with fail
      go_ret
      exact ⟨rfl, (Below.refl _ _).alloc (Nat.le_refl _) _⟩
  · have hp : 0 < t.size := by omega
    have e1 := ne_nil_of_size hp
    have e2 := not_isEmpty_of_size hp
    have e3 : (t.size == 0) = false := by simp [h0]
    rw [e3]
    clear e3 h0
    go_enter Tryd.func66, Tryd.ntmps66
    go_wp2_with fail
    go_ret
    exact ⟨rfl, (Below.refl _ _).alloc (Nat.le_refl _) _⟩
theorem l06Plain_ref (k n : Int) (t : ByteArray) (r : Int) (W : World) :
    Calls Tryd.prog 66 #[.agg #[.int .i64 k, .int .i64 n, .string t, .int .i64 r], .bool false, .bool false, .bool true] W fun e w' => e = .returned (.bool (n == 0 && t.size == 0)) ∧ Below W.heap.size W w' := by
  obtain ⟨z, hz⟩ : ∃ z, (n == 0) = z := ⟨_, rfl⟩
  rw [hz]
  by_cases h0 : t.size = 0
  · have e1 := nil_of_size h0
    have e2 := isEmpty_of_size h0
    have e3 : (t.size == 0) = true := by simp [h0]
    rw [e3]
    clear e3 h0
    cases z
    all_goals
      go_enter Tryd.func66, Tryd.ntmps66
      go_wp2_with fail
      go_ret
      exact ⟨rfl, (Below.refl _ _).alloc (Nat.le_refl _) _⟩
  · have hp : 0 < t.size := by omega
    have e1 := ne_nil_of_size hp
    have e2 := not_isEmpty_of_size hp
    have e3 : (t.size == 0) = false := by simp [h0]
    rw [e3]
    clear e3 h0
    cases z
    all_goals
      go_enter Tryd.func66, Tryd.ntmps66
      go_wp2_with fail
      go_ret
      exact ⟨rfl, (Below.refl _ _).alloc (Nat.le_refl _) _⟩

set_option maxHeartbeats 4000000 in
theorem spec_ValidValue_any (k n : Int) (t : ByteArray) (r : Int) (W : World) (hs : t.size ≤ maxLen) :
    Calls Tryd.prog 44 #[.agg #[.int .i64 k, .int .i64 n, .string t, .int .i64 r]] W fun e w' => e = .returned (.bool (validV k n t r)) ∧ Below W.heap.size W w' := by
  have HS : Hid (t.size ≤ maxLen) := hs
  clear hs
  unfold validV
  by_cases k1 : k = 1
  · subst k1
    rw [if_pos rfl]
    obtain ⟨x, hx⟩ : ∃ x, (n == 0 && r == 0) = x := ⟨_, rfl⟩
    have HX := Lib.hid hx
    rw [hx]
    clear hx
    by_cases hl : t.size ≤ 200
    · have e1 : decide ((t.size : Int) ≤ 200) = true := by simp; omega
      have e2 : decide (t.size ≤ 200) = true := by simp [hl]
      have e3 : (t.size : Int) ≤ 200 := by omega
      rw [e2]
      clear hl e2
      cases x
      all_goals
        go_enter Tryd.func44, Tryd.ntmps44
        go_wp2_with (go_at_call 66; refine (l06Plain_text _ _ _ _ _).mono ?_; rintro e w1 ⟨rfl, hb⟩; rw [HX.out]; have HB := Lib.hid (((Below.refl _ _).alloc (Nat.le_refl _) _).trans (hb.mono (B' := W.heap.size) (by simp))); obtain ⟨hc, hf⟩ := bcell hb; clear hb)
        go_ret
        exact ⟨rfl, HB.out⟩
    · have e1 : decide ((t.size : Int) ≤ 200) = false := by simp; omega
      have e2 : decide (t.size ≤ 200) = false := by simp; omega
      have e3 : ¬ (t.size : Int) ≤ 200 := by omega
      rw [e2]
      clear hl e2
      cases x
      all_goals
        go_enter Tryd.func44, Tryd.ntmps44
        go_wp2_with (go_at_call 66; refine (l06Plain_text _ _ _ _ _).mono ?_; rintro e w1 ⟨rfl, hb⟩; rw [HX.out]; have HB := Lib.hid (((Below.refl _ _).alloc (Nat.le_refl _) _).trans (hb.mono (B' := W.heap.size) (by simp))); obtain ⟨hc, hf⟩ := bcell hb; clear hb)
        go_ret
        exact ⟨rfl, HB.out⟩
  rw [if_neg k1]
  by_cases k2 : k = 2
  · subst k2
    rw [if_pos rfl]
    obtain ⟨x, hx⟩ : ∃ x, (t.size == 0 && r == 0) = x := ⟨_, rfl⟩
    have HX := Lib.hid hx
    obtain ⟨y, hy⟩ : ∃ y, decide (-1000000000000 ≤ n ∧ n ≤ 1000000000000) = y := ⟨_, rfl⟩
    have HY := Lib.hid hy
    rw [hx, hy]
    clear hx hy k1
    cases x <;> cases y
    all_goals
      go_enter Tryd.func44, Tryd.ntmps44
      go_wp2_with (first
        | (go_at_call 66; refine (l06Plain_num _ _ _ _ _).mono ?_; rintro e w1 ⟨rfl, hb⟩; rw [HX.out]; have HB := Lib.hid (((Below.refl _ _).alloc (Nat.le_refl _) _).trans (hb.mono (B' := W.heap.size) (by simp))); obtain ⟨hc, hf⟩ := bcell hb; clear hb)
        | (go_at_call 67; refine (l00In_any _ _ _ _).mono ?_; rintro e w' ⟨rfl, rfl⟩; rw [HY.out]))
      go_ret
      exact ⟨rfl, HB.out⟩
  rw [if_neg k2]
  by_cases k3 : k = 3
  · subst k3
    rw [if_pos rfl]
    obtain ⟨x, hx⟩ : ∃ x, (n == 0 && r == 0) = x := ⟨_, rfl⟩
    have HX := Lib.hid hx
    obtain ⟨y, hy⟩ : ∃ y, decide (1 ≤ (t.size : Int) ∧ (t.size : Int) ≤ 1200) = y := ⟨_, rfl⟩
    have HY := Lib.hid hy
    rw [hx, hy]
    clear hx hy k1 k2
    cases x <;> cases y
    all_goals
      go_enter Tryd.func44, Tryd.ntmps44
      go_wp2_with (first
        | (go_at_call 66; refine (l06Plain_text _ _ _ _ _).mono ?_; rintro e w1 ⟨rfl, hb⟩; rw [HX.out]; have HB := Lib.hid (((Below.refl _ _).alloc (Nat.le_refl _) _).trans (hb.mono (B' := W.heap.size) (by simp))); obtain ⟨hc, hf⟩ := bcell hb; clear hb)
        | (go_at_call 67; refine (l00In_any _ _ _ _).mono ?_; rintro e w' ⟨rfl, rfl⟩; rw [HY.out]))
      go_ret
      exact ⟨rfl, HB.out⟩
  rw [if_neg k3]
  by_cases k4 : k = 4 ∨ k = 5 ∨ k = 6
  · rw [if_pos k4]
    obtain ⟨x, hx⟩ : ∃ x, (n == 0 && t.size == 0) = x := ⟨_, rfl⟩
    have HX := Lib.hid hx
    obtain ⟨y, hy⟩ : ∃ y, decide (1 ≤ r ∧ r ≤ 1000000) = y := ⟨_, rfl⟩
    have HY := Lib.hid hy
    rw [hx, hy]
    clear hx hy k1 k2 k3
    rcases k4 with rfl | rfl | rfl <;> cases x <;> cases y
    all_goals
      go_enter Tryd.func44, Tryd.ntmps44
      go_wp2_with (first
        | (go_at_call 66; refine (l06Plain_ref _ _ _ _ _).mono ?_; rintro e w1 ⟨rfl, hb⟩; rw [HX.out]; have HB := Lib.hid (((Below.refl _ _).alloc (Nat.le_refl _) _).trans (hb.mono (B' := W.heap.size) (by simp))); obtain ⟨hc, hf⟩ := bcell hb; clear hb)
        | (go_at_call 67; refine (l00In_any _ _ _ _).mono ?_; rintro e w' ⟨rfl, rfl⟩; rw [HY.out]))
      go_ret
      exact ⟨rfl, HB.out⟩
  rw [if_neg k4]
  by_cases k7 : k = 7 ∨ k = 8
  · rw [if_pos k7]
    obtain ⟨x, hx⟩ : ∃ x, (n == 0 && r == 0) = x := ⟨_, rfl⟩
    have HX := Lib.hid hx
    obtain ⟨y, hy⟩ : ∃ y, isNameB t = y := ⟨_, rfl⟩
    have HY := Lib.hid hy
    rw [hx, hy]
    clear hx hy k1 k2 k3 k4
    rcases k7 with rfl | rfl <;> cases x <;> cases y
    all_goals
      go_enter Tryd.func44, Tryd.ntmps44
      go_wp2_with (first
        | (go_at_call 66; refine (l06Plain_text _ _ _ _ _).mono ?_; rintro e w1 ⟨rfl, hb⟩; rw [HX.out]; have HB := Lib.hid (((Below.refl _ _).alloc (Nat.le_refl _) _).trans (hb.mono (B' := W.heap.size) (by simp))); obtain ⟨hc, hf⟩ := bcell hb; clear hb)
        | (go_at_call 25; refine (spec_IsName_any _ _ HS.out).mono ?_; rintro e w' ⟨rfl, rfl⟩; rw [HY.out]))
      go_ret
      exact ⟨rfl, HB.out⟩
  rw [if_neg k7]
  have f1 : (k == 1) = false := by simpa using k1
  have f2 : (k == 2) = false := by simpa using k2
  have f3 : (k == 3) = false := by simpa using k3
  have f4 : (k == 4) = false := by simp; omega
  have f5 : (k == 5) = false := by simp; omega
  have f6 : (k == 6) = false := by simp; omega
  have f7 : (k == 7) = false := by simp; omega
  have f8 : (k == 8) = false := by simp; omega
  clear k1 k2 k3 k4 k7
  go_enter Tryd.func44, Tryd.ntmps44
  go_wp2_with fail
  go_ret
  exact ⟨rfl, (Below.refl _ _).alloc (Nat.le_refl _) _⟩
end Go.Proofs.YtflhjcdabbomiaaDoor

namespace Go.Proofs.YtflhjcdabbomiaaDoor
open Go Go.RowKit Go.Sort

theorem textValue_any (k : Int) (s : ByteArray) (W : World) :
    Calls Tryd.prog 73 #[.int .i64 k, .string s] W fun e w' => e = .returned (.agg #[.int .i64 k, .int .i64 0, .string s, .int .i64 0]) ∧ Below W.heap.size W w' := by
  go_enter Tryd.func73, Tryd.ntmps73
  go_wp2
  exact bodyPost_ret (v := .agg #[.int .i64 k, .int .i64 0, .string s, .int .i64 0]) (by simp [results, Tryd.results73, go_sem]) rfl
    ⟨rfl, by repeat (first | exact Below.refl _ _ | refine Below.setCell ?_ (by first | (simp; done) | (simp; omega)) _ | refine Below.alloc ?_ (by first | (simp; done) | (simp; omega)) _)⟩
/-- A value's four cells. -/
abbrev V4 (w : World) (g : Nat) (k n : Int) (t : ByteArray) (r : Int) : Prop := w.cell? ⟨g, 0, none⟩ = some (.int .i64 k) ∧ w.cell? ⟨g, 1, none⟩ = some (.int .i64 n) ∧ w.cell? ⟨g, 2, none⟩ = some (.string t) ∧ w.cell? ⟨g, 3, none⟩ = some (.int .i64 r)
theorem v4_keep {wr wx w1 : World} {g : Nat} {k n : Int} {t : ByteArray} {r : Int} (hg : g < wr.heap.size) (h : V4 wx g k n t r ∧ Below wr.heap.size wr wx) (hb : Below wx.heap.size wx w1) :
    V4 w1 g k n t r ∧ Below wr.heap.size wr w1 := by
  have l := Nat.lt_of_lt_of_le hg h.2.size
  exact ⟨⟨(hb.cell (p := ⟨g, 0, none⟩) l).trans h.1.1, (hb.cell (p := ⟨g, 1, none⟩) l).trans h.1.2.1, (hb.cell (p := ⟨g, 2, none⟩) l).trans h.1.2.2.1, (hb.cell (p := ⟨g, 3, none⟩) l).trans h.1.2.2.2⟩, h.2.trans (hb.mono h.2.size)⟩
theorem v4_new (W : World) (k n : Int) (t : ByteArray) (r : Int) (T : TypeId) : V4 (W.alloc (.cells #[.int .i64 k, .int .i64 n, .string t, .int .i64 r] T)) W.heap.size k n t r := by
  refine ⟨?_, ?_, ?_, ?_⟩ <;> simp
theorem v4_below {w w1 : World} {g : Nat} {k n : Int} {t : ByteArray} {r : Int} (h : V4 w g k n t r) (hg : g < w.heap.size) (hb : Below w.heap.size w w1) : V4 w1 g k n t r :=
  ⟨(hb.cell (p := ⟨g, 0, none⟩) hg).trans h.1, (hb.cell (p := ⟨g, 1, none⟩) hg).trans h.2.1, (hb.cell (p := ⟨g, 2, none⟩) hg).trans h.2.2.1, (hb.cell (p := ⟨g, 3, none⟩) hg).trans h.2.2.2⟩
end Go.Proofs.YtflhjcdabbomiaaDoor
