/- Plain facts on strings and lists, of no program. No condition. Small lemmas on endings and on what a range over a string leaves. No condition. A number's bounds. Plain. Contracts: szValue, toValue of the laws. No condition but that a string fits in memory. Plain: a list out of what holds index by index. No condition. Blocks of cells that are known, what a sz-function answers, a proposition as a bool: lemmas that no type of the program stands in. No condition. Slices of values: what came in or lies below B; szValueS, toValueS, eqValueS of the laws. No condition. Objects and slices of objects, as plain data and in memory. No condition. A block's cells as a list; what a sz-function answers. No condition. szObjectS, szHeap of the laws. No condition. toObject, toObjectS, toHeap of the laws. No condition. toObjectS, toHeap of the laws. No condition. laws.eqValue where both are the same. No condition. laws.eqValue, laws.eqValueS where both are the same. No condition. laws.eqObject, eqObjectS, eqHeap where both are the same. No condition. Slices of strings: what came in or lies below B; szStringS, toStringS of the laws. No condition. -/
import Derived.PlainAid
import Derived.Lib.Strings
import Derived.Lib.Bytealg
import Derived.Test.YtfcpdjfckeoniaaGreatDoorChecked
import Derived.WalkKit
import Derived.WalkLawsBesides
import Derived.Lib.Hide
import Derived.LoopTactic
import Derived.Below
import Derived.Deep.Slices
import Derived.Deep.Fields
import Derived.ChangeSame
import Derived.Lib.SmallJoins
import Derived.OpenShut
import Derived.Laws.OwnMore
import Derived.Maps.RangeWalk
import Derived.Deep.MidRow
import Derived.Laws.CopyOwn
import Derived.Deep.QuietTactic
import Derived.Deep.RegionHeld3
namespace Go.Proofs.YtfcpdjfckeoniaaGreatDoor
open Go

theorem size_toList (s : ByteArray) : s.toList.length = s.size := by rw [Lib.toList_data, ← Lib.size_eq]
theorem nil_of_size {s : ByteArray} (h : s.size = 0) : s.toList = [] := List.eq_nil_of_length_eq_zero (by rw [size_toList]; exact h)
theorem ne_nil_of_size {s : ByteArray} (h : 0 < s.size) : ¬ s.toList = [] := by
  intro e
  have := size_toList s
  rw [e] at this
  simp at this
  omega
theorem isEmpty_of_size {s : ByteArray} (h : s.size = 0) : s.toList.isEmpty = true := by rw [nil_of_size h]; rfl
theorem not_isEmpty_of_size {s : ByteArray} (h : 0 < s.size) : s.toList.isEmpty = false := by simpa using ne_nil_of_size h
theorem size_mk (l : List UInt8) : (⟨l.toArray⟩ : ByteArray).size = l.length := by rw [Lib.size_eq]
theorem get_mk (l : List UInt8) (i : Nat) (h : i < (⟨l.toArray⟩ : ByteArray).size) : (⟨l.toArray⟩ : ByteArray)[i] = l[i]'(by rwa [size_mk] at h) := rfl
theorem bt_mk (l : List UInt8) (i : Nat) (h : i < l.length) : PlainAid.bt ⟨l.toArray⟩ i = (l[i].toNat : Int) := by
  rw [← PlainAid.get_bt _ i (by rw [size_mk]; exact h), get_mk]
theorem bt_data (s : ByteArray) (i : Nat) (h : i < s.data.toList.length) : PlainAid.bt s i = (s.data.toList[i].toNat : Int) := by
  obtain ⟨⟨l⟩⟩ := s
  exact bt_mk l i h
/-- 's[:1] == c' is 's[0] == c'. -/
theorem ext_one (s : ByteArray) (c : UInt8) (h : 0 < s.size) : ((s.extract 0 1).toList == [c]) = (PlainAid.bt s 0 == (c.toNat : Int)) := by
  rw [Lib.size_eq] at h
  rw [bt_data s 0 h, Lib.extract_toList]
  generalize s.data.toList = l at h ⊢
  cases l with
  | nil => simp at h
  | cons x xs =>
    rw [Bool.eq_iff_iff]
    simp only [List.drop_zero, Nat.sub_zero, List.take_succ_cons, List.take_zero, beq_iff_eq, List.cons.injEq, and_true, List.getElem_cons_zero]
    exact ⟨fun h => by rw [h], fun h => UInt8.toNat_inj.mp (by omega)⟩

/-- All bytes satisfy p. -/
def allB (p : Int → Bool) (s : ByteArray) : Bool := (List.range s.size).all fun i => p (PlainAid.bt s i)
theorem allB_true {p : Int → Bool} {s : ByteArray} (h : ∀ i, i < s.size → p (PlainAid.bt s i) = true) : allB p s = true := by
  unfold allB
  rw [List.all_eq_true]
  intro i hi
  exact h i (by simpa using hi)
theorem allB_false {p : Int → Bool} {s : ByteArray} (i : Nat) (hi : i < s.size) (h : p (PlainAid.bt s i) = false) : allB p s = false := by
  unfold allB
  rw [List.all_eq_false]
  exact ⟨i, by simpa using hi, by simp [h]⟩
theorem of_allB {p : Int → Bool} {s : ByteArray} (h : allB p s = true) (i : Nat) (hi : i < s.size) : p (PlainAid.bt s i) = true := by
  unfold allB at h
  exact List.all_eq_true.1 h i (by simpa using hi)
theorem allB_congr {p q : Int → Bool} {s : ByteArray} (h : ∀ c, 0 ≤ c → c ≤ 255 → p c = q c) : allB p s = allB q s := by
  unfold allB
  congr 1
  funext i
  exact h _ (PlainAid.bt_nonneg s i) (PlainAid.bt_le s i)
theorem upto_succ {p : Nat → Prop} {k : Nat} (h : ∀ j, j < k → p j) (hk : p k) : ∀ j, j < k + 1 → p j := fun j hj => by
  rcases Nat.lt_or_ge j k with h1 | h1
  · exact h j h1
  · obtain rfl : j = k := by omega
    exact hk
/-- A printable byte; a newline besides where 'nl'. -/
def prnB (nl : Bool) (c : Int) : Bool := decide (32 ≤ c ∧ c ≤ 126) || (nl && c == 10)
theorem prnB_yes {nl : Bool} {c : Int} (h0 : 32 ≤ c) (h1 : c ≤ 126) : prnB nl c = true := by simp [prnB, h0, h1]
theorem prnB_nl : prnB true 10 = true := by decide
theorem prnB_no {c : Int} (h : c < 32 ∨ 126 < c) : prnB false c = false := by
  simp [prnB]; omega
theorem prnB_no' {c : Int} {nl : Bool} (h : c < 32 ∨ 126 < c) (h2 : ¬ c = 10) : prnB nl c = false := by
  simp [prnB, h2]; omega
end Go.Proofs.YtfcpdjfckeoniaaGreatDoor

namespace Go.Proofs.YtfcpdjfckeoniaaGreatDoor
open Go Go.RowKit

theorem bool_ret {a b : Bool} (h : a = b) : Ending.returned (.bool a) = .returned (.bool b) := by rw [h]
theorem below_iter {B : Nat} {a w : World} (h : Below B a w) (hB : B ≤ w.heap.size) (s : ByteArray) (pos : Nat) : Below B a (w.iter s pos) := h.alloc hB _
theorem bcell {W w1 : World} (hb : Below W.heap.size W w1) : (∀ b o, b < W.heap.size → w1.cell? ⟨b, o, none⟩ = W.cell? ⟨b, o, none⟩) ∧ (∀ b o, b < W.heap.size → w1.frozen? ⟨b, o, none⟩ = W.frozen? ⟨b, o, none⟩) :=
  ⟨fun b o h => hb.cell (p := ⟨b, o, none⟩) h, fun b o h => hb.frozen (p := ⟨b, o, none⟩) h⟩
end Go.Proofs.YtfcpdjfckeoniaaGreatDoor

namespace Go.Proofs.YtfcpdjfckeoniaaGreatDoor
open Go Go.RowKit

theorem wf_lo {n : Int} (h : (Lit.int .i64 n).wf = true) : -9223372036854775808 ≤ n := by
  unfold Lit.wf at h
  simp only [Bool.and_eq_true, decide_eq_true_eq] at h
  exact h.1
theorem wf_hi {n : Int} (h : (Lit.int .i64 n).wf = true) : n ≤ 9223372036854775807 := by
  unfold Lit.wf at h
  simp only [Bool.and_eq_true, decide_eq_true_eq] at h
  exact h.2
end Go.Proofs.YtfcpdjfckeoniaaGreatDoor

namespace Go.Proofs.YtfcpdjfckeoniaaGreatDoor
open Go Go.RowKit

theorem szValue_fits (k n : Int) (t : ByteArray) (r L : Int) (W : World) (ht : (t.size : Int) ≤ L) (hL : L ≤ 1048576) :
    Calls Tryz.prog 6 #[.agg #[.int .i64 k, .int .i64 n, .string t, .int .i64 r], .int .i64 L] W fun e w' => e = .returned (.int .i64 (L - t.size)) ∧ Below W.heap.size W w' := by
  go_enter Tryz.func6, Tryz.ntmps6
  go_wp2
  all_goals go_ret
  all_goals exact ⟨rfl, (Below.refl _ _).alloc (Nat.le_refl _) _⟩
theorem szValue_long (k n : Int) (t : ByteArray) (r L : Int) (W : World) (ht : L < (t.size : Int)) (h0 : 0 ≤ L) (hL : L ≤ 1048576) (hm : t.size ≤ maxLen) :
    Calls Tryz.prog 6 #[.agg #[.int .i64 k, .int .i64 n, .string t, .int .i64 r], .int .i64 L] W fun e w' => e = .returned (.int .i64 (-1)) ∧ Below W.heap.size W w' := by
  unfold maxLen at hm
  go_enter Tryz.func6, Tryz.ntmps6
  go_wp2
  all_goals go_ret
  all_goals exact ⟨rfl, (Below.refl _ _).alloc (Nat.le_refl _) _⟩

theorem toValue_any (k n : Int) (t : ByteArray) (r : Int) (W : World) :
    Calls Tryz.prog 9 #[.agg #[.int .i64 k, .int .i64 n, .string t, .int .i64 r]] W fun e w' => e = .returned (.agg #[.int .i64 k, .int .i64 n, .string t, .int .i64 r]) ∧ Below W.heap.size W w' := by
  go_enter Tryz.func9, Tryz.ntmps9
  go_wp2
  exact bodyPost_ret (v := .agg #[.int .i64 k, .int .i64 n, .string t, .int .i64 r]) (by simp [results, Tryz.results9, go_sem]) rfl
    ⟨rfl, by repeat (first | exact Below.refl _ _ | refine Below.setCell ?_ (by first | (simp; done) | (simp; omega)) _ | refine Below.alloc ?_ (by first | (simp; done) | (simp; omega)) _)⟩
end Go.Proofs.YtfcpdjfckeoniaaGreatDoor

namespace Go.Proofs.YtfcpdjfckeoniaaGreatDoor
open Go Go.ChangeShapes Go.WideShapes Go.Deep

theorem list_of {α : Type} {P : Nat → α → Prop} : ∀ {n : Nat}, (∀ i, i < n → ∃ x, P i x) → ∃ xs : List α, xs.length = n ∧ ∀ (j : Nat) (x : α), xs[j]? = some x → P j x
  | 0, _ => ⟨[], rfl, fun j x h => by simp at h⟩
  | n + 1, h => by
    obtain ⟨xs, hl, hp⟩ := list_of (n := n) fun i hi => h i (by omega)
    obtain ⟨y, hy⟩ := h n (by omega)
    refine ⟨xs ++ [y], by simp [hl], fun j x hx => ?_⟩
    by_cases hj : j < n
    · rw [List.getElem?_append_left (by omega)] at hx
      exact hp j x hx
    · have hlt : j < (xs ++ [y]).length := (List.getElem?_eq_some_iff.1 hx).1
      simp [hl] at hlt
      obtain rfl : j = n := by omega
      rw [List.getElem?_append_right (by omega), hl, Nat.sub_self] at hx
      simp at hx
      rw [← hx]
      exact hy

section
variable {H : Type} {enc : TypeId × Value → H} {P : Program} {w : World} {base : Nat} {spare : Nat → Bool} {held : Bool}
/-- An argument that is a slice of structs of one-cell fields: its cells, and each field's own reading. -/
theorem open_structs {t e : TypeId} {fs : Array Field} {fuel : Nat} {A : Option Addr} {n c : Nat} {x : DataW H × List MemPlace} (ht : P.underlying t = some (.slice e)) (he : P.underlying e = some (.struct fs))
    (hone : oneCellFields P fs = true) (hC : P.cellsOf e = fs.size) (hs : 0 < fs.size) (h : DataW.trod enc P w base (fun _ => true) held fuel t [.slice A n c] = some x) :
    n ≤ maxLen ∧ (0 < n → ∃ b off, A = some ⟨b, off, none⟩ ∧ b < w.heap.size ∧ ∀ i, i < n → ∀ (j : Nat) (f : Field), fs[j]? = some f → ∃ (v : Value) (y : DataW H × List MemPlace) (m : Nat), w.cell? ⟨b, off + (i * fs.size + j), none⟩ = some v ∧ DataW.trod enc P w base (fun _ => true) held m f.type [v] = some y) := by
  rcases open_slice ht h with ⟨h0, _⟩ | ⟨a, len, cap, m, k, D, Pl, hcs, hb, hl, hm, hmm, hx, hi⟩
  · simp at h0
    obtain ⟨rfl, rfl, rfl⟩ := h0
    exact ⟨Nat.zero_le _, fun h => absurd h (by omega)⟩
  · simp only [List.cons.injEq, Value.slice.injEq, and_true] at hcs
    obtain ⟨rfl, rfl, rfl⟩ := hcs
    simp only [if_true] at hmm
    have key : ∀ i, i < n → ∀ (j : Nat) (f : Field), fs[j]? = some f → ∃ (v : Value) (y : DataW H × List MemPlace) (m : Nat), w.cell? (a.add (i * fs.size + j)) = some v ∧ DataW.trod enc P w base (fun _ => true) held m f.type [v] = some y := by
      intro i hin j f hj
      obtain ⟨cs', hc, ht'⟩ := hi i (by omega)
      rw [hC] at hc
      obtain ⟨ys, n', hn', hy, hlen, hyl, hf⟩ := DataW.trod_struct he ht'
      obtain ⟨_, hcl, hat⟩ := World.cells?_some hc
      obtain ⟨ho, hk⟩ := hone_of hone j f hj
      have hjl : j < fs.size := (Array.getElem?_eq_some_iff.1 hj).1
      have hcell := hat j hjl
      have hv : cs'[j]? = some (cs'[j]'(by omega)) := List.getElem?_eq_getElem (by omega)
      have h1 := hf j f hj
      rw [ho, hk] at h1
      have hone' : (cs'.drop j).take 1 = [cs'[j]'(by omega)] := by
        rw [List.drop_eq_getElem_cons (by omega)]
        rfl
      rw [hone'] at h1
      have hys : ys[j]? = some (ys[j]'(by omega)) := List.getElem?_eq_getElem (by omega)
      exact ⟨_, _, n', by rw [← Go.Deep.add_add, hcell, hv], h1.trans hys⟩
    refine ⟨Nat.le_trans hl hm, fun hn => ?_⟩
    obtain ⟨ab, ao, spot⟩ := a
    obtain ⟨f0, hf0⟩ : ∃ f0, fs[0]? = some f0 := ⟨_, Array.getElem?_eq_getElem hs⟩
    obtain ⟨v, y, q, h0, _⟩ := key 0 hn 0 f0 hf0
    have hspot : spot = none := by simpa [Addr.add] using World.cell?_spot h0
    subst hspot
    rw [Addr.add_lit] at h0
    refine ⟨ab, ao, rfl, World.block_lt_of_cell? w ⟨ab, _, none⟩ h0, fun i hin j f hj => ?_⟩
    obtain ⟨v, y, q, h1, h2⟩ := key i hin j f hj
    rw [Addr.add_lit] at h1
    exact ⟨v, y, q, h1, h2⟩
end
end Go.Proofs.YtfcpdjfckeoniaaGreatDoor

namespace Go.Proofs.YtfcpdjfckeoniaaGreatDoor
open Go Go.RowKit

theorem below_grown_none {w w' : World} (h : w.grownBy w' none) : Below w.heap.size w w' := (Below.refl _ _).grown h (Nat.le_refl _) (fun k hk => by cases hk)
theorem below_alloc (W : World) (o : Obj) : Below W.heap.size W (W.alloc o) := (Below.refl _ _).alloc (Nat.le_refl _) _
theorem lt_alloc (W : World) (o : Obj) : W.heap.size < (W.alloc o).heap.size := by simp
theorem below_set (w : World) {p : Addr} {B : Nat} (h : B ≤ p.block) (u : Value) : Below B w (w.setCell p u) := (Below.refl _ _).setCell h u
theorem size_set (w : World) (p : Addr) (u : Value) : (w.setCell p u).heap.size = w.heap.size := by simp [World.setCell]
/-- The cells of block g, from its head. -/
def Blk (w : World) (g : Nat) (vs : List Value) : Prop := ∀ (i : Nat) (v : Value), vs[i]? = some v → w.cell? ⟨g, i, none⟩ = some v
theorem Blk.below {w w' : World} {g B : Nat} {vs : List Value} (h : Blk w g vs) (hb : Below B w w') (hg : g < B) : Blk w' g vs := fun i v hi => (hb.cell (p := ⟨g, i, none⟩) hg).trans (h i v hi)
theorem Blk.new (W : World) (cs : Array Value) (T : TypeId) : Blk (W.alloc (.cells cs T)) W.heap.size cs.toList := by
  intro i v h
  rw [Array.getElem?_toList] at h
  have : (W.alloc (.cells cs T)).heap[W.heap.size]? = some (.cells cs T (0, 0)) := (MapKept.heap_alloc W _).1
  rw [cell_of_row _ _ i cs T (0, 0) this]
  exact h
/-- Block g is known: its cells, none frozen. -/
def RW (T : TypeId) (w : World) (g : Nat) (cs : Array Value) : Prop := w.heap[g]? = some (.cells cs T (0, 0))
section
variable {T : TypeId} {w w' : World} {g : Nat} {cs : Array Value}
theorem RW.lt (h : RW T w g cs) : g < w.heap.size := by
  rcases Nat.lt_or_ge g w.heap.size with hlt | hge
  · exact hlt
  · unfold RW at h; rw [Array.getElem?_eq_none hge] at h; cases h
theorem RW.cell (h : RW T w g cs) (i : Nat) : w.cell? ⟨g, i, none⟩ = cs[i]? := cell_of_row w g i cs _ (0, 0) h
theorem RW.frozen (h : RW T w g cs) (i : Nat) : w.frozen? ⟨g, i, none⟩ = false := by
  unfold RW at h
  simp [World.frozen?, h]
theorem RW.set_ (h : RW T w g cs) (i : Nat) (u : Value) : RW T (w.setCell ⟨g, i, none⟩ u) g (cs.setIfInBounds i u) := by
  unfold RW at h ⊢
  simp [World.setCell, Array.getElem?_modify, h]
theorem RW.below {B : Nat} (h : RW T w g cs) (hb : Below B w w') (hg : g < B) : RW T w' g cs := (hb.block g hg).trans h
theorem RW.new (W : World) (cs : Array Value) (T : TypeId) : RW T (W.alloc (.cells cs T)) W.heap.size cs := (MapKept.heap_alloc W _).1
theorem RW.alloc (h : RW T w g cs) (o : Obj) : RW T (w.alloc o) g cs := h.below (below_alloc w o) h.lt
theorem RW.blk (h : RW T w g cs) : Blk w g cs.toList := fun i v hi => by rw [Array.getElem?_toList] at hi; rw [h.cell]; exact hi
end
theorem RW.other {T : TypeId} {w : World} {g : Nat} {cs : Array Value} (h : RW T w g cs) {p : Addr} (hp : g ≠ p.block) (u : Value) : RW T (w.setCell p u) g cs := by
  unfold RW at h ⊢
  simp [World.setCell, Array.getElem?_modify, h]
  exact fun e => absurd e.symm hp
theorem RW.there {T : TypeId} {w : World} {g o n : Nat} {cs : Array Value} (h : RW T w g cs) (hn : o + n ≤ cs.size) : w.there g o n := fun j hj => ⟨by rw [h.cell, Array.getElem?_eq_getElem (by omega)]; rfl, h.frozen _⟩
/-- Cells stored from o on. -/
def putL (cs : Array Value) : Nat → List Value → Array Value
  | _, [] => cs
  | o, v :: r => putL (cs.setIfInBounds o v) (o + 1) r
theorem RW.cells {T : TypeId} {g : Nat} : ∀ {vs : List Value} {w : World} {cs : Array Value} {o : Nat}, RW T w g cs → RW T (w.setCells g o vs) g (putL cs o vs)
  | [], _, _, _, h => h
  | v :: r, w, cs, o, h => RW.cells (vs := r) (h.set_ o v)
theorem RW.others {T : TypeId} {g b : Nat} (hg : g ≠ b) : ∀ {vs : List Value} {w : World} {cs : Array Value} {o : Nat}, RW T w g cs → RW T (w.setCells b o vs) g cs
  | [], _, _, _, h => h
  | v :: r, w, cs, o, h => RW.others hg (vs := r) (h.other hg v)
theorem below_cells {B b : Nat} (h : B ≤ b) : ∀ (vs : List Value) (w : World) (o : Nat), Below B w (w.setCells b o vs)
  | [], w, _ => Below.refl _ _
  | v :: r, w, o => (below_set w (p := ⟨b, o, none⟩) h v).trans (below_cells h r _ _)
theorem putL_size : ∀ (vs : List Value) (cs : Array Value) (o : Nat), (putL cs o vs).size = cs.size
  | [], _, _ => rfl
  | v :: r, cs, o => by rw [putL, putL_size r]; simp
theorem putL_old : ∀ (vs : List Value) (cs : Array Value) (o i : Nat), i < o → (putL cs o vs)[i]? = cs[i]?
  | [], _, _, _, _ => rfl
  | v :: r, cs, o, i, h => by rw [putL, putL_old r _ _ _ (by omega), Array.getElem?_setIfInBounds_ne (by omega)]
theorem putL_new : ∀ (vs : List Value) (cs : Array Value) (o q : Nat) (v : Value), o + vs.length ≤ cs.size → vs[q]? = some v → (putL cs o vs)[o + q]? = some v
  | [], _, _, _, _, _, h => by simp at h
  | u :: r, cs, o, 0, v, hl, h => by
    simp only [List.getElem?_cons_zero, Option.some.injEq] at h
    subst h
    rw [putL, putL_old r _ _ _ (by omega), Nat.add_zero, Array.getElem?_setIfInBounds_self_of_lt (by simp at hl; omega)]
  | u :: r, cs, o, q + 1, v, hl, h => by
    simp only [List.getElem?_cons_succ] at h
    rw [putL, show o + (q + 1) = (o + 1) + q from by omega]
    exact putL_new r _ _ _ _ (by simp at hl ⊢; omega) h
theorem two_new (W : World) (T : TypeId) (c c' : Array Value) (X : World) (e : X = (W.alloc (.cells c T)).alloc (.cells c' T)) : RW T X W.heap.size c ∧ RW T X (W.heap.size + 1) c' ∧ Below W.heap.size W X ∧ X.heap.size = W.heap.size + 2 := by
  subst e
  refine ⟨(RW.new W c T).alloc _, ?_, (below_alloc _ _).alloc (by simp) _, by simp⟩
  have := RW.new (W.alloc (.cells c T)) c' T
  simpa using this
/-- What a sz-function answers: what is left of L, or -1. -/
def SzL (s : Nat) (L : Int) (W : World) (e : Ending) (w' : World) : Prop :=
  (((s : Int) ≤ L ∧ e = .returned (.int .i64 (L - (s : Int)))) ∨ (L < (s : Int) ∧ e = .returned (.int .i64 (-1)))) ∧ Below W.heap.size W w'
theorem SzL.fits {s : Nat} {L : Int} {W w' : World} {e : Ending} (h : SzL s L W e w') (hl : (s : Int) ≤ L) (hL : L ≤ 1048576) : ∃ z, e = .returned (.int .i64 z) ∧ z = L - (s : Int) ∧ 0 ≤ z ∧ z ≤ 1048576 ∧ Below W.heap.size W w' := by
  rcases h with ⟨⟨_, he⟩ | ⟨h1, _⟩, hb⟩
  · exact ⟨_, he, rfl, by omega, by omega, hb⟩
  · omega
theorem SzL.long {s : Nat} {L : Int} {W w' : World} {e : Ending} (h : SzL s L W e w') (hl : ¬ (s : Int) ≤ L) : e = .returned (.int .i64 (-1)) ∧ Below W.heap.size W w' := by
  rcases h with ⟨⟨h1, _⟩ | ⟨_, he⟩, hb⟩
  · exact absurd h1 hl
  · exact ⟨he, hb⟩
/-- A proposition as a bool. -/
noncomputable def tt (P : Prop) : Bool := @decide P (Classical.propDecidable P)
theorem tt_true {P : Prop} (h : P) : tt P = true := by unfold tt; simp [h]
theorem tt_false {P : Prop} (h : ¬ P) : tt P = false := by unfold tt; simp [h]
theorem tt_iff {P : Prop} : tt P = true ↔ P := by unfold tt; simp
theorem of_tt {P : Prop} (h : tt P = true) : P := tt_iff.1 h
theorem of_tt_false {P : Prop} (h : tt P = false) : ¬ P := fun hp => by rw [tt_true hp] at h; cases h
theorem tt_congr {P Q : Prop} (h : P ↔ Q) : tt P = tt Q := by rw [propext h]
section
variable {H : Type} {enc : TypeId × Value → H} {W : World} {base : Nat} {held : Bool}
theorem field_at {P : Program} {fs : Array Field} {m : Nat} {cs : List Value} {ys : List (DataW H × List MemPlace)} {i o k : Nat} {T : TypeId} {sp : Nat → Bool}
    (hf : ∀ (i : Nat) (f : Field), fs[i]? = some f → DataW.trod enc P W base sp held m f.type ((cs.drop f.offset).take (P.cellsOf f.type)) = ys[i]?)
    (h : (fs[i]?.map fun f => (f.type, f.offset)) = some (T, o)) (hk : P.cellsOf T = k) : DataW.trod enc P W base sp held m T ((cs.drop o).take k) = ys[i]? := by
  obtain ⟨f, h1, h2⟩ := Option.map_eq_some_iff.1 h
  simp only [Prod.mk.injEq] at h2
  obtain ⟨rfl, rfl⟩ := h2
  subst hk
  exact hf i f h1
end
/-- A slice's field, opened. -/
theorem open_slice1 {H : Type} {enc : TypeId × Value → H} {P : Program} {w : World} {base m : Nat} {sp : Nat → Bool} {held : Bool} {t e : TypeId} {v : Value} {y : DataW H × List MemPlace} (ht : P.underlying t = some (.slice e)) (h : DataW.trod enc P w base sp held m t [v] = some y) :
    ∃ A n c, n ≤ c ∧ [v] = [Value.slice A n c] := by
  rcases Go.Deep.open_slice ht h with ⟨h0, _⟩ | ⟨a, len, cap, _, _, _, _, hcs, _, hlc, _⟩
  · exact ⟨_, _, _, Nat.le_refl _, h0⟩
  · exact ⟨_, _, _, hlc, hcs⟩
theorem below_sets {B b : Nat} (h : B ≤ b) (vs : List Value) (w : World) (o : Nat) : w.heap.size ≤ (w.setCells b o vs).heap.size := (below_cells (B := 0) (Nat.zero_le _) vs w o).size
end Go.Proofs.YtfcpdjfckeoniaaGreatDoor

namespace Go.Proofs.YtfcpdjfckeoniaaGreatDoor
open Go Go.RowKit

/-- A value. -/
structure Vl where
  k : Int
  n : Int
  t : ByteArray
  r : Int
/-- Its cells. -/
def Vl.vs (x : Vl) : List Value := [.int .i64 x.k, .int .i64 x.n, .string x.t, .int .i64 x.r]
/-- As one value. -/
abbrev Vl.ag (x : Vl) : Value := .agg #[.int .i64 x.k, .int .i64 x.n, .string x.t, .int .i64 x.r]
/-- The four cells from o on of block b. -/
def V4o (w : World) (b o : Nat) (x : Vl) : Prop :=
  w.cell? ⟨b, o, none⟩ = some (.int .i64 x.k) ∧ w.cell? ⟨b, o + 1, none⟩ = some (.int .i64 x.n) ∧ w.cell? ⟨b, o + 2, none⟩ = some (.string x.t) ∧ w.cell? ⟨b, o + 3, none⟩ = some (.int .i64 x.r)
theorem V4o.below {w w' : World} {b o B : Nat} {x : Vl} (h : V4o w b o x) (hb : Below B w w') (hg : b < B) : V4o w' b o x :=
  ⟨(hb.cell (p := ⟨b, o, none⟩) hg).trans h.1, (hb.cell (p := ⟨b, o + 1, none⟩) hg).trans h.2.1, (hb.cell (p := ⟨b, o + 2, none⟩) hg).trans h.2.2.1, (hb.cell (p := ⟨b, o + 3, none⟩) hg).trans h.2.2.2⟩
/-- A slice of values whose cells lie below B. -/
def VI (w : World) (B : Nat) (A : Option Addr) (n : Nat) (xs : List Vl) : Prop :=
  xs.length = n ∧ n ≤ maxLen ∧ (0 < n → ∃ b off, A = some ⟨b, off, none⟩ ∧ b < B ∧ ∀ (j : Nat) (x : Vl), xs[j]? = some x → V4o w b (off + j * 4) x ∧ x.t.size ≤ maxLen)
theorem VI.below {w w' : World} {B n : Nat} {A : Option Addr} {xs : List Vl} (h : VI w B A n xs) (hb : Below B w w') : VI w' B A n xs :=
  ⟨h.1, h.2.1, fun hn => by
    obtain ⟨b, off, e, hg, hc⟩ := h.2.2 hn
    exact ⟨b, off, e, hg, fun j x hx => ⟨(hc j x hx).1.below hb hg, (hc j x hx).2⟩⟩⟩
theorem VI.more {w : World} {B B' n : Nat} {A : Option Addr} {xs : List Vl} (h : VI w B A n xs) (hB : B ≤ B') : VI w B' A n xs :=
  ⟨h.1, h.2.1, fun hn => by
    obtain ⟨b, off, e, hg, hc⟩ := h.2.2 hn
    exact ⟨b, off, e, by omega, hc⟩⟩
theorem VI.nil (w : World) (B : Nat) (A : Option Addr) : VI w B A 0 [] := ⟨rfl, Nat.zero_le _, fun h => absurd h (by omega)⟩
theorem VI.at_ {w : World} {B n k : Nat} {A : Option Addr} {xs : List Vl} (h : VI w B A n xs) (hk : k < n) : ∃ b off x, A = some ⟨b, off, none⟩ ∧ b < B ∧ xs[k]? = some x ∧ V4o w b (off + k * 4) x ∧ x.t.size ≤ maxLen := by
  obtain ⟨b, off, e, hg, hc⟩ := h.2.2 (by omega)
  have hl : k < xs.length := by rw [h.1]; exact hk
  exact ⟨b, off, xs[k], e, hg, List.getElem?_eq_getElem hl, hc k _ (List.getElem?_eq_getElem hl)⟩
/-- A part from the head. -/
theorem VI.take {w : World} {B n : Nat} {A : Option Addr} {xs : List Vl} (h : VI w B A n xs) {k : Nat} (hk : k ≤ n) : VI w B A k (xs.take k) :=
  ⟨by rw [List.length_take, h.1]; omega, Nat.le_trans hk h.2.1, fun hn => by
    obtain ⟨b, off, e, hg, hc⟩ := h.2.2 (by omega)
    refine ⟨b, off, e, hg, fun j x hx => hc j x ?_⟩
    rw [List.getElem?_take] at hx
    split at hx
    · exact hx
    · cases hx⟩
section
variable {H : Type} {enc : TypeId × Value → H} {W : World} {base : Nat} {held : Bool}
theorem open_valuesF {A : Option Addr} {n c fuel : Nat} {x : DataW H × List MemPlace} (hf : DataW.trod enc Tryz.prog W base (fun _ => true) held fuel 159 [.slice A n c] = some x) :
    ∃ xs, VI W W.heap.size A n xs := by
  obtain ⟨hm, hc⟩ := open_structs Tryz.underlying159 Tryz.underlying27 (by kernel_rfl) (by kernel_rfl) (by decide) hf
  by_cases hn : 0 < n
  · obtain ⟨b, off, e, hb, hi⟩ := hc hn
    obtain ⟨xs, hl, hx⟩ := list_of (α := Vl) (P := fun j x => V4o W b (off + j * 4) x ∧ x.t.size ≤ maxLen) (n := n) fun i hin => by
      obtain ⟨v0, y0, m0, c0, t0⟩ := hi i hin 0 _ rfl
      obtain ⟨v1, y1, m1, c1, t1⟩ := hi i hin 1 _ rfl
      obtain ⟨v2, y2, m2, c2, t2⟩ := hi i hin 2 _ rfl
      obtain ⟨v3, y3, m3, c3, t3⟩ := hi i hin 3 _ rfl
      obtain ⟨z0, e0, _, _⟩ := DataW.trod_int Tryz.underlying2 t0
      obtain ⟨z1, e1, _, _⟩ := DataW.trod_int Tryz.underlying2 t1
      obtain ⟨z2, e2, _, hz⟩ := DataW.trod_string Tryz.underlying9 t2
      obtain ⟨z3, e3, _, _⟩ := DataW.trod_int Tryz.underlying2 t3
      simp only [List.cons.injEq, and_true] at e0 e1 e2 e3
      subst e0 e1 e2 e3
      exact ⟨⟨z0, z1, z2, z3⟩, ⟨c0, c1, c2, c3⟩, hz⟩
    exact ⟨xs, hl, hm, fun _ => ⟨b, off, e, hb, fun j x hj => hx j x hj⟩⟩
  · exact ⟨[], by simp; omega, hm, fun h => absurd h hn⟩
end
theorem open_values {H : Type} {enc : TypeId × Value → H} {W : World} {A : Option Addr} {n c : Nat} {d : DataW H} {p : List MemPlace} (h : DataW.Trod enc Tryz.prog W 0 (fun _ => true) true 159 (.slice A n c) d p) :
    ∃ xs, VI W W.heap.size A n xs := by
  obtain ⟨fuel, hf⟩ := h
  exact open_valuesF (by simpa [Value.cells] using hf)

/-- The texts' bytes of the first k values. -/
def sumV (xs : List Vl) : Nat → Nat
  | 0 => 0
  | k + 1 => sumV xs k + ((xs[k]?.map fun (x : Vl) => x.t.size).getD 0)
theorem sumV_next {xs : List Vl} {k : Nat} {x : Vl} (h : xs[k]? = some x) : sumV xs (k + 1) = sumV xs k + x.t.size := by
  rw [sumV, h]
  rfl
theorem sumV_mono {xs : List Vl} {j : Nat} : ∀ {k : Nat}, j ≤ k → sumV xs j ≤ sumV xs k
  | 0, h => by obtain rfl : j = 0 := by omega
               exact Nat.le_refl _
  | k + 1, h => by
    by_cases e : j = k + 1
    · rw [e]; exact Nat.le_refl _
    · have := sumV_mono (xs := xs) (show j ≤ k by omega)
      rw [sumV]
      omega
/-- What szValueS takes of the bound. -/
def szV (xs : List Vl) : Nat := xs.length + sumV xs xs.length

theorem szValue_L (x : Vl) (L : Int) (W : World) (h0 : 0 ≤ L) (hL : L ≤ 1048576) (hm : x.t.size ≤ maxLen) :
    Calls Tryz.prog 6 #[x.ag, .int .i64 L] W (SzL x.t.size L W) := by
  obtain ⟨k, n, t, r⟩ := x
  by_cases h : (t.size : Int) ≤ L
  · exact (szValue_fits k n t r L W h hL).mono fun e w' ⟨he, hb⟩ => ⟨.inl ⟨h, he⟩, hb⟩
  · exact (szValue_long k n t r L W (by omega) h0 hL hm).mono fun e w' ⟨he, hb⟩ => ⟨.inr ⟨by dsimp only; omega, he⟩, hb⟩

set_option maxHeartbeats 1000000 in
set_option maxRecDepth 100000 in
theorem szValueS_any (A : Option Addr) (n c : Nat) (xs : List Vl) (L : Int) (W : World) (hr : VI W W.heap.size A n xs) (h0 : 0 ≤ L) (hL : L ≤ 1048576) :
    Calls Tryz.prog 139 #[.slice A n c, .int .i64 L] W (SzL (szV xs) L W) := by
  have HR := Lib.hid hr
  have hn := hr.2.1
  have hxn := hr.1
  clear hr
  obtain ⟨s, hs⟩ : ∃ s, szV xs = s := ⟨_, rfl⟩
  have HS : Hid (s = n + sumV xs n) := by show _ = _; rw [← hs, szV, hxn]
  rw [hs]
  clear hs hxn
  unfold maxLen at hn
  by_cases hbig : L < (n : Int)
  · have HB : Hid (L < (s : Int)) := by show _ < _; have := HS.out; omega
    have h2 : (n : Int) ≤ 9223372036854775807 := by omega
    have d0 : decide (L - n < 0) = true := by simp; omega
    go_enter Tryz.func139, Tryz.ntmps139
    go_wp2_with fail
    go_ret
    exact ⟨.inr ⟨HB.out, rfl⟩, Below.refl _ _⟩
  · have h1 : (n : Int) ≤ L := by omega
    have hn' : n ≤ 1048576 := by omega
    have d0 : decide (L - n < 0) = false := by simp; omega
    clear hbig
    go_enter Tryz.func139, Tryz.ntmps139
    go_wp2_with fail
    go_loopw [1, 5] (fun q i wr => ∃ k : Nat, ∃ z : Int, k ≤ n ∧ i = .int .i64 k ∧ q = .int .i64 z ∧ 0 ≤ z ∧ z ≤ 1048576 ∧ Hid (z = L - (n : Int) - (sumV xs k : Int)) ∧ Hid (Below W.heap.size W wr)) (fun _ i _ => n - (intOf i).toNat)
    case atStart => exact ⟨0, _, Nat.zero_le _, rfl, rfl, by omega, by omega, by show _ = _; simp [sumV], Below.refl _ _⟩
    case round =>
      obtain ⟨k, z, hk, rfl, rfl, hz0, hz1, HZ, HW⟩ := hrel
      by_cases hlt : k < n
      · obtain ⟨b, off, x, rfl, hg, hx, ⟨q0, q1, q2, q3⟩, hxs⟩ := (HR.out.below HW.out).at_ hlt
        obtain ⟨xk, xn, xt, xr⟩ := x
        dsimp only at q0 q1 q2 q3 hxs
        have HX := Lib.hid hx
        have HXS := Lib.hid hxs
        have b0 : (0 : Int) ≤ (k : Int) := by omega
        have b1 : (k : Int) < (n : Int) := by omega
        clear hx hxs hg
        by_cases hf : (xt.size : Int) ≤ z
        · have dz : decide (z - (xt.size : Int) < 0) = false := by simp; omega
          have HF : Hid ((xt.size : Int) ≤ z) := hf
          have HZ1 : Hid (z ≤ 1048576) := hz1
          have HN : Hid (sumV xs (k + 1) = sumV xs k + xt.size) := sumV_next HX.out
          go_wp2_with (go_at_call 6; refine (szValue_fits _ _ _ _ _ _ HF.out HZ1.out).mono ?_; rintro e w1 ⟨rfl, hb⟩; have HW1 : Hid (Below W.heap.size W w1) := HW.out.trans (hb.mono HW.out.size); clear hb)
          go_roundw
          case rel => exact ⟨k + 1, _, by omega, by go_num, rfl, by omega, by omega, by show _ = _; rw [HN.out, HZ.out]; omega, HW1⟩
          case measure => simp [intOf]; omega
        · have HF : Hid (z < (xt.size : Int)) := by show _ < _; omega
          have HZ0 : Hid (0 ≤ z) := hz0
          have HZ1 : Hid (z ≤ 1048576) := hz1
          have HBIG : Hid (L < (s : Int)) := by
            show _ < _
            have h1 := sumV_mono (xs := xs) (j := k + 1) (k := n) (by omega)
            rw [sumV_next HX.out] at h1
            have h2 := HZ.out
            have h3 := HS.out
            dsimp only at h1
            omega
          clear hf
          go_wp2_with (go_at_call 6; refine (szValue_long _ _ _ _ _ _ HF.out HZ0.out HZ1.out HXS.out).mono ?_; rintro e w1 ⟨rfl, hb⟩; have HW1 : Hid (Below W.heap.size W w1) := HW.out.trans (hb.mono HW.out.size); clear hb)
          go_ret
          exact ⟨.inr ⟨HBIG.out, rfl⟩, HW1.out⟩
      · have hkn : k = n := by omega
        have HE : Hid ((s : Int) ≤ L ∧ z = L - (s : Int)) := by
          have h := HZ.out
          have h3 := HS.out
          rw [hkn] at h
          exact ⟨by omega, by omega⟩
        go_wp2_with fail
        go_ret
        exact ⟨.inl ⟨HE.out.1, by rw [HE.out.2]; rfl⟩, HW.out⟩

/-- Block g of values is known: its cells, none frozen. -/
def VB (w : World) (g : Nat) (cs : Array Value) : Prop := w.heap[g]? = some (.cells cs 36 (0, 0))
section
variable {w w' : World} {g : Nat} {cs : Array Value}
theorem VB.lt (h : VB w g cs) : g < w.heap.size := by
  rcases Nat.lt_or_ge g w.heap.size with hlt | hge
  · exact hlt
  · unfold VB at h; rw [Array.getElem?_eq_none hge] at h; cases h
theorem VB.cell (h : VB w g cs) (i : Nat) : w.cell? ⟨g, i, none⟩ = cs[i]? := cell_of_row w g i cs _ (0, 0) h
theorem VB.frozen (h : VB w g cs) (i : Nat) : w.frozen? ⟨g, i, none⟩ = false := by
  unfold VB at h
  simp [World.frozen?, h]
theorem VB.set_ (h : VB w g cs) (i : Nat) (u : Value) : VB (w.setCell ⟨g, i, none⟩ u) g (cs.setIfInBounds i u) := by
  unfold VB at h ⊢
  simp [World.setCell, Array.getElem?_modify, h]
theorem VB.below {B : Nat} (h : VB w g cs) (hb : Below B w w') (hg : g < B) : VB w' g cs := (hb.block g hg).trans h
end
/-- The elements of block g ahead of j are filled. -/
def FilledV (w : World) (g j n : Nat) (xs : List Vl) : Prop := ∃ cs, VB w g cs ∧ n * 4 ≤ cs.size ∧ ∀ (i q : Nat) (x : Vl) (v : Value), i < j → xs[i]? = some x → x.vs[q]? = some v → cs[i * 4 + q]? = some v
theorem put4_old {cs : Array Value} {b : Nat} {v0 v1 v2 v3 : Value} {i : Nat} (h : i < b) : ((((cs.setIfInBounds b v0).setIfInBounds (b + 1) v1).setIfInBounds (b + 2) v2).setIfInBounds (b + 3) v3)[i]? = cs[i]? := by
  rw [Array.getElem?_setIfInBounds_ne (by omega), Array.getElem?_setIfInBounds_ne (by omega), Array.getElem?_setIfInBounds_ne (by omega), Array.getElem?_setIfInBounds_ne (by omega)]
theorem put4_new {cs : Array Value} {b : Nat} {v0 v1 v2 v3 : Value} (hb : b + 3 < cs.size) : ∀ (x : Nat) (v : Value), [v0, v1, v2, v3][x]? = some v → ((((cs.setIfInBounds b v0).setIfInBounds (b + 1) v1).setIfInBounds (b + 2) v2).setIfInBounds (b + 3) v3)[b + x]? = some v
  | 0, v, h => by
    simp only [List.getElem?_cons_zero, List.getElem?_cons_succ, Option.some.injEq] at h
    subst h
    simp only [Nat.add_zero]
    rw [Array.getElem?_setIfInBounds_ne (by omega), Array.getElem?_setIfInBounds_ne (by omega), Array.getElem?_setIfInBounds_ne (by omega), Array.getElem?_setIfInBounds_self_of_lt (by omega)]
  | 1, v, h => by
    simp only [List.getElem?_cons_zero, List.getElem?_cons_succ, Option.some.injEq] at h
    subst h
    rw [Array.getElem?_setIfInBounds_ne (by omega), Array.getElem?_setIfInBounds_ne (by omega), Array.getElem?_setIfInBounds_self_of_lt (by simp only [Array.size_setIfInBounds]; omega)]
  | 2, v, h => by
    simp only [List.getElem?_cons_zero, List.getElem?_cons_succ, Option.some.injEq] at h
    subst h
    rw [Array.getElem?_setIfInBounds_ne (by omega), Array.getElem?_setIfInBounds_self_of_lt (by simp only [Array.size_setIfInBounds]; omega)]
  | 3, v, h => by
    simp only [List.getElem?_cons_zero, List.getElem?_cons_succ, Option.some.injEq] at h
    subst h
    rw [Array.getElem?_setIfInBounds_self_of_lt (by simp only [Array.size_setIfInBounds]; omega)]
  | x + 4, v, h => by simp at h
theorem valInfo : (Tryz.prog.info? 36).map (fun i => (i.zero, i.size, i.bytes)) = some (some (Value.agg #[.int .i64 0, .int .i64 0, .string ⟨#[]⟩, .int .i64 0]), 4, 40) := by kernel_rfl
theorem block_of_ownV {w : World} {B g n : Nat} {xs : List Value} (h : w.ownsRow B 36 4 (.slice (some ⟨g, 0, none⟩) n n) n xs) : ∃ cs, VB w g cs ∧ n * 4 ≤ cs.size := by
  rcases h.2 with ⟨h', _⟩ | ⟨g', cap', cur, h', _, hg, _, _, hsz, _⟩
  · simp at h'
  · simp only [Value.slice.injEq, Option.some.injEq, Addr.mk.injEq, and_true, true_and] at h'
    obtain ⟨rfl, rfl⟩ := h'
    exact ⟨cur, hg, by omega⟩

/-- What toValueS answers: a slice at the head of the first new block. -/
def ToV (xs : List Vl) (n : Nat) (W : World) (e : Ending) (w' : World) : Prop :=
  e = .returned (.slice (some ⟨W.heap.size, 0, none⟩) n n) ∧ Hid (VI w' w'.heap.size (some ⟨W.heap.size, 0, none⟩) n xs ∧ Below W.heap.size W w')

set_option maxHeartbeats 2000000 in
set_option maxRecDepth 100000 in
theorem toValueS_any (A : Option Addr) (n c : Nat) (xs : List Vl) (W : World) (hr : VI W W.heap.size A n xs) (hn : n ≤ 1048576) :
    Calls Tryz.prog 148 #[.slice A n c] W (ToV xs n W) := by
  obtain ⟨i0, hi, hz0, hz1, hz2⟩ := info_parts valInfo
  have HR := Lib.hid hr
  have h1 : (n : Int) ≤ 1048576 := by omega
  clear hr
  go_enter Tryz.func148, Tryz.ntmps148
  go_wp2_with (at_make; refine wpList_make_full _ rfl _ _ 84 rfl W.heap.size 36 i0 (.agg #[.int .i64 0, .int .i64 0, .string ⟨#[]⟩, .int .i64 0]) 4 Tryz.underlying84 hi hz0 hz1 .i64 .i64 n n n rfl rfl rfl rfl (by rw [hz2]; omega) (by unfold maxLen; omega) (Nat.le_refl _) ?_)
  intro w1 hown hgrow
  have HB1 : Hid (Below W.heap.size W w1) := below_grown_none hgrow
  obtain ⟨cs, hcs, hcn⟩ := block_of_ownV hown
  have HG : Hid (W.heap.size < w1.heap.size) := hcs.lt
  have HM : Hid (FilledV w1 W.heap.size 0 n xs) := ⟨cs, hcs, hcn, fun i q x v hi => absurd hi (by omega)⟩
  clear hown hgrow hcs hcn hi hz0 hz1 hz2
  go_wp2_with fail
  go_loopw [4] (fun i wr => ∃ j : Nat, j ≤ n ∧ i = .int .i64 j ∧ Hid (Below W.heap.size W wr) ∧ Hid (W.heap.size < wr.heap.size) ∧ Hid (FilledV wr W.heap.size j n xs)) (fun i _ => n - (intOf i).toNat)
  case atStart => exact ⟨0, Nat.zero_le _, rfl, HB1, HG, HM⟩
  case round =>
    obtain ⟨j, hj, rfl, HW, HZ, HJ⟩ := hrel
    by_cases hlt : j < n
    · obtain ⟨b, off, x, rfl, hg, hx, ⟨q0, q1, q2, q3⟩, hxs⟩ := (HR.out.below HW.out).at_ hlt
      obtain ⟨xk, xn, xt, xr⟩ := x
      dsimp only at q0 q1 q2 q3 hxs
      have HX := Lib.hid hx
      obtain ⟨cs, hs, hcs, hm⟩ := HJ.out
      have HSB := Lib.hid hs
      have HMM := Lib.hid hm
      have l0 : j * 4 < cs.size := by omega
      have l1 : j * 4 + 1 < cs.size := by omega
      have l2 : j * 4 + 2 < cs.size := by omega
      have l3 : j * 4 + 3 < cs.size := by omega
      have HL0 := Lib.hid l0
      have HL1 := Lib.hid l1
      have HL2 := Lib.hid l2
      have HL3 := Lib.hid l3
      have HCS := Lib.hid hcs
      clear hs hm hx hxs hg hcs l0 l1 l2 l3
      have b0 : (0 : Int) ≤ (j : Int) := by omega
      have b1 : (j : Int) < (n : Int) := by omega
      go_wp2_with (go_at_call 9; refine (toValue_any _ _ _ _ _).mono ?_; rintro e w1 ⟨rfl, hb⟩; have HB1 := Lib.hid hb; have HS1 : Hid (VB w1 W.heap.size cs) := HSB.out.below hb HZ.out; have p0 := (HS1.out.cell (j * 4)).trans (Array.getElem?_eq_getElem HL0.out); have p1 := (HS1.out.cell (j * 4 + 1)).trans (Array.getElem?_eq_getElem HL1.out); have p2 := (HS1.out.cell (j * 4 + 2)).trans (Array.getElem?_eq_getElem HL2.out); have p3 := (HS1.out.cell (j * 4 + 3)).trans (Array.getElem?_eq_getElem HL3.out); have z0 := HS1.out.frozen (j * 4); have z1 := HS1.out.frozen (j * 4 + 1); have z2 := HS1.out.frozen (j * 4 + 2); have z3 := HS1.out.frozen (j * 4 + 3); clear hb q0 q1 q2 q3)
      go_roundw
      case rel =>
        refine ⟨j + 1, by omega, by go_num, ?_, ?_, ?_⟩
        · exact ((((HW.out.trans (HB1.out.mono (Nat.le_of_lt HZ.out))).setCell (Nat.le_refl _) _).setCell (Nat.le_refl _) _).setCell (Nat.le_refl _) _).setCell (Nat.le_refl _) _
        · have h1 := HB1.out.size
          have h2 := HZ.out
          show _ < _
          simp [World.setCell]
          omega
        · refine ⟨_, (((HS1.out.set_ _ _).set_ _ _).set_ _ _).set_ _ _, by simpa using HCS.out, fun i q x v hi hxi hv => ?_⟩
          by_cases e : i = j
          · subst e
            rw [HX.out, Option.some.injEq] at hxi
            subst hxi
            exact put4_new HL3.out q v hv
          · have hq : q < 4 := (List.getElem?_eq_some_iff.1 hv).1
            rw [put4_old (by omega)]
            exact HMM.out i q x v (by omega) hxi hv
      case measure => simp [intOf]; omega
    · have HN : Hid (j = n) := by show _ = _; omega
      go_wp2_with fail
      go_ret
      refine ⟨rfl, Lib.hid ⟨⟨HR.out.1, HR.out.2.1, fun _ => ⟨W.heap.size, 0, rfl, HZ.out, fun i x hx => ?_⟩⟩, HW.out⟩⟩
      obtain ⟨cs, hs, hcs, hm⟩ := HJ.out
      have hil : i < xs.length := (List.getElem?_eq_some_iff.1 hx).1
      have hij : i < j := by have := HN.out; have := HR.out.1; omega
      have hxs : x.t.size ≤ maxLen := by
        obtain ⟨_, _, _, _, hc⟩ := HR.out.2.2 (by have := HR.out.1; omega)
        exact (hc i x hx).2
      rw [Nat.zero_add]
      exact ⟨⟨(hs.cell _).trans (hm i 0 x _ hij hx rfl), (hs.cell _).trans (hm i 1 x _ hij hx rfl), (hs.cell _).trans (hm i 2 x _ hij hx rfl), (hs.cell _).trans (hm i 3 x _ hij hx rfl)⟩, hxs⟩
end Go.Proofs.YtfcpdjfckeoniaaGreatDoor

namespace Go.Proofs.YtfcpdjfckeoniaaGreatDoor
open Go Go.RowKit

/-- An object. -/
structure Ob where
  id : Int
  kind : Int
  name : ByteArray
  low : Int
  keys : List Vl
  vals : List Vl
  d : Vl
/-- Where an object's lists lie. -/
structure Lay where
  Ak : Option Addr
  nk : Nat
  ck : Nat
  Av : Option Addr
  nv : Nat
  cv : Nat
  hk : nk ≤ ck
  hv : nv ≤ cv
/-- An object as one value. -/
abbrev Ob.ag (o : Ob) (l : Lay) : Value := .agg #[.int .i64 o.id, .int .i64 o.kind, .string o.name, .int .i64 o.low, .slice l.Ak l.nk l.ck, .slice l.Av l.nv l.cv, .int .i64 o.d.k, .int .i64 o.d.n, .string o.d.t, .int .i64 o.d.r]
def Ob.vs (o : Ob) (l : Lay) : List Value := [.int .i64 o.id, .int .i64 o.kind, .string o.name, .int .i64 o.low, .slice l.Ak l.nk l.ck, .slice l.Av l.nv l.cv, .int .i64 o.d.k, .int .i64 o.d.n, .string o.d.t, .int .i64 o.d.r]
/-- The lists of an object lie below B. -/
def OV (w : World) (B : Nat) (o : Ob) (l : Lay) : Prop := VI w B l.Ak l.nk o.keys ∧ VI w B l.Av l.nv o.vals ∧ o.name.size ≤ maxLen ∧ o.d.t.size ≤ maxLen
theorem OV.below {w w' : World} {B : Nat} {o : Ob} {l : Lay} (h : OV w B o l) (hb : Below B w w') : OV w' B o l := ⟨h.1.below hb, h.2.1.below hb, h.2.2⟩
theorem OV.more {w : World} {B B' : Nat} {o : Ob} {l : Lay} (h : OV w B o l) (hB : B ≤ B') : OV w B' o l := ⟨h.1.more hB, h.2.1.more hB, h.2.2⟩
/-- The ten cells from p on of block b. -/
def O10 (w : World) (b p : Nat) (o : Ob) (l : Lay) : Prop :=
  w.cell? ⟨b, p, none⟩ = some (.int .i64 o.id) ∧ w.cell? ⟨b, p + 1, none⟩ = some (.int .i64 o.kind) ∧ w.cell? ⟨b, p + 2, none⟩ = some (.string o.name) ∧ w.cell? ⟨b, p + 3, none⟩ = some (.int .i64 o.low) ∧
  w.cell? ⟨b, p + 4, none⟩ = some (.slice l.Ak l.nk l.ck) ∧ w.cell? ⟨b, p + 5, none⟩ = some (.slice l.Av l.nv l.cv) ∧
  w.cell? ⟨b, p + 6, none⟩ = some (.int .i64 o.d.k) ∧ w.cell? ⟨b, p + 7, none⟩ = some (.int .i64 o.d.n) ∧ w.cell? ⟨b, p + 8, none⟩ = some (.string o.d.t) ∧ w.cell? ⟨b, p + 9, none⟩ = some (.int .i64 o.d.r)
theorem O10.below {w w' : World} {b p B : Nat} {o : Ob} {l : Lay} (h : O10 w b p o l) (hb : Below B w w') (hg : b < B) : O10 w' b p o l := by
  obtain ⟨h0, h1, h2, h3, h4, h5, h6, h7, h8, h9⟩ := h
  exact ⟨(hb.cell (p := ⟨b, p, none⟩) hg).trans h0, (hb.cell (p := ⟨b, p + 1, none⟩) hg).trans h1, (hb.cell (p := ⟨b, p + 2, none⟩) hg).trans h2, (hb.cell (p := ⟨b, p + 3, none⟩) hg).trans h3, (hb.cell (p := ⟨b, p + 4, none⟩) hg).trans h4,
    (hb.cell (p := ⟨b, p + 5, none⟩) hg).trans h5, (hb.cell (p := ⟨b, p + 6, none⟩) hg).trans h6, (hb.cell (p := ⟨b, p + 7, none⟩) hg).trans h7, (hb.cell (p := ⟨b, p + 8, none⟩) hg).trans h8, (hb.cell (p := ⟨b, p + 9, none⟩) hg).trans h9⟩
/-- A slice of objects that lies below B, with its objects' lists. -/
def OI (w : World) (B : Nat) (A : Option Addr) (n : Nat) (os : List Ob) : Prop :=
  os.length = n ∧ n ≤ maxLen ∧ (0 < n → ∃ b off, A = some ⟨b, off, none⟩ ∧ b < B ∧ ∀ (j : Nat) (o : Ob), os[j]? = some o → ∃ l, O10 w b (off + j * 10) o l ∧ OV w B o l)
theorem OI.below {w w' : World} {B n : Nat} {A : Option Addr} {os : List Ob} (h : OI w B A n os) (hb : Below B w w') : OI w' B A n os :=
  ⟨h.1, h.2.1, fun hn => by
    obtain ⟨b, off, e, hg, hc⟩ := h.2.2 hn
    refine ⟨b, off, e, hg, fun j o ho => ?_⟩
    obtain ⟨l, h1, h2⟩ := hc j o ho
    exact ⟨l, h1.below hb hg, h2.below hb⟩⟩
theorem OI.more {w : World} {B B' n : Nat} {A : Option Addr} {os : List Ob} (h : OI w B A n os) (hB : B ≤ B') : OI w B' A n os :=
  ⟨h.1, h.2.1, fun hn => by
    obtain ⟨b, off, e, hg, hc⟩ := h.2.2 hn
    refine ⟨b, off, e, by omega, fun j o ho => ?_⟩
    obtain ⟨l, h1, h2⟩ := hc j o ho
    exact ⟨l, h1, h2.more hB⟩⟩
theorem OI.at_ {w : World} {B n k : Nat} {A : Option Addr} {os : List Ob} (h : OI w B A n os) (hk : k < n) : ∃ b off o l, A = some ⟨b, off, none⟩ ∧ b < B ∧ os[k]? = some o ∧ O10 w b (off + k * 10) o l ∧ OV w B o l := by
  obtain ⟨b, off, e, hg, hc⟩ := h.2.2 (by omega)
  have hl : k < os.length := by rw [h.1]; exact hk
  obtain ⟨l, h1, h2⟩ := hc k _ (List.getElem?_eq_getElem hl)
  exact ⟨b, off, os[k], l, e, hg, List.getElem?_eq_getElem hl, h1, h2⟩

section
variable {H : Type} {enc : TypeId × Value → H} {W : World} {base : Nat} {held : Bool}
set_option maxRecDepth 100000 in
/-- The ten cells of an object, each with its own reading. -/
theorem open_object10 {fuel : Nat} {cs : List Value} {x : DataW H × List MemPlace} (h : DataW.trod enc Tryz.prog W base (fun _ => true) held fuel 161 cs = some x) :
    ∃ o l, cs = Ob.vs o l ∧ OV W W.heap.size o l := by
  obtain ⟨ys, m, hm, _, hlen, _, hf⟩ := DataW.trod_struct Tryz.underlying161 h
  have hlen' : cs.length = 10 := hlen.trans (by kernel_rfl)
  match cs, hlen' with
  | [c0, c1, c2, c3, c4, c5, c6, c7, c8, c9], _ =>
    have C1 : Tryz.prog.cellsOf 2 = 1 := by kernel_rfl
    have C2 : Tryz.prog.cellsOf 9 = 1 := by kernel_rfl
    have C3 : Tryz.prog.cellsOf 159 = 1 := by kernel_rfl
    have C4 : Tryz.prog.cellsOf 27 = 4 := by kernel_rfl
    have f0 : DataW.trod enc Tryz.prog W base (fun _ => true) held m 2 [c0] = ys[0]? := field_at (i := 0) (o := 0) hf (by kernel_rfl) C1
    have f1 : DataW.trod enc Tryz.prog W base (fun _ => true) held m 2 [c1] = ys[1]? := field_at (i := 1) (o := 1) hf (by kernel_rfl) C1
    have f2 : DataW.trod enc Tryz.prog W base (fun _ => true) held m 9 [c2] = ys[2]? := field_at (i := 2) (o := 2) hf (by kernel_rfl) C2
    have f3 : DataW.trod enc Tryz.prog W base (fun _ => true) held m 2 [c3] = ys[3]? := field_at (i := 3) (o := 3) hf (by kernel_rfl) C1
    have f4 : DataW.trod enc Tryz.prog W base (fun _ => true) held m 159 [c4] = ys[4]? := field_at (i := 4) (o := 4) hf (by kernel_rfl) C3
    have f5 : DataW.trod enc Tryz.prog W base (fun _ => true) held m 159 [c5] = ys[5]? := field_at (i := 5) (o := 5) hf (by kernel_rfl) C3
    have f6 : DataW.trod enc Tryz.prog W base (fun _ => true) held m 27 [c6, c7, c8, c9] = ys[6]? := field_at (i := 6) (o := 6) hf (by kernel_rfl) C4
    have hys : ∀ i, i < 7 → ∃ y, ys[i]? = some y := by
      intro i hi
      have : ys.length = 7 := by assumption
      exact ⟨_, List.getElem?_eq_getElem (by omega)⟩
    obtain ⟨y0, g0⟩ := hys 0 (by decide)
    obtain ⟨y1, g1⟩ := hys 1 (by decide)
    obtain ⟨y2, g2⟩ := hys 2 (by decide)
    obtain ⟨y3, g3⟩ := hys 3 (by decide)
    obtain ⟨y4, g4⟩ := hys 4 (by decide)
    obtain ⟨y5, g5⟩ := hys 5 (by decide)
    obtain ⟨y6, g6⟩ := hys 6 (by decide)
    rw [g0] at f0
    rw [g1] at f1
    rw [g2] at f2
    rw [g3] at f3
    rw [g4] at f4
    rw [g5] at f5
    rw [g6] at f6
    obtain ⟨z0, e0, _, _⟩ := DataW.trod_int Tryz.underlying2 f0
    obtain ⟨z1, e1, _, _⟩ := DataW.trod_int Tryz.underlying2 f1
    obtain ⟨z2, e2, _, hz2⟩ := DataW.trod_string Tryz.underlying9 f2
    obtain ⟨z3, e3, _, _⟩ := DataW.trod_int Tryz.underlying2 f3
    obtain ⟨Ak, nk, ck, hck, e4⟩ : ∃ A n c, n ≤ c ∧ [c4] = [Value.slice A n c] := by
      rcases Go.Deep.open_slice Tryz.underlying159 f4 with ⟨h0, _⟩ | ⟨a, len, cap, _, _, _, _, hcs, _, hlc, _⟩
      · exact ⟨_, _, _, Nat.le_refl _, h0⟩
      · exact ⟨_, _, _, hlc, hcs⟩
    obtain ⟨Av, nv, cv, hcv, e5⟩ : ∃ A n c, n ≤ c ∧ [c5] = [Value.slice A n c] := by
      rcases Go.Deep.open_slice Tryz.underlying159 f5 with ⟨h0, _⟩ | ⟨a, len, cap, _, _, _, _, hcs, _, hlc, _⟩
      · exact ⟨_, _, _, Nat.le_refl _, h0⟩
      · exact ⟨_, _, _, hlc, hcs⟩
    rw [e4] at f4
    rw [e5] at f5
    obtain ⟨ks, hks⟩ := open_valuesF f4
    obtain ⟨vs, hvs⟩ := open_valuesF f5
    obtain ⟨ys', m', _, _, _, hl', hf'⟩ := DataW.trod_struct Tryz.underlying27 f6
    have d0 : DataW.trod enc Tryz.prog W base (fun _ => true) held m' 2 [c6] = ys'[0]? := field_at (i := 0) (o := 0) hf' (by kernel_rfl) C1
    have d1 : DataW.trod enc Tryz.prog W base (fun _ => true) held m' 2 [c7] = ys'[1]? := field_at (i := 1) (o := 1) hf' (by kernel_rfl) C1
    have d2 : DataW.trod enc Tryz.prog W base (fun _ => true) held m' 9 [c8] = ys'[2]? := field_at (i := 2) (o := 2) hf' (by kernel_rfl) C2
    have d3 : DataW.trod enc Tryz.prog W base (fun _ => true) held m' 2 [c9] = ys'[3]? := field_at (i := 3) (o := 3) hf' (by kernel_rfl) C1
    have hys' : ∀ i, i < 4 → ∃ y, ys'[i]? = some y := by
      intro i hi
      have : ys'.length = 4 := by assumption
      exact ⟨_, List.getElem?_eq_getElem (by omega)⟩
    obtain ⟨x0, j0⟩ := hys' 0 (by decide)
    obtain ⟨x1, j1⟩ := hys' 1 (by decide)
    obtain ⟨x2, j2⟩ := hys' 2 (by decide)
    obtain ⟨x3, j3⟩ := hys' 3 (by decide)
    rw [j0] at d0
    rw [j1] at d1
    rw [j2] at d2
    rw [j3] at d3
    obtain ⟨z6, e6, _, _⟩ := DataW.trod_int Tryz.underlying2 d0
    obtain ⟨z7, e7, _, _⟩ := DataW.trod_int Tryz.underlying2 d1
    obtain ⟨z8, e8, _, hz8⟩ := DataW.trod_string Tryz.underlying9 d2
    obtain ⟨z9, e9, _, _⟩ := DataW.trod_int Tryz.underlying2 d3
    simp only [List.cons.injEq, and_true] at e0 e1 e2 e3 e4 e5 e6 e7 e8 e9
    subst e0 e1 e2 e3 e4 e5 e6 e7 e8 e9
    exact ⟨⟨z0, z1, z2, z3, ks, vs, ⟨z6, z7, z8, z9⟩⟩, ⟨Ak, nk, ck, Av, nv, cv, hck, hcv⟩, rfl, hks, hvs, hz2, hz8⟩
end
set_option maxRecDepth 100000 in
/-- An argument that is an object. -/
theorem open_object {H : Type} {enc : TypeId × Value → H} {W : World} {v : Value} {d : DataW H} {p : List MemPlace} {r : Reach} {b0 : Nat} (hv : Value.okWide Tryz.prog W r b0 161 v) (h : DataW.Trod enc Tryz.prog W 0 (fun _ => true) true 161 v d p) :
    ∃ o l, v = Ob.ag o l ∧ OV W W.heap.size o l := by
  obtain ⟨cs, rfl, hsz⟩ := Go.WideShapes.okWide_struct Tryz.underlying161 hv
  obtain ⟨fuel, hf⟩ := h
  obtain ⟨o, l, e, ho⟩ := open_object10 hf
  refine ⟨o, l, ?_, ho⟩
  have : cs.toList = Ob.vs o l := e
  rw [show cs = (Ob.vs o l).toArray from by rw [← this]]
  rfl
set_option maxRecDepth 100000 in
/-- An argument that is a slice of objects. -/
theorem open_objectsF {H : Type} {enc : TypeId × Value → H} {W : World} {A : Option Addr} {n c fuel : Nat} {x : DataW H × List MemPlace} (hf : DataW.trod enc Tryz.prog W 0 (fun _ => true) true fuel 41 [.slice A n c] = some x) :
    ∃ os, OI W W.heap.size A n os := by
  rcases Go.Deep.open_slice Tryz.underlying41 hf with ⟨h0, _⟩ | ⟨a, len, cap, m, k, D, Pl, hcs, hb, hl, hm, hmm, hx, hi⟩
  · simp at h0
    obtain ⟨rfl, rfl, rfl⟩ := h0
    exact ⟨[], rfl, Nat.zero_le _, fun h => absurd h (by omega)⟩
  · simp only [List.cons.injEq, Value.slice.injEq, and_true] at hcs
    obtain ⟨rfl, rfl, rfl⟩ := hcs
    simp only [if_true] at hmm
    have hC : Tryz.prog.cellsOf 161 = 10 := by kernel_rfl
    have key : ∀ i, i < n → ∃ o : Ob, ∃ l, (∀ j v, (Ob.vs o l)[j]? = some v → W.cell? (a.add (i * 10 + j)) = some v) ∧ OV W W.heap.size o l := by
      intro i hin
      obtain ⟨cs', hc, ht'⟩ := hi i (by omega)
      rw [hC] at hc
      obtain ⟨o, l, e, ho⟩ := open_object10 ht'
      obtain ⟨_, hcl, hat⟩ := World.cells?_some hc
      refine ⟨o, l, fun j v hj => ?_, ho⟩
      rw [← e] at hj
      have hjl : j < 10 := by have := (List.getElem?_eq_some_iff.1 hj).1; omega
      rw [← Go.Deep.add_add, hat j hjl, hj]
    have hnm : n ≤ maxLen := Nat.le_trans hl hm
    by_cases hn : 0 < n
    · obtain ⟨ab, ao, spot⟩ := a
      obtain ⟨o0, l0, h0, _⟩ := key 0 hn
      have h00 := h0 0 _ rfl
      have hspot : spot = none := by simpa [Addr.add] using World.cell?_spot h00
      subst hspot
      rw [Addr.add_lit] at h00
      obtain ⟨os, hl', hx'⟩ := list_of (α := Ob) (P := fun j o => ∃ l, O10 W ab (ao + j * 10) o l ∧ OV W W.heap.size o l) (n := n) fun i hin => by
        obtain ⟨o, l, hc, ho⟩ := key i hin
        have hc' : ∀ j v, (Ob.vs o l)[j]? = some v → W.cell? ⟨ab, ao + i * 10 + j, none⟩ = some v := by
          intro j v hj
          have := hc j v hj
          rw [Addr.add_lit, ← Nat.add_assoc] at this
          exact this
        exact ⟨o, l, ⟨hc' 0 _ rfl, hc' 1 _ rfl, hc' 2 _ rfl, hc' 3 _ rfl, hc' 4 _ rfl, hc' 5 _ rfl, hc' 6 _ rfl, hc' 7 _ rfl, hc' 8 _ rfl, hc' 9 _ rfl⟩, ho⟩
      exact ⟨os, hl', hnm, fun _ => ⟨ab, ao, rfl, World.block_lt_of_cell? W ⟨ab, _, none⟩ h00, hx'⟩⟩
    · exact ⟨[], by simp; omega, hnm, fun h => absurd h hn⟩
set_option maxRecDepth 100000 in
/-- An argument that is a heap. -/
theorem open_heap {H : Type} {enc : TypeId × Value → H} {W : World} {v : Value} {d : DataW H} {p : List MemPlace} {r : Reach} {b0 : Nat} (hv : Value.okWide Tryz.prog W r b0 43 v) (h : DataW.Trod enc Tryz.prog W 0 (fun _ => true) true 43 v d p) :
    ∃ nx A n c os, v = .agg #[.int .i64 nx, .slice A n c] ∧ (Lit.int .i64 nx).wf = true ∧ OI W W.heap.size A n os := by
  obtain ⟨c0, c1, y0, y1, fu, rfl, _, _, t0, t1⟩ := Go.Joins.open_agg2 Tryz.underlying43 (by kernel_rfl) (by kernel_rfl) hv h
  obtain ⟨nx, e0, _, hwf⟩ := DataW.trod_int Tryz.underlying2 t0
  obtain ⟨A, n, c, e1⟩ : ∃ A n c, [c1] = [Value.slice A n c] := by
    rcases Go.Deep.open_slice Tryz.underlying41 t1 with ⟨h0, _⟩ | ⟨a, len, cap, _, _, _, _, hcs, _⟩
    · exact ⟨_, _, _, h0⟩
    · exact ⟨_, _, _, hcs⟩
  rw [e1] at t1
  obtain ⟨os, hos⟩ := open_objectsF t1
  simp only [List.cons.injEq, and_true] at e0 e1
  subst e0 e1
  exact ⟨nx, A, n, c, os, rfl, hwf, hos⟩
end Go.Proofs.YtfcpdjfckeoniaaGreatDoor

namespace Go.Proofs.YtfcpdjfckeoniaaGreatDoor
open Go Go.RowKit

theorem O10.of_blk {w : World} {g : Nat} {o : Ob} {l : Lay} (h : Blk w g (o.vs l)) : O10 w g 0 o l :=
  ⟨h 0 _ rfl, h 1 _ rfl, h 2 _ rfl, h 3 _ rfl, h 4 _ rfl, h 5 _ rfl, h 6 _ rfl, h 7 _ rfl, h 8 _ rfl, h 9 _ rfl⟩
/-- Behind a new block, all that was below stands. -/
theorem VI.alloc {W : World} {A : Option Addr} {n : Nat} {xs : List Vl} (h : VI W W.heap.size A n xs) (o : Obj) : VI (W.alloc o) (W.alloc o).heap.size A n xs := (h.below (below_alloc W o)).more (by simp)
theorem OV.alloc {W : World} {o : Ob} {l : Lay} (h : OV W W.heap.size o l) (q : Obj) : OV (W.alloc q) (W.alloc q).heap.size o l := (h.below (below_alloc W q)).more (by simp)
theorem OI.alloc {W : World} {A : Option Addr} {n : Nat} {os : List Ob} (h : OI W W.heap.size A n os) (o : Obj) : OI (W.alloc o) (W.alloc o).heap.size A n os := (h.below (below_alloc W o)).more (by simp)
theorem VI.go {W w : World} {A : Option Addr} {n : Nat} {xs : List Vl} (h : VI W W.heap.size A n xs) (hb : Below W.heap.size W w) : VI w w.heap.size A n xs := (h.below hb).more hb.size
theorem OV.go {W w : World} {o : Ob} {l : Lay} (h : OV W W.heap.size o l) (hb : Below W.heap.size W w) : OV w w.heap.size o l := (h.below hb).more hb.size
theorem OI.go {W w : World} {A : Option Addr} {n : Nat} {os : List Ob} (h : OI W W.heap.size A n os) (hb : Below W.heap.size W w) : OI w w.heap.size A n os := (h.below hb).more hb.size

/-- What szObject takes of the bound. -/
def szO (o : Ob) : Nat := o.name.size + szV o.keys + szV o.vals + o.d.t.size

set_option maxHeartbeats 1000000 in
set_option maxRecDepth 100000 in
theorem szObject_any (o : Ob) (l : Lay) (L : Int) (W : World) (ho : OV W W.heap.size o l) (h0 : 0 ≤ L) (hL : L ≤ 1048576) :
    Calls Tryz.prog 110 #[o.ag l, .int .i64 L] W (SzL (szO o) L W) := by
  obtain ⟨s, hs⟩ : ∃ s, szO o = s := ⟨_, rfl⟩
  rw [hs]
  unfold szO at hs
  obtain ⟨id, kind, name, low, ks, vs, ⟨dk, dn, dt, dr⟩⟩ := o
  obtain ⟨Ak, nk, ck, Av, nv, cv, hck, hcv⟩ := l
  obtain ⟨hk, hv, hn, hd⟩ := ho
  dsimp only at hk hv hn hd hs
  have HK := Lib.hid hk
  have HV := Lib.hid hv
  have HD := Lib.hid hd
  have HS := Lib.hid hs
  have HL := Lib.hid hL
  have HC := Lib.hid (fun X (e : X = W.alloc (.cells #[.int .i64 id, .int .i64 kind, .string name, .int .i64 low, .slice Ak nk ck, .slice Av nv cv, .int .i64 dk, .int .i64 dn, .string dt, .int .i64 dr] 161)) => (show Blk X W.heap.size (Ob.vs ⟨id, kind, name, low, ks, vs, ⟨dk, dn, dt, dr⟩⟩ ⟨Ak, nk, ck, Av, nv, cv, hck, hcv⟩) ∧ Below W.heap.size W X ∧ W.heap.size < X.heap.size from by rw [e]; exact ⟨Blk.new _ _ _, below_alloc _ _, lt_alloc _ _⟩))
  unfold maxLen at hn
  clear hk hv hd hs
  show Calls Tryz.prog 110 #[.agg #[.int .i64 id, .int .i64 kind, .string name, .int .i64 low, .slice Ak nk ck, .slice Av nv cv, .int .i64 dk, .int .i64 dn, .string dt, .int .i64 dr], .int .i64 L] W _
  by_cases c1 : (name.size : Int) ≤ L
  · have d1 : decide (L - (name.size : Int) < 0) = false := by simp; omega
    by_cases c2 : (szV ks : Int) ≤ L - (name.size : Int)
    · have H2 := Lib.hid c2
      have b0 : (0 : Int) ≤ L - (name.size : Int) := by omega
      have b1 : L - (name.size : Int) ≤ 1048576 := by omega
      have B0 := Lib.hid b0
      have B1 := Lib.hid b1
      by_cases c3 : (szV ks : Int) + (szV vs : Int) ≤ L - (name.size : Int)
      · have H3 := Lib.hid c3
        by_cases c4 : (szV ks : Int) + (szV vs : Int) + (dt.size : Int) ≤ L - (name.size : Int)
        · have H4 := Lib.hid c4
          clear c2 c3 c4 b0 b1
          go_enter Tryz.func110, Tryz.ntmps110
          go_wp2_with (go_at_call 139; obtain ⟨g0, g1, g2⟩ := HC.out _ rfl; have HQ := szValueS_any Ak nk ck ks (L - (name.size : Int)) _ (HK.out.go g1) B0.out B1.out; refine Calls.mono HQ ?_; clear HQ; intro e w1 h; obtain ⟨z1, rfl, hz1, l1, u1, hb⟩ := h.fits H2.out B1.out; have Z1 := Lib.hid hz1; have d2 : decide (z1 < 0) = false := (by simp; omega); have HC1 := Lib.hid (g0.below hb g2); have HB1 := Lib.hid (g1.trans (hb.mono g1.size)); have HG1 := Lib.hid (Nat.lt_of_lt_of_le g2 hb.size); have L1 := Lib.hid l1; have U1 := Lib.hid u1; have q5 := HC1.out 5 _ rfl; clear hb hz1 g0 g1 g2 HK)
          go_wp2_with (go_at_call 139; have HQ := szValueS_any Av nv cv vs z1 w1 (HV.out.go HB1.out) L1.out U1.out; refine Calls.mono HQ ?_; clear HQ; intro e w2 h; obtain ⟨z2, rfl, hz2, l2, u2, hb⟩ := h.fits (by have := H3.out; have := Z1.out; omega) U1.out; have Z2 := Lib.hid hz2; have d3 : decide (z2 < 0) = false := (by simp; omega); have HC2 := Lib.hid (HC1.out.below hb HG1.out); have HB2 := Lib.hid (HB1.out.trans (hb.mono HB1.out.size)); have L2 := Lib.hid l2; have U2 := Lib.hid u2; have q6 := HC2.out 6 _ rfl; have q7 := HC2.out 7 _ rfl; have q8 := HC2.out 8 _ rfl; have q9 := HC2.out 9 _ rfl; clear hb hz2 q5 HV)
          go_wp2_with (go_at_call 6; refine (szValue_L ⟨dk, dn, dt, dr⟩ _ _ L2.out U2.out HD.out).mono ?_; intro e w3 h; obtain ⟨z3, rfl, hz3, l3, u3, hb⟩ := h.fits (by have := H4.out; have := Z1.out; have := Z2.out; dsimp only; omega) U2.out; have Z3 := Lib.hid hz3; have d4 : decide (z3 < 0) = false := (by simp; omega); have HB3 := Lib.hid (HB2.out.trans (hb.mono HB2.out.size)); clear hb hz3 q6 q7 q8 q9)
          go_ret
          refine ⟨.inl ⟨?_, ?_⟩, HB3.out⟩
          · have := HS.out; have := H4.out; omega
          · have := HS.out; have := Z1.out; have := Z2.out; have := Z3.out
            show Ending.returned (.int .i64 _) = .returned (.int .i64 _)
            congr 2
            try dsimp only at *
            omega
        · have H4 := Lib.hid c4
          clear c2 c3 c4 b0 b1
          go_enter Tryz.func110, Tryz.ntmps110
          go_wp2_with (go_at_call 139; obtain ⟨g0, g1, g2⟩ := HC.out _ rfl; have HQ := szValueS_any Ak nk ck ks (L - (name.size : Int)) _ (HK.out.go g1) B0.out B1.out; refine Calls.mono HQ ?_; clear HQ; intro e w1 h; obtain ⟨z1, rfl, hz1, l1, u1, hb⟩ := h.fits H2.out B1.out; have Z1 := Lib.hid hz1; have d2 : decide (z1 < 0) = false := (by simp; omega); have HC1 := Lib.hid (g0.below hb g2); have HB1 := Lib.hid (g1.trans (hb.mono g1.size)); have HG1 := Lib.hid (Nat.lt_of_lt_of_le g2 hb.size); have L1 := Lib.hid l1; have U1 := Lib.hid u1; have q5 := HC1.out 5 _ rfl; clear hb hz1 g0 g1 g2 HK)
          go_wp2_with (go_at_call 139; have HQ := szValueS_any Av nv cv vs z1 w1 (HV.out.go HB1.out) L1.out U1.out; refine Calls.mono HQ ?_; clear HQ; intro e w2 h; obtain ⟨z2, rfl, hz2, l2, u2, hb⟩ := h.fits (by have := H3.out; have := Z1.out; omega) U1.out; have Z2 := Lib.hid hz2; have d3 : decide (z2 < 0) = false := (by simp; omega); have HC2 := Lib.hid (HC1.out.below hb HG1.out); have HB2 := Lib.hid (HB1.out.trans (hb.mono HB1.out.size)); have L2 := Lib.hid l2; have U2 := Lib.hid u2; have q6 := HC2.out 6 _ rfl; have q7 := HC2.out 7 _ rfl; have q8 := HC2.out 8 _ rfl; have q9 := HC2.out 9 _ rfl; clear hb hz2 q5 HV)
          go_wp2_with (go_at_call 6; refine (szValue_L ⟨dk, dn, dt, dr⟩ _ _ L2.out U2.out HD.out).mono ?_; intro e w3 h; obtain ⟨rfl, hb⟩ := h.long (by have := H4.out; have := Z1.out; have := Z2.out; dsimp only; omega); have HB3 := Lib.hid (HB2.out.trans (hb.mono HB2.out.size)); clear hb q6 q7 q8 q9)
          go_ret
          exact ⟨.inr ⟨by have := HS.out; have := H4.out; omega, rfl⟩, HB3.out⟩
      · have H3 := Lib.hid c3
        clear c2 c3 b0 b1
        go_enter Tryz.func110, Tryz.ntmps110
        go_wp2_with (go_at_call 139; obtain ⟨g0, g1, g2⟩ := HC.out _ rfl; have HQ := szValueS_any Ak nk ck ks (L - (name.size : Int)) _ (HK.out.go g1) B0.out B1.out; refine Calls.mono HQ ?_; clear HQ; intro e w1 h; obtain ⟨z1, rfl, hz1, l1, u1, hb⟩ := h.fits H2.out B1.out; have Z1 := Lib.hid hz1; have d2 : decide (z1 < 0) = false := (by simp; omega); have HC1 := Lib.hid (g0.below hb g2); have HB1 := Lib.hid (g1.trans (hb.mono g1.size)); have L1 := Lib.hid l1; have U1 := Lib.hid u1; have q5 := HC1.out 5 _ rfl; clear hb hz1 g0 g1 g2 HK)
        go_wp2_with (go_at_call 139; have HQ := szValueS_any Av nv cv vs z1 w1 (HV.out.go HB1.out) L1.out U1.out; refine Calls.mono HQ ?_; clear HQ; intro e w2 h; obtain ⟨rfl, hb⟩ := h.long (by have := H3.out; have := Z1.out; omega); have HB2 := Lib.hid (HB1.out.trans (hb.mono HB1.out.size)); clear hb q5)
        go_ret
        exact ⟨.inr ⟨by have := HS.out; have := H3.out; omega, rfl⟩, HB2.out⟩
    · have H2 := Lib.hid c2
      have B0 : Hid (0 ≤ L - (name.size : Int)) := by show _ ≤ _; omega
      have B1 : Hid (L - (name.size : Int) ≤ 1048576) := by show _ ≤ _; omega
      clear c2
      go_enter Tryz.func110, Tryz.ntmps110
      go_wp2_with (go_at_call 139; obtain ⟨g0, g1, g2⟩ := HC.out _ rfl; have HQ := szValueS_any Ak nk ck ks (L - (name.size : Int)) _ (HK.out.go g1) B0.out B1.out; refine Calls.mono HQ ?_; clear HQ; intro e w1 h; obtain ⟨rfl, hb⟩ := h.long H2.out; have HB1 := Lib.hid (g1.trans (hb.mono g1.size)); clear hb g0 g1 g2)
      go_ret
      exact ⟨.inr ⟨by have := HS.out; have := H2.out; omega, rfl⟩, HB1.out⟩
  · have d1 : decide (L - (name.size : Int) < 0) = true := by simp; omega
    have HX : Hid (L < (s : Int)) := by have := HS.out; show _ < _; omega
    go_enter Tryz.func110, Tryz.ntmps110
    go_wp2_with fail
    go_ret
    exact ⟨.inr ⟨HX.out, rfl⟩, below_alloc _ _⟩
end Go.Proofs.YtfcpdjfckeoniaaGreatDoor

namespace Go.Proofs.YtfcpdjfckeoniaaGreatDoor
open Go Go.RowKit

/-- What the first k objects take of the bound, their number aside. -/
def sumO (os : List Ob) : Nat → Nat
  | 0 => 0
  | k + 1 => sumO os k + ((os[k]?.map szO).getD 0)
theorem sumO_next {os : List Ob} {k : Nat} {o : Ob} (h : os[k]? = some o) : sumO os (k + 1) = sumO os k + szO o := by
  rw [sumO, h]
  rfl
theorem sumO_mono {os : List Ob} {j : Nat} : ∀ {k : Nat}, j ≤ k → sumO os j ≤ sumO os k
  | 0, h => by obtain rfl : j = 0 := by omega
               exact Nat.le_refl _
  | k + 1, h => by
    by_cases e : j = k + 1
    · rw [e]; exact Nat.le_refl _
    · have := sumO_mono (os := os) (show j ≤ k by omega)
      rw [sumO]
      omega
/-- What szHeap takes of the bound. -/
def szH (os : List Ob) : Nat := os.length + sumO os os.length

set_option maxHeartbeats 1000000 in
set_option maxRecDepth 100000 in
theorem szObjectS_any (A : Option Addr) (n c : Nat) (os : List Ob) (L : Int) (W : World) (hr : OI W W.heap.size A n os) (h0 : 0 ≤ L) (hL : L ≤ 1048576) :
    Calls Tryz.prog 70 #[.slice A n c, .int .i64 L] W (SzL (szH os) L W) := by
  have HR := Lib.hid hr
  have hn := hr.2.1
  have hxn := hr.1
  clear hr
  obtain ⟨s, hs⟩ : ∃ s, szH os = s := ⟨_, rfl⟩
  have HS : Hid (s = n + sumO os n) := by show _ = _; rw [← hs, szH, hxn]
  rw [hs]
  clear hs hxn
  unfold maxLen at hn
  by_cases hbig : L < (n : Int)
  · have HB : Hid (L < (s : Int)) := by show _ < _; have := HS.out; omega
    have h2 : (n : Int) ≤ 9223372036854775807 := by omega
    have d0 : decide (L - n < 0) = true := by simp; omega
    go_enter Tryz.func70, Tryz.ntmps70
    go_wp2_with fail
    go_ret
    exact ⟨.inr ⟨HB.out, rfl⟩, Below.refl _ _⟩
  · have h1 : (n : Int) ≤ L := by omega
    have hn' : n ≤ 1048576 := by omega
    have d0 : decide (L - n < 0) = false := by simp; omega
    clear hbig
    go_enter Tryz.func70, Tryz.ntmps70
    go_wp2_with fail
    go_loopw [1, 5] (fun q i wr => ∃ k : Nat, ∃ z : Int, k ≤ n ∧ i = .int .i64 k ∧ q = .int .i64 z ∧ 0 ≤ z ∧ z ≤ 1048576 ∧ Hid (z = L - (n : Int) - (sumO os k : Int)) ∧ Hid (Below W.heap.size W wr)) (fun _ i _ => n - (intOf i).toNat)
    case atStart => exact ⟨0, _, Nat.zero_le _, rfl, rfl, by omega, by omega, by show _ = _; simp [sumO], Below.refl _ _⟩
    case round =>
      obtain ⟨k, z, hk, rfl, rfl, hz0, hz1, HZ, HW⟩ := hrel
      by_cases hlt : k < n
      · obtain ⟨b, off, o, l, rfl, hg, hx, ⟨q0, q1, q2, q3, q4, q5, q6, q7, q8, q9⟩, hov⟩ := (HR.out.below HW.out).at_ hlt
        have HO := Lib.hid (hov.more HW.out.size)
        have HX := Lib.hid hx
        have b0 : (0 : Int) ≤ (k : Int) := by omega
        have b1 : (k : Int) < (n : Int) := by omega
        have HZ0 : Hid (0 ≤ z) := hz0
        have HZ1 : Hid (z ≤ 1048576) := hz1
        clear hx hov hg
        by_cases hf : (szO o : Int) ≤ z
        · have HF := Lib.hid hf
          have HN : Hid (sumO os (k + 1) = sumO os k + szO o) := sumO_next HX.out
          clear hf
          go_wp2_with (go_at_call 110; refine (szObject_any o l _ _ HO.out HZ0.out HZ1.out).mono ?_; intro e w1 h; obtain ⟨z1, rfl, hz2, l1, u1, hb⟩ := h.fits HF.out HZ1.out; have Z1 := Lib.hid hz2; have dz : decide (z1 < 0) = false := (by simp; omega); have HW1 : Hid (Below W.heap.size W w1) := HW.out.trans (hb.mono HW.out.size); clear hb hz2)
          go_roundw
          case rel => exact ⟨k + 1, _, by omega, by go_num, rfl, by omega, by omega, by show _ = _; rw [HN.out, Z1.out, HZ.out]; omega, HW1⟩
          case measure => simp [intOf]; omega
        · have HF := Lib.hid hf
          have HBIG : Hid (L < (s : Int)) := by
            show _ < _
            have h1 := sumO_mono (os := os) (j := k + 1) (k := n) (by omega)
            rw [sumO_next HX.out] at h1
            have h2 := HZ.out
            have h3 := HS.out
            omega
          clear hf
          go_wp2_with (go_at_call 110; refine (szObject_any o l _ _ HO.out HZ0.out HZ1.out).mono ?_; intro e w1 h; obtain ⟨rfl, hb⟩ := h.long HF.out; have HW1 : Hid (Below W.heap.size W w1) := HW.out.trans (hb.mono HW.out.size); clear hb)
          go_ret
          exact ⟨.inr ⟨HBIG.out, rfl⟩, HW1.out⟩
      · have hkn : k = n := by omega
        have HE : Hid ((s : Int) ≤ L ∧ z = L - (s : Int)) := by
          have h := HZ.out
          have h3 := HS.out
          rw [hkn] at h
          exact ⟨by omega, by omega⟩
        go_wp2_with fail
        go_ret
        exact ⟨.inl ⟨HE.out.1, by rw [HE.out.2]; rfl⟩, HW.out⟩

set_option maxRecDepth 100000 in
theorem szHeap_any (nx : Int) (A : Option Addr) (n c : Nat) (os : List Ob) (L : Int) (W : World) (hr : OI W W.heap.size A n os) (h0 : 0 ≤ L) (hL : L ≤ 1048576) :
    Calls Tryz.prog 35 #[.agg #[.int .i64 nx, .slice A n c], .int .i64 L] W (SzL (szH os) L W) := by
  have HR := Lib.hid hr
  have H0 := Lib.hid h0
  have HL := Lib.hid hL
  have HA := Lib.hid (fun X (e : X = W.alloc (.cells #[.int .i64 nx, .slice A n c] 43)) => (show Below W.heap.size W X from by rw [e]; exact below_alloc _ _))
  clear hr
  by_cases hf : (szH os : Int) ≤ L
  · have HF := Lib.hid hf
    clear hf
    go_enter Tryz.func35, Tryz.ntmps35
    go_wp2_with (go_at_call 70; refine (szObjectS_any _ _ _ os _ _ (HR.out.go (HA.out _ rfl)) H0.out HL.out).mono ?_; intro e w1 h; obtain ⟨z1, rfl, hz2, l1, u1, hb⟩ := h.fits HF.out HL.out; have Z1 := Lib.hid hz2; have dz : decide (z1 < 0) = false := (by simp; omega); have HW1 : Hid (Below W.heap.size W w1) := (below_alloc _ _).trans (hb.mono (by simp)); clear hb hz2)
    go_ret
    exact ⟨.inl ⟨HF.out, by rw [Z1.out]; rfl⟩, HW1.out⟩
  · have HF := Lib.hid hf
    clear hf
    go_enter Tryz.func35, Tryz.ntmps35
    go_wp2_with (go_at_call 70; refine (szObjectS_any _ _ _ os _ _ (HR.out.go (HA.out _ rfl)) H0.out HL.out).mono ?_; intro e w1 h; obtain ⟨rfl, hb⟩ := h.long HF.out; have HW1 : Hid (Below W.heap.size W w1) := (below_alloc _ _).trans (hb.mono (by simp)); clear hb)
    go_ret
    exact ⟨.inr ⟨by have := HF.out; omega, rfl⟩, HW1.out⟩
end Go.Proofs.YtfcpdjfckeoniaaGreatDoor

namespace Go.Proofs.YtfcpdjfckeoniaaGreatDoor
open Go Go.RowKit

section
variable {T : TypeId} {w w' : World} {g : Nat} {cs : Array Value}
end

theorem V4o.other {w : World} {b o : Nat} {x : Vl} (h : V4o w b o x) {p : Addr} (hp : b ≠ p.block) (u : Value) : V4o (w.setCell p u) b o x := by
  have k : ∀ i, (w.setCell p u).cell? ⟨b, i, none⟩ = w.cell? ⟨b, i, none⟩ := fun i => World.cell?_setCell_other w p ⟨b, i, none⟩ u (fun e => hp (by rw [e]))
  obtain ⟨h0, h1, h2, h3⟩ := h
  exact ⟨(k _).trans h0, (k _).trans h1, (k _).trans h2, (k _).trans h3⟩
theorem VI.other {w : World} {B n b off : Nat} {xs : List Vl} (h : VI w B (some ⟨b, off, none⟩) n xs) {p : Addr} (hp : b ≠ p.block) (u : Value) : VI (w.setCell p u) B (some ⟨b, off, none⟩) n xs :=
  ⟨h.1, h.2.1, fun hn => by
    obtain ⟨b', off', e, hg, hc⟩ := h.2.2 hn
    simp only [Option.some.injEq, Addr.mk.injEq, and_true] at e
    obtain ⟨rfl, rfl⟩ := e
    exact ⟨b, off, rfl, hg, fun j x hx => ⟨(hc j x hx).1.other hp u, (hc j x hx).2⟩⟩⟩

theorem VI.others {B n b off : Nat} {xs : List Vl} {g : Nat} (hp : b ≠ g) : ∀ {vs : List Value} {w : World} {o : Nat}, VI w B (some ⟨b, off, none⟩) n xs → VI (w.setCells g o vs) B (some ⟨b, off, none⟩) n xs
  | [], _, _, h => h
  | v :: r, w, o, h => VI.others hp (vs := r) (h.other (p := ⟨g, o, none⟩) hp v)

theorem VI.row {w : World} {B n b off : Nat} {xs : List Vl} {g : Nat} (h : VI w B (some ⟨b, off, none⟩) n xs) (hp : b ≠ g) (cs : Array Value) : VI (w.setRow g cs) B (some ⟨b, off, none⟩) n xs :=
  ⟨h.1, h.2.1, fun hn => by
    obtain ⟨b', off', e, hg, hc⟩ := h.2.2 hn
    simp only [Option.some.injEq, Addr.mk.injEq, and_true] at e
    obtain ⟨rfl, rfl⟩ := e
    refine ⟨b, off, rfl, hg, fun j x hx => ⟨?_, (hc j x hx).2⟩⟩
    obtain ⟨h0, h1, h2, h3⟩ := (hc j x hx).1
    exact ⟨(cell_setRow_other w g cs _ hp).trans h0, (cell_setRow_other w g cs _ hp).trans h1, (cell_setRow_other w g cs _ hp).trans h2, (cell_setRow_other w g cs _ hp).trans h3⟩⟩
theorem put_object (id kind : Int) (name : ByteArray) (low : Int) (a b k v : Value) (c0 c1 c2 c3 : Value) (dk dn : Int) (dt : ByteArray) (dr : Int) :
    putL ((#[.int .i64 id, .int .i64 kind, .string name, .int .i64 low, a, b, c0, c1, c2, c3].setIfInBounds 4 k).setIfInBounds 5 v) 6 [.int .i64 dk, .int .i64 dn, .string dt, .int .i64 dr] =
    #[.int .i64 id, .int .i64 kind, .string name, .int .i64 low, k, v, .int .i64 dk, .int .i64 dn, .string dt, .int .i64 dr] := by
  simp [putL]

/-- What toObject answers. -/
def ToO (o : Ob) (W : World) (e : Ending) (w' : World) : Prop := ∃ l, e = .returned (o.ag l) ∧ Hid (OV w' w'.heap.size o l ∧ Below W.heap.size W w' ∧ l.nk = o.keys.length ∧ l.nv = o.vals.length ∧ ∃ bk bv, l.Ak = some ⟨bk, 0, none⟩ ∧ l.Av = some ⟨bv, 0, none⟩ ∧ W.heap.size ≤ bk ∧ W.heap.size ≤ bv)

set_option maxHeartbeats 1000000 in
set_option maxRecDepth 100000 in
theorem toObject_any (o : Ob) (l : Lay) (W : World) (ho : OV W W.heap.size o l) (h1 : o.keys.length ≤ 1048576) (h2 : o.vals.length ≤ 1048576) :
    Calls Tryz.prog 118 #[o.ag l] W (ToO o W) := by
  obtain ⟨id, kind, name, low, ks, vs, ⟨dk, dn, dt, dr⟩⟩ := o
  obtain ⟨Ak, nk, ck, Av, nv, cv, hck, hcv⟩ := l
  obtain ⟨hk, hv, hn, hd⟩ := ho
  dsimp only at hk hv hn hd h1 h2
  rw [hk.1] at h1
  rw [hv.1] at h2
  have HK := Lib.hid hk
  have HV := Lib.hid hv
  have HD := Lib.hid hd
  have HN := Lib.hid hn
  have H1 := Lib.hid h1
  have H2 := Lib.hid h2
  clear hk hv hn hd h1 h2
  have HC := Lib.hid (fun (X Y : World) (T T' : TypeId) (c c' : Array Value) (eY : Y = W.alloc (.cells #[.int .i64 id, .int .i64 kind, .string name, .int .i64 low, .slice Ak nk ck, .slice Av nv cv, .int .i64 dk, .int .i64 dn, .string dt, .int .i64 dr] T)) (eX : X = (Y.alloc (.cells c T')).alloc (.cells c' T')) =>
    (show RW T X W.heap.size #[.int .i64 id, .int .i64 kind, .string name, .int .i64 low, .slice Ak nk ck, .slice Av nv cv, .int .i64 dk, .int .i64 dn, .string dt, .int .i64 dr] ∧ RW T' X (W.heap.size + 1 + 1) c' ∧ RW T' X (W.heap.size + 1) c ∧ Below W.heap.size W X ∧ X.heap.size = W.heap.size + 3 from by
      subst eX; subst eY
      refine ⟨((RW.new W _ T).alloc _).alloc _, ?_, ?_, ?_, by simp⟩
      · have := RW.new ((W.alloc (.cells #[.int .i64 id, .int .i64 kind, .string name, .int .i64 low, .slice Ak nk ck, .slice Av nv cv, .int .i64 dk, .int .i64 dn, .string dt, .int .i64 dr] T)).alloc (.cells c T')) c' T'
        simpa using this
      · have := (RW.new (W.alloc (.cells #[.int .i64 id, .int .i64 kind, .string name, .int .i64 low, .slice Ak nk ck, .slice Av nv cv, .int .i64 dk, .int .i64 dn, .string dt, .int .i64 dr] T)) c T').alloc (.cells c' T')
        simpa using this
      · exact ((below_alloc _ _).alloc (by simp) _).alloc (by simp; omega) _))
  show Calls Tryz.prog 118 #[.agg #[.int .i64 id, .int .i64 kind, .string name, .int .i64 low, .slice Ak nk ck, .slice Av nv cv, .int .i64 dk, .int .i64 dn, .string dt, .int .i64 dr]] W _
  go_enter Tryz.func118, Tryz.ntmps118
  go_wp2_with (go_at_call 148; obtain ⟨g0, g1, g4, g2, g3⟩ := HC.out _ _ _ _ _ _ rfl rfl; have HQ := toValueS_any Ak nk ck ks _ (HK.out.go g2) H1.out; refine Calls.mono HQ ?_; clear HQ; rintro e w1 ⟨rfl, h⟩; obtain ⟨hv, hb⟩ := h.out; have HA := Lib.hid (g0.below hb (by omega)); have HR := Lib.hid (g1.below hb (by omega)); have HO := Lib.hid (g4.below hb (by omega)); have HB1 := Lib.hid (g2.trans (hb.mono g2.size)); rw [g3] at hv; have HK1 : Hid (VI w1 w1.heap.size (some ⟨W.heap.size + 1 + 1 + 1, 0, none⟩) nk ks) := hv; have G1 : W.heap.size + 3 ≤ w1.heap.size := (by have := hb.size; omega); have HG1 := Lib.hid G1; have q5 : w1.cell? ⟨W.heap.size, 5, none⟩ = some (.slice Av nv cv) := HA.out.cell 5; have p4 : w1.cell? ⟨W.heap.size + 1 + 1, 4, none⟩ = some (.slice none 0 0) := HR.out.cell 4; have f4 := HR.out.frozen 4; clear g0 g1 g2 g3 g4 hv hb h G1 HK)
  go_wp2_with (go_at_call 148; have hbs := below_set w1 (p := ⟨W.heap.size + 1 + 1, 4, none⟩) (B := W.heap.size + 2) (Nat.le_refl _) (.slice (some ⟨W.heap.size + 1 + 1 + 1, 0, none⟩) nk nk); have HQ := toValueS_any Av nv cv vs _ (HV.out.go (HB1.out.trans (hbs.mono (by omega)))) H2.out; refine Calls.mono HQ ?_; clear HQ; rintro e w2 ⟨rfl, h⟩; obtain ⟨hv, hb⟩ := h.out; rw [size_set] at hb hv; have hsz := hb.size; rw [size_set] at hsz; have hs1 := HG1.out; have hk1 := (HK1.out.other (p := ⟨W.heap.size + 1 + 1, 4, none⟩) (by simp) (.slice (some ⟨W.heap.size + 1 + 1 + 1, 0, none⟩) nk nk)).below hb; have HK2 := Lib.hid (hk1.more hsz); have HA2 := Lib.hid ((HA.out.below hbs (by omega)).below hb (by omega)); have HR2 := Lib.hid ((HR.out.set_ 4 (.slice (some ⟨W.heap.size + 1 + 1 + 1, 0, none⟩) nk nk)).below hb (by omega)); have HO2 := Lib.hid ((HO.out.below hbs (by omega)).below hb (by omega)); have HB2 := Lib.hid ((HB1.out.trans (hbs.mono (by omega))).trans (hb.mono (by omega))); have HV2 := Lib.hid hv; have HG2 : Hid (W.heap.size + 3 ≤ w2.heap.size) := (Nat.le_trans hs1 hsz); have HZ1 := Lib.hid (show w1.heap.size ≠ W.heap.size + 1 + 1 by omega); have q6 : w2.cell? ⟨W.heap.size, 6, none⟩ = some (.int .i64 dk) := HA2.out.cell 6; have q7 : w2.cell? ⟨W.heap.size, 7, none⟩ = some (.int .i64 dn) := HA2.out.cell 7; have q8 : w2.cell? ⟨W.heap.size, 8, none⟩ = some (.string dt) := HA2.out.cell 8; have q9 : w2.cell? ⟨W.heap.size, 9, none⟩ = some (.int .i64 dr) := HA2.out.cell 9; have p5 : w2.cell? ⟨W.heap.size + 1 + 1, 5, none⟩ = some (.slice none 0 0) := HR2.out.cell 5; have f5 := HR2.out.frozen 5; clear hbs hv hb h hs1 hk1 HV q5 p4 f4)
  go_wp2_with (first | (go_at_call 9; have hbs := below_set w2 (p := ⟨W.heap.size + 1 + 1, 5, none⟩) (B := W.heap.size + 2) (Nat.le_refl _) (.slice (some ⟨w1.heap.size, 0, none⟩) nv nv); have HQ := toValue_any dk dn dt dr (w2.setCell ⟨W.heap.size + 1 + 1, 5, none⟩ (.slice (some ⟨w1.heap.size, 0, none⟩) nv nv)); refine Calls.mono HQ ?_; clear HQ; rintro e w3 ⟨rfl, hb⟩; rw [size_set] at hb; have hsz := hb.size; rw [size_set] at hsz; have hs1 := HG2.out; have HK3 := Lib.hid (((HK2.out.other (p := ⟨W.heap.size + 1 + 1, 5, none⟩) (by simp) (.slice (some ⟨w1.heap.size, 0, none⟩) nv nv)).below hb).more hsz); have HV3 := Lib.hid (((HV2.out.other (p := ⟨W.heap.size + 1 + 1, 5, none⟩) HZ1.out (.slice (some ⟨w1.heap.size, 0, none⟩) nv nv)).below hb).more hsz); have HR3 := Lib.hid ((HR2.out.set_ 5 (.slice (some ⟨w1.heap.size, 0, none⟩) nv nv)).below hb (by omega)); have HO3 := Lib.hid ((HO2.out.below hbs (by omega)).below hb (by omega)); have HB3 := Lib.hid ((HB2.out.trans (hbs.mono (by omega))).trans (hb.mono (by omega))); have HG3 : Hid (W.heap.size + 3 ≤ w3.heap.size) := (Nat.le_trans hs1 hsz); have HR4 : Hid (RW 170 (w3.setCells (W.heap.size + 1 + 1) 6 [.int .i64 dk, .int .i64 dn, .string dt, .int .i64 dr]) (W.heap.size + 1 + 1) #[.int .i64 id, .int .i64 kind, .string name, .int .i64 low, .slice (some ⟨W.heap.size + 1 + 1 + 1, 0, none⟩) nk nk, .slice (some ⟨w1.heap.size, 0, none⟩) nv nv, .int .i64 dk, .int .i64 dn, .string dt, .int .i64 dr]) := (by have h := HR3.out.cells (vs := [.int .i64 dk, .int .i64 dn, .string dt, .int .i64 dr]) (o := 6); rw [put_object] at h; exact h); have HO4 := Lib.hid (HO3.out.others (b := W.heap.size + 1 + 1) (by simp) (vs := [.int .i64 dk, .int .i64 dn, .string dt, .int .i64 dr]) (o := 6)); have HB4 : Hid (Below W.heap.size W (w3.setCells (W.heap.size + 1 + 1) 6 [.int .i64 dk, .int .i64 dn, .string dt, .int .i64 dr])) := HB3.out.trans (below_cells (by omega) _ _ _); have HK4 : Hid (VI (w3.setCells (W.heap.size + 1 + 1) 6 [.int .i64 dk, .int .i64 dn, .string dt, .int .i64 dr]) w3.heap.size (some ⟨W.heap.size + 1 + 1 + 1, 0, none⟩) nk ks) := HK3.out.others (by simp); have HV4 : Hid (VI (w3.setCells (W.heap.size + 1 + 1) 6 [.int .i64 dk, .int .i64 dn, .string dt, .int .i64 dr]) w3.heap.size (some ⟨w1.heap.size, 0, none⟩) nv vs) := HV3.out.others HZ1.out; have HG4 : Hid (w3.heap.size ≤ (w3.setCells (W.heap.size + 1 + 1) 6 [.int .i64 dk, .int .i64 dn, .string dt, .int .i64 dr]).heap.size) := (below_cells (B := 0) (Nat.zero_le _) _ _ _).size; have tk1 : True := trivial; clear hbs hb hsz hs1 q6 q7 q8 q9 p5 f5) | (clear tk1; refine wpList_store_mid rfl 36 (.tmp 27) (.tmp 26) rfl (W.heap.size + 1 + 1) 6 #[.int .i64 dk, .int .i64 dn, .string dt, .int .i64 dr] rfl rfl (HR3.out.there (n := 4) (by simp)) (by kernel_rfl) (by kernel_rfl) ?_; go_frame; generalize w3.setCells (W.heap.size + 1 + 1) 6 [.int .i64 dk, .int .i64 dn, .string dt, .int .i64 dr] = w4 at HR4 HO4 HB4 HK4 HV4 HG4 ⊢; have tk2 : True := trivial) | (clear tk2; refine wpList_load_row rfl 170 (.tmp 3) rfl (W.heap.size + 1 + 1) rfl 170 #[.int .i64 id, .int .i64 kind, .string name, .int .i64 low, .slice (some ⟨W.heap.size + 1 + 1 + 1, 0, none⟩) nk nk, .slice (some ⟨w1.heap.size, 0, none⟩) nv nv, .int .i64 dk, .int .i64 dn, .string dt, .int .i64 dr] (0, 0) _ HR4.out Tryz.underlying170 rfl (by kernel_rfl) ?_; have tk3 : True := trivial) | (clear tk3; refine wpList_store_row rfl 170 (.tmp 2) (.tmp 28) rfl (W.heap.size + 1) #[.int .i64 id, .int .i64 kind, .string name, .int .i64 low, .slice (some ⟨W.heap.size + 1 + 1 + 1, 0, none⟩) nk nk, .slice (some ⟨w1.heap.size, 0, none⟩) nv nv, .int .i64 dk, .int .i64 dn, .string dt, .int .i64 dr] rfl rfl 170 _ HO4.out (by kernel_rfl) rfl (by kernel_rfl) ?_; go_frame; have HE : Hid (RW 170 (w4.setRow (W.heap.size + 1) #[.int .i64 id, .int .i64 kind, .string name, .int .i64 low, .slice (some ⟨W.heap.size + 1 + 1 + 1, 0, none⟩) nk nk, .slice (some ⟨w1.heap.size, 0, none⟩) nv nv, .int .i64 dk, .int .i64 dn, .string dt, .int .i64 dr]) (W.heap.size + 1) #[.int .i64 id, .int .i64 kind, .string name, .int .i64 low, .slice (some ⟨W.heap.size + 1 + 1 + 1, 0, none⟩) nk nk, .slice (some ⟨w1.heap.size, 0, none⟩) nv nv, .int .i64 dk, .int .i64 dn, .string dt, .int .i64 dr] ∧ Below W.heap.size W (w4.setRow (W.heap.size + 1) #[.int .i64 id, .int .i64 kind, .string name, .int .i64 low, .slice (some ⟨W.heap.size + 1 + 1 + 1, 0, none⟩) nk nk, .slice (some ⟨w1.heap.size, 0, none⟩) nv nv, .int .i64 dk, .int .i64 dn, .string dt, .int .i64 dr]) ∧ VI (w4.setRow (W.heap.size + 1) #[.int .i64 id, .int .i64 kind, .string name, .int .i64 low, .slice (some ⟨W.heap.size + 1 + 1 + 1, 0, none⟩) nk nk, .slice (some ⟨w1.heap.size, 0, none⟩) nv nv, .int .i64 dk, .int .i64 dn, .string dt, .int .i64 dr]) w3.heap.size (some ⟨W.heap.size + 1 + 1 + 1, 0, none⟩) nk ks ∧ VI (w4.setRow (W.heap.size + 1) #[.int .i64 id, .int .i64 kind, .string name, .int .i64 low, .slice (some ⟨W.heap.size + 1 + 1 + 1, 0, none⟩) nk nk, .slice (some ⟨w1.heap.size, 0, none⟩) nv nv, .int .i64 dk, .int .i64 dn, .string dt, .int .i64 dr]) w3.heap.size (some ⟨w1.heap.size, 0, none⟩) nv vs ∧ w3.heap.size ≤ (w4.setRow (W.heap.size + 1) #[.int .i64 id, .int .i64 kind, .string name, .int .i64 low, .slice (some ⟨W.heap.size + 1 + 1 + 1, 0, none⟩) nk nk, .slice (some ⟨w1.heap.size, 0, none⟩) nv nv, .int .i64 dk, .int .i64 dn, .string dt, .int .i64 dr]).heap.size) := ⟨setRow_heap _ _ _ _ _ _ HO4.out, below_setRow HB4.out (by omega) _, HK4.out.row (by omega) _, HV4.out.row (by have := HG1.out; omega) _, by rw [size_setRow]; exact HG4.out⟩; generalize w4.setRow (W.heap.size + 1) #[.int .i64 id, .int .i64 kind, .string name, .int .i64 low, .slice (some ⟨W.heap.size + 1 + 1 + 1, 0, none⟩) nk nk, .slice (some ⟨w1.heap.size, 0, none⟩) nv nv, .int .i64 dk, .int .i64 dn, .string dt, .int .i64 dr] = w5 at HE ⊢))
  refine bodyPost_ret (v := .agg #[.int .i64 id, .int .i64 kind, .string name, .int .i64 low, .slice (some ⟨W.heap.size + 1 + 1 + 1, 0, none⟩) nk nk, .slice (some ⟨w1.heap.size, 0, none⟩) nv nv, .int .i64 dk, .int .i64 dn, .string dt, .int .i64 dr]) (results_cell_row Tryz.results118 _ _ (W.heap.size + 1) 170 #[.int .i64 id, .int .i64 kind, .string name, .int .i64 low, .slice (some ⟨W.heap.size + 1 + 1 + 1, 0, none⟩) nk nk, .slice (some ⟨w1.heap.size, 0, none⟩) nv nv, .int .i64 dk, .int .i64 dn, .string dt, .int .i64 dr] (0, 0) _ rfl HE.out.1 Tryz.underlying170 rfl (by kernel_rfl)) rfl ⟨⟨some ⟨W.heap.size + 1 + 1 + 1, 0, none⟩, nk, nk, some ⟨w1.heap.size, 0, none⟩, nv, nv, Nat.le_refl _, Nat.le_refl _⟩, rfl, Lib.hid ⟨⟨HE.out.2.2.1.more HE.out.2.2.2.2, HE.out.2.2.2.1.more HE.out.2.2.2.2, HN.out, HD.out⟩, HE.out.2.1, HK4.out.1.symm, HV4.out.1.symm, _, _, rfl, rfl, by omega, by have := HG1.out; omega⟩⟩
end Go.Proofs.YtfcpdjfckeoniaaGreatDoor

namespace Go.Proofs.YtfcpdjfckeoniaaGreatDoor
open Go Go.RowKit

/-- The elements of block g ahead of j are filled; their lists lie elsewhere. -/
def FilledO (w : World) (g j n : Nat) (os : List Ob) : Prop :=
  ∃ cs, RW 170 w g cs ∧ n * 10 ≤ cs.size ∧ ∀ (i : Nat) (o : Ob), i < j → os[i]? = some o → ∃ l bk bv, l.Ak = some ⟨bk, 0, none⟩ ∧ l.Av = some ⟨bv, 0, none⟩ ∧ g < bk ∧ g < bv ∧ OV w w.heap.size o l ∧ ∀ (q : Nat) (v : Value), (o.vs l)[q]? = some v → cs[i * 10 + q]? = some v
theorem FilledO.below {w w' : World} {g j n : Nat} {os : List Ob} (h : FilledO w g j n os) (hb : Below w.heap.size w w') : FilledO w' g j n os := by
  obtain ⟨cs, hr, hn, hm⟩ := h
  refine ⟨cs, hr.below hb hr.lt, hn, fun i o hi ho => ?_⟩
  obtain ⟨l, bk, bv, h1, h2, h3, h4, h5, h6⟩ := hm i o hi ho
  exact ⟨l, bk, bv, h1, h2, h3, h4, (h5.below hb).more hb.size, h6⟩
theorem OV.others {w : World} {B g o : Nat} {x : Ob} {l : Lay} {bk bv : Nat} (h : OV w B x l) (h1 : l.Ak = some ⟨bk, 0, none⟩) (h2 : l.Av = some ⟨bv, 0, none⟩) (h3 : bk ≠ g) (h4 : bv ≠ g) (vs : List Value) : OV (w.setCells g o vs) B x l := by
  obtain ⟨a, b, c, d⟩ := h
  rw [h1] at a
  rw [h2] at b
  refine ⟨?_, ?_, c, d⟩
  · rw [h1]; exact a.others h3
  · rw [h2]; exact b.others h4
theorem FilledO.store {w : World} {g j n : Nat} {os : List Ob} {o : Ob} {l : Lay} {bk bv : Nat} (h : FilledO w g j n os) (ho : os[j]? = some o) (hj : j < n) (h1 : l.Ak = some ⟨bk, 0, none⟩) (h2 : l.Av = some ⟨bv, 0, none⟩) (h3 : g < bk) (h4 : g < bv) (h5 : OV w w.heap.size o l) :
    FilledO (w.setCells g (j * 10) (o.vs l)) g (j + 1) n os := by
  obtain ⟨cs, hr, hn, hm⟩ := h
  have hs : (w.setCells g (j * 10) (o.vs l)).heap.size = w.heap.size := Nat.le_antisymm (by
    have : ∀ (vs : List Value) (w : World) (k : Nat), (w.setCells g k vs).heap.size ≤ w.heap.size := by
      intro vs
      induction vs with
      | nil => exact fun _ _ => Nat.le_refl _
      | cons v r ih => exact fun w k => Nat.le_trans (ih _ _) (by rw [size_set]; exact Nat.le_refl _)
    exact this _ _ _) (below_cells (B := 0) (Nat.zero_le _) _ _ _).size
  have hl10 : (o.vs l).length = 10 := rfl
  refine ⟨_, hr.cells, by rw [putL_size]; exact hn, fun i x hi hx => ?_⟩
  by_cases e : i = j
  · subst e
    rw [ho, Option.some.injEq] at hx
    subst hx
    refine ⟨l, bk, bv, h1, h2, h3, h4, ?_, fun q v hq => putL_new _ _ _ _ _ (by rw [hl10]; omega) hq⟩
    rw [hs]
    exact h5.others h1 h2 (by omega) (by omega) _
  · obtain ⟨l', bk', bv', k1, k2, k3, k4, k5, k6⟩ := hm i x (by omega) hx
    refine ⟨l', bk', bv', k1, k2, k3, k4, ?_, fun q v hq => ?_⟩
    · rw [hs]
      exact k5.others k1 k2 (by omega) (by omega) _
    · have hq10 : q < 10 := (List.getElem?_eq_some_iff.1 hq).1
      rw [putL_old _ _ _ _ (by omega)]
      exact k6 q v hq
theorem FilledO.all {w : World} {g n : Nat} {os : List Ob} (h : FilledO w g n n os) (hl : os.length = n) (hn : n ≤ maxLen) : OI w w.heap.size (some ⟨g, 0, none⟩) n os := by
  obtain ⟨cs, hr, hc, hm⟩ := h
  refine ⟨hl, hn, fun _ => ⟨g, 0, rfl, hr.lt, fun j o ho => ?_⟩⟩
  obtain ⟨l, _, _, _, _, _, _, h5, h6⟩ := hm j o (by rw [← hl]; exact (List.getElem?_eq_some_iff.1 ho).1) ho
  rw [Nat.zero_add]
  have k : ∀ q v, (o.vs l)[q]? = some v → w.cell? ⟨g, j * 10 + q, none⟩ = some v := fun q v hq => (hr.cell _).trans (h6 q v hq)
  exact ⟨l, ⟨k 0 _ rfl, k 1 _ rfl, k 2 _ rfl, k 3 _ rfl, k 4 _ rfl, k 5 _ rfl, k 6 _ rfl, k 7 _ rfl, k 8 _ rfl, k 9 _ rfl⟩, h5⟩
theorem objInfo : (Tryz.prog.info? 170).map (fun i => (i.zero, i.size, i.bytes)) = some (some (Value.agg #[.int .i64 0, .int .i64 0, .string ⟨#[]⟩, .int .i64 0, .slice none 0 0, .slice none 0 0, .int .i64 0, .int .i64 0, .string ⟨#[]⟩, .int .i64 0]), 10, 128) := by kernel_rfl
theorem block_of_ownO {w : World} {B g n : Nat} {xs : List Value} (h : w.ownsRow B 170 10 (.slice (some ⟨g, 0, none⟩) n n) n xs) : ∃ cs, RW 170 w g cs ∧ n * 10 ≤ cs.size := by
  rcases h.2 with ⟨h', _⟩ | ⟨g', cap', cur, h', _, hg, _, _, hsz, _⟩
  · simp at h'
  · simp only [Value.slice.injEq, Option.some.injEq, Addr.mk.injEq, and_true, true_and] at h'
    obtain ⟨rfl, rfl⟩ := h'
    exact ⟨cur, hg, by omega⟩
/-- No list of the objects is too long. -/
def Small (os : List Ob) : Prop := ∀ (j : Nat) (o : Ob), os[j]? = some o → o.keys.length ≤ 1048576 ∧ o.vals.length ≤ 1048576
theorem small_of_sz {os : List Ob} (h : (szH os : Int) ≤ 1048576) : Small os ∧ os.length ≤ 1048576 := by
  unfold szH at h
  refine ⟨fun j o ho => ?_, by omega⟩
  have hl := (List.getElem?_eq_some_iff.1 ho).1
  have h1 := sumO_mono (os := os) (j := j + 1) (k := os.length) (by omega)
  rw [sumO_next ho] at h1
  unfold szO szV at h1
  omega

/-- What toObjectS answers. -/
def ToOS (os : List Ob) (n : Nat) (W : World) (e : Ending) (w' : World) : Prop :=
  e = .returned (.slice (some ⟨W.heap.size, 0, none⟩) n n) ∧ Hid (OI w' w'.heap.size (some ⟨W.heap.size, 0, none⟩) n os ∧ Below W.heap.size W w' ∧ FilledO w' W.heap.size n n os)

set_option maxHeartbeats 2000000 in
set_option maxRecDepth 100000 in
theorem toObjectS_any (A : Option Addr) (n c : Nat) (os : List Ob) (W : World) (hr : OI W W.heap.size A n os) (hs : Small os) (hn : n ≤ 1048576) :
    Calls Tryz.prog 79 #[.slice A n c] W (ToOS os n W) := by
  obtain ⟨i0, hi, hz0, hz1, hz2⟩ := info_parts objInfo
  have HR := Lib.hid hr
  have HS := Lib.hid hs
  have h1 : (n : Int) ≤ 1048576 := by omega
  clear hr hs
  go_enter Tryz.func79, Tryz.ntmps79
  go_wp2_with (at_make; refine wpList_make_full _ rfl _ _ 53 rfl W.heap.size 170 i0 (.agg #[.int .i64 0, .int .i64 0, .string ⟨#[]⟩, .int .i64 0, .slice none 0 0, .slice none 0 0, .int .i64 0, .int .i64 0, .string ⟨#[]⟩, .int .i64 0]) 10 Tryz.underlying53 hi hz0 hz1 .i64 .i64 n n n rfl rfl rfl rfl (by rw [hz2]; omega) (by unfold maxLen; omega) (Nat.le_refl _) ?_)
  intro w1 hown hgrow
  have HB1 : Hid (Below W.heap.size W w1) := below_grown_none hgrow
  obtain ⟨cs, hcs, hcn⟩ := block_of_ownO hown
  have HG : Hid (W.heap.size < w1.heap.size) := hcs.lt
  have HM : Hid (FilledO w1 W.heap.size 0 n os) := ⟨cs, hcs, hcn, fun i o hi => absurd hi (by omega)⟩
  clear hown hgrow hcs hcn hi hz0 hz1 hz2
  go_wp2_with fail
  go_loopw [4] (fun i wr => ∃ j : Nat, j ≤ n ∧ i = .int .i64 j ∧ Hid (Below W.heap.size W wr) ∧ Hid (W.heap.size < wr.heap.size) ∧ Hid (FilledO wr W.heap.size j n os)) (fun i _ => n - (intOf i).toNat)
  case atStart => exact ⟨0, Nat.zero_le _, rfl, HB1, HG, HM⟩
  case round =>
    obtain ⟨j, hj, rfl, HW, HZ, HJ⟩ := hrel
    by_cases hlt : j < n
    · obtain ⟨b, off, o, l, rfl, hg, hx, ⟨q0, q1, q2, q3, q4, q5, q6, q7, q8, q9⟩, hov⟩ := (HR.out.below HW.out).at_ hlt
      have HX := Lib.hid hx
      have HO := Lib.hid (hov.more HW.out.size)
      have HLT := Lib.hid hlt
      obtain ⟨hs1, hs2⟩ := HS.out j o hx
      have HS1 := Lib.hid hs1
      have HS2 := Lib.hid hs2
      clear hx hov hg hs1 hs2
      have b0 : (0 : Int) ≤ (j : Int) := by omega
      have b1 : (j : Int) < (n : Int) := by omega
      go_wp2_with (first | (go_at_call 118; have HQ := toObject_any o l _ HO.out HS1.out HS2.out; refine Calls.mono HQ ?_; clear HQ; rintro e w2 ⟨⟨Ak, nk, ck, Av, nv, cv, hck, hcv⟩, rfl, h⟩; obtain ⟨g1, hb, en1, en2, bk, bv, e1, e2, g4, g5⟩ := h.out; clear en1 en2; have HF := Lib.hid (HJ.out.below hb); have hlt2 := HLT.out; have hzz := HZ.out; have HF2 : Hid (FilledO (w2.setCells W.heap.size (j * 10) [.int .i64 o.id, .int .i64 o.kind, .string o.name, .int .i64 o.low, .slice Ak nk ck, .slice Av nv cv, .int .i64 o.d.k, .int .i64 o.d.n, .string o.d.t, .int .i64 o.d.r]) W.heap.size (j + 1) n os) := (by have k := HF.out.store HX.out hlt2 e1 e2 (Nat.lt_of_lt_of_le hzz g4) (Nat.lt_of_lt_of_le hzz g5) g1; unfold Ob.vs at k; exact k); have HT : Hid (w2.there W.heap.size (j * 10) 10) := (by obtain ⟨cs, hr, hc, _⟩ := HF.out; exact hr.there (by omega)); have HW2 : Hid (Below W.heap.size W (w2.setCells W.heap.size (j * 10) [.int .i64 o.id, .int .i64 o.kind, .string o.name, .int .i64 o.low, .slice Ak nk ck, .slice Av nv cv, .int .i64 o.d.k, .int .i64 o.d.n, .string o.d.t, .int .i64 o.d.r])) := ((HW.out.trans (hb.mono HW.out.size)).trans (below_cells (Nat.le_refl _) _ _ _)); have HZ2 : Hid (W.heap.size < (w2.setCells W.heap.size (j * 10) [.int .i64 o.id, .int .i64 o.kind, .string o.name, .int .i64 o.low, .slice Ak nk ck, .slice Av nv cv, .int .i64 o.d.k, .int .i64 o.d.n, .string o.d.t, .int .i64 o.d.r]).heap.size) := (by obtain ⟨_, hr, _⟩ := HF2.out; exact hr.lt); have tk1 : True := trivial; clear h g1 hb e1 e2 g4 g5 hlt2 hzz q0 q1 q2 q3 q4 q5 q6 q7 q8 q9) | (clear tk1; refine wpList_store_mid rfl 170 (.tmp 21) (.tmp 20) rfl W.heap.size (j * 10) _ rfl rfl HT.out (by kernel_rfl) (by kernel_rfl) ?_; go_frame; clear HT; generalize w2.setCells W.heap.size (j * 10) [.int .i64 o.id, .int .i64 o.kind, .string o.name, .int .i64 o.low, .slice Ak nk ck, .slice Av nv cv, .int .i64 o.d.k, .int .i64 o.d.n, .string o.d.t, .int .i64 o.d.r] = w3 at HF2 HW2 HZ2 ⊢))
      go_roundw
      case rel => exact ⟨j + 1, by omega, by go_num, HW2, HZ2, HF2⟩
      case measure => simp [intOf]; omega
    · have HN : Hid (j = n) := by show _ = _; omega
      go_wp2_with fail
      go_ret
      have h := HJ.out
      rw [HN.out] at h
      exact ⟨rfl, Lib.hid ⟨h.all HR.out.1 HR.out.2.1, HW.out, h⟩⟩

theorem FilledO.far {w : World} {g j n b i : Nat} {os : List Ob} (h : FilledO w g j n os) (hb : b < g) (v : Value) : FilledO (w.setCell ⟨b, i, none⟩ v) g j n os := by
  obtain ⟨cs, hr, hn, hm⟩ := h
  refine ⟨cs, hr.other (Nat.ne_of_gt hb) v, hn, fun i' o hi ho => ?_⟩
  obtain ⟨l, bk, bv, h1, h2, h3, h4, h5, h6⟩ := hm i' o hi ho
  refine ⟨l, bk, bv, h1, h2, h3, h4, ?_, h6⟩
  rw [size_set]
  exact h5.others (o := i) h1 h2 (by omega) (by omega) [v]

/-- What toHeap answers. -/
def ToH (nx : Int) (os : List Ob) (n : Nat) (W : World) (e : Ending) (w' : World) : Prop :=
  ∃ g, e = .returned (.agg #[.int .i64 nx, .slice (some ⟨g, 0, none⟩) n n]) ∧ Hid (OI w' w'.heap.size (some ⟨g, 0, none⟩) n os ∧ Below W.heap.size W w')
set_option maxRecDepth 100000 in
theorem toHeap_any (nx : Int) (A : Option Addr) (n c : Nat) (os : List Ob) (W : World) (hr : OI W W.heap.size A n os) (hs : Small os) (hn : n ≤ 1048576) :
    Calls Tryz.prog 42 #[.agg #[.int .i64 nx, .slice A n c]] W (ToH nx os n W) := by
  have HR := Lib.hid hr
  have HS := Lib.hid hs
  have HN := Lib.hid hn
  have HA := Lib.hid (fun (X Y : World) (T T' : TypeId) (c1 c2 : Array Value) (eY : Y = W.alloc (.cells #[.int .i64 nx, .slice A n c] T)) (eX : X = (Y.alloc (.cells c1 T')).alloc (.cells c2 T')) => (show Below W.heap.size W X ∧ RW T' X (W.heap.size + 1 + 1) c2 ∧ RW T' X (W.heap.size + 1) c1 ∧ X.heap.size = W.heap.size + 3 from by
    subst eX; subst eY
    refine ⟨((below_alloc _ _).alloc (by simp) _).alloc (by simp; omega) _, ?_, ?_, by simp⟩
    · have := RW.new ((W.alloc (.cells #[.int .i64 nx, .slice A n c] T)).alloc (.cells c1 T')) c2 T'
      simpa using this
    · have := (RW.new (W.alloc (.cells #[.int .i64 nx, .slice A n c] T)) c1 T').alloc (.cells c2 T')
      simpa using this))
  clear hr hs hn
  go_enter Tryz.func42, Tryz.ntmps42
  go_wp2_with (go_at_call 79; obtain ⟨g2, g1, g0, g3⟩ := HA.out _ _ _ _ _ _ rfl rfl; have HQ := toObjectS_any A n c os _ (HR.out.go g2) HS.out HN.out; refine Calls.mono HQ ?_; clear HQ; rintro e w1 ⟨rfl, h⟩; obtain ⟨_, hb, hv⟩ := h.out; rw [g3] at hv; have HB1 := Lib.hid (g2.trans (hb.mono g2.size)); have HV1 := Lib.hid hv; have HR1 := Lib.hid (g1.below hb (by omega)); have HO1 := Lib.hid (g0.below hb (by omega)); have HG1 : Hid (W.heap.size + 3 ≤ w1.heap.size) := (by have := hb.size; show _ ≤ _; omega); have p1 : w1.cell? ⟨W.heap.size + 1 + 1, 1, none⟩ = some (.slice none 0 0) := HR1.out.cell 1; have p0 : w1.cell? ⟨W.heap.size + 1 + 1, 0, none⟩ = some (.int .i64 nx) := HR1.out.cell 0; have f1 := HR1.out.frozen 1; have r0 : w1.cell? ⟨W.heap.size + 1, 0, none⟩ = some (.int .i64 0) := HO1.out.cell 0; have r1 : w1.cell? ⟨W.heap.size + 1, 1, none⟩ = some (.slice none 0 0) := HO1.out.cell 1; have z0 := HO1.out.frozen 0; have z1 := HO1.out.frozen 1; clear g0 g1 g2 g3 h hv hb)
  have hs1 := HG1.out
  have hb1 : Below (W.heap.size + 1) w1 (((w1.setCell ⟨W.heap.size + 1 + 1, 1, none⟩ (.slice (some ⟨W.heap.size + 1 + 1 + 1, 0, none⟩) n n)).setCell ⟨W.heap.size + 1, 0, none⟩ (.int .i64 nx)).setCell ⟨W.heap.size + 1, 1, none⟩ (.slice (some ⟨W.heap.size + 1 + 1 + 1, 0, none⟩) n n)) := ((below_set w1 (p := ⟨W.heap.size + 1 + 1, 1, none⟩) (by simp) _).setCell (by simp) _).setCell (by simp) _
  refine bodyPost_ret (v := .agg #[.int .i64 nx, .slice (some ⟨W.heap.size + 1 + 1 + 1, 0, none⟩) n n]) (results_cell_row Tryz.results42 _ _ (W.heap.size + 1) 55 _ (0, 0) _ rfl (((HO1.out.other (p := ⟨W.heap.size + 1 + 1, 1, none⟩) (by simp) (.slice (some ⟨W.heap.size + 1 + 1 + 1, 0, none⟩) n n)).set_ 0 (.int .i64 nx)).set_ 1 (.slice (some ⟨W.heap.size + 1 + 1 + 1, 0, none⟩) n n)) Tryz.underlying55 rfl (by kernel_rfl)) rfl ⟨W.heap.size + 1 + 1 + 1, rfl, Lib.hid ⟨?_, HB1.out.trans (hb1.mono (by omega))⟩⟩
  exact (((HV1.out.far (by omega) _).far (by omega) _).far (by omega) _).all HR.out.1 HR.out.2.1
end Go.Proofs.YtfcpdjfckeoniaaGreatDoor

namespace Go.Proofs.YtfcpdjfckeoniaaGreatDoor
open Go Go.RowKit

theorem eqValue_same (k n : Int) (t : ByteArray) (r : Int) (W : World) :
    Calls Tryz.prog 155 #[.agg #[.int .i64 k, .int .i64 n, .string t, .int .i64 r], .agg #[.int .i64 k, .int .i64 n, .string t, .int .i64 r]] W fun e w' => e = .returned (.bool true) ∧ Below W.heap.size W w' := by
  go_enter Tryz.func155, Tryz.ntmps155
  go_wp2
  all_goals go_ret
  all_goals exact ⟨rfl, by repeat (first | exact Below.refl _ _ | refine Below.alloc ?_ (by first | (simp; done) | (simp; omega)) _)⟩
end Go.Proofs.YtfcpdjfckeoniaaGreatDoor

namespace Go.Proofs.YtfcpdjfckeoniaaGreatDoor
open Go Go.RowKit

/-- Two values in two blocks. -/
abbrev Two4 (w : World) (b b' o o' : Nat) (xk xn : Int) (xt : ByteArray) (xr yk yn : Int) (yt : ByteArray) (yr : Int) : Prop :=
  (w.cell? ⟨b, o, none⟩ = some (.int .i64 xk) ∧ w.cell? ⟨b, o + 1, none⟩ = some (.int .i64 xn) ∧ w.cell? ⟨b, o + 2, none⟩ = some (.string xt) ∧ w.cell? ⟨b, o + 3, none⟩ = some (.int .i64 xr)) ∧
  (w.cell? ⟨b', o', none⟩ = some (.int .i64 yk) ∧ w.cell? ⟨b', o' + 1, none⟩ = some (.int .i64 yn) ∧ w.cell? ⟨b', o' + 2, none⟩ = some (.string yt) ∧ w.cell? ⟨b', o' + 3, none⟩ = some (.int .i64 yr))
theorem two4_keep {wr wx w1 : World} {b b' o o' : Nat} {xk xn : Int} {xt : ByteArray} {xr yk yn : Int} {yt : ByteArray} {yr : Int} (hg : b < wr.heap.size) (hg' : b' < wr.heap.size) (h : Two4 wx b b' o o' xk xn xt xr yk yn yt yr ∧ Below wr.heap.size wr wx) (hb : Below wx.heap.size wx w1) :
    Two4 w1 b b' o o' xk xn xt xr yk yn yt yr ∧ Below wr.heap.size wr w1 := by
  have l := Nat.lt_of_lt_of_le hg h.2.size
  have l' := Nat.lt_of_lt_of_le hg' h.2.size
  have a := V4o.below (x := ⟨xk, xn, xt, xr⟩) h.1.1 hb l
  have b := V4o.below (x := ⟨yk, yn, yt, yr⟩) h.1.2 hb l'
  exact ⟨⟨a, b⟩, h.2.trans (hb.mono h.2.size)⟩

set_option maxHeartbeats 1000000 in
set_option maxRecDepth 100000 in
theorem eqValueS_same (A A' : Option Addr) (n c c' : Nat) (xs : List Vl) (W : World) (ha : VI W W.heap.size A n xs) (hb : VI W W.heap.size A' n xs) :
    Calls Tryz.prog 154 #[.slice A n c, .slice A' n c'] W fun e w' => e = .returned (.bool true) ∧ Below W.heap.size W w' := by
  have HA := Lib.hid ha
  have HB := Lib.hid hb
  have hn := ha.2.1
  unfold maxLen at hn
  clear ha hb
  go_enter Tryz.func154, Tryz.ntmps154
  go_wp2
  go_loopw [5] (fun i wr => ∃ k : Nat, k ≤ n ∧ i = .int .i64 k ∧ Hid (Below W.heap.size W wr)) (fun i _ => n - (intOf i).toNat)
  case atStart => exact ⟨0, Nat.zero_le _, rfl, Below.refl _ _⟩
  case round =>
    obtain ⟨k, hk, rfl, HW⟩ := hrel
    by_cases hlt : k < n
    · obtain ⟨b, off, x, rfl, hg, hx, h1, _⟩ := HA.out.at_ hlt
      obtain ⟨b', off', x', rfl, hg', hx', h2, _⟩ := HB.out.at_ hlt
      obtain rfl : x = x' := Option.some.inj (hx.symm.trans hx')
      obtain ⟨p0, p1, p2, p3⟩ := h1.below HW.out hg
      obtain ⟨q0, q1, q2, q3⟩ := h2.below HW.out hg'
      obtain ⟨xk, xn, xt, xr⟩ := x
      dsimp only at p0 p1 p2 p3 q0 q1 q2 q3
      have b0 : (0 : Int) ≤ (k : Int) := by omega
      have b1 : (k : Int) < (n : Int) := by omega
      clear h1 h2 hx hx'
      have HG : Hid (b < wr.heap.size) := Nat.lt_of_lt_of_le hg HW.out.size
      have HG' : Hid (b' < wr.heap.size) := Nat.lt_of_lt_of_le hg' HW.out.size
      clear hg hg'
      go_wp2_with fail
      go_region_held3 (fun w' => Two4 w' b b' (off + k * 4) (off' + k * 4) xk xn xt xr xk xn xt xr ∧ Below wr.heap.size wr w')
        (first | (exact ⟨⟨⟨p0, p1, p2, p3⟩, ⟨q0, q1, q2, q3⟩⟩, (Below.refl _ _).drew⟩) | (go_split_ands; exact two4_keep HG.out HG'.out ⟨⟨⟨by assumption, by assumption, by assumption, by assumption⟩, ⟨by assumption, by assumption, by assumption, by assumption⟩⟩, by assumption⟩ hb) | go_keep)
        ((go_at_call 155; refine (eqValue_same _ _ _ _ _).mono ?_; rintro e w1 ⟨rfl, hb⟩))
      go_wp2_with fail
      go_split_ands
      go_roundw
      case rel => exact ⟨k + 1, by omega, by go_num, HW.out.trans (Below.mono (by assumption) HW.out.size)⟩
      case measure => simp [intOf]; omega
    · go_wp2_with fail
      go_ret
      exact ⟨rfl, HW.out⟩
end Go.Proofs.YtfcpdjfckeoniaaGreatDoor

namespace Go.Proofs.YtfcpdjfckeoniaaGreatDoor
open Go Go.RowKit

set_option maxHeartbeats 1000000 in
set_option maxRecDepth 100000 in
theorem eqObject_same (o : Ob) (l l' : Lay) (W : World) (ho : OV W W.heap.size o l) (ho' : OV W W.heap.size o l') :
    Calls Tryz.prog 126 #[o.ag l, o.ag l'] W fun e w' => e = .returned (.bool true) ∧ Below W.heap.size W w' := by
  obtain ⟨id, kind, name, low, ks, vs, ⟨dk, dn, dt, dr⟩⟩ := o
  obtain ⟨Ak, nk, ck, Av, nv, cv, hck, hcv⟩ := l
  obtain ⟨Ak', nk', ck', Av', nv', cv', hck', hcv'⟩ := l'
  obtain ⟨hk, hv, _, _⟩ := ho
  obtain ⟨hk', hv', _, _⟩ := ho'
  dsimp only at hk hv hk' hv'
  obtain rfl : nk = nk' := hk.1.symm.trans hk'.1
  obtain rfl : nv = nv' := hv.1.symm.trans hv'.1
  have HK := Lib.hid hk
  have HV := Lib.hid hv
  have HK' := Lib.hid hk'
  have HV' := Lib.hid hv'
  clear hk hv hk' hv'
  have HC := Lib.hid (two_new W 170 #[.int .i64 id, .int .i64 kind, .string name, .int .i64 low, .slice Ak nk ck, .slice Av nv cv, .int .i64 dk, .int .i64 dn, .string dt, .int .i64 dr] #[.int .i64 id, .int .i64 kind, .string name, .int .i64 low, .slice Ak' nk ck', .slice Av' nv cv', .int .i64 dk, .int .i64 dn, .string dt, .int .i64 dr])
  show Calls Tryz.prog 126 #[.agg #[.int .i64 id, .int .i64 kind, .string name, .int .i64 low, .slice Ak nk ck, .slice Av nv cv, .int .i64 dk, .int .i64 dn, .string dt, .int .i64 dr], .agg #[.int .i64 id, .int .i64 kind, .string name, .int .i64 low, .slice Ak' nk ck', .slice Av' nv cv', .int .i64 dk, .int .i64 dn, .string dt, .int .i64 dr]] W _
  go_enter Tryz.func126, Tryz.ntmps126
  go_wp2_with (go_at_call 154; obtain ⟨g0, g1, g2, g3⟩ := HC.out _ rfl; have HQ := eqValueS_same Ak Ak' nk ck ck' ks _ (HK.out.go g2) (HK'.out.go g2); refine Calls.mono HQ ?_; clear HQ; rintro e w1 ⟨rfl, hb⟩; have HA1 := Lib.hid (g0.below hb (by omega)); have HD1 := Lib.hid (g1.below hb (by omega)); have HB1 := Lib.hid (g2.trans (hb.mono g2.size)); have HG1 : Hid (W.heap.size + 2 ≤ w1.heap.size) := (by have := hb.size; show _ ≤ _; omega); have q5 : w1.cell? ⟨W.heap.size, 5, none⟩ = some (.slice Av nv cv) := HA1.out.cell 5; have p5 : w1.cell? ⟨W.heap.size + 1, 5, none⟩ = some (.slice Av' nv cv') := HD1.out.cell 5; clear g0 g1 g2 g3 hb HK)
  go_wp2_with (go_at_call 154; have HQ := eqValueS_same Av Av' nv cv cv' vs _ (HV.out.go HB1.out) (HV'.out.go HB1.out); refine Calls.mono HQ ?_; clear HQ; rintro e w2 ⟨rfl, hb⟩; have hg := HG1.out; have HA2 := Lib.hid (HA1.out.below hb (by omega)); have HD2 := Lib.hid (HD1.out.below hb (by omega)); have HB2 := Lib.hid (HB1.out.trans (hb.mono HB1.out.size)); have q6 : w2.cell? ⟨W.heap.size, 6, none⟩ = some (.int .i64 dk) := HA2.out.cell 6; have q7 : w2.cell? ⟨W.heap.size, 7, none⟩ = some (.int .i64 dn) := HA2.out.cell 7; have q8 : w2.cell? ⟨W.heap.size, 8, none⟩ = some (.string dt) := HA2.out.cell 8; have q9 : w2.cell? ⟨W.heap.size, 9, none⟩ = some (.int .i64 dr) := HA2.out.cell 9; have p6 : w2.cell? ⟨W.heap.size + 1, 6, none⟩ = some (.int .i64 dk) := HD2.out.cell 6; have p7 : w2.cell? ⟨W.heap.size + 1, 7, none⟩ = some (.int .i64 dn) := HD2.out.cell 7; have p8 : w2.cell? ⟨W.heap.size + 1, 8, none⟩ = some (.string dt) := HD2.out.cell 8; have p9 : w2.cell? ⟨W.heap.size + 1, 9, none⟩ = some (.int .i64 dr) := HD2.out.cell 9; clear hg hb q5 p5 HV)
  go_wp2_with (go_at_call 155; refine (eqValue_same _ _ _ _ _).mono ?_; rintro e w3 ⟨rfl, hb⟩; have HB3 := Lib.hid (HB2.out.trans (hb.mono HB2.out.size)); clear hb q6 q7 q8 q9 p6 p7 p8 p9)
  all_goals go_ret
  all_goals exact ⟨rfl, HB3.out⟩

/-- Ten cells as a range. -/
theorem O10.range {w : World} {b p : Nat} {o : Ob} {l : Lay} (h : O10 w b p o l) : w.rangeAt b p (o.vs l) := by
  obtain ⟨h0, h1, h2, h3, h4, h5, h6, h7, h8, h9⟩ := h
  intro j v hj
  match j, hj with
  | 0, hj => cases hj; exact h0
  | 1, hj => cases hj; exact h1
  | 2, hj => cases hj; exact h2
  | 3, hj => cases hj; exact h3
  | 4, hj => cases hj; exact h4
  | 5, hj => cases hj; exact h5
  | 6, hj => cases hj; exact h6
  | 7, hj => cases hj; exact h7
  | 8, hj => cases hj; exact h8
  | 9, hj => cases hj; exact h9
  | j + 10, hj => simp [Ob.vs] at hj
/-- An object's load, as the walk meets it. -/
theorem O10.load {w : World} {b p : Nat} {o : Ob} {l : Lay} (h : O10 w b p o l) : (Instr.loadAt 170 (.pointer (some ⟨b, p, none⟩))).run Tryz.prog w = .ok (o.ag l) w :=
  run_loadAt_mid w b p 170 (o.vs l) _ h.range Tryz.underlying170 rfl (by kernel_rfl)

/-- Two objects in two blocks, and their lists. -/
def TwoO (wr : World) (b b' p p' : Nat) (o : Ob) (l l' : Lay) (w : World) : Prop := O10 w b p o l ∧ O10 w b' p' o l' ∧ OV w w.heap.size o l ∧ OV w w.heap.size o l' ∧ Below wr.heap.size wr w ∧ b < w.heap.size ∧ b' < w.heap.size
theorem TwoO.grow {wr w w' : World} {b b' p p' : Nat} {o : Ob} {l l' : Lay} (h : TwoO wr b b' p p' o l l' w) (hb : Below w.heap.size w w') : TwoO wr b b' p p' o l l' w' :=
  ⟨h.1.below hb h.2.2.2.2.2.1, h.2.1.below hb h.2.2.2.2.2.2, (h.2.2.1.below hb).more hb.size, (h.2.2.2.1.below hb).more hb.size, h.2.2.2.2.1.trans (hb.mono h.2.2.2.2.1.size), Nat.lt_of_lt_of_le h.2.2.2.2.2.1 hb.size, Nat.lt_of_lt_of_le h.2.2.2.2.2.2 hb.size⟩
/-- .. cell by cell, as the walk of a region asks it. -/
abbrev FlatO (wr : World) (b b' p p' : Nat) (o : Ob) (l l' : Lay) (w : World) : Prop := (w.cell? ⟨b, p, none⟩ = some (.int .i64 o.id) ∧ w.cell? ⟨b, p + 1, none⟩ = some (.int .i64 o.kind) ∧ w.cell? ⟨b, p + 2, none⟩ = some (.string o.name) ∧ w.cell? ⟨b, p + 3, none⟩ = some (.int .i64 o.low) ∧ w.cell? ⟨b, p + 4, none⟩ = some (.slice l.Ak l.nk l.ck) ∧ w.cell? ⟨b, p + 5, none⟩ = some (.slice l.Av l.nv l.cv) ∧ w.cell? ⟨b, p + 6, none⟩ = some (.int .i64 o.d.k) ∧ w.cell? ⟨b, p + 7, none⟩ = some (.int .i64 o.d.n) ∧ w.cell? ⟨b, p + 8, none⟩ = some (.string o.d.t) ∧ w.cell? ⟨b, p + 9, none⟩ = some (.int .i64 o.d.r)) ∧ (w.cell? ⟨b', p', none⟩ = some (.int .i64 o.id) ∧ w.cell? ⟨b', p' + 1, none⟩ = some (.int .i64 o.kind) ∧ w.cell? ⟨b', p' + 2, none⟩ = some (.string o.name) ∧ w.cell? ⟨b', p' + 3, none⟩ = some (.int .i64 o.low) ∧ w.cell? ⟨b', p' + 4, none⟩ = some (.slice l'.Ak l'.nk l'.ck) ∧ w.cell? ⟨b', p' + 5, none⟩ = some (.slice l'.Av l'.nv l'.cv) ∧ w.cell? ⟨b', p' + 6, none⟩ = some (.int .i64 o.d.k) ∧ w.cell? ⟨b', p' + 7, none⟩ = some (.int .i64 o.d.n) ∧ w.cell? ⟨b', p' + 8, none⟩ = some (.string o.d.t) ∧ w.cell? ⟨b', p' + 9, none⟩ = some (.int .i64 o.d.r)) ∧ TwoO wr b b' p p' o l l' w
theorem TwoO.flat {wr w : World} {b b' p p' : Nat} {o : Ob} {l l' : Lay} (h : TwoO wr b b' p p' o l l' w) : FlatO wr b b' p p' o l l' w := ⟨h.1, h.2.1, h⟩
theorem TwoO.drew {wr : World} {b b' p p' : Nat} {o : Ob} {l l' : Lay} (h : TwoO wr b b' p p' o l l' wr) : TwoO wr b b' p p' o l l' wr.drew := h.grow (Below.refl _ _).drew

set_option maxHeartbeats 1000000 in
set_option maxRecDepth 100000 in
theorem eqObjectS_same (A A' : Option Addr) (n c c' : Nat) (os : List Ob) (W : World) (ha : OI W W.heap.size A n os) (hb : OI W W.heap.size A' n os) :
    Calls Tryz.prog 91 #[.slice A n c, .slice A' n c'] W fun e w' => e = .returned (.bool true) ∧ Below W.heap.size W w' := by
  have HA := Lib.hid ha
  have HB := Lib.hid hb
  have hn := ha.2.1
  unfold maxLen at hn
  clear ha hb
  go_enter Tryz.func91, Tryz.ntmps91
  go_wp2
  go_loopw [5] (fun i wr => ∃ k : Nat, k ≤ n ∧ i = .int .i64 k ∧ Hid (Below W.heap.size W wr)) (fun i _ => n - (intOf i).toNat)
  case atStart => exact ⟨0, Nat.zero_le _, rfl, Below.refl _ _⟩
  case round =>
    obtain ⟨k, hk, rfl, HW⟩ := hrel
    by_cases hlt : k < n
    · obtain ⟨b, off, o, l, rfl, hg, hx, h1, hv1⟩ := (HA.out.go HW.out).at_ hlt
      obtain ⟨b', off', o', l', rfl, hg', hx', h2, hv2⟩ := (HB.out.go HW.out).at_ hlt
      obtain rfl : o = o' := Option.some.inj (hx.symm.trans hx')
      have H0 := Lib.hid (show TwoO wr b b' (off + k * 10) (off' + k * 10) o l l' wr from ⟨h1, h2, hv1, hv2, Below.refl _ _, hg, hg'⟩)
      have b0 : (0 : Int) ≤ (k : Int) := by omega
      have b1 : (k : Int) < (n : Int) := by omega
      clear h1 h2 hv1 hv2 hx hx' hg hg'
      go_wp2_with fail
      go_region_held3 (fun w' => FlatO wr b b' (off + k * 10) (off' + k * 10) o l l' w')
        (first | exact H0.out.drew.flat | exact (TwoO.grow H0.out.drew hb).flat | go_keep)
        ((go_at_call 126; have HS := H0.out.drew; have HQ := eqObject_same o l l' _ HS.2.2.1 HS.2.2.2.1; refine Calls.mono HQ ?_; clear HQ; rintro e w1 ⟨rfl, hb⟩))
      go_wp2_with fail
      go_split_ands
      have h2 : TwoO wr b b' (off + k * 10) (off' + k * 10) o l l' _ := ‹_›
      go_roundw
      case rel => exact ⟨k + 1, by omega, by go_num, HW.out.trans (h2.2.2.2.2.1.mono HW.out.size)⟩
      case measure => simp [intOf]; omega
    · go_wp2_with fail
      go_ret
      exact ⟨rfl, HW.out⟩
end Go.Proofs.YtfcpdjfckeoniaaGreatDoor

namespace Go.Proofs.YtfcpdjfckeoniaaGreatDoor
open Go Go.RowKit

/-- What holds of a world by its blocks from a to before b alone. -/
def Det (a b : Nat) (w : World) (P : World → Prop) : Prop := ∀ w', (∀ g, a ≤ g → g < b → w'.heap[g]? = w.heap[g]?) → P w'
theorem Det.self {a b : Nat} {w : World} {P : World → Prop} (h : Det a b w P) : P w := h w fun _ _ _ => rfl
theorem Det.wide {a b a' b' : Nat} {w : World} {P : World → Prop} (h : Det a b w P) (ha : a' ≤ a) (hb : b ≤ b') : Det a' b' w P := fun w' k => h w' fun g h1 h2 => k g (by omega) (by omega)
theorem Det.keep {a b : Nat} {w w' : World} {P : World → Prop} (h : Det a b w P) (k : ∀ g, a ≤ g → g < b → w'.heap[g]? = w.heap[g]?) : Det a b w' P := fun w'' k' => h w'' fun g h1 h2 => (k' g h1 h2).trans (k g h1 h2)
theorem Det.below {a b B : Nat} {w w' : World} {P : World → Prop} (h : Det a b w P) (hb : Below B w w') (hB : b ≤ B) : Det a b w' P := h.keep fun g _ h2 => hb.block g (by omega)
theorem Det.set {a b : Nat} {w : World} {P : World → Prop} (h : Det a b w P) {p : Addr} (hp : p.block < a) (u : Value) : Det a b (w.setCell p u) P := h.keep fun g h1 _ => Below.heap_setCell w p u g (by omega)
theorem Det.set' {a b : Nat} {w : World} {P : World → Prop} (h : Det a b w P) {p : Addr} (hp : b ≤ p.block) (u : Value) : Det a b (w.setCell p u) P := h.keep fun g _ h2 => Below.heap_setCell w p u g (by omega)
theorem Det.imp {a b : Nat} {w : World} {P Q : World → Prop} (h : Det a b w P) (k : ∀ w, P w → Q w) : Det a b w Q := fun w' k' => k w' (h w' k')
theorem cell_same {w w' : World} {b o : Nat} (h : w'.heap[b]? = w.heap[b]?) : w'.cell? ⟨b, o, none⟩ = w.cell? ⟨b, o, none⟩ := World.cell?_of_block (w := w) (a := ⟨b, o, none⟩) h

/-- A slice of strings whose cells lie below B. -/
def StI (w : World) (B : Nat) (A : Option Addr) (n : Nat) (xs : List ByteArray) : Prop :=
  xs.length = n ∧ n ≤ maxLen ∧ (0 < n → ∃ b off, A = some ⟨b, off, none⟩ ∧ b < B ∧ ∀ (j : Nat) (x : ByteArray), xs[j]? = some x → w.cell? ⟨b, off + j, none⟩ = some (.string x) ∧ x.size ≤ maxLen)
abbrev St := ByteArray
theorem StI.below {w w' : World} {B n : Nat} {A : Option Addr} {xs : List St} (h : StI w B A n xs) (hb : Below B w w') : StI w' B A n xs :=
  ⟨h.1, h.2.1, fun hn => by
    obtain ⟨b, off, e, hg, hc⟩ := h.2.2 hn
    exact ⟨b, off, e, hg, fun j x hx => ⟨(hb.cell (p := ⟨b, off + j, none⟩) hg).trans (hc j x hx).1, (hc j x hx).2⟩⟩⟩
theorem StI.more {w : World} {B B' n : Nat} {A : Option Addr} {xs : List St} (h : StI w B A n xs) (hB : B ≤ B') : StI w B' A n xs :=
  ⟨h.1, h.2.1, fun hn => by
    obtain ⟨b, off, e, hg, hc⟩ := h.2.2 hn
    exact ⟨b, off, e, by omega, hc⟩⟩
theorem StI.nil (w : World) (B : Nat) (A : Option Addr) : StI w B A 0 [] := ⟨rfl, Nat.zero_le _, fun h => absurd h (by omega)⟩
theorem StI.at_ {w : World} {B n k : Nat} {A : Option Addr} {xs : List St} (h : StI w B A n xs) (hk : k < n) : ∃ b off x, A = some ⟨b, off, none⟩ ∧ b < B ∧ xs[k]? = some x ∧ w.cell? ⟨b, off + k, none⟩ = some (.string x) ∧ x.size ≤ maxLen := by
  obtain ⟨b, off, e, hg, hc⟩ := h.2.2 (by omega)
  have hl : k < xs.length := by rw [h.1]; exact hk
  exact ⟨b, off, xs[k], e, hg, List.getElem?_eq_getElem hl, hc k _ (List.getElem?_eq_getElem hl)⟩
theorem StI.alloc {W : World} {A : Option Addr} {n : Nat} {xs : List St} (h : StI W W.heap.size A n xs) (o : Obj) : StI (W.alloc o) (W.alloc o).heap.size A n xs := (h.below (below_alloc W o)).more (by simp)
theorem StI.go {W w : World} {A : Option Addr} {n : Nat} {xs : List St} (h : StI W W.heap.size A n xs) (hb : Below W.heap.size W w) : StI w w.heap.size A n xs := (h.below hb).more hb.size
theorem StI.other {w : World} {B n b off : Nat} {xs : List St} (h : StI w B (some ⟨b, off, none⟩) n xs) {p : Addr} (hp : b ≠ p.block) (u : Value) : StI (w.setCell p u) B (some ⟨b, off, none⟩) n xs :=
  ⟨h.1, h.2.1, fun hn => by
    obtain ⟨b', off', e, hg, hc⟩ := h.2.2 hn
    simp only [Option.some.injEq, Addr.mk.injEq, and_true] at e
    obtain ⟨rfl, rfl⟩ := e
    exact ⟨b, off, rfl, hg, fun j x hx => ⟨(World.cell?_setCell_other w p ⟨b, off + j, none⟩ u (fun e => hp (by rw [e]))).trans (hc j x hx).1, (hc j x hx).2⟩⟩⟩
theorem StI.others {B n b off : Nat} {xs : List St} {g : Nat} (hp : b ≠ g) : ∀ {vs : List Value} {w : World} {o : Nat}, StI w B (some ⟨b, off, none⟩) n xs → StI (w.setCells g o vs) B (some ⟨b, off, none⟩) n xs
  | [], _, _, h => h
  | v :: r, w, o, h => StI.others hp (vs := r) (h.other (p := ⟨g, o, none⟩) hp v)
theorem StI.det {w : World} {B n b off : Nat} {xs : List St} (h : StI w B (some ⟨b, off, none⟩) n xs) : Det b B w fun w => StI w B (some ⟨b, off, none⟩) n xs := fun w' k =>
  ⟨h.1, h.2.1, fun hn => by
    obtain ⟨b', off', e, hg, hc⟩ := h.2.2 hn
    simp only [Option.some.injEq, Addr.mk.injEq, and_true] at e
    obtain ⟨rfl, rfl⟩ := e
    exact ⟨b, off, rfl, hg, fun j x hx => ⟨(cell_same (k b (Nat.le_refl _) hg)).trans (hc j x hx).1, (hc j x hx).2⟩⟩⟩

section
variable {H : Type} {enc : TypeId × Value → H} {W : World} {base : Nat} {held : Bool}
theorem open_StF {A : Option Addr} {n c fuel : Nat} {x : DataW H × List MemPlace} (hf : DataW.trod enc Tryz.prog W base (fun _ => true) held fuel 22 [.slice A n c] = some x) :
    ∃ xs, StI W W.heap.size A n xs := by
  rcases Go.Deep.open_slice Tryz.underlying22 hf with ⟨h0, _⟩ | ⟨a, len, cap, m, k, D, Pl, hcs, hb, hl, hm, hmm, hx, hi⟩
  · simp at h0
    obtain ⟨rfl, rfl, rfl⟩ := h0
    exact ⟨[], rfl, Nat.zero_le _, fun h => absurd h (by omega)⟩
  · simp only [List.cons.injEq, Value.slice.injEq, and_true] at hcs
    obtain ⟨rfl, rfl, rfl⟩ := hcs
    simp only [if_true] at hmm
    have hC : Tryz.prog.cellsOf 9 = 1 := by kernel_rfl
    have key : ∀ i, i < n → ∃ o : ByteArray, W.cell? (a.add i) = some (.string o) ∧ o.size ≤ maxLen := by
      intro i hin
      obtain ⟨cs', hc, ht'⟩ := hi i (by omega)
      rw [hC] at hc
      obtain ⟨_, hcl, hat⟩ := World.cells?_some hc
      match cs', hcl with
      | [c0], _ =>
        obtain ⟨z, e, _, hz⟩ := DataW.trod_string Tryz.underlying9 ht'
        simp only [List.cons.injEq, and_true] at e
        subst e
        refine ⟨z, ?_, hz⟩
        have := hat 0 (by decide)
        simpa [Addr.add, Nat.mul_one] using this
    have hnm : n ≤ maxLen := Nat.le_trans hl hm
    by_cases hn : 0 < n
    · obtain ⟨ab, ao, spot⟩ := a
      obtain ⟨o0, h0, _⟩ := key 0 hn
      have hspot : spot = none := by simpa [Addr.add] using World.cell?_spot h0
      subst hspot
      rw [Addr.add_lit] at h0
      obtain ⟨os, hl', hx'⟩ := list_of (α := ByteArray) (P := fun j o => W.cell? ⟨ab, ao + j, none⟩ = some (.string o) ∧ o.size ≤ maxLen) (n := n) fun i hin => by
        obtain ⟨o, hc, ho⟩ := key i hin
        rw [Addr.add_lit] at hc
        exact ⟨o, hc, ho⟩
      exact ⟨os, hl', hnm, fun _ => ⟨ab, ao, rfl, World.block_lt_of_cell? W ⟨ab, _, none⟩ h0, hx'⟩⟩
    · exact ⟨[], by simp; omega, hnm, fun h => absurd h hn⟩
end
theorem open_St {H : Type} {enc : TypeId × Value → H} {W : World} {A : Option Addr} {n c : Nat} {d : DataW H} {p : List MemPlace} (h : DataW.Trod enc Tryz.prog W 0 (fun _ => true) true 22 (.slice A n c) d p) :
    ∃ xs, StI W W.heap.size A n xs := by
  obtain ⟨fuel, hf⟩ := h
  exact open_StF (by simpa [Value.cells] using hf)

/-- The bytes of the first k. -/
def sumSt (xs : List St) : Nat → Nat
  | 0 => 0
  | k + 1 => sumSt xs k + ((xs[k]?.map fun (x : ByteArray) => x.size).getD 0)
theorem sumSt_next {xs : List St} {k : Nat} {x : St} (h : xs[k]? = some x) : sumSt xs (k + 1) = sumSt xs k + ByteArray.size x := by
  rw [sumSt, h]
  rfl
theorem sumSt_mono {xs : List St} {j : Nat} : ∀ {k : Nat}, j ≤ k → sumSt xs j ≤ sumSt xs k
  | 0, h => by obtain rfl : j = 0 := by omega
               exact Nat.le_refl _
  | k + 1, h => by
    by_cases e : j = k + 1
    · rw [e]; exact Nat.le_refl _
    · have := sumSt_mono (xs := xs) (show j ≤ k by omega)
      rw [sumSt]
      omega
/-- What szStringS takes of the bound. -/
def szSt (xs : List St) : Nat := xs.length + sumSt xs xs.length

set_option maxHeartbeats 1000000 in
set_option maxRecDepth 100000 in
theorem szStringS_any (A : Option Addr) (n c : Nat) (xs : List St) (L : Int) (W : World) (hr : StI W W.heap.size A n xs) (h0 : 0 ≤ L) (hL : L ≤ 1048576) :
    Calls Tryz.prog 19 #[.slice A n c, .int .i64 L] W (SzL (szSt xs) L W) := by
  have HR := Lib.hid hr
  have hn := hr.2.1
  have hxn := hr.1
  clear hr
  obtain ⟨s, hs⟩ : ∃ s, szSt xs = s := ⟨_, rfl⟩
  have HS : Hid (s = n + sumSt xs n) := by show _ = _; rw [← hs, szSt, hxn]
  rw [hs]
  clear hs hxn
  unfold maxLen at hn
  by_cases hbig : L < (n : Int)
  · have HB : Hid (L < (s : Int)) := by show _ < _; have := HS.out; omega
    have h2 : (n : Int) ≤ 9223372036854775807 := by omega
    have d0 : decide (L - n < 0) = true := by simp; omega
    go_enter Tryz.func19, Tryz.ntmps19
    go_wp2_with fail
    go_ret
    exact ⟨.inr ⟨HB.out, rfl⟩, Below.refl _ _⟩
  · have h1 : (n : Int) ≤ L := by omega
    have hn' : n ≤ 1048576 := by omega
    have d0 : decide (L - n < 0) = false := by simp; omega
    clear hbig
    go_enter Tryz.func19, Tryz.ntmps19
    go_wp2_with fail
    go_loopw [1, 5] (fun q i wr => ∃ k : Nat, ∃ z : Int, k ≤ n ∧ i = .int .i64 k ∧ q = .int .i64 z ∧ 0 ≤ z ∧ z ≤ 1048576 ∧ Hid (z = L - (n : Int) - (sumSt xs k : Int)) ∧ Hid (Below W.heap.size W wr)) (fun _ i _ => n - (intOf i).toNat)
    case atStart => exact ⟨0, _, Nat.zero_le _, rfl, rfl, by omega, by omega, by show _ = _; simp [sumSt], Below.refl _ _⟩
    case round =>
      obtain ⟨k, z, hk, rfl, rfl, hz0, hz1, HZ, HW⟩ := hrel
      by_cases hlt : k < n
      · obtain ⟨b, off, x, rfl, hg, hx, q0, hm0⟩ := (HR.out.below HW.out).at_ hlt
        have HX := Lib.hid hx
        have b0 : (0 : Int) ≤ (k : Int) := by omega
        have b1 : (k : Int) < (n : Int) := by omega
        have HZ0 : Hid (0 ≤ z) := hz0
        have HZ1 : Hid (z ≤ 1048576) := hz1
        unfold maxLen at hm0
        clear hx hg
        by_cases hf : (x.size : Int) ≤ z
        · have HF := Lib.hid hf
          have HN : Hid (sumSt xs (k + 1) = sumSt xs k + x.size) := sumSt_next HX.out
          have dz : decide (z - (x.size : Int) < 0) = false := by simp; omega
          clear hf
          go_wp2_with fail
          go_roundw
          case rel => exact ⟨k + 1, _, by omega, by go_num, rfl, by have := HF.out; omega, by omega, by show _ = _; rw [HN.out, HZ.out]; omega, HW⟩
          case measure => simp [intOf]; omega
        · have HF := Lib.hid hf
          have HBIG : Hid (L < (s : Int)) := by
            show _ < _
            have h1 := sumSt_mono (xs := xs) (j := k + 1) (k := n) (by omega)
            rw [sumSt_next HX.out] at h1
            have h2 := HZ.out
            have h3 := HS.out
            omega
          have dz : decide (z - (x.size : Int) < 0) = true := by simp; omega
          clear hf
          go_wp2_with fail
          go_ret
          exact ⟨.inr ⟨HBIG.out, rfl⟩, HW.out⟩
      · have hkn : k = n := by omega
        have HE : Hid ((s : Int) ≤ L ∧ z = L - (s : Int)) := by
          have h := HZ.out
          have h3 := HS.out
          rw [hkn] at h
          exact ⟨by omega, by omega⟩
        go_wp2_with fail
        go_ret
        exact ⟨.inl ⟨HE.out.1, by rw [HE.out.2]; rfl⟩, HW.out⟩

/-- The elements of block g ahead of j are filled. -/
def FilledSt (w : World) (g j n : Nat) (xs : List St) : Prop := ∃ cs, RW 9 w g cs ∧ n ≤ cs.size ∧ ∀ (i : Nat) (x : St), i < j → xs[i]? = some x → cs[i]? = some (.string x)
theorem infoSt : (Tryz.prog.info? 9).map (fun i => (i.zero, i.size, i.bytes)) = some (some (Value.string ⟨#[]⟩), 1, 16) := by kernel_rfl
theorem ownSt {w : World} {B g n : Nat} {xs : List Value} (h : w.ownsRow B 9 1 (.slice (some ⟨g, 0, none⟩) n n) n xs) : ∃ cs, RW 9 w g cs ∧ n ≤ cs.size := by
  rcases h.2 with ⟨h', _⟩ | ⟨g', cap', cur, h', _, hg, _, _, hsz, _⟩
  · simp at h'
  · simp only [Value.slice.injEq, Option.some.injEq, Addr.mk.injEq, and_true, true_and] at h'
    obtain ⟨rfl, rfl⟩ := h'
    exact ⟨cur, hg, by omega⟩
/-- What toStringS answers: a slice at the head of the first new block. -/
def ToSt (xs : List St) (n : Nat) (W : World) (e : Ending) (w' : World) : Prop :=
  e = .returned (.slice (some ⟨W.heap.size, 0, none⟩) n n) ∧ Hid (StI w' w'.heap.size (some ⟨W.heap.size, 0, none⟩) n xs ∧ Below W.heap.size W w')

set_option maxHeartbeats 2000000 in
set_option maxRecDepth 100000 in
theorem toStringS_any (A : Option Addr) (n c : Nat) (xs : List St) (W : World) (hr : StI W W.heap.size A n xs) (hn : n ≤ 1048576) :
    Calls Tryz.prog 24 #[.slice A n c] W (ToSt xs n W) := by
  obtain ⟨i0, hi, hz0, hz1, hz2⟩ := info_parts infoSt
  have HR := Lib.hid hr
  have h1 : (n : Int) ≤ 1048576 := by omega
  clear hr
  go_enter Tryz.func24, Tryz.ntmps24
  go_wp2_with (at_make; refine wpList_make_full _ rfl _ _ 22 rfl W.heap.size 9 i0 (.string ⟨#[]⟩) 1 Tryz.underlying22 hi hz0 hz1 .i64 .i64 n n n rfl rfl rfl rfl (by rw [hz2]; omega) (by unfold maxLen; omega) (Nat.le_refl _) ?_)
  intro w1 hown hgrow
  have HB1 : Hid (Below W.heap.size W w1) := below_grown_none hgrow
  obtain ⟨cs, hcs, hcn⟩ := ownSt hown
  have HG : Hid (W.heap.size < w1.heap.size) := hcs.lt
  have HM : Hid (FilledSt w1 W.heap.size 0 n xs) := ⟨cs, hcs, hcn, fun i x hi => absurd hi (by omega)⟩
  clear hown hgrow hcs hcn hi hz0 hz1 hz2
  go_wp2_with fail
  go_loopw [4] (fun i wr => ∃ j : Nat, j ≤ n ∧ i = .int .i64 j ∧ Hid (Below W.heap.size W wr) ∧ Hid (W.heap.size < wr.heap.size) ∧ Hid (FilledSt wr W.heap.size j n xs)) (fun i _ => n - (intOf i).toNat)
  case atStart => exact ⟨0, Nat.zero_le _, rfl, HB1, HG, HM⟩
  case round =>
    obtain ⟨j, hj, rfl, HW, HZ, HJ⟩ := hrel
    by_cases hlt : j < n
    · obtain ⟨b, off, x, rfl, hg, hx, q0, hxs⟩ := (HR.out.below HW.out).at_ hlt
      have HX := Lib.hid hx
      obtain ⟨cs, hs, hcs, hm⟩ := HJ.out
      have HSB := Lib.hid hs
      have HMM := Lib.hid hm
      have HL0 : Hid (j < cs.size) := by show _ < _; omega
      have HCS := Lib.hid hcs
      have p0 := (hs.cell j).trans (Array.getElem?_eq_getElem HL0.out)
      have z0 := hs.frozen j
      have b0 : (0 : Int) ≤ (j : Int) := by omega
      have b1 : (j : Int) < (n : Int) := by omega
      clear hs hm hx hxs hg hcs
      go_wp2_with fail
      go_roundw
      case rel =>
        refine ⟨j + 1, by omega, by go_num, ?_, ?_, ?_⟩
        · exact HW.out.setCell (Nat.le_refl _) _
        · have h2 := HZ.out
          show _ < _
          simp [World.setCell]
          omega
        · refine ⟨_, (HSB.out).set_ _ _, by simpa using HCS.out, fun i y hi hxi => ?_⟩
          by_cases e : i = j
          · subst e
            rw [HX.out, Option.some.injEq] at hxi
            subst hxi
            rw [Array.getElem?_setIfInBounds_self_of_lt HL0.out]
          · rw [Array.getElem?_setIfInBounds_ne (by omega)]
            exact HMM.out i y (by omega) hxi
      case measure => simp [intOf]; omega
    · have HN : Hid (j = n) := by show _ = _; omega
      go_wp2_with fail
      go_ret
      refine ⟨rfl, Lib.hid ⟨⟨HR.out.1, HR.out.2.1, fun _ => ⟨W.heap.size, 0, rfl, HZ.out, fun i x hx => ?_⟩⟩, HW.out⟩⟩
      obtain ⟨cs, hs, hcs, hm⟩ := HJ.out
      have hil : i < xs.length := (List.getElem?_eq_some_iff.1 hx).1
      have hij : i < j := by have := HN.out; have := HR.out.1; omega
      obtain ⟨_, _, _, _, hc⟩ := HR.out.2.2 (by have := HR.out.1; omega)
      rw [Nat.zero_add]
      exact ⟨(hs.cell _).trans (hm i x hij hx), (hc i x hx).2⟩
end Go.Proofs.YtfcpdjfckeoniaaGreatDoor
