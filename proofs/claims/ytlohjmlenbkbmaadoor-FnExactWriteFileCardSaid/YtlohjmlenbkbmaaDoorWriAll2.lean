/- laws.eqFile, laws.eqFileS where both are the same. No condition. Console: as plain data and in memory; szConsole, szConsoleS of the laws. No condition. toConsole of the laws: rows of its own. No condition. laws.markConsole, heldConsole on a console of one's own whose lists lie apart: the marks are there and are read. No condition. append of any slice, a nil one too, onto a row of one's own; at a region that draws and at one that does not. No condition. Contracts: copyOf at strings (the program), l21Texts (the model): a row of one's own with the same strings. No condition. Rows of files of one's own, each with its list: appended to, a list put in, handed back, marked; copyOf at files (the program). No condition. Rows of strings, files, a console of one's own: kept, marked, changed. No condition. Contracts: copyOf at strings (the program), l21Texts (the model): a row of one's own with the same strings; File.clone and the list's clone of the program. No condition. When a rising list is valid. Plain. Contracts: l21Lines of the model, areLines of the program. No condition. Contract: isWithin at int64. No condition. The classes of bytes as a plain function; facts on bytes. No condition. Contracts: impl.classOf, spec.l02Operator. Condition of the first: the table holds what the program's text lays. Names as plain functions. No condition. -/
import Derived.Test.YtlohjmlenbkbmaaDoorWriAll1
import Derived.Deep.AppendLies
import Derived.Laws.OwnMore
import Derived.Lib.QuietBelow
import Derived.BigQuiet
import Derived.Deep.QuietTactic
import Derived.Laws.StructEq
import Derived.Deep.RegionHeld3
import Derived.Test.YtlohjmlenbkbmaaDoorChecked
import Derived.WalkKit
import Derived.WalkLawsBesides
import Derived.Lib.LaidTab
namespace Go.Proofs.YtlohjmlenbkbmaaDoor
open Go Go.RowKit

set_option maxHeartbeats 1000000 in
set_option maxRecDepth 100000 in
theorem eqFile_same (x : Fl) (l l' : FlLay) (W : World) (ho : FlV W W.heap.size x l) (ho' : FlV W W.heap.size x l') :
    Calls Tryd.prog 73 #[x.ag l, x.ag l'] W fun e w' => e = .returned (.bool true) ∧ Below W.heap.size W w' := by
  obtain ⟨x0, x1, x2, x3⟩ := x
  obtain ⟨A1, n1, c1, h1⟩ := l
  obtain ⟨A1', n1', c1', h1'⟩ := l'
  obtain ⟨k1, k0⟩ := ho
  obtain ⟨j1, j0⟩ := ho'
  try unfold FlV at k1 j1 k0 j0
  dsimp only at k1 j1 k0 j0
  obtain rfl : n1 = n1' := k1.1.symm.trans j1.1
  have HK1 := Lib.hid k1
  have HJ1 := Lib.hid j1
  clear k1 j1 k0 j0
  have HC := Lib.hid (two_new W 50 #[.string x0, .slice A1 n1 c1, .int .i64 x2, .int .i64 x3] #[.string x0, .slice A1' n1 c1', .int .i64 x2, .int .i64 x3])
  show Calls Tryd.prog 73 #[.agg #[.string x0, .slice A1 n1 c1, .int .i64 x2, .int .i64 x3], .agg #[.string x0, .slice A1' n1 c1', .int .i64 x2, .int .i64 x3]] W _
  go_enter Tryd.func73, Tryd.ntmps73
  go_wp2_with (go_at_call 41; obtain ⟨g0, g1, g2, g3⟩ := HC.out _ rfl; have HQ := eqStringS_same A1 A1' n1 c1 c1' x1 _ (HK1.out.go g2) (HJ1.out.go g2); refine Calls.mono HQ ?_; clear HQ; rintro e w1 ⟨rfl, hb⟩; have HA1 := Lib.hid (g0.below hb (by omega)); have HD1 := Lib.hid (g1.below hb (by omega)); have HB1 := Lib.hid (g2.trans (hb.mono g2.size)); have HG1 : Hid (W.heap.size + 2 ≤ w1.heap.size) := (by have := hb.size; show _ ≤ _; omega); have q12 : w1.cell? ⟨W.heap.size, 2, none⟩ = some (.int .i64 x2) := HA1.out.cell 2; have p12 : w1.cell? ⟨W.heap.size + 1, 2, none⟩ = some (.int .i64 x2) := HD1.out.cell 2; have q13 : w1.cell? ⟨W.heap.size, 3, none⟩ = some (.int .i64 x3) := HA1.out.cell 3; have p13 : w1.cell? ⟨W.heap.size + 1, 3, none⟩ = some (.int .i64 x3) := HD1.out.cell 3; clear g0 g1 g2 g3 hb HK1)
  all_goals go_ret
  all_goals exact ⟨rfl, HB1.out⟩

/-- Two in two blocks, and their lists. -/
def TwoFl (wr : World) (b b' p p' : Nat) (x y : Fl) (l l' : FlLay) (w : World) : Prop := FlAt w b p x l ∧ FlAt w b' p' y l' ∧ FlV w w.heap.size x l ∧ FlV w w.heap.size y l' ∧ Below wr.heap.size wr w ∧ b < w.heap.size ∧ b' < w.heap.size
theorem TwoFl.grow {wr w w' : World} {b b' p p' : Nat} {x y : Fl} {l l' : FlLay} (h : TwoFl wr b b' p p' x y l l' w) (hb : Below w.heap.size w w') : TwoFl wr b b' p p' x y l l' w' :=
  ⟨h.1.below hb h.2.2.2.2.2.1, h.2.1.below hb h.2.2.2.2.2.2, (h.2.2.1.below hb).more hb.size, (h.2.2.2.1.below hb).more hb.size, h.2.2.2.2.1.trans (hb.mono h.2.2.2.2.1.size), Nat.lt_of_lt_of_le h.2.2.2.2.2.1 hb.size, Nat.lt_of_lt_of_le h.2.2.2.2.2.2 hb.size⟩
/-- .. cell by cell, as the walk of a region asks it. -/
abbrev FlatFl (wr : World) (b b' p p' : Nat) (x y : Fl) (l l' : FlLay) (w : World) : Prop := (w.cell? ⟨b, p, none⟩ = some (.string x.name_) ∧ w.cell? ⟨b, p + 1, none⟩ = some (.slice l.A1 l.n1 l.c1) ∧ w.cell? ⟨b, p + 2, none⟩ = some (.int .i64 x.mode_) ∧ w.cell? ⟨b, p + 3, none⟩ = some (.int .i64 x.at_)) ∧ (w.cell? ⟨b', p', none⟩ = some (.string y.name_) ∧ w.cell? ⟨b', p' + 1, none⟩ = some (.slice l'.A1 l'.n1 l'.c1) ∧ w.cell? ⟨b', p' + 2, none⟩ = some (.int .i64 y.mode_) ∧ w.cell? ⟨b', p' + 3, none⟩ = some (.int .i64 y.at_)) ∧ TwoFl wr b b' p p' x y l l' w
theorem TwoFl.flat {wr w : World} {b b' p p' : Nat} {x y : Fl} {l l' : FlLay} (h : TwoFl wr b b' p p' x y l l' w) : FlatFl wr b b' p p' x y l l' w := ⟨h.1, h.2.1, h⟩
theorem TwoFl.drew {wr : World} {b b' p p' : Nat} {x y : Fl} {l l' : FlLay} (h : TwoFl wr b b' p p' x y l l' wr) : TwoFl wr b b' p p' x y l l' wr.drew := h.grow (Below.refl _ _).drew

set_option maxHeartbeats 1000000 in
set_option maxRecDepth 100000 in
theorem eqFileS_same (A A' : Option Addr) (n c c' : Nat) (xs : List Fl) (W : World) (ha : FlI W W.heap.size A n xs) (hb : FlI W W.heap.size A' n xs) :
    Calls Tryd.prog 42 #[.slice A n c, .slice A' n c'] W fun e w' => e = .returned (.bool true) ∧ Below W.heap.size W w' := by
  have HA := Lib.hid ha
  have HB := Lib.hid hb
  have hn := ha.2.1
  unfold maxLen at hn
  clear ha hb
  go_enter Tryd.func42, Tryd.ntmps42
  go_wp2
  go_loopw [5] (fun i wr => ∃ k : Nat, k ≤ n ∧ i = .int .i64 k ∧ Hid (Below W.heap.size W wr)) (fun i _ => n - (intOf i).toNat)
  case atStart => exact ⟨0, Nat.zero_le _, rfl, Below.refl _ _⟩
  case round =>
    obtain ⟨k, hk, rfl, HW⟩ := hrel
    by_cases hlt : k < n
    · obtain ⟨b, off, x, l, rfl, hg, hx, h1, hv1⟩ := (HA.out.go HW.out).at_ hlt
      obtain ⟨b', off', x', l', rfl, hg', hx', h2, hv2⟩ := (HB.out.go HW.out).at_ hlt
      obtain rfl : x = x' := Option.some.inj (hx.symm.trans hx')
      have H0 := Lib.hid (show TwoFl wr b b' (off + k * 4) (off' + k * 4) x x l l' wr from ⟨h1, h2, hv1, hv2, Below.refl _ _, hg, hg'⟩)
      have b0 : (0 : Int) ≤ (k : Int) := by omega
      have b1 : (k : Int) < (n : Int) := by omega
      clear h1 h2 hv1 hv2 hx hx' hg hg'
      go_wp2_with fail
      go_region_held3 (fun w' => FlatFl wr b b' (off + k * 4) (off' + k * 4) x x l l' w')
        (first | exact H0.out.drew.flat | exact (TwoFl.grow H0.out.drew hb).flat | go_keep)
        ((go_at_call 73; have HS := H0.out.drew; have HQ := eqFile_same x l l' _ HS.2.2.1 HS.2.2.2.1; refine Calls.mono HQ ?_; clear HQ; rintro e w1 ⟨rfl, hb⟩))
      go_wp2_with fail
      go_split_ands
      have h2 : TwoFl wr b b' (off + k * 4) (off' + k * 4) x x l l' _ := ‹_›
      go_roundw
      case rel => exact ⟨k + 1, by omega, by go_num, HW.out.trans (h2.2.2.2.2.1.mono HW.out.size)⟩
      case measure => simp [intOf]; omega
    · go_wp2_with fail
      go_ret
      exact ⟨rfl, HW.out⟩
end Go.Proofs.YtlohjmlenbkbmaaDoor

namespace Go.Proofs.YtlohjmlenbkbmaaDoor
open Go Go.RowKit

structure Cn where
  input_ : List St
  at_ : Int
  output_ : List St
  files_ : List Fl
  trace_ : List St
/-- Where its lists lie. -/
structure CnLay where
  A0 : Option Addr
  n0 : Nat
  c0 : Nat
  h0 : n0 ≤ c0
  A2 : Option Addr
  n2 : Nat
  c2 : Nat
  h2 : n2 ≤ c2
  A3 : Option Addr
  n3 : Nat
  c3 : Nat
  h3 : n3 ≤ c3
  A4 : Option Addr
  n4 : Nat
  c4 : Nat
  h4 : n4 ≤ c4
/-- As one value. -/
abbrev Cn.ag (x : Cn) (l : CnLay) : Value := .agg #[.slice l.A0 l.n0 l.c0, .int .i64 x.at_, .slice l.A2 l.n2 l.c2, .slice l.A3 l.n3 l.c3, .slice l.A4 l.n4 l.c4]
def Cn.vs (x : Cn) (l : CnLay) : List Value := [.slice l.A0 l.n0 l.c0, .int .i64 x.at_, .slice l.A2 l.n2 l.c2, .slice l.A3 l.n3 l.c3, .slice l.A4 l.n4 l.c4]
/-- Its lists lie below B. -/
def CnV (w : World) (B : Nat) (x : Cn) (l : CnLay) : Prop := StI w B l.A0 l.n0 x.input_ ∧ StI w B l.A2 l.n2 x.output_ ∧ FlI w B l.A3 l.n3 x.files_ ∧ StI w B l.A4 l.n4 x.trace_
theorem CnV.below {w w' : World} {B : Nat} {x : Cn} {l : CnLay} (h : CnV w B x l) (hb : Below B w w') : CnV w' B x l := by
  obtain ⟨h0, h1, h2, h3⟩ := h
  exact ⟨h0.below hb, h1.below hb, h2.below hb, h3.below hb⟩
theorem CnV.more {w : World} {B B' : Nat} {x : Cn} {l : CnLay} (h : CnV w B x l) (hB : B ≤ B') : CnV w B' x l := by
  obtain ⟨h0, h1, h2, h3⟩ := h
  exact ⟨h0.more hB, h1.more hB, h2.more hB, h3.more hB⟩
theorem CnV.go {W w : World} {x : Cn} {l : CnLay} (h : CnV W W.heap.size x l) (hb : Below W.heap.size W w) : CnV w w.heap.size x l := (h.below hb).more hb.size
theorem CnV.alloc {W : World} {x : Cn} {l : CnLay} (h : CnV W W.heap.size x l) (o : Obj) : CnV (W.alloc o) (W.alloc o).heap.size x l := h.go (below_alloc W o)
/-- Its cells from p on of block b. -/
def CnAt (w : World) (b p : Nat) (x : Cn) (l : CnLay) : Prop := w.cell? ⟨b, p, none⟩ = some (.slice l.A0 l.n0 l.c0) ∧ w.cell? ⟨b, p + 1, none⟩ = some (.int .i64 x.at_) ∧ w.cell? ⟨b, p + 2, none⟩ = some (.slice l.A2 l.n2 l.c2) ∧ w.cell? ⟨b, p + 3, none⟩ = some (.slice l.A3 l.n3 l.c3) ∧ w.cell? ⟨b, p + 4, none⟩ = some (.slice l.A4 l.n4 l.c4)
theorem CnAt.below {w w' : World} {b p B : Nat} {x : Cn} {l : CnLay} (h : CnAt w b p x l) (hb : Below B w w') (hg : b < B) : CnAt w' b p x l := by
  obtain ⟨h0, h1, h2, h3, h4⟩ := h
  exact ⟨(hb.cell (p := ⟨b, p, none⟩) hg).trans h0, (hb.cell (p := ⟨b, p + 1, none⟩) hg).trans h1, (hb.cell (p := ⟨b, p + 2, none⟩) hg).trans h2, (hb.cell (p := ⟨b, p + 3, none⟩) hg).trans h3, (hb.cell (p := ⟨b, p + 4, none⟩) hg).trans h4⟩
theorem CnAt.range {w : World} {b p : Nat} {x : Cn} {l : CnLay} (h : CnAt w b p x l) : w.rangeAt b p (x.vs l) := by
  obtain ⟨h0, h1, h2, h3, h4⟩ := h
  intro j v hj
  match j, hj with
  | 0, hj => cases hj; exact h0
  | 1, hj => cases hj; exact h1
  | 2, hj => cases hj; exact h2
  | 3, hj => cases hj; exact h3
  | 4, hj => cases hj; exact h4
  | j + 5, hj => simp [Cn.vs] at hj
/-- A slice of them that lies below B, with their lists. -/
def CnI (w : World) (B : Nat) (A : Option Addr) (n : Nat) (xs : List Cn) : Prop :=
  xs.length = n ∧ n ≤ maxLen ∧ (0 < n → ∃ b off, A = some ⟨b, off, none⟩ ∧ b < B ∧ ∀ (j : Nat) (x : Cn), xs[j]? = some x → ∃ l, CnAt w b (off + j * 5) x l ∧ CnV w B x l)
theorem CnI.below {w w' : World} {B n : Nat} {A : Option Addr} {xs : List Cn} (h : CnI w B A n xs) (hb : Below B w w') : CnI w' B A n xs :=
  ⟨h.1, h.2.1, fun hn => by
    obtain ⟨b, off, e, hg, hc⟩ := h.2.2 hn
    refine ⟨b, off, e, hg, fun j x hx => ?_⟩
    obtain ⟨l, h1, h2⟩ := hc j x hx
    exact ⟨l, h1.below hb hg, h2.below hb⟩⟩
theorem CnI.more {w : World} {B B' n : Nat} {A : Option Addr} {xs : List Cn} (h : CnI w B A n xs) (hB : B ≤ B') : CnI w B' A n xs :=
  ⟨h.1, h.2.1, fun hn => by
    obtain ⟨b, off, e, hg, hc⟩ := h.2.2 hn
    refine ⟨b, off, e, by omega, fun j x hx => ?_⟩
    obtain ⟨l, h1, h2⟩ := hc j x hx
    exact ⟨l, h1, h2.more hB⟩⟩
theorem CnI.at_ {w : World} {B n k : Nat} {A : Option Addr} {xs : List Cn} (h : CnI w B A n xs) (hk : k < n) : ∃ b off x l, A = some ⟨b, off, none⟩ ∧ b < B ∧ xs[k]? = some x ∧ CnAt w b (off + k * 5) x l ∧ CnV w B x l := by
  obtain ⟨b, off, e, hg, hc⟩ := h.2.2 (by omega)
  have hl : k < xs.length := by rw [h.1]; exact hk
  obtain ⟨l, h1, h2⟩ := hc k _ (List.getElem?_eq_getElem hl)
  exact ⟨b, off, xs[k], l, e, hg, List.getElem?_eq_getElem hl, h1, h2⟩
theorem CnI.go {W w : World} {A : Option Addr} {n : Nat} {xs : List Cn} (h : CnI W W.heap.size A n xs) (hb : Below W.heap.size W w) : CnI w w.heap.size A n xs := (h.below hb).more hb.size
theorem CnI.alloc {W : World} {A : Option Addr} {n : Nat} {xs : List Cn} (h : CnI W W.heap.size A n xs) (o : Obj) : CnI (W.alloc o) (W.alloc o).heap.size A n xs := h.go (below_alloc W o)

section
variable {H : Type} {enc : TypeId × Value → H} {W : World} {base : Nat} {held : Bool}
set_option maxRecDepth 100000 in
/-- Its cells, each with its own reading. -/
theorem open_CnN {fuel : Nat} {cs : List Value} {x : DataW H × List MemPlace} (h : DataW.trod enc Tryd.prog W base (fun _ => true) held fuel 25 cs = some x) :
    ∃ x l, cs = Cn.vs x l ∧ CnV W W.heap.size x l := by
  obtain ⟨ys, m, hm, _, hlen, _, hf⟩ := DataW.trod_struct Tryd.underlying25 h
  have hlen' : cs.length = 5 := hlen.trans (by kernel_rfl)
  match cs, hlen' with
  | [c0, c1, c2, c3, c4], _ =>
    have hys : ∀ i, i < 5 → ∃ y, ys[i]? = some y := by
      intro i hi
      have : ys.length = 5 := by assumption
      exact ⟨_, List.getElem?_eq_getElem (by omega)⟩
    have f0 : DataW.trod enc Tryd.prog W base (fun _ => true) held m 22 [c0] = ys[0]? := field_at (i := 0) (o := 0) (k := 1) (T := 22) hf (by kernel_rfl) (by kernel_rfl)
    obtain ⟨y0, g0⟩ := hys 0 (by decide)
    rw [g0] at f0
    have f1 : DataW.trod enc Tryd.prog W base (fun _ => true) held m 2 [c1] = ys[1]? := field_at (i := 1) (o := 1) (k := 1) (T := 2) hf (by kernel_rfl) (by kernel_rfl)
    obtain ⟨y1, g1⟩ := hys 1 (by decide)
    rw [g1] at f1
    have f2 : DataW.trod enc Tryd.prog W base (fun _ => true) held m 22 [c2] = ys[2]? := field_at (i := 2) (o := 2) (k := 1) (T := 22) hf (by kernel_rfl) (by kernel_rfl)
    obtain ⟨y2, g2⟩ := hys 2 (by decide)
    rw [g2] at f2
    have f3 : DataW.trod enc Tryd.prog W base (fun _ => true) held m 23 [c3] = ys[3]? := field_at (i := 3) (o := 3) (k := 1) (T := 23) hf (by kernel_rfl) (by kernel_rfl)
    obtain ⟨y3, g3⟩ := hys 3 (by decide)
    rw [g3] at f3
    have f4 : DataW.trod enc Tryd.prog W base (fun _ => true) held m 22 [c4] = ys[4]? := field_at (i := 4) (o := 4) (k := 1) (T := 22) hf (by kernel_rfl) (by kernel_rfl)
    obtain ⟨y4, g4⟩ := hys 4 (by decide)
    rw [g4] at f4
    obtain ⟨A0, n0, q0, hc0, e0⟩ := open_slice1 Tryd.underlying22 f0
    rw [e0] at f0
    obtain ⟨z0, hz0⟩ := open_StF f0
    obtain ⟨z1, e1, _, _⟩ := DataW.trod_int Tryd.underlying2 f1
    obtain ⟨A2, n2, q2, hc2, e2⟩ := open_slice1 Tryd.underlying22 f2
    rw [e2] at f2
    obtain ⟨z2, hz2⟩ := open_StF f2
    obtain ⟨A3, n3, q3, hc3, e3⟩ := open_slice1 Tryd.underlying23 f3
    rw [e3] at f3
    obtain ⟨z3, hz3⟩ := open_FlF f3
    obtain ⟨A4, n4, q4, hc4, e4⟩ := open_slice1 Tryd.underlying22 f4
    rw [e4] at f4
    obtain ⟨z4, hz4⟩ := open_StF f4
    simp only [List.cons.injEq, and_true] at e0 e1 e2 e3 e4
    subst e0 e1 e2 e3 e4
    exact ⟨⟨z0, z1, z2, z3, z4⟩, ⟨A0, n0, q0, hc0, A2, n2, q2, hc2, A3, n3, q3, hc3, A4, n4, q4, hc4⟩, rfl, hz0, hz2, hz3, hz4⟩
end
set_option maxRecDepth 100000 in
/-- An argument. -/
theorem open_Cn {H : Type} {enc : TypeId × Value → H} {W : World} {v : Value} {d : DataW H} {p : List MemPlace} {r : Reach} {b0 : Nat} (hv : Value.okWide Tryd.prog W r b0 25 v) (h : DataW.Trod enc Tryd.prog W 0 (fun _ => true) true 25 v d p) :
    ∃ x l, v = Cn.ag x l ∧ CnV W W.heap.size x l := by
  obtain ⟨cs, rfl, hsz⟩ := Go.WideShapes.okWide_struct Tryd.underlying25 hv
  obtain ⟨fuel, hf⟩ := h
  obtain ⟨x, l, e, ho⟩ := open_CnN hf
  refine ⟨x, l, ?_, ho⟩
  have : cs.toList = Cn.vs x l := e
  rw [show cs = (Cn.vs x l).toArray from by rw [← this]]
  rfl
/-- What szConsole takes of the bound. -/
def szCn1 (x : Cn) : Nat := szSt x.input_ + szSt x.output_ + szFl x.files_ + szSt x.trace_

set_option maxHeartbeats 2000000 in
set_option maxRecDepth 100000 in
theorem szConsole_any (x : Cn) (l : CnLay) (L : Int) (W : World) (ho : CnV W W.heap.size x l) (hLL : 0 ≤ L) (hL : L ≤ 1048576) :
    Calls Tryd.prog 9 #[x.ag l, .int .i64 L] W (SzL (szCn1 x) L W) := by
  obtain ⟨s, hs⟩ : ∃ s, szCn1 x = s := ⟨_, rfl⟩
  rw [hs]
  unfold szCn1 at hs
  obtain ⟨x0, x1, x2, x3, x4⟩ := x
  obtain ⟨A0, n0, c0, h0, A2, n2, c2, h2, A3, n3, c3, h3, A4, n4, c4, h4⟩ := l
  obtain ⟨k0, k2, k3, k4⟩ := ho
  try unfold CnV at k0 k2 k3 k4
  dsimp only at hs k0 k2 k3 k4
  have HS := Lib.hid hs
  have HL0 := Lib.hid hLL
  have HL1 := Lib.hid hL
  have HK0 := Lib.hid k0
  have HK2 := Lib.hid k2
  have HK3 := Lib.hid k3
  have HK4 := Lib.hid k4
  have HC := Lib.hid (fun X (e : X = W.alloc (.cells #[.slice A0 n0 c0, .int .i64 x1, .slice A2 n2 c2, .slice A3 n3 c3, .slice A4 n4 c4] 25)) => (show RW 25 X W.heap.size #[.slice A0 n0 c0, .int .i64 x1, .slice A2 n2 c2, .slice A3 n3 c3, .slice A4 n4 c4] ∧ Below W.heap.size W X ∧ W.heap.size < X.heap.size from by rw [e]; exact ⟨RW.new _ _ _, below_alloc _ _, lt_alloc _ _⟩))
  clear hs k0 k2 k3 k4
  show Calls Tryd.prog 9 #[.agg #[.slice A0 n0 c0, .int .i64 x1, .slice A2 n2 c2, .slice A3 n3 c3, .slice A4 n4 c4], .int .i64 L] W _
  by_cases cc0 : (szSt x0 : Int) ≤ L
  · have C0 := Lib.hid cc0
    clear cc0
    by_cases cc1 : (szSt x0 : Int) + (szSt x2 : Int) ≤ L
    · have C1 := Lib.hid cc1
      clear cc1
      by_cases cc2 : (szSt x0 : Int) + (szSt x2 : Int) + (szFl x3 : Int) ≤ L
      · have C2 := Lib.hid cc2
        clear cc2
        by_cases cc3 : (szSt x0 : Int) + (szSt x2 : Int) + (szFl x3 : Int) + (szSt x4 : Int) ≤ L
        · have C3 := Lib.hid cc3
          clear cc3
          go_enter Tryd.func9, Tryd.ntmps9
          go_wp2_with (go_at_call 26; obtain ⟨g0, g1, g2⟩ := HC.out _ rfl; have HQ := szStringS_any A0 n0 c0 x0 (L) _ (HK0.out.go g1) HL0.out HL1.out; refine Calls.mono HQ ?_; clear HQ; intro e w1 h; obtain ⟨z0, rfl, hz0, l0, u0, hb⟩ := h.fits (by have := C0.out; omega) HL1.out; have Z0 := Lib.hid hz0; have d0 : decide (z0 < 0) = false := (by simp; omega); have HR1 := Lib.hid (g0.below hb g2); have HB1 := Lib.hid (g1.trans (hb.mono g1.size)); have HG1 := Lib.hid (Nat.lt_of_lt_of_le g2 hb.size); have q02 : w1.cell? ⟨W.heap.size, 2, none⟩ = some (.slice A2 n2 c2) := HR1.out.cell 2; clear hb hz0 g0 g1 g2 HK0)
          go_wp2_with (go_at_call 26; have HQ := szStringS_any A2 n2 c2 x2 (z0) _ (HK2.out.go HB1.out) (by have := C0.out; have := Z0.out; have := HL0.out; omega) (by have := C0.out; have := Z0.out; have := HL1.out; omega); refine Calls.mono HQ ?_; clear HQ; intro e w2 h; obtain ⟨z1, rfl, hz1, l1, u1, hb⟩ := h.fits (by have := C0.out; have := C1.out; have := Z0.out; omega) (by have := C0.out; have := Z0.out; have := HL1.out; omega); have Z1 := Lib.hid hz1; have d1 : decide (z1 < 0) = false := (by simp; omega); have HR2 := Lib.hid (HR1.out.below hb HG1.out); have HB2 := Lib.hid (HB1.out.trans (hb.mono HB1.out.size)); have HG2 := Lib.hid (Nat.lt_of_lt_of_le HG1.out hb.size); have q13 : w2.cell? ⟨W.heap.size, 3, none⟩ = some (.slice A3 n3 c3) := HR2.out.cell 3; clear hb hz1  HK2)
          go_wp2_with (go_at_call 27; have HQ := szFileS_any A3 n3 c3 x3 (z1) _ (HK3.out.go HB2.out) (by have := C0.out; have := C1.out; have := Z0.out; have := Z1.out; have := HL0.out; omega) (by have := C0.out; have := C1.out; have := Z0.out; have := Z1.out; have := HL1.out; omega); refine Calls.mono HQ ?_; clear HQ; intro e w3 h; obtain ⟨z2, rfl, hz2, l2, u2, hb⟩ := h.fits (by have := C0.out; have := C1.out; have := C2.out; have := Z0.out; have := Z1.out; omega) (by have := C0.out; have := C1.out; have := Z0.out; have := Z1.out; have := HL1.out; omega); have Z2 := Lib.hid hz2; have d2 : decide (z2 < 0) = false := (by simp; omega); have HR3 := Lib.hid (HR2.out.below hb HG2.out); have HB3 := Lib.hid (HB2.out.trans (hb.mono HB2.out.size)); have HG3 := Lib.hid (Nat.lt_of_lt_of_le HG2.out hb.size); have q24 : w3.cell? ⟨W.heap.size, 4, none⟩ = some (.slice A4 n4 c4) := HR3.out.cell 4; clear hb hz2  HK3)
          go_wp2_with (go_at_call 26; have HQ := szStringS_any A4 n4 c4 x4 (z2) _ (HK4.out.go HB3.out) (by have := C0.out; have := C1.out; have := C2.out; have := Z0.out; have := Z1.out; have := Z2.out; have := HL0.out; omega) (by have := C0.out; have := C1.out; have := C2.out; have := Z0.out; have := Z1.out; have := Z2.out; have := HL1.out; omega); refine Calls.mono HQ ?_; clear HQ; intro e w4 h; obtain ⟨z3, rfl, hz3, l3, u3, hb⟩ := h.fits (by have := C0.out; have := C1.out; have := C2.out; have := C3.out; have := Z0.out; have := Z1.out; have := Z2.out; omega) (by have := C0.out; have := C1.out; have := C2.out; have := Z0.out; have := Z1.out; have := Z2.out; have := HL1.out; omega); have Z3 := Lib.hid hz3; have d3 : decide (z3 < 0) = false := (by simp; omega); have HR4 := Lib.hid (HR3.out.below hb HG3.out); have HB4 := Lib.hid (HB3.out.trans (hb.mono HB3.out.size)); have HG4 := Lib.hid (Nat.lt_of_lt_of_le HG3.out hb.size); clear hb hz3  HK4)
          go_ret
          refine ⟨.inl ⟨by have := C0.out; have := C1.out; have := C2.out; have := C3.out; have := Z0.out; have := Z1.out; have := Z2.out; have := Z3.out; have := HS.out; omega, ?_⟩, HB4.out⟩
          have hx : z3 = L - (s : Int) := by have := C0.out; have := C1.out; have := C2.out; have := C3.out; have := Z0.out; have := Z1.out; have := Z2.out; have := Z3.out; have := HS.out; omega
          rw [← hx]
          rfl
        · have C3 := Lib.hid cc3
          clear cc3
          go_enter Tryd.func9, Tryd.ntmps9
          go_wp2_with (go_at_call 26; obtain ⟨g0, g1, g2⟩ := HC.out _ rfl; have HQ := szStringS_any A0 n0 c0 x0 (L) _ (HK0.out.go g1) HL0.out HL1.out; refine Calls.mono HQ ?_; clear HQ; intro e w1 h; obtain ⟨z0, rfl, hz0, l0, u0, hb⟩ := h.fits (by have := C0.out; omega) HL1.out; have Z0 := Lib.hid hz0; have d0 : decide (z0 < 0) = false := (by simp; omega); have HR1 := Lib.hid (g0.below hb g2); have HB1 := Lib.hid (g1.trans (hb.mono g1.size)); have HG1 := Lib.hid (Nat.lt_of_lt_of_le g2 hb.size); have q02 : w1.cell? ⟨W.heap.size, 2, none⟩ = some (.slice A2 n2 c2) := HR1.out.cell 2; clear hb hz0 g0 g1 g2 HK0)
          go_wp2_with (go_at_call 26; have HQ := szStringS_any A2 n2 c2 x2 (z0) _ (HK2.out.go HB1.out) (by have := C0.out; have := Z0.out; have := HL0.out; omega) (by have := C0.out; have := Z0.out; have := HL1.out; omega); refine Calls.mono HQ ?_; clear HQ; intro e w2 h; obtain ⟨z1, rfl, hz1, l1, u1, hb⟩ := h.fits (by have := C0.out; have := C1.out; have := Z0.out; omega) (by have := C0.out; have := Z0.out; have := HL1.out; omega); have Z1 := Lib.hid hz1; have d1 : decide (z1 < 0) = false := (by simp; omega); have HR2 := Lib.hid (HR1.out.below hb HG1.out); have HB2 := Lib.hid (HB1.out.trans (hb.mono HB1.out.size)); have HG2 := Lib.hid (Nat.lt_of_lt_of_le HG1.out hb.size); have q13 : w2.cell? ⟨W.heap.size, 3, none⟩ = some (.slice A3 n3 c3) := HR2.out.cell 3; clear hb hz1  HK2)
          go_wp2_with (go_at_call 27; have HQ := szFileS_any A3 n3 c3 x3 (z1) _ (HK3.out.go HB2.out) (by have := C0.out; have := C1.out; have := Z0.out; have := Z1.out; have := HL0.out; omega) (by have := C0.out; have := C1.out; have := Z0.out; have := Z1.out; have := HL1.out; omega); refine Calls.mono HQ ?_; clear HQ; intro e w3 h; obtain ⟨z2, rfl, hz2, l2, u2, hb⟩ := h.fits (by have := C0.out; have := C1.out; have := C2.out; have := Z0.out; have := Z1.out; omega) (by have := C0.out; have := C1.out; have := Z0.out; have := Z1.out; have := HL1.out; omega); have Z2 := Lib.hid hz2; have d2 : decide (z2 < 0) = false := (by simp; omega); have HR3 := Lib.hid (HR2.out.below hb HG2.out); have HB3 := Lib.hid (HB2.out.trans (hb.mono HB2.out.size)); have HG3 := Lib.hid (Nat.lt_of_lt_of_le HG2.out hb.size); have q24 : w3.cell? ⟨W.heap.size, 4, none⟩ = some (.slice A4 n4 c4) := HR3.out.cell 4; clear hb hz2  HK3)
          go_wp2_with (go_at_call 26; have HQ := szStringS_any A4 n4 c4 x4 (z2) _ (HK4.out.go HB3.out) (by have := C0.out; have := C1.out; have := C2.out; have := Z0.out; have := Z1.out; have := Z2.out; have := HL0.out; omega) (by have := C0.out; have := C1.out; have := C2.out; have := Z0.out; have := Z1.out; have := Z2.out; have := HL1.out; omega); refine Calls.mono HQ ?_; clear HQ; intro e w4 h; obtain ⟨rfl, hb⟩ := h.long (by have := C0.out; have := C1.out; have := C2.out; have := C3.out; have := Z0.out; have := Z1.out; have := Z2.out; omega); have HR4 := Lib.hid (HR3.out.below hb HG3.out); have HB4 := Lib.hid (HB3.out.trans (hb.mono HB3.out.size)); have HG4 := Lib.hid (Nat.lt_of_lt_of_le HG3.out hb.size); clear hb  HK4)
          go_ret
          exact ⟨.inr ⟨by have := C0.out; have := C1.out; have := C2.out; have := C3.out; have := Z0.out; have := Z1.out; have := Z2.out; have := HS.out; omega, rfl⟩, HB4.out⟩
      · have C2 := Lib.hid cc2
        clear cc2
        go_enter Tryd.func9, Tryd.ntmps9
        go_wp2_with (go_at_call 26; obtain ⟨g0, g1, g2⟩ := HC.out _ rfl; have HQ := szStringS_any A0 n0 c0 x0 (L) _ (HK0.out.go g1) HL0.out HL1.out; refine Calls.mono HQ ?_; clear HQ; intro e w1 h; obtain ⟨z0, rfl, hz0, l0, u0, hb⟩ := h.fits (by have := C0.out; omega) HL1.out; have Z0 := Lib.hid hz0; have d0 : decide (z0 < 0) = false := (by simp; omega); have HR1 := Lib.hid (g0.below hb g2); have HB1 := Lib.hid (g1.trans (hb.mono g1.size)); have HG1 := Lib.hid (Nat.lt_of_lt_of_le g2 hb.size); have q02 : w1.cell? ⟨W.heap.size, 2, none⟩ = some (.slice A2 n2 c2) := HR1.out.cell 2; clear hb hz0 g0 g1 g2 HK0)
        go_wp2_with (go_at_call 26; have HQ := szStringS_any A2 n2 c2 x2 (z0) _ (HK2.out.go HB1.out) (by have := C0.out; have := Z0.out; have := HL0.out; omega) (by have := C0.out; have := Z0.out; have := HL1.out; omega); refine Calls.mono HQ ?_; clear HQ; intro e w2 h; obtain ⟨z1, rfl, hz1, l1, u1, hb⟩ := h.fits (by have := C0.out; have := C1.out; have := Z0.out; omega) (by have := C0.out; have := Z0.out; have := HL1.out; omega); have Z1 := Lib.hid hz1; have d1 : decide (z1 < 0) = false := (by simp; omega); have HR2 := Lib.hid (HR1.out.below hb HG1.out); have HB2 := Lib.hid (HB1.out.trans (hb.mono HB1.out.size)); have HG2 := Lib.hid (Nat.lt_of_lt_of_le HG1.out hb.size); have q13 : w2.cell? ⟨W.heap.size, 3, none⟩ = some (.slice A3 n3 c3) := HR2.out.cell 3; clear hb hz1  HK2)
        go_wp2_with (go_at_call 27; have HQ := szFileS_any A3 n3 c3 x3 (z1) _ (HK3.out.go HB2.out) (by have := C0.out; have := C1.out; have := Z0.out; have := Z1.out; have := HL0.out; omega) (by have := C0.out; have := C1.out; have := Z0.out; have := Z1.out; have := HL1.out; omega); refine Calls.mono HQ ?_; clear HQ; intro e w3 h; obtain ⟨rfl, hb⟩ := h.long (by have := C0.out; have := C1.out; have := C2.out; have := Z0.out; have := Z1.out; omega); have HR3 := Lib.hid (HR2.out.below hb HG2.out); have HB3 := Lib.hid (HB2.out.trans (hb.mono HB2.out.size)); have HG3 := Lib.hid (Nat.lt_of_lt_of_le HG2.out hb.size); clear hb  HK3)
        go_ret
        exact ⟨.inr ⟨by have := C0.out; have := C1.out; have := C2.out; have := Z0.out; have := Z1.out; have := HS.out; omega, rfl⟩, HB3.out⟩
    · have C1 := Lib.hid cc1
      clear cc1
      go_enter Tryd.func9, Tryd.ntmps9
      go_wp2_with (go_at_call 26; obtain ⟨g0, g1, g2⟩ := HC.out _ rfl; have HQ := szStringS_any A0 n0 c0 x0 (L) _ (HK0.out.go g1) HL0.out HL1.out; refine Calls.mono HQ ?_; clear HQ; intro e w1 h; obtain ⟨z0, rfl, hz0, l0, u0, hb⟩ := h.fits (by have := C0.out; omega) HL1.out; have Z0 := Lib.hid hz0; have d0 : decide (z0 < 0) = false := (by simp; omega); have HR1 := Lib.hid (g0.below hb g2); have HB1 := Lib.hid (g1.trans (hb.mono g1.size)); have HG1 := Lib.hid (Nat.lt_of_lt_of_le g2 hb.size); have q02 : w1.cell? ⟨W.heap.size, 2, none⟩ = some (.slice A2 n2 c2) := HR1.out.cell 2; clear hb hz0 g0 g1 g2 HK0)
      go_wp2_with (go_at_call 26; have HQ := szStringS_any A2 n2 c2 x2 (z0) _ (HK2.out.go HB1.out) (by have := C0.out; have := Z0.out; have := HL0.out; omega) (by have := C0.out; have := Z0.out; have := HL1.out; omega); refine Calls.mono HQ ?_; clear HQ; intro e w2 h; obtain ⟨rfl, hb⟩ := h.long (by have := C0.out; have := C1.out; have := Z0.out; omega); have HR2 := Lib.hid (HR1.out.below hb HG1.out); have HB2 := Lib.hid (HB1.out.trans (hb.mono HB1.out.size)); have HG2 := Lib.hid (Nat.lt_of_lt_of_le HG1.out hb.size); clear hb  HK2)
      go_ret
      exact ⟨.inr ⟨by have := C0.out; have := C1.out; have := Z0.out; have := HS.out; omega, rfl⟩, HB2.out⟩
  · have C0 := Lib.hid cc0
    clear cc0
    go_enter Tryd.func9, Tryd.ntmps9
    go_wp2_with (go_at_call 26; obtain ⟨g0, g1, g2⟩ := HC.out _ rfl; have HQ := szStringS_any A0 n0 c0 x0 (L) _ (HK0.out.go g1) HL0.out HL1.out; refine Calls.mono HQ ?_; clear HQ; intro e w1 h; obtain ⟨rfl, hb⟩ := h.long (by have := C0.out; omega); have HR1 := Lib.hid (g0.below hb g2); have HB1 := Lib.hid (g1.trans (hb.mono g1.size)); have HG1 := Lib.hid (Nat.lt_of_lt_of_le g2 hb.size); clear hb g0 g1 g2 HK0)
    go_ret
    exact ⟨.inr ⟨by have := C0.out; have := HS.out; omega, rfl⟩, HB1.out⟩

/-- Those of the first k. -/
def sumCn (xs : List Cn) : Nat → Nat
  | 0 => 0
  | k + 1 => sumCn xs k + ((xs[k]?.map szCn1).getD 0)
theorem sumCn_next {xs : List Cn} {k : Nat} {x : Cn} (h : xs[k]? = some x) : sumCn xs (k + 1) = sumCn xs k + szCn1 x := by
  rw [sumCn, h]
  rfl
theorem sumCn_mono {xs : List Cn} {j : Nat} : ∀ {k : Nat}, j ≤ k → sumCn xs j ≤ sumCn xs k
  | 0, h => by obtain rfl : j = 0 := by omega
               exact Nat.le_refl _
  | k + 1, h => by
    by_cases e : j = k + 1
    · rw [e]; exact Nat.le_refl _
    · have := sumCn_mono (xs := xs) (show j ≤ k by omega)
      rw [sumCn]
      omega
def szCn (xs : List Cn) : Nat := xs.length + sumCn xs xs.length

/-- No list is too long. -/
def CnSmall (x : Cn) : Prop := x.input_.length ≤ 1048576 ∧ x.output_.length ≤ 1048576 ∧ ((∀ (j : Nat) (y : Fl), x.files_[j]? = some y → FlSmall y) ∧ x.files_.length ≤ 1048576) ∧ x.trace_.length ≤ 1048576
theorem small_Cn1 {x : Cn} (h : (szCn1 x : Int) ≤ 1048576) : CnSmall x := by
  unfold szCn1 at h
  unfold CnSmall
  exact ⟨(by unfold szSt at h; omega), (by unfold szSt at h; omega), (small_Fl (by omega)), (by unfold szSt at h; omega)⟩
theorem small_Cn {xs : List Cn} (h : (szCn xs : Int) ≤ 1048576) : (∀ (j : Nat) (x : Cn), xs[j]? = some x → CnSmall x) ∧ xs.length ≤ 1048576 := by
  unfold szCn at h
  refine ⟨fun j x hx => small_Cn1 ?_, by omega⟩
  have hl := (List.getElem?_eq_some_iff.1 hx).1
  have h1 := sumCn_mono (xs := xs) (j := j + 1) (k := xs.length) (by omega)
  rw [sumCn_next hx] at h1
  omega
end Go.Proofs.YtlohjmlenbkbmaaDoor

namespace Go.Proofs.YtlohjmlenbkbmaaDoor
open Go Go.RowKit

/-- Its lists are rows of one's own. -/
def CnVO (w : World) (B : Nat) (x : Cn) (l : CnLay) : Prop := StIO w B l.A0 l.n0 x.input_ ∧ StIO w B l.A2 l.n2 x.output_ ∧ FlIO w B l.A3 l.n3 x.files_ ∧ StIO w B l.A4 l.n4 x.trace_
theorem CnVO.below {w w' : World} {B : Nat} {x : Cn} {l : CnLay} (h : CnVO w B x l) (hb : Below B w w') : CnVO w' B x l := ⟨h.1.below hb, h.2.1.below hb, h.2.2.1.below hb, h.2.2.2.below hb⟩
theorem CnVO.more {w : World} {B B' : Nat} {x : Cn} {l : CnLay} (h : CnVO w B x l) (hB : B ≤ B') : CnVO w B' x l := ⟨h.1.more hB, h.2.1.more hB, h.2.2.1.more hB, h.2.2.2.more hB⟩
theorem CnVO.toV {w : World} {B : Nat} {x : Cn} {l : CnLay} (h : CnVO w B x l) : CnV w B x l := ⟨h.1.1, h.2.1.1, h.2.2.1.toI, h.2.2.2.1⟩

/-- What toConsole answers. -/
def ToCnO (x : Cn) (W : World) (e : Ending) (w' : World) : Prop := ∃ l, e = .returned (x.ag l) ∧ Hid (Det W.heap.size w'.heap.size w' (fun w => CnVO w w'.heap.size x l) ∧ Below W.heap.size W w' ∧ ∃ b0 b2 b3 b4, l.A0 = some ⟨b0, 0, none⟩ ∧ l.A2 = some ⟨b2, 0, none⟩ ∧ l.A3 = some ⟨b3, 0, none⟩ ∧ l.A4 = some ⟨b4, 0, none⟩ ∧ W.heap.size ≤ b0 ∧ W.heap.size ≤ b2 ∧ W.heap.size ≤ b3 ∧ W.heap.size ≤ b4)

set_option maxHeartbeats 2000000 in
set_option maxRecDepth 100000 in
theorem toConsole_own (x : Cn) (l : CnLay) (W : World) (ho : CnV W W.heap.size x l) (hsm : CnSmall x) :
    Calls Tryd.prog 11 #[x.ag l] W (ToCnO x W) := by
  obtain ⟨x0, x1, x2, x3, x4⟩ := x
  obtain ⟨A0, n0, c0, h0, A2, n2, c2, h2, A3, n3, c3, h3, A4, n4, c4, h4⟩ := l
  obtain ⟨k0, k2, k3, k4⟩ := ho
  obtain ⟨s0, s2, s3, s4⟩ := hsm
  try unfold CnVO at k0 k2 k3 k4
  try unfold CnSmall at s0 s2 s3 s4
  dsimp only at k0 k2 k3 k4 s0 s2 s3 s4
  rw [k0.1] at s0
  have HK0 := Lib.hid k0
  have HS0 := Lib.hid s0
  rw [k2.1] at s2
  have HK2 := Lib.hid k2
  have HS2 := Lib.hid s2
  rw [k3.1] at s3
  have HK3 := Lib.hid k3
  have HS3 := Lib.hid s3
  rw [k4.1] at s4
  have HK4 := Lib.hid k4
  have HS4 := Lib.hid s4
  clear k0 k2 k3 k4 s0 s2 s3 s4
  have HC := Lib.hid (fun (X Y : World) (T T' : TypeId) (c c' : Array Value) (eY : Y = W.alloc (.cells #[.slice A0 n0 c0, .int .i64 x1, .slice A2 n2 c2, .slice A3 n3 c3, .slice A4 n4 c4] T)) (eX : X = (Y.alloc (.cells c T')).alloc (.cells c' T')) =>
    (show RW T X W.heap.size #[.slice A0 n0 c0, .int .i64 x1, .slice A2 n2 c2, .slice A3 n3 c3, .slice A4 n4 c4] ∧ RW T' X (W.heap.size + 1 + 1) c' ∧ RW T' X (W.heap.size + 1) c ∧ Below W.heap.size W X ∧ X.heap.size = W.heap.size + 3 from by
      subst eX; subst eY
      refine ⟨((RW.new W _ T).alloc _).alloc _, ?_, ?_, ((below_alloc _ _).alloc (by simp) _).alloc (by simp; omega) _, by simp⟩
      · have := RW.new ((W.alloc (.cells #[.slice A0 n0 c0, .int .i64 x1, .slice A2 n2 c2, .slice A3 n3 c3, .slice A4 n4 c4] T)).alloc (.cells c T')) c' T'
        simpa using this
      · have := (RW.new (W.alloc (.cells #[.slice A0 n0 c0, .int .i64 x1, .slice A2 n2 c2, .slice A3 n3 c3, .slice A4 n4 c4] T)) c T').alloc (.cells c' T')
        simpa using this))
  show Calls Tryd.prog 11 #[.agg #[.slice A0 n0 c0, .int .i64 x1, .slice A2 n2 c2, .slice A3 n3 c3, .slice A4 n4 c4]] W _
  go_enter Tryd.func11, Tryd.ntmps11
  go_wp2_with (go_at_call 34; obtain ⟨g0, g1, g4, g2, g3⟩ := HC.out _ _ _ _ _ _ rfl rfl; have HQ := toStringS_own A0 n0 c0 x0 _ (HK0.out.go g2) HS0.out; refine Calls.mono HQ ?_; clear HQ; rintro e w1 ⟨rfl, h⟩; obtain ⟨hv, hb⟩ := h.out; have hd := hv.det; rw [g3] at hv hd; have HA1 := Lib.hid (g0.below hb (by omega)); have HR1 := Lib.hid (g1.below hb (by omega)); have HO1 := Lib.hid (g4.below hb (by omega)); have HB1 := Lib.hid (g2.trans (hb.mono g2.size)); have HV1_0 : Hid (Det (W.heap.size + 1 + 1 + 1) w1.heap.size w1 fun w => StIO w w1.heap.size (some ⟨W.heap.size + 1 + 1 + 1, 0, none⟩) n0 x0) := hd; have HG1 : Hid (W.heap.size + 3 ≤ w1.heap.size) := (by have := hb.size; show _ ≤ _; omega); clear g0 g1 g2 g3 g4 h hv hd hb HK0; have q11 : w1.cell? ⟨W.heap.size, 1, none⟩ = some (.int .i64 x1) := HA1.out.cell 1; have q12 : w1.cell? ⟨W.heap.size, 2, none⟩ = some (.slice A2 n2 c2) := HA1.out.cell 2; have p10 : w1.cell? ⟨W.heap.size + 1 + 1, 0, none⟩ = some (.slice none 0 0) := HR1.out.cell 0; have f10 := HR1.out.frozen 0; have p11 : w1.cell? ⟨W.heap.size + 1 + 1, 1, none⟩ = some (.int .i64 0) := HR1.out.cell 1; have f11 := HR1.out.frozen 1)
  go_wp2_with (go_at_call 34; have hbs : Below (W.heap.size + 2) w1 ((w1.setCell ⟨W.heap.size + 1 + 1, 0, none⟩ (.slice (some ⟨W.heap.size + 1 + 1 + 1, 0, none⟩) n0 n0)).setCell ⟨W.heap.size + 1 + 1, 1, none⟩ (.int .i64 x1)) := (below_set w1 (p := ⟨W.heap.size + 1 + 1, 0, none⟩) (B := W.heap.size + 2) (Nat.le_refl _) (.slice (some ⟨W.heap.size + 1 + 1 + 1, 0, none⟩) n0 n0)).setCell (Nat.le_refl _) (.int .i64 x1); have hzz : ((w1.setCell ⟨W.heap.size + 1 + 1, 0, none⟩ (.slice (some ⟨W.heap.size + 1 + 1 + 1, 0, none⟩) n0 n0)).setCell ⟨W.heap.size + 1 + 1, 1, none⟩ (.int .i64 x1)).heap.size = w1.heap.size := (by simp [World.setCell]); have HQ := toStringS_own A2 n2 c2 x2 ((w1.setCell ⟨W.heap.size + 1 + 1, 0, none⟩ (.slice (some ⟨W.heap.size + 1 + 1 + 1, 0, none⟩) n0 n0)).setCell ⟨W.heap.size + 1 + 1, 1, none⟩ (.int .i64 x1)) (HK2.out.go (HB1.out.trans (hbs.mono (by omega)))) HS2.out; refine Calls.mono HQ ?_; clear HQ; rintro e w2 ⟨rfl, h⟩; obtain ⟨hv, hb⟩ := h.out; have hd := hv.det; rw [hzz] at hb hv hd; have hsz := hb.size; rw [hzz] at hsz; have hs1 := HG1.out; have HA2 := Lib.hid ((HA1.out.below hbs (by omega)).below hb (by omega)); have HR2 := Lib.hid ((((HR1.out).set_ 0 (.slice (some ⟨W.heap.size + 1 + 1 + 1, 0, none⟩) n0 n0)).set_ 1 (.int .i64 x1)).below hb (by omega)); have HO2 := Lib.hid ((HO1.out.below hbs (by omega)).below hb (by omega)); have HB2 := Lib.hid ((HB1.out.trans (hbs.mono (by omega))).trans (hb.mono (by omega))); have HG2 : Hid (W.heap.size + 3 ≤ w2.heap.size) := (Nat.le_trans hs1 hsz); have HV2_2 : Hid (Det (w1.heap.size) w2.heap.size w2 fun w => StIO w w2.heap.size (some ⟨w1.heap.size, 0, none⟩) n2 x2) := hd; have HZ2 : Hid (w1.heap.size ≠ W.heap.size + 1 + 1) := (by show _ ≠ _; omega); have HV2_0 := Lib.hid ((((((HV1_0.out).set (p := ⟨W.heap.size + 1 + 1, 0, none⟩) (by have := HG1.out; dsimp only; omega) (.slice (some ⟨W.heap.size + 1 + 1 + 1, 0, none⟩) n0 n0)).set (p := ⟨W.heap.size + 1 + 1, 1, none⟩) (by have := HG1.out; dsimp only; omega) (.int .i64 x1)).below hb (by omega)).wide (Nat.le_refl _) hsz).imp fun w h => h.more hsz); clear hbs hzz hb hv hd h hsz hs1 HK2; have q23 : w2.cell? ⟨W.heap.size, 3, none⟩ = some (.slice A3 n3 c3) := HA2.out.cell 3; have p22 : w2.cell? ⟨W.heap.size + 1 + 1, 2, none⟩ = some (.slice none 0 0) := HR2.out.cell 2; have f22 := HR2.out.frozen 2)
  go_wp2_with (go_at_call 35; have hbs : Below (W.heap.size + 2) w2 (w2.setCell ⟨W.heap.size + 1 + 1, 2, none⟩ (.slice (some ⟨w1.heap.size, 0, none⟩) n2 n2)) := below_set w2 (p := ⟨W.heap.size + 1 + 1, 2, none⟩) (B := W.heap.size + 2) (Nat.le_refl _) (.slice (some ⟨w1.heap.size, 0, none⟩) n2 n2); have hzz : (w2.setCell ⟨W.heap.size + 1 + 1, 2, none⟩ (.slice (some ⟨w1.heap.size, 0, none⟩) n2 n2)).heap.size = w2.heap.size := (by simp [World.setCell]); have HQ := toFileS_own A3 n3 c3 x3 (w2.setCell ⟨W.heap.size + 1 + 1, 2, none⟩ (.slice (some ⟨w1.heap.size, 0, none⟩) n2 n2)) (HK3.out.go (HB2.out.trans (hbs.mono (by omega)))) HS3.out.1 HS3.out.2; refine Calls.mono HQ ?_; clear HQ; rintro e w3 ⟨rfl, h⟩; obtain ⟨hv, hb, hd⟩ := h.out; rw [hzz] at hb hv hd; have hsz := hb.size; rw [hzz] at hsz; have hs1 := HG2.out; have HA3 := Lib.hid ((HA2.out.below hbs (by omega)).below hb (by omega)); have HR3 := Lib.hid (((HR2.out).set_ 2 (.slice (some ⟨w1.heap.size, 0, none⟩) n2 n2)).below hb (by omega)); have HO3 := Lib.hid ((HO2.out.below hbs (by omega)).below hb (by omega)); have HB3 := Lib.hid ((HB2.out.trans (hbs.mono (by omega))).trans (hb.mono (by omega))); have HG3 : Hid (W.heap.size + 3 ≤ w3.heap.size) := (Nat.le_trans hs1 hsz); have HV3_3 : Hid (Det (w2.heap.size) w3.heap.size w3 fun w => FlIO w w3.heap.size (some ⟨w2.heap.size, 0, none⟩) n3 x3) := hd; have HZ3 : Hid (w2.heap.size ≠ W.heap.size + 1 + 1) := (by show _ ≠ _; omega); have HV3_0 := Lib.hid (((((HV2_0.out).set (p := ⟨W.heap.size + 1 + 1, 2, none⟩) (by have := HG2.out; dsimp only; omega) (.slice (some ⟨w1.heap.size, 0, none⟩) n2 n2)).below hb (by omega)).wide (Nat.le_refl _) hsz).imp fun w h => h.more hsz); have HV3_2 := Lib.hid (((((HV2_2.out).set (p := ⟨W.heap.size + 1 + 1, 2, none⟩) (by have := HG1.out; dsimp only; omega) (.slice (some ⟨w1.heap.size, 0, none⟩) n2 n2)).below hb (by omega)).wide (Nat.le_refl _) hsz).imp fun w h => h.more hsz); clear hbs hzz hb hv hd h hsz hs1 HK3; have q34 : w3.cell? ⟨W.heap.size, 4, none⟩ = some (.slice A4 n4 c4) := HA3.out.cell 4; have p33 : w3.cell? ⟨W.heap.size + 1 + 1, 3, none⟩ = some (.slice none 0 0) := HR3.out.cell 3; have f33 := HR3.out.frozen 3)
  go_wp2_with (go_at_call 34; have hbs : Below (W.heap.size + 2) w3 (w3.setCell ⟨W.heap.size + 1 + 1, 3, none⟩ (.slice (some ⟨w2.heap.size, 0, none⟩) n3 n3)) := below_set w3 (p := ⟨W.heap.size + 1 + 1, 3, none⟩) (B := W.heap.size + 2) (Nat.le_refl _) (.slice (some ⟨w2.heap.size, 0, none⟩) n3 n3); have hzz : (w3.setCell ⟨W.heap.size + 1 + 1, 3, none⟩ (.slice (some ⟨w2.heap.size, 0, none⟩) n3 n3)).heap.size = w3.heap.size := (by simp [World.setCell]); have HQ := toStringS_own A4 n4 c4 x4 (w3.setCell ⟨W.heap.size + 1 + 1, 3, none⟩ (.slice (some ⟨w2.heap.size, 0, none⟩) n3 n3)) (HK4.out.go (HB3.out.trans (hbs.mono (by omega)))) HS4.out; refine Calls.mono HQ ?_; clear HQ; rintro e w4 ⟨rfl, h⟩; obtain ⟨hv, hb⟩ := h.out; have hd := hv.det; rw [hzz] at hb hv hd; have hsz := hb.size; rw [hzz] at hsz; have hs1 := HG3.out; have HA4 := Lib.hid ((HA3.out.below hbs (by omega)).below hb (by omega)); have HR4 := Lib.hid (((HR3.out).set_ 3 (.slice (some ⟨w2.heap.size, 0, none⟩) n3 n3)).below hb (by omega)); have HO4 := Lib.hid ((HO3.out.below hbs (by omega)).below hb (by omega)); have HB4 := Lib.hid ((HB3.out.trans (hbs.mono (by omega))).trans (hb.mono (by omega))); have HG4 : Hid (W.heap.size + 3 ≤ w4.heap.size) := (Nat.le_trans hs1 hsz); have HV4_4 : Hid (Det (w3.heap.size) w4.heap.size w4 fun w => StIO w w4.heap.size (some ⟨w3.heap.size, 0, none⟩) n4 x4) := hd; have HZ4 : Hid (w3.heap.size ≠ W.heap.size + 1 + 1) := (by show _ ≠ _; omega); have HV4_0 := Lib.hid (((((HV3_0.out).set (p := ⟨W.heap.size + 1 + 1, 3, none⟩) (by have := HG3.out; dsimp only; omega) (.slice (some ⟨w2.heap.size, 0, none⟩) n3 n3)).below hb (by omega)).wide (Nat.le_refl _) hsz).imp fun w h => h.more hsz); have HV4_2 := Lib.hid (((((HV3_2.out).set (p := ⟨W.heap.size + 1 + 1, 3, none⟩) (by have := HG1.out; dsimp only; omega) (.slice (some ⟨w2.heap.size, 0, none⟩) n3 n3)).below hb (by omega)).wide (Nat.le_refl _) hsz).imp fun w h => h.more hsz); have HV4_3 := Lib.hid (((((HV3_3.out).set (p := ⟨W.heap.size + 1 + 1, 3, none⟩) (by have := HG2.out; dsimp only; omega) (.slice (some ⟨w2.heap.size, 0, none⟩) n3 n3)).below hb (by omega)).wide (Nat.le_refl _) hsz).imp fun w h => h.more hsz); clear hbs hzz hb hv hd h hsz hs1 HK4; have p44 : w4.cell? ⟨W.heap.size + 1 + 1, 4, none⟩ = some (.slice none 0 0) := HR4.out.cell 4; have f44 := HR4.out.frozen 4; have p40 : w4.cell? ⟨W.heap.size + 1 + 1, 0, none⟩ = some (.slice (some ⟨W.heap.size + 1 + 1 + 1, 0, none⟩) n0 n0) := HR4.out.cell 0; have p41 : w4.cell? ⟨W.heap.size + 1 + 1, 1, none⟩ = some (.int .i64 x1) := HR4.out.cell 1; have p42 : w4.cell? ⟨W.heap.size + 1 + 1, 2, none⟩ = some (.slice (some ⟨w1.heap.size, 0, none⟩) n2 n2) := HR4.out.cell 2; have p43 : w4.cell? ⟨W.heap.size + 1 + 1, 3, none⟩ = some (.slice (some ⟨w2.heap.size, 0, none⟩) n3 n3) := HR4.out.cell 3; have r0 : w4.cell? ⟨W.heap.size + 1, 0, none⟩ = some (.slice none 0 0) := HO4.out.cell 0; have z0 := HO4.out.frozen 0; have r1 : w4.cell? ⟨W.heap.size + 1, 1, none⟩ = some (.int .i64 0) := HO4.out.cell 1; have z1 := HO4.out.frozen 1; have r2 : w4.cell? ⟨W.heap.size + 1, 2, none⟩ = some (.slice none 0 0) := HO4.out.cell 2; have z2 := HO4.out.frozen 2; have r3 : w4.cell? ⟨W.heap.size + 1, 3, none⟩ = some (.slice none 0 0) := HO4.out.cell 3; have z3 := HO4.out.frozen 3; have r4 : w4.cell? ⟨W.heap.size + 1, 4, none⟩ = some (.slice none 0 0) := HO4.out.cell 4; have z4 := HO4.out.frozen 4)
  have hs1 := HG4.out
  have hb1 : Below (W.heap.size + 1) w4 ((((((w4.setCell ⟨W.heap.size + 1 + 1, 4, none⟩ (.slice (some ⟨w3.heap.size, 0, none⟩) n4 n4)).setCell ⟨W.heap.size + 1, 0, none⟩ (.slice (some ⟨W.heap.size + 1 + 1 + 1, 0, none⟩) n0 n0)).setCell ⟨W.heap.size + 1, 1, none⟩ (.int .i64 x1)).setCell ⟨W.heap.size + 1, 2, none⟩ (.slice (some ⟨w1.heap.size, 0, none⟩) n2 n2)).setCell ⟨W.heap.size + 1, 3, none⟩ (.slice (some ⟨w2.heap.size, 0, none⟩) n3 n3)).setCell ⟨W.heap.size + 1, 4, none⟩ (.slice (some ⟨w3.heap.size, 0, none⟩) n4 n4)) := ((((((below_set w4 (p := ⟨W.heap.size + 1 + 1, 4, none⟩) (by simp) _).setCell (by simp) _).setCell (by simp) _).setCell (by simp) _).setCell (by simp) _).setCell (by simp) _)
  have hzz : ((((((w4.setCell ⟨W.heap.size + 1 + 1, 4, none⟩ (.slice (some ⟨w3.heap.size, 0, none⟩) n4 n4)).setCell ⟨W.heap.size + 1, 0, none⟩ (.slice (some ⟨W.heap.size + 1 + 1 + 1, 0, none⟩) n0 n0)).setCell ⟨W.heap.size + 1, 1, none⟩ (.int .i64 x1)).setCell ⟨W.heap.size + 1, 2, none⟩ (.slice (some ⟨w1.heap.size, 0, none⟩) n2 n2)).setCell ⟨W.heap.size + 1, 3, none⟩ (.slice (some ⟨w2.heap.size, 0, none⟩) n3 n3)).setCell ⟨W.heap.size + 1, 4, none⟩ (.slice (some ⟨w3.heap.size, 0, none⟩) n4 n4)).heap.size = w4.heap.size := by simp [World.setCell]
  refine bodyPost_ret (v := .agg #[.slice (some ⟨W.heap.size + 1 + 1 + 1, 0, none⟩) n0 n0, .int .i64 x1, .slice (some ⟨w1.heap.size, 0, none⟩) n2 n2, .slice (some ⟨w2.heap.size, 0, none⟩) n3 n3, .slice (some ⟨w3.heap.size, 0, none⟩) n4 n4]) (results_cell_row Tryd.results11 _ _ (W.heap.size + 1) 29 _ (0, 0) _ rfl ((((((((((((HO4.out).other (p := ⟨W.heap.size + 1 + 1, 4, none⟩) (by simp) (.slice (some ⟨w3.heap.size, 0, none⟩) n4 n4))).set_ 0 (.slice (some ⟨W.heap.size + 1 + 1 + 1, 0, none⟩) n0 n0))).set_ 1 (.int .i64 x1))).set_ 2 (.slice (some ⟨w1.heap.size, 0, none⟩) n2 n2))).set_ 3 (.slice (some ⟨w2.heap.size, 0, none⟩) n3 n3))).set_ 4 (.slice (some ⟨w3.heap.size, 0, none⟩) n4 n4)) Tryd.underlying29 rfl (by kernel_rfl)) rfl ⟨⟨some ⟨W.heap.size + 1 + 1 + 1, 0, none⟩, n0, n0, Nat.le_refl _, some ⟨w1.heap.size, 0, none⟩, n2, n2, Nat.le_refl _, some ⟨w2.heap.size, 0, none⟩, n3, n3, Nat.le_refl _, some ⟨w3.heap.size, 0, none⟩, n4, n4, Nat.le_refl _⟩, rfl, Lib.hid ⟨?_, HB4.out.trans (hb1.mono (by omega)), _, _, _, _, rfl, rfl, rfl, rfl, by omega, by have := HG1.out; have := HG2.out; have := HG3.out; have := HG4.out; omega, by have := HG1.out; have := HG2.out; have := HG3.out; have := HG4.out; omega, by have := HG1.out; have := HG2.out; have := HG3.out; have := HG4.out; omega⟩⟩
  show Det W.heap.size ((((((w4.setCell ⟨W.heap.size + 1 + 1, 4, none⟩ (.slice (some ⟨w3.heap.size, 0, none⟩) n4 n4)).setCell ⟨W.heap.size + 1, 0, none⟩ (.slice (some ⟨W.heap.size + 1 + 1 + 1, 0, none⟩) n0 n0)).setCell ⟨W.heap.size + 1, 1, none⟩ (.int .i64 x1)).setCell ⟨W.heap.size + 1, 2, none⟩ (.slice (some ⟨w1.heap.size, 0, none⟩) n2 n2)).setCell ⟨W.heap.size + 1, 3, none⟩ (.slice (some ⟨w2.heap.size, 0, none⟩) n3 n3)).setCell ⟨W.heap.size + 1, 4, none⟩ (.slice (some ⟨w3.heap.size, 0, none⟩) n4 n4)).heap.size ((((((w4.setCell ⟨W.heap.size + 1 + 1, 4, none⟩ (.slice (some ⟨w3.heap.size, 0, none⟩) n4 n4)).setCell ⟨W.heap.size + 1, 0, none⟩ (.slice (some ⟨W.heap.size + 1 + 1 + 1, 0, none⟩) n0 n0)).setCell ⟨W.heap.size + 1, 1, none⟩ (.int .i64 x1)).setCell ⟨W.heap.size + 1, 2, none⟩ (.slice (some ⟨w1.heap.size, 0, none⟩) n2 n2)).setCell ⟨W.heap.size + 1, 3, none⟩ (.slice (some ⟨w2.heap.size, 0, none⟩) n3 n3)).setCell ⟨W.heap.size + 1, 4, none⟩ (.slice (some ⟨w3.heap.size, 0, none⟩) n4 n4)) (fun w => CnVO w ((((((w4.setCell ⟨W.heap.size + 1 + 1, 4, none⟩ (.slice (some ⟨w3.heap.size, 0, none⟩) n4 n4)).setCell ⟨W.heap.size + 1, 0, none⟩ (.slice (some ⟨W.heap.size + 1 + 1 + 1, 0, none⟩) n0 n0)).setCell ⟨W.heap.size + 1, 1, none⟩ (.int .i64 x1)).setCell ⟨W.heap.size + 1, 2, none⟩ (.slice (some ⟨w1.heap.size, 0, none⟩) n2 n2)).setCell ⟨W.heap.size + 1, 3, none⟩ (.slice (some ⟨w2.heap.size, 0, none⟩) n3 n3)).setCell ⟨W.heap.size + 1, 4, none⟩ (.slice (some ⟨w3.heap.size, 0, none⟩) n4 n4)).heap.size ⟨x0, x1, x2, x3, x4⟩ ⟨some ⟨W.heap.size + 1 + 1 + 1, 0, none⟩, n0, n0, Nat.le_refl _, some ⟨w1.heap.size, 0, none⟩, n2, n2, Nat.le_refl _, some ⟨w2.heap.size, 0, none⟩, n3, n3, Nat.le_refl _, some ⟨w3.heap.size, 0, none⟩, n4, n4, Nat.le_refl _⟩)
  rw [hzz]
  exact fun w' k => ⟨((((((((((((HV4_0.out).set (p := ⟨W.heap.size + 1 + 1, 4, none⟩) (by first | (dsimp only; omega) | omega) _)).set (p := ⟨W.heap.size + 1, 0, none⟩) (by first | (dsimp only; omega) | omega) _)).set (p := ⟨W.heap.size + 1, 1, none⟩) (by first | (dsimp only; omega) | omega) _)).set (p := ⟨W.heap.size + 1, 2, none⟩) (by first | (dsimp only; omega) | omega) _)).set (p := ⟨W.heap.size + 1, 3, none⟩) (by first | (dsimp only; omega) | omega) _)).set (p := ⟨W.heap.size + 1, 4, none⟩) (by first | (dsimp only; omega) | omega) _) w' (fun g h1 h2 => k g (by have := HG1.out; have := HG2.out; have := HG3.out; have := HG4.out; omega) h2), ((((((((((((HV4_2.out).set (p := ⟨W.heap.size + 1 + 1, 4, none⟩) (by have := HG1.out; first | (dsimp only; omega) | omega) _)).set (p := ⟨W.heap.size + 1, 0, none⟩) (by have := HG1.out; first | (dsimp only; omega) | omega) _)).set (p := ⟨W.heap.size + 1, 1, none⟩) (by have := HG1.out; first | (dsimp only; omega) | omega) _)).set (p := ⟨W.heap.size + 1, 2, none⟩) (by have := HG1.out; first | (dsimp only; omega) | omega) _)).set (p := ⟨W.heap.size + 1, 3, none⟩) (by have := HG1.out; first | (dsimp only; omega) | omega) _)).set (p := ⟨W.heap.size + 1, 4, none⟩) (by have := HG1.out; first | (dsimp only; omega) | omega) _) w' (fun g h1 h2 => k g (by have := HG1.out; have := HG2.out; have := HG3.out; have := HG4.out; omega) h2), ((((((((((((HV4_3.out).set (p := ⟨W.heap.size + 1 + 1, 4, none⟩) (by have := HG2.out; first | (dsimp only; omega) | omega) _)).set (p := ⟨W.heap.size + 1, 0, none⟩) (by have := HG2.out; first | (dsimp only; omega) | omega) _)).set (p := ⟨W.heap.size + 1, 1, none⟩) (by have := HG2.out; first | (dsimp only; omega) | omega) _)).set (p := ⟨W.heap.size + 1, 2, none⟩) (by have := HG2.out; first | (dsimp only; omega) | omega) _)).set (p := ⟨W.heap.size + 1, 3, none⟩) (by have := HG2.out; first | (dsimp only; omega) | omega) _)).set (p := ⟨W.heap.size + 1, 4, none⟩) (by have := HG2.out; first | (dsimp only; omega) | omega) _) w' (fun g h1 h2 => k g (by have := HG1.out; have := HG2.out; have := HG3.out; have := HG4.out; omega) h2), ((((((((((((HV4_4.out).set (p := ⟨W.heap.size + 1 + 1, 4, none⟩) (by have := HG3.out; first | (dsimp only; omega) | omega) _)).set (p := ⟨W.heap.size + 1, 0, none⟩) (by have := HG3.out; first | (dsimp only; omega) | omega) _)).set (p := ⟨W.heap.size + 1, 1, none⟩) (by have := HG3.out; first | (dsimp only; omega) | omega) _)).set (p := ⟨W.heap.size + 1, 2, none⟩) (by have := HG3.out; first | (dsimp only; omega) | omega) _)).set (p := ⟨W.heap.size + 1, 3, none⟩) (by have := HG3.out; first | (dsimp only; omega) | omega) _)).set (p := ⟨W.heap.size + 1, 4, none⟩) (by have := HG3.out; first | (dsimp only; omega) | omega) _) w' (fun g h1 h2 => k g (by have := HG1.out; have := HG2.out; have := HG3.out; have := HG4.out; omega) h2)⟩


end Go.Proofs.YtlohjmlenbkbmaaDoor

namespace Go.Proofs.YtlohjmlenbkbmaaDoor
open Go Go.RowKit

/-- Files, none or many, that can be marked. -/
def FlP (w : World) (A : Option Addr) (n : Nat) (sh : Nat → FlLay) : Prop := 0 < n → ∃ g, A = some ⟨g, 0, none⟩ ∧ FlM w g n sh
/-- Files, none or many, that hold their marks. -/
def FlH (w : World) (A : Option Addr) (n : Nat) (sh : Nat → FlLay) (k0 : Nat) : Prop := 0 < n → ∃ g, A = some ⟨g, 0, none⟩ ∧ FlHd w g sh k0 n
/-- Their blocks. -/
def SFlA (A : Option Addr) (n : Nat) (sh : Nat → FlLay) (b : Nat) : Prop := 0 < n ∧ ∃ g, A = some ⟨g, 0, none⟩ ∧ SFl g n sh b
theorem markFls (A : Option Addr) (n c k0 : Nat) (sh : Nat → FlLay) (W : World) (h : FlP W A n sh) (hd : FlD n sh) (h0 : 0 < k0) (hk : k0 + cntFl sh n ≤ 16777000) :
    Calls Tryd.prog 44 #[.slice A n c, .int .i64 k0] W fun e w' => e = .returned (.int .i64 ((k0 + cntFl sh n : Nat) : Int)) ∧ Mut (SFlA A n sh) W w' ∧ FlP w' A n sh ∧ FlH w' A n sh k0 := by
  rcases Nat.eq_zero_or_pos n with hn | hn
  · subst hn
    go_enter Tryd.func44, Tryd.ntmps44
    go_wp2
    go_loopw [1, 5] (fun q i wr => i = .int .i64 0 ∧ q = .int .i64 (k0 : Int) ∧ wr = W) (fun _ _ _ => 0)
    case atStart => exact ⟨rfl, rfl, rfl⟩
    case round =>
      obtain ⟨rfl, rfl, rfl⟩ := hrel
      go_wp2_with fail
      go_ret
      exact ⟨by simp [cntFl], Mut.refl _ _, fun h => absurd h (by omega), fun h => absurd h (by omega)⟩
  · obtain ⟨g, rfl, hM⟩ := h hn
    refine (markFileS_str g n c k0 sh W hM hd h0 hk).mono ?_
    rintro e w' ⟨he, hm, hM', hH⟩
    exact ⟨he, hm.mono fun j hj => ⟨hn, g, rfl, hj⟩, fun _ => ⟨g, rfl, hM'⟩, fun _ => ⟨g, rfl, hH⟩⟩
theorem heldFls (A : Option Addr) (n c k0 : Nat) (sh : Nat → FlLay) (W : World) (h : FlH W A n sh k0) (h0 : 0 < k0) (hk : k0 + cntFl sh n ≤ 16777000) :
    Calls Tryd.prog 46 #[.slice A n c, .int .i64 k0] W fun e w' => e = .returned (.int .i64 ((k0 + cntFl sh n : Nat) : Int)) ∧ Below W.heap.size W w' := by
  rcases Nat.eq_zero_or_pos n with hn | hn
  · subst hn
    go_enter Tryd.func46, Tryd.ntmps46
    go_wp2
    go_loopw [1, 5] (fun q i wr => i = .int .i64 0 ∧ q = .int .i64 (k0 : Int) ∧ wr = W) (fun _ _ _ => 0)
    case atStart => exact ⟨rfl, rfl, rfl⟩
    case round =>
      obtain ⟨rfl, rfl, rfl⟩ := hrel
      go_wp2_with fail
      go_ret
      exact ⟨by simp [cntFl], Below.refl _ _⟩
  · obtain ⟨g, rfl, hH⟩ := h hn
    exact heldFileS_own g n c k0 sh W hH h0 hk
theorem FlP.str {w w' : World} {A A' : Option Addr} {n m : Nat} {sh : Nat → FlLay} (h : FlP w A n sh) (hs : StW w A' m) (hm : Mut (Blk1 A' m) w w') : FlP w' A n sh := fun hn => by
  obtain ⟨g, e, hM⟩ := h hn
  exact ⟨g, e, hM.str hs hm⟩
theorem FlP.below {w w' : World} {A : Option Addr} {n : Nat} {sh : Nat → FlLay} (h : FlP w A n sh) (hb : Below w.heap.size w w') : FlP w' A n sh := fun hn => by
  obtain ⟨g, e, hM⟩ := h hn
  exact ⟨g, e, hM.below hb⟩
theorem FlH.below {w w' : World} {A : Option Addr} {n k0 : Nat} {sh : Nat → FlLay} (h : FlH w A n sh k0) (hb : Below w.heap.size w w') : FlH w' A n sh k0 := fun hn => by
  obtain ⟨g, e, hM⟩ := h hn
  exact ⟨g, e, hM.below hb⟩
theorem FlH.str {w w' : World} {A A' : Option Addr} {n m k0 : Nat} {sh : Nat → FlLay} (h : FlH w A n sh k0) (hs : StW w A' m) (hm : Mut (Blk1 A' m) w w') (hd : ∀ i, i < n → ∀ b, Blk1 (sh i).A1 (sh i).n1 b → ¬ Blk1 A' m b) : FlH w' A n sh k0 := fun hn => by
  obtain ⟨g, e, hM⟩ := h hn
  exact ⟨g, e, hM.str hs hm hd⟩
/-- A row of strings lies apart from the files. -/
theorem not_SFlA {w : World} {A A' : Option Addr} {n m : Nat} {sh : Nat → FlLay} (hs : StW w A' m) (h : FlP w A n sh) (hd : ∀ i, i < n → ∀ b, Blk1 (sh i).A1 (sh i).n1 b → ¬ Blk1 A' m b) : ∀ b, Blk1 A' m b → ¬ SFlA A n sh b := fun b hb hS => by
  obtain ⟨hn, g, e, hS⟩ := hS
  obtain ⟨g', e', ⟨cs, hr, _, _⟩, _⟩ := h hn
  rw [e] at e'
  simp only [Option.some.injEq, Addr.mk.injEq, and_true] at e'
  subst e'
  rcases hS with rfl | ⟨i, hi, hS⟩
  · exact blk_ne hs hr hb rfl
  · exact hd i hi b hS hb
theorem SFlA.lt {w : World} {A : Option Addr} {n : Nat} {sh : Nat → FlLay} (h : FlP w A n sh) : ∀ b, SFlA A n sh b → b < w.heap.size := fun b hS => by
  obtain ⟨hn, g, e, hS⟩ := hS
  obtain ⟨g', e', ⟨cs, hr, _, _⟩, ht⟩ := h hn
  rw [e] at e'
  simp only [Option.some.injEq, Addr.mk.injEq, and_true] at e'
  subst e'
  rcases hS with rfl | ⟨i, hi, hS⟩
  · exact hr.lt
  · exact (ht i hi).blk_lt b hS

/-- A console that can be marked. -/
def CnM (w : World) (l : CnLay) (sh : Nat → FlLay) : Prop := StW w l.A0 l.n0 ∧ StW w l.A2 l.n2 ∧ FlP w l.A3 l.n3 sh ∧ StW w l.A4 l.n4
/-- Its lists lie apart. -/
def CnApart (l : CnLay) (sh : Nat → FlLay) : Prop := FlD l.n3 sh ∧ (∀ b, Blk1 l.A0 l.n0 b → ¬ Blk1 l.A2 l.n2 b) ∧ (∀ b, Blk1 l.A0 l.n0 b → ¬ Blk1 l.A4 l.n4 b) ∧ (∀ b, Blk1 l.A2 l.n2 b → ¬ Blk1 l.A4 l.n4 b) ∧ ∀ i, i < l.n3 → ∀ b, Blk1 (sh i).A1 (sh i).n1 b → ¬ Blk1 l.A0 l.n0 b ∧ ¬ Blk1 l.A2 l.n2 b ∧ ¬ Blk1 l.A4 l.n4 b
/-- It holds its marks. -/
def CnH (w : World) (l : CnLay) (sh : Nat → FlLay) (k0 : Nat) : Prop := StH w l.A0 l.n0 k0 ∧ StH w l.A2 l.n2 (k0 + l.n0) ∧ FlH w l.A3 l.n3 sh (k0 + l.n0 + l.n2) ∧ StH w l.A4 l.n4 (k0 + l.n0 + l.n2 + cntFl sh l.n3)
/-- Its blocks. -/
def SCn (l : CnLay) (sh : Nat → FlLay) (b : Nat) : Prop := Blk1 l.A0 l.n0 b ∨ Blk1 l.A2 l.n2 b ∨ SFlA l.A3 l.n3 sh b ∨ Blk1 l.A4 l.n4 b
theorem CnM.below {w w' : World} {l : CnLay} {sh : Nat → FlLay} (h : CnM w l sh) (hb : Below w.heap.size w w') : CnM w' l sh :=
  have hm : Mut (fun _ => False) w w' := Mut.of_below hb
  ⟨h.1.mut hm, h.2.1.mut hm, h.2.2.1.below hb, h.2.2.2.mut hm⟩
theorem CnM.lt {w : World} {l : CnLay} {sh : Nat → FlLay} (h : CnM w l sh) : ∀ b, SCn l sh b → b < w.heap.size := fun b hb => by
  rcases hb with hb | hb | hb | hb
  · exact h.1.blk_lt b hb
  · exact h.2.1.blk_lt b hb
  · exact SFlA.lt h.2.2.1 b hb
  · exact h.2.2.2.blk_lt b hb
theorem CnH.below {w w' : World} {l : CnLay} {sh : Nat → FlLay} {k0 : Nat} (h : CnH w l sh k0) (hb : Below w.heap.size w w') : CnH w' l sh k0 := ⟨h.1.below hb, h.2.1.below hb, h.2.2.1.below hb, h.2.2.2.below hb⟩
/-- How many marks it takes. -/
def cntCn (l : CnLay) (sh : Nat → FlLay) : Nat := l.n0 + l.n2 + cntFl sh l.n3 + l.n4

set_option maxHeartbeats 2000000 in
set_option maxRecDepth 100000 in
theorem markConsole_str (x : Cn) (l : CnLay) (sh : Nat → FlLay) (k0 : Nat) (W : World) (h : CnM W l sh) (hd : CnApart l sh) (h0 : 0 < k0) (hk : k0 + cntCn l sh ≤ 16777000) :
    Calls Tryd.prog 14 #[x.ag l, .int .i64 k0] W fun e w' => e = .returned (.int .i64 ((k0 + cntCn l sh : Nat) : Int)) ∧ Mut (SCn l sh) W w' ∧ CnM w' l sh ∧ CnH w' l sh k0 := by
  have HB := Lib.hid h.lt
  obtain ⟨x0, x1, x2, x3, x4⟩ := x
  obtain ⟨A0, n0, c0, h0', A2, n2, c2, h2', A3, n3, c3, h3', A4, n4, c4, h4'⟩ := l
  obtain ⟨d0, d1, d2, d3, d4⟩ := hd
  have HD := Lib.hid (And.intro d0 (And.intro d1 (And.intro d2 (And.intro d3 d4))))
  unfold cntCn at hk ⊢
  dsimp only at hk d0 d1 d2 d3 d4 ⊢
  have HK := Lib.hid hk
  have HK1 := Lib.hid h0
  have HC := Lib.hid (fun X (e : X = W.alloc (.cells #[.slice A0 n0 c0, .int .i64 x1, .slice A2 n2 c2, .slice A3 n3 c3, .slice A4 n4 c4] 29)) => (show RW 29 X W.heap.size #[.slice A0 n0 c0, .int .i64 x1, .slice A2 n2 c2, .slice A3 n3 c3, .slice A4 n4 c4] ∧ Below W.heap.size W X ∧ CnM X ⟨A0, n0, c0, h0', A2, n2, c2, h2', A3, n3, c3, h3', A4, n4, c4, h4'⟩ sh from by
    have hb : Below W.heap.size W X := by rw [e]; exact below_alloc _ _
    exact ⟨by rw [e]; exact RW.new _ _ _, hb, h.below hb⟩))
  clear h d0 d1 d2 d3 d4
  have tk1 : True := trivial
  have tk2 : True := trivial
  have tk3 : True := trivial
  have tk4 : True := trivial
  show Calls Tryd.prog 14 #[.agg #[.slice A0 n0 c0, .int .i64 x1, .slice A2 n2 c2, .slice A3 n3 c3, .slice A4 n4 c4], .int .i64 k0] W _
  go_enter Tryd.func14, Tryd.ntmps14
  go_wp2_with (first
    | (go_at_call 43; have tk := tk1; obtain ⟨g0, g1, s0, s2, s3, s4⟩ := HC.out _ rfl; have hh := markStringS_str A0 n0 c0 k0 _ s0 h0 (by have := HK.out; omega); refine hh.mono ?_; clear hh; rintro e w1 ⟨rfl, hm, hs⟩; have HU1 : Hid (Mut (SCn ⟨A0, n0, c0, h0', A2, n2, c2, h2', A3, n3, c3, h3', A4, n4, c4, h4'⟩ sh) W w1) := (Mut.of_below g1).trans (hm.mono fun j hj => .inl hj); have HS1 := Lib.hid hs; have HM1 : Hid (StW w1 A2 n2 ∧ FlP w1 A3 n3 sh ∧ StW w1 A4 n4) := ⟨s2.mut hm, s3.str s0 hm, s4.mut hm⟩; have HX1 : Hid (RW 29 w1 W.heap.size #[.slice A0 n0 c0, .int .i64 x1, .slice A2 n2 c2, .slice A3 n3 c3, .slice A4 n4 c4]) := hm.row g0 (fun hb => by have := HB.out _ (.inl hb); omega); have q1 : w1.cell? ⟨W.heap.size, 2, none⟩ = some (.slice A2 n2 c2) := HX1.out.cell 2; clear g0 g1 s0 s2 s3 s4 hm hs tk tk1)
    | (go_at_call 43; have tk := tk2; have hh := markStringS_str A2 n2 c2 (k0 + n0) w1 HM1.out.1 (by omega) (by have := HK.out; omega); refine hh.mono ?_; clear hh; rintro e w2 ⟨rfl, hm, hs⟩; have HU2 := Lib.hid (HU1.out.trans (hm.mono fun j hj => .inr (.inl hj))); have HS2 : Hid (StH w2 A0 n0 k0 ∧ StH w2 A2 n2 (k0 + n0)) := ⟨HS1.out.mut hm fun b hb => HD.out.2.1 b hb, hs⟩; have HM2 : Hid (FlP w2 A3 n3 sh ∧ StW w2 A4 n4) := ⟨HM1.out.2.1.str HM1.out.1 hm, HM1.out.2.2.mut hm⟩; have HX2 : Hid (RW 29 w2 W.heap.size #[.slice A0 n0 c0, .int .i64 x1, .slice A2 n2 c2, .slice A3 n3 c3, .slice A4 n4 c4]) := hm.row HX1.out (fun hb => by have := HB.out _ (.inr (.inl hb)); omega); have q2 : w2.cell? ⟨W.heap.size, 3, none⟩ = some (.slice A3 n3 c3) := HX2.out.cell 3; clear hm hs tk tk2)
    | (go_at_call 44; have tk := tk3; have hh := markFls A3 n3 c3 (k0 + n0 + n2) sh w2 HM2.out.1 HD.out.1 (by omega) (by have := HK.out; omega); refine hh.mono ?_; clear hh; rintro e w3 ⟨rfl, hm, hp, hs⟩; have HU3 := Lib.hid (HU2.out.trans (hm.mono fun j hj => .inr (.inr (.inl hj)))); have HS3 : Hid (StH w3 A0 n0 k0 ∧ StH w3 A2 n2 (k0 + n0) ∧ FlH w3 A3 n3 sh (k0 + n0 + n2)) := ⟨HS2.out.1.mut hm (not_SFlA HS2.out.1.toW HM2.out.1 fun i hi b hb => (HD.out.2.2.2.2 i hi b hb).1), HS2.out.2.mut hm (not_SFlA HS2.out.2.toW HM2.out.1 fun i hi b hb => (HD.out.2.2.2.2 i hi b hb).2.1), hs⟩; have HM3 : Hid (FlP w3 A3 n3 sh ∧ StW w3 A4 n4) := ⟨hp, HM2.out.2.mut hm⟩; have HX3 : Hid (RW 29 w3 W.heap.size #[.slice A0 n0 c0, .int .i64 x1, .slice A2 n2 c2, .slice A3 n3 c3, .slice A4 n4 c4]) := hm.row HX2.out (fun hb => by have := HB.out _ (.inr (.inr (.inl hb))); omega); have q3 : w3.cell? ⟨W.heap.size, 4, none⟩ = some (.slice A4 n4 c4) := HX3.out.cell 4; clear hm hs hp tk tk3)
    | (go_at_call 43; have tk := tk4; have hh := markStringS_str A4 n4 c4 (k0 + n0 + n2 + cntFl sh n3) w3 HM3.out.2 (by omega) (by have := HK.out; omega); refine hh.mono ?_; clear hh; rintro e w4 ⟨rfl, hm, hs⟩; have HU4 := Lib.hid (HU3.out.trans (hm.mono fun j hj => .inr (.inr (.inr hj)))); have HS4 : Hid (StH w4 A0 n0 k0 ∧ StH w4 A2 n2 (k0 + n0) ∧ FlH w4 A3 n3 sh (k0 + n0 + n2) ∧ StH w4 A4 n4 (k0 + n0 + n2 + cntFl sh n3)) := ⟨HS3.out.1.mut hm fun b hb => HD.out.2.2.1 b hb, HS3.out.2.1.mut hm fun b hb => HD.out.2.2.2.1 b hb, HS3.out.2.2.str HM3.out.2 hm (fun i hi b hb => (HD.out.2.2.2.2 i hi b hb).2.2), hs⟩; have HM4 : Hid (FlP w4 A3 n3 sh) := HM3.out.1.str HM3.out.2 hm; clear hm hs tk tk4))
  go_ret
  refine ⟨i64_ret (by omega), HU4.out, ⟨HS4.out.1.toW, HS4.out.2.1.toW, HM4.out, HS4.out.2.2.2.toW⟩, HS4.out⟩

set_option maxHeartbeats 2000000 in
set_option maxRecDepth 100000 in
theorem heldConsole_own (x : Cn) (l : CnLay) (sh : Nat → FlLay) (k0 : Nat) (W : World) (h : CnH W l sh k0) (h0 : 0 < k0) (hk : k0 + cntCn l sh ≤ 16777000) :
    Calls Tryd.prog 15 #[x.ag l, .int .i64 k0] W fun e w' => e = .returned (.int .i64 ((k0 + cntCn l sh : Nat) : Int)) ∧ Below W.heap.size W w' := by
  obtain ⟨x0, x1, x2, x3, x4⟩ := x
  obtain ⟨A0, n0, c0, h0', A2, n2, c2, h2', A3, n3, c3, h3', A4, n4, c4, h4'⟩ := l
  have HH := Lib.hid h
  unfold cntCn at hk ⊢
  dsimp only at hk ⊢
  have HK := Lib.hid hk
  have HC := Lib.hid (fun X (e : X = W.alloc (.cells #[.slice A0 n0 c0, .int .i64 x1, .slice A2 n2 c2, .slice A3 n3 c3, .slice A4 n4 c4] 29)) => (show RW 29 X W.heap.size #[.slice A0 n0 c0, .int .i64 x1, .slice A2 n2 c2, .slice A3 n3 c3, .slice A4 n4 c4] ∧ Below W.heap.size W X from by
    have hb : Below W.heap.size W X := by rw [e]; exact below_alloc _ _
    exact ⟨by rw [e]; exact RW.new _ _ _, hb⟩))
  clear h
  have tk1 : True := trivial
  have tk2 : True := trivial
  have tk3 : True := trivial
  have tk4 : True := trivial
  have e1 : ((k0 + n0 : Nat) : Int) ≤ 16777000 := by omega
  show Calls Tryd.prog 15 #[.agg #[.slice A0 n0 c0, .int .i64 x1, .slice A2 n2 c2, .slice A3 n3 c3, .slice A4 n4 c4], .int .i64 k0] W _
  go_enter Tryd.func15, Tryd.ntmps15
  go_wp2_with (first
    | (go_at_call 45; have tk := tk1; obtain ⟨g0, g1⟩ := HC.out _ rfl; have hh := held_of_StH A0 n0 c0 k0 _ (HH.out.1.below g1) h0 (by have := HK.out; omega); refine hh.mono ?_; clear hh; rintro e w1 ⟨rfl, hb⟩; have HB1 : Hid (Below W.heap.size W w1) := g1.trans (hb.mono g1.size); have HX1 : Hid (RW 29 w1 W.heap.size #[.slice A0 n0 c0, .int .i64 x1, .slice A2 n2 c2, .slice A3 n3 c3, .slice A4 n4 c4]) := g0.below hb g0.lt; have q1 : w1.cell? ⟨W.heap.size, 2, none⟩ = some (.slice A2 n2 c2) := HX1.out.cell 2; have d0 : decide (((k0 + n0 : Nat) : Int) < 0) = false := (by simp; omega); clear g0 g1 hb tk tk1)
    | (go_at_call 45; have tk := tk2; have hh := held_of_StH A2 n2 c2 (k0 + n0) w1 (HH.out.2.1.below HB1.out) (by omega) (by have := HK.out; omega); refine hh.mono ?_; clear hh; rintro e w2 ⟨rfl, hb⟩; have HB2 := Lib.hid (HB1.out.trans (hb.mono HB1.out.size)); have HX2 : Hid (RW 29 w2 W.heap.size #[.slice A0 n0 c0, .int .i64 x1, .slice A2 n2 c2, .slice A3 n3 c3, .slice A4 n4 c4]) := HX1.out.below hb HX1.out.lt; have q2 : w2.cell? ⟨W.heap.size, 3, none⟩ = some (.slice A3 n3 c3) := HX2.out.cell 3; have d2 : decide (((k0 + n0 + n2 : Nat) : Int) < 0) = false := (by simp; omega); clear hb tk tk2)
    | (go_at_call 46; have tk := tk3; have hh := heldFls A3 n3 c3 (k0 + n0 + n2) sh w2 (HH.out.2.2.1.below HB2.out) (by omega) (by have := HK.out; omega); refine hh.mono ?_; clear hh; rintro e w3 ⟨rfl, hb⟩; have HB3 := Lib.hid (HB2.out.trans (hb.mono HB2.out.size)); have HX3 : Hid (RW 29 w3 W.heap.size #[.slice A0 n0 c0, .int .i64 x1, .slice A2 n2 c2, .slice A3 n3 c3, .slice A4 n4 c4]) := HX2.out.below hb HX2.out.lt; have q3 : w3.cell? ⟨W.heap.size, 4, none⟩ = some (.slice A4 n4 c4) := HX3.out.cell 4; have d3 : decide (((k0 + n0 + n2 + cntFl sh n3 : Nat) : Int) < 0) = false := (by simp; omega); clear hb tk tk3)
    | (go_at_call 45; have tk := tk4; have hh := held_of_StH A4 n4 c4 (k0 + n0 + n2 + cntFl sh n3) w3 (HH.out.2.2.2.below HB3.out) (by omega) (by have := HK.out; omega); refine hh.mono ?_; clear hh; rintro e w4 ⟨rfl, hb⟩; have HB4 := Lib.hid (HB3.out.trans (hb.mono HB3.out.size)); have d4 : decide (((k0 + n0 + n2 + cntFl sh n3 + n4 : Nat) : Int) < 0) = false := (by simp; omega); clear hb tk tk4))
  go_ret
  exact ⟨i64_ret (by omega), HB4.out⟩
end Go.Proofs.YtlohjmlenbkbmaaDoor

namespace Go.Proofs.YtlohjmlenbkbmaaDoor
open Go Go.RowKit

section
variable {P : Program} (w : World)
theorem run_append_src (t ty : TypeId) (base : Nat) (e : TypeId) (i : TypeInfo) (z : Value) (size bytes : Nat) (ht : P.underlying t = some (.slice e)) (hi : P.info? e = some i) (hz : i.zero = some z)
    (hsize : i.size = size) (hby : i.bytes = bytes) (hzs : z.cells.size = size) (hsz : 0 < size)
    (v : Value) (n : Nat) (xs : List Value) (hown : w.ownsRow base e size v n xs)
    (A : Option Addr) (m c : Nat) (news : List Value) (hl : news.length = m * size) (hnews : 0 < m → ∃ ad, A = some ad ∧ ∀ j u, news[j]? = some u → w.cell? (ad.add j) = some u) (h1 : ∀ u ∈ news, u.oneCell' = true)
    (h63 : n + m ≤ maxLen) (hbytes : (n + m) * bytes ≤ 140737488355328) (hbase : base ≤ w.heap.size) :
    ∃ v' w', (Builtin.append_ #[t, t] ty #[v, .slice A m c]).run P w = .ok v' w' ∧ w'.ownsRow base e size v' (n + m) (xs ++ news) ∧ w.grownBy w' v.ownBlock := by
  cases A with
  | none =>
    have hm : m = 0 := by
      rcases Nat.eq_zero_or_pos m with h | h
      · exact h
      · obtain ⟨ad, e, _⟩ := hnews h
        cases e
    subst hm
    have hnil : news = [] := List.length_eq_zero_iff.1 (by simpa using hl)
    subst hnil
    refine ⟨v, w, ?_, by simpa using hown, ⟨rfl, rfl, rfl, Nat.le_refl _, fun _ _ _ => rfl⟩⟩
    rcases hown.2 with ⟨rfl, rfl⟩ | ⟨g, cap, cur, rfl, _, _, hnc, _⟩
    · simp [Builtin.append_, run_underlying ht, sizeOf, typeInfo, hi, Builtin.lenOf, Builtin.firstCells]
    · simp [Builtin.append_, run_underlying ht, sizeOf, typeInfo, hi, Builtin.lenOf, Builtin.firstCells, hnc, storeCells]
  | some ad =>
    obtain ⟨v', w', hr, h2, h3, _, _⟩ := run_append_own_at (P := P) w base t ty e i z size bytes ht hi hz hsize hby hzs hsz v n xs hown ad m c news hl (fun j u hu => by
      have hm : 0 < m := by
        rcases Nat.eq_zero_or_pos m with h | h
        · subst h
          have hnil : news = [] := List.length_eq_zero_iff.1 (by simpa using hl)
          subst hnil
          simp at hu
        · exact h
      obtain ⟨ad', e', h⟩ := hnews hm
      cases e'
      exact h j u hu) h1 h63 hbytes hbase
    exact ⟨v', w', hr, h2, h3⟩

theorem wp_append_src {o : Oper} {a : Act} {K : Act → World → Prop} {Q : Exit → Act → World → Prop} (s x : Operand) (t : TypeId)
    (ho : o.op = .call { callee := .builtin .append, args := #[s, x], argTypes := #[t, t] })
    (base : Nat) (e : TypeId) (i : TypeInfo) (z : Value) (size bytes : Nat) (ht : P.underlying t = some (.slice e)) (hi : P.info? e = some i) (hz : i.zero = some z)
    (hsize : i.size = size) (hby : i.bytes = bytes) (hzs : z.cells.size = size) (hsz : 0 < size)
    (v : Value) (n : Nat) (xs : List Value) (hs : a.eval s = v) (hown : w.ownsRow base e size v n xs)
    (A : Option Addr) (m c : Nat) (news : List Value) (hx : a.eval x = .slice A m c) (hl : news.length = m * size) (hnews : 0 < m → ∃ ad, A = some ad ∧ ∀ j u, news[j]? = some u → w.cell? (ad.add j) = some u) (h1 : ∀ u ∈ news, u.oneCell' = true)
    (h63 : n + m ≤ maxLen) (hbytes : (n + m) * bytes ≤ 140737488355328) (hbase : base ≤ w.heap.size)
    (h : ∀ v' w', w'.ownsRow base e size v' (n + m) (xs ++ news) → w.grownBy w' v.ownBlock → K (a.put o.dst v') w') : o.wp P a w K Q := by
  obtain ⟨v', w', hr, h2, h3⟩ := run_append_src (P := P) w t o.type base e i z size bytes ht hi hz hsize hby hzs hsz v n xs hown A m c news hl hnews h1 h63 hbytes hbase
  unfold Oper.wp execOp
  simp only [ho, resolve, invoke, builtin, Sem.run_bind, Sem.run_pure, Result.andThen_ok, List.map_toArray, List.map_cons, List.map_nil, hs, hx, hr]
  exact h v' w' h2 h3

/-- At the list of a plain region. -/
theorem wpList_append_src {ops : Array Oper} {rest : List Oper} {o : Oper} {a : Act} {Q : Exit → Act → World → Prop} (hgd : o.guard = none) (s x : Operand) (t : TypeId)
    (ho : o.op = .call { callee := .builtin .append, args := #[s, x], argTypes := #[t, t] })
    (base : Nat) (e : TypeId) (i : TypeInfo) (z : Value) (size bytes : Nat) (ht : P.underlying t = some (.slice e)) (hi : P.info? e = some i) (hz : i.zero = some z)
    (hsize : i.size = size) (hby : i.bytes = bytes) (hzs : z.cells.size = size) (hsz : 0 < size)
    (v : Value) (n : Nat) (xs : List Value) (hs : a.eval s = v) (hown : w.ownsRow base e size v n xs)
    (A : Option Addr) (m c : Nat) (news : List Value) (hx : a.eval x = .slice A m c) (hl : news.length = m * size) (hnews : 0 < m → ∃ ad, A = some ad ∧ ∀ j u, news[j]? = some u → w.cell? (ad.add j) = some u) (h1 : ∀ u ∈ news, u.oneCell' = true)
    (h63 : n + m ≤ maxLen) (hbytes : (n + m) * bytes ≤ 140737488355328) (hbase : base ≤ w.heap.size)
    (h : ∀ v' w', w'.ownsRow base e size v' (n + m) (xs ++ news) → w.grownBy w' v.ownBlock → wpList P ops Q rest (a.put o.dst v') w') : wpList P ops Q (o :: rest) a w :=
  wpList_plain hgd fun _ hK => wp_append_src w s x t ho base e i z size bytes ht hi hz hsize hby hzs hsz v n xs hs hown A m c news hx hl hnews h1 h63 hbytes hbase fun v' w' h2 h3 => hK _ _ (h v' w' h2 h3)

/-- At a step of a region that draws. -/
theorem step_append_src {ops : Array Oper} {o : Oper} {a : Act} {K : Act → World → Prop} {Q : Exit → Act → World → Prop} {E : Prop} (hgd : o.guard = none) (s x : Operand) (t : TypeId)
    (ho : o.op = .call { callee := .builtin .append, args := #[s, x], argTypes := #[t, t] })
    (base : Nat) (e : TypeId) (i : TypeInfo) (z : Value) (size bytes : Nat) (ht : P.underlying t = some (.slice e)) (hi : P.info? e = some i) (hz : i.zero = some z)
    (hsize : i.size = size) (hby : i.bytes = bytes) (hzs : z.cells.size = size) (hsz : 0 < size)
    (v : Value) (n : Nat) (xs : List Value) (hs : a.eval s = v) (hown : w.ownsRow base e size v n xs)
    (A : Option Addr) (m c : Nat) (news : List Value) (hx : a.eval x = .slice A m c) (hl : news.length = m * size) (hnews : 0 < m → ∃ ad, A = some ad ∧ ∀ j u, news[j]? = some u → w.cell? (ad.add j) = some u) (h1 : ∀ u ∈ news, u.oneCell' = true)
    (h63 : n + m ≤ maxLen) (hbytes : (n + m) * bytes ≤ 140737488355328) (hbase : base ≤ w.heap.size)
    (h : ∀ v' w', w'.ownsRow base e size v' (n + m) (xs ++ news) → w.grownBy w' v.ownBlock → K (a.put o.dst v') w') :
    if Region.wanted o (yielded ops a.tmps) = true then Oper.wp P o a w K Q else E := by
  have hw : Region.wanted o (yielded ops a.tmps) = true := by simp [Region.wanted, hgd]
  rw [if_pos hw]
  exact wp_append_src w s x t ho base e i z size bytes ht hi hz hsize hby hzs hsz v n xs hs hown A m c news hx hl hnews h1 h63 hbytes hbase h
end

/-- Strings as values. -/
def valsSt (xs : List St) : List Value := xs.map Value.string
theorem valsSt_append (xs ys : List St) : valsSt xs ++ valsSt ys = valsSt (xs ++ ys) := by simp [valsSt]
theorem valsSt_len (xs : List St) : (valsSt xs).length = xs.length := by simp [valsSt]
theorem valsSt_one (xs : List St) : ∀ u ∈ valsSt xs, u.oneCell' = true := by
  intro u hu
  simp only [valsSt, List.mem_map] at hu
  obtain ⟨x, _, rfl⟩ := hu
  rfl
theorem StI.src {w : World} {B n : Nat} {A : Option Addr} {xs : List St} (h : StI w B A n xs) : 0 < n → ∃ ad, A = some ad ∧ ∀ j u, (valsSt xs)[j]? = some u → w.cell? (ad.add j) = some u := by
  intro hn
  obtain ⟨b, off, e, _, hc⟩ := h.2.2 hn
  refine ⟨_, e, fun j u hu => ?_⟩
  simp only [valsSt, List.getElem?_map, Option.map_eq_some_iff] at hu
  obtain ⟨x, hx, rfl⟩ := hu
  rw [Addr.add_lit]
  exact (hc j x hx).1
/-- A row of strings of one's own reads as a slice. -/
theorem own_StI {w : World} {base n : Nat} {v : Value} {xs : List St} (h : w.ownsRow base 9 1 v n (valsSt xs)) (hs : ∀ (j : Nat) (x : St), xs[j]? = some x → ByteArray.size x ≤ maxLen) : ∃ A c, v = .slice A n c ∧ n ≤ c ∧ StI w w.heap.size A n xs := by
  have hl : xs.length = n := by have := h.1; rw [valsSt_len] at this; omega
  rcases h.2 with ⟨rfl, h0⟩ | ⟨g, cap, cur, rfl, hb, hh, hnc, hcm, hcs, ht⟩
  · subst h0
    obtain rfl : xs = [] := List.length_eq_zero_iff.1 hl
    exact ⟨none, 0, rfl, Nat.le_refl _, rfl, Nat.zero_le _, fun h => absurd h (by omega)⟩
  · have hlt : g < w.heap.size := by
      rcases Nat.lt_or_ge g w.heap.size with hlt | hge
      · exact hlt
      · rw [Array.getElem?_eq_none hge] at hh; cases hh
    refine ⟨_, cap, rfl, hnc, hl, by omega, fun _ => ⟨g, 0, rfl, hlt, fun j x hx => ⟨?_, hs j x hx⟩⟩⟩
    have hj : j < n := by have := (List.getElem?_eq_some_iff.1 hx).1; omega
    have h1 := congrArg (·[j]?) ht
    simp only [List.getElem?_take, Nat.mul_one, if_pos hj, valsSt, List.getElem?_map, hx, Option.map_some, Array.getElem?_toList] at h1
    simp [World.cell?, hh, h1]
theorem own_ge {w : World} {base n size : Nat} {e : TypeId} {v : Value} {xs : List Value} (h : w.ownsRow base e size v n xs) : ∀ b, v.ownBlock = some b → base ≤ b := by
  intro b hb
  rcases h.2 with ⟨rfl, _⟩ | ⟨g, cap, cur, rfl, hg, _⟩
  · cases hb
  · obtain rfl : g = b := Option.some.inj hb
    exact hg
theorem own_below {w w' : World} {base n size : Nat} {e : TypeId} {v : Value} {xs : List Value} (h : w.ownsRow base e size v n xs) (hb : Below w.heap.size w w') : w'.ownsRow base e size v n xs := by
  refine ⟨h.1, ?_⟩
  rcases h.2 with h0 | ⟨b, cap, cur, hv, hbb, hh, r⟩
  · exact .inl h0
  · refine .inr ⟨b, cap, cur, hv, hbb, ?_, r⟩
    have hl : b < w.heap.size := (Array.getElem?_eq_some_iff.1 hh).1
    exact (hb.block b hl).trans hh
end Go.Proofs.YtlohjmlenbkbmaaDoor

namespace Go.Proofs.YtlohjmlenbkbmaaDoor
open Go Go.RowKit

theorem infoStr : (Tryd.prog.info? 9).map (fun i => (i.zero, i.size, i.bytes)) = some (some (Value.string ⟨#[]⟩), 1, 16) := by kernel_rfl
/-- What a copy is. -/
def CopySt (xs : List St) (n : Nat) (W : World) (e : Ending) (w' : World) : Prop := ∃ A' c', e = .returned (.slice A' n c') ∧ n ≤ c' ∧ Hid (StIO w' w'.heap.size A' n xs ∧ Below W.heap.size W w' ∧ ∀ b, Blk1 A' n b → W.heap.size ≤ b)
theorem own_copy {w W : World} {n : Nat} {v : Value} {xs : List St} (h : w.ownsRow W.heap.size 9 1 v n (valsSt xs)) (hs : ∀ (j : Nat) (x : St), xs[j]? = some x → ByteArray.size x ≤ maxLen) (hb : Below W.heap.size W w) : CopySt xs n W (.returned v) w := by
  obtain ⟨A, c, e, hc, hi⟩ := own_StI h hs
  refine ⟨A, c, by rw [e], hc, Lib.hid ⟨⟨hi, fun hn => ?_⟩, hb, fun b hbl => own_ge h b (by rw [e, hbl.2]; rfl)⟩⟩
  subst e
  rcases h.2 with ⟨h', h0⟩ | ⟨g, cap, cur, h', hg, hh, hnc, _, hcs, ht⟩
  · omega
  · simp only [Value.slice.injEq, true_and] at h'
    obtain ⟨rfl, rfl⟩ := h'
    exact ⟨g, cur, rfl, hh, by omega⟩

set_option maxHeartbeats 1000000 in
set_option maxRecDepth 100000 in
theorem copyOfS_any (A : Option Addr) (n c : Nat) (xs : List St) (W : World) (hr : StI W W.heap.size A n xs) (hn : n ≤ 1048576) :
    Calls Tryd.prog 83 #[.slice A n c] W (CopySt xs n W) := by
  obtain ⟨i0, hi0, hz0, hz1, hz2⟩ := info_parts infoStr
  have HR := Lib.hid hr
  have HL : Hid (xs.length = n) := hr.1
  have hs : ∀ (j : Nat) (x : St), xs[j]? = some x → ByteArray.size x ≤ maxLen := fun j x hx => by
    have hj : j < n := by have := (List.getElem?_eq_some_iff.1 hx).1; have := hr.1; omega
    obtain ⟨b, off, e, hg, hc⟩ := hr.2.2 (by omega)
    exact (hc j x hx).2
  have HS := Lib.hid hs
  clear hr hs
  go_enter Tryd.func83, Tryd.ntmps83
  go_wp2_with (at_builtin; refine wpList_append_src _ rfl _ _ 22 rfl W.heap.size 9 i0 (.string ⟨#[]⟩) 1 16 Tryd.underlying22 hi0 hz0 hz1 hz2 rfl (by decide) (.slice none 0 0) 0 [] rfl (World.ownsRow_nil _ _ _ _) A n c (valsSt xs) rfl (by rw [valsSt_len]; have := HL.out; omega) (StI.src HR.out) (valsSt_one _) (by unfold maxLen; omega) (by omega) (Nat.le_refl _) ?_; intro v2 w2 hown hgr; rw [Nat.zero_add, List.nil_append] at hown; have HO := Lib.hid hown; have HB : Hid (Below W.heap.size W w2) := (Below.refl _ _).grown hgr (Nat.le_refl _) (fun b hb => by cases hb); clear hown hgr)
  go_ret
  exact own_copy HO.out HS.out HB.out

set_option maxHeartbeats 1000000 in
set_option maxRecDepth 100000 in
theorem l21Texts_any (A : Option Addr) (n c : Nat) (xs : List St) (W : World) (hr : StI W W.heap.size A n xs) (hn : n ≤ 1048576) :
    Calls Tryd.prog 65 #[.slice A n c] W (CopySt xs n W) := by
  obtain ⟨i0, hi0, hz0, hz1, hz2⟩ := info_parts infoStr
  have HR := Lib.hid hr
  have HL : Hid (xs.length = n) := hr.1
  have hs : ∀ (j : Nat) (x : St), xs[j]? = some x → ByteArray.size x ≤ maxLen := fun j x hx => by
    have hj : j < n := by have := (List.getElem?_eq_some_iff.1 hx).1; have := hr.1; omega
    obtain ⟨b, off, e, hg, hc⟩ := hr.2.2 (by omega)
    exact (hc j x hx).2
  have HS := Lib.hid hs
  have HB0 := Lib.hid (fun cs => below_alloc W (.cells cs 9))
  clear hr hs
  go_enter Tryd.func65, Tryd.ntmps65
  go_wp2_with (at_builtin; refine wpList_append_src _ rfl _ _ 22 rfl W.heap.size 9 i0 (.string ⟨#[]⟩) 1 16 Tryd.underlying22 hi0 hz0 hz1 hz2 rfl (by decide) (.slice (some ⟨W.heap.size, 0, none⟩) 0 0) 0 [] rfl (World.ownsRow_lit W #[] 0 (Nat.le_refl _) (by decide) rfl) A n c (valsSt xs) rfl (by rw [valsSt_len]; have := HL.out; omega) (StI.src (HR.out.below (HB0.out _))) (valsSt_one _) (by unfold maxLen; omega) (by omega) (HB0.out _).size ?_; intro v2 w2 hown hgr; rw [Nat.zero_add, List.nil_append] at hown; have HO := Lib.hid hown; have HB : Hid (Below W.heap.size W w2) := (HB0.out _).grown hgr (HB0.out _).size (fun b hb => by cases hb; exact Nat.le_refl _); clear hown hgr)
  go_ret
  exact own_copy HO.out HS.out HB.out
end Go.Proofs.YtlohjmlenbkbmaaDoor

namespace Go.Proofs.YtlohjmlenbkbmaaDoor
open Go Go.RowKit

def cellsFl : List (Fl × FlLay) → List Value
  | [] => []
  | p :: ys => p.1.vs p.2 ++ cellsFl ys
theorem cellsFl_append : ∀ (a b : List (Fl × FlLay)), cellsFl (a ++ b) = cellsFl a ++ cellsFl b
  | [], b => rfl
  | x :: a, b => by rw [List.cons_append, cellsFl, cellsFl, cellsFl_append a b, List.append_assoc]
theorem cellsFl_length : ∀ (a : List (Fl × FlLay)), (cellsFl a).length = a.length * 4
  | [] => rfl
  | x :: a => by
    rw [cellsFl, List.length_append, cellsFl_length a, List.length_cons]
    show 4 + _ = _
    omega
theorem cellsFl_at : ∀ {xs : List (Fl × FlLay)} {j q : Nat} {x : Fl × FlLay} {v : Value}, xs[j]? = some x → (x.1.vs x.2)[q]? = some v → (cellsFl xs)[j * 4 + q]? = some v
  | [], j, q, x, v, h, _ => by simp at h
  | y :: xs, 0, q, x, v, h, hv => by
    simp only [List.getElem?_cons_zero, Option.some.injEq] at h
    subst h
    have hq : q < (y.1.vs y.2).length := (List.getElem?_eq_some_iff.1 hv).1
    rw [cellsFl, Nat.zero_mul, Nat.zero_add, List.getElem?_append_left hq]
    exact hv
  | y :: xs, j + 1, q, x, v, h, hv => by
    have ih := cellsFl_at (xs := xs) (j := j) (q := q) (by simpa using h) hv
    have hl : (y.1.vs y.2).length = 4 := rfl
    rw [cellsFl, List.getElem?_append_right (by rw [hl]; omega), hl, show (j + 1) * 4 + q - 4 = j * 4 + q by omega]
    exact ih
/-- A row of files of one's own. -/
abbrev OwnFl (w : World) (B : Nat) (v : Value) (ys : List (Fl × FlLay)) : Prop := w.ownsRow B 50 4 v ys.length (cellsFl ys)
theorem ownFl_snoc {w : World} {B n : Nat} {v : Value} {ys : List (Fl × FlLay)} (x : Fl) (l : FlLay) (h : w.ownsRow B 50 4 v (n + 1) (cellsFl ys ++ x.vs l)) (hn : ys.length = n) : OwnFl w B v (ys ++ [(x, l)]) := by
  show w.ownsRow B 50 4 v (ys ++ [(x, l)]).length (cellsFl (ys ++ [(x, l)]))
  rw [cellsFl_append, List.length_append, hn]
  have e : cellsFl [(x, l)] = x.vs l := by rw [cellsFl, cellsFl, List.append_nil]
  rw [e]
  exact h
theorem ownFl_form {w : World} {B : Nat} {v : Value} {ys : List (Fl × FlLay)} (h : OwnFl w B v ys) : ∃ A c, v = .slice A ys.length c ∧ ys.length ≤ c := by
  rcases h.2 with ⟨rfl, h0⟩ | ⟨g, cap, cur, rfl, _, _, hnc, _⟩
  · exact ⟨none, 0, by rw [h0], by omega⟩
  · exact ⟨_, _, rfl, hnc⟩
theorem ownFl_row {w : World} {B : Nat} {v : Value} {ys : List (Fl × FlLay)} (h : OwnFl w B v ys) (hn : 0 < ys.length) : ∃ g c cur, v = .slice (some ⟨g, 0, none⟩) ys.length c ∧ B ≤ g ∧ RW 50 w g cur ∧ ys.length * 4 ≤ cur.size ∧ ∀ (j : Nat) (p : Fl × FlLay), ys[j]? = some p → ∀ (q : Nat) (v : Value), (p.1.vs p.2)[q]? = some v → cur[j * 4 + q]? = some v := by
  rcases h.2 with ⟨_, h0⟩ | ⟨g, cap, cur, rfl, hg, hh, hnc, _, hcs, ht⟩
  · omega
  · have hle : ys.length * 4 ≤ cur.size := by rw [hcs]; exact Nat.mul_le_mul_right _ hnc
    refine ⟨g, cap, cur, rfl, hg, hh, hle, fun j p hp q v hv => ?_⟩
    have hj : j < ys.length := (List.getElem?_eq_some_iff.1 hp).1
    have hq : q < 4 := (List.getElem?_eq_some_iff.1 hv).1
    have h1 := congrArg (·[j * 4 + q]?) ht
    have hlt : j * 4 + q < ys.length * 4 := by
      have : (j + 1) * 4 ≤ ys.length * 4 := Nat.mul_le_mul_right _ hj
      omega
    simp only [List.getElem?_take, if_pos hlt, cellsFl_at hp hv] at h1
    rw [← Array.getElem?_toList]
    exact h1
theorem ownFl_keep {w w' : World} {B : Nat} {v : Value} {ys : List (Fl × FlLay)} (h : OwnFl w B v ys) (hb : Below w.heap.size w w') : OwnFl w' B v ys := own_below h hb
/-- Read as a slice. -/
theorem ownFl_FlI {w : World} {B c : Nat} {A : Option Addr} {ys : List (Fl × FlLay)} (h : OwnFl w B (.slice A ys.length c) ys) (hv : ∀ (j : Nat) (p : Fl × FlLay), ys[j]? = some p → FlV w w.heap.size p.1 p.2) (hn : ys.length ≤ maxLen) : FlI w w.heap.size A ys.length (ys.map Prod.fst) := by
  refine ⟨by rw [List.length_map], hn, fun h0 => ?_⟩
  obtain ⟨g, c', cur, e, hg, hr, hc, hm⟩ := ownFl_row h h0
  simp only [Value.slice.injEq, true_and] at e
  obtain ⟨rfl, _⟩ := e
  refine ⟨g, 0, rfl, hr.lt, fun j x hx => ?_⟩
  rw [List.getElem?_map, Option.map_eq_some_iff] at hx
  obtain ⟨p, hp, rfl⟩ := hx
  have k : ∀ q v, (p.1.vs p.2)[q]? = some v → w.cell? ⟨g, 0 + j * 4 + q, none⟩ = some v := fun q v hq => by
    rw [Nat.zero_add, hr.cell]
    exact hm j p hp q v hq
  exact ⟨p.2, ⟨k 0 _ rfl, k 1 _ rfl, k 2 _ rfl, k 3 _ rfl⟩, hv j p hp⟩
/-- Its lists' places. -/
def shFl (ys : List (Fl × FlLay)) (j : Nat) : FlLay := ((ys[j]?).map Prod.snd).getD ⟨none, 0, 0, Nat.le_refl _⟩
theorem shFl_at {ys : List (Fl × FlLay)} {j : Nat} {p : Fl × FlLay} (h : ys[j]? = some p) : shFl ys j = p.2 := by unfold shFl; rw [h]; rfl
theorem ownFl_P {w : World} {B c : Nat} {A : Option Addr} {ys : List (Fl × FlLay)} (h : OwnFl w B (.slice A ys.length c) ys) (hw : ∀ (j : Nat) (p : Fl × FlLay), ys[j]? = some p → StW w p.2.A1 p.2.n1) : FlP w A ys.length (shFl ys) := fun h0 => by
  obtain ⟨g, c', cur, e, hg, hr, hc, hm⟩ := ownFl_row h h0
  simp only [Value.slice.injEq, true_and] at e
  obtain ⟨rfl, _⟩ := e
  refine ⟨g, rfl, ⟨cur, hr, hc, fun j hj => ?_⟩, fun j hj => ?_⟩
  · have hp := List.getElem?_eq_getElem hj
    rw [shFl_at hp]
    exact hm j _ hp 1 _ rfl
  · have hp := List.getElem?_eq_getElem hj
    rw [shFl_at hp]
    exact hw j _ hp
/-- A list is put into it. -/
theorem ownFl_set {w : World} {B g c j : Nat} {ys : List (Fl × FlLay)} {x : Fl} {l : FlLay} (h : OwnFl w B (.slice (some ⟨g, 0, none⟩) ys.length c) ys) (hp : ys[j]? = some (x, l)) (l' : FlLay) :
    OwnFl (w.setCell ⟨g, j * 4 + 1, none⟩ (.slice l'.A1 l'.n1 l'.c1)) B (.slice (some ⟨g, 0, none⟩) (ys.set j (x, l')).length c) (ys.set j (x, l')) := by
  have hj : j < ys.length := (List.getElem?_eq_some_iff.1 hp).1
  have h0 : 0 < ys.length := by omega
  obtain ⟨g', c', cur', e, hg', hr', hc', hm'⟩ := ownFl_row h h0
  simp only [Value.slice.injEq, Option.some.injEq, Addr.mk.injEq, and_true, true_and] at e
  obtain ⟨rfl, _⟩ := e
  rcases h.2 with ⟨_, h1⟩ | ⟨g2, cap, cur, e2, hg, hh, hnc, hcm, hcs, ht⟩
  · omega
  simp only [Value.slice.injEq, Option.some.injEq, Addr.mk.injEq, and_true, true_and] at e2
  obtain ⟨rfl, rfl⟩ := e2
  have hcur : cur = cur' := (RW.same (T := 50) (T' := 50) hh hr').2
  subst hcur
  have hlen : (ys.set j (x, l')).length = ys.length := by rw [List.length_set]
  refine ⟨by rw [cellsFl_length], .inr ⟨g, c, _, by rw [hlen], hg, RW.set_ hh (j * 4 + 1) _, by rw [hlen]; exact hnc, hcm, by rw [Array.size_setIfInBounds]; exact hcs, ?_⟩⟩
  apply List.ext_getElem?
  intro k
  rw [List.getElem?_take, hlen]
  by_cases hk : k < ys.length * 4
  · rw [if_pos hk, Array.getElem?_toList]
    obtain ⟨i, q, hi, hq, e⟩ : ∃ i q, i < ys.length ∧ q < 4 ∧ k = i * 4 + q := ⟨k / 4, k % 4, by omega, Nat.mod_lt _ (by omega), by omega⟩
    subst e
    have key : ∀ (p : Fl × FlLay) (v : Value), (ys.set j (x, l'))[i]? = some p → (p.1.vs p.2)[q]? = some v → (cellsFl (ys.set j (x, l')))[i * 4 + q]? = some v := fun p v h1 h2 => cellsFl_at h1 h2
    by_cases hij : i = j
    · subst hij
      have e1 : (ys.set i (x, l'))[i]? = some (x, l') := by rw [List.getElem?_set_self hj]
      match q, hq with
      | 0, _ => rw [key _ _ e1 (show ((x, l').1.vs (x, l').2)[0]? = some (.string x.name_) from rfl), Array.getElem?_setIfInBounds_ne (by omega)]; exact hm' i _ hp 0 _ rfl
      | 1, _ => rw [key _ _ e1 (show ((x, l').1.vs (x, l').2)[1]? = some (.slice l'.A1 l'.n1 l'.c1) from rfl), Array.getElem?_setIfInBounds_self_of_lt (by omega)]
      | 2, _ => rw [key _ _ e1 (show ((x, l').1.vs (x, l').2)[2]? = some (.int .i64 x.mode_) from rfl), Array.getElem?_setIfInBounds_ne (by omega)]; exact hm' i _ hp 2 _ rfl
      | 3, _ => rw [key _ _ e1 (show ((x, l').1.vs (x, l').2)[3]? = some (.int .i64 x.at_) from rfl), Array.getElem?_setIfInBounds_ne (by omega)]; exact hm' i _ hp 3 _ rfl
    · have e1 : (ys.set j (x, l'))[i]? = ys[i]? := List.getElem?_set_ne (fun h => hij h.symm)
      have hpi := List.getElem?_eq_getElem hi
      have hvq : ∃ v, ((ys[i]).1.vs (ys[i]).2)[q]? = some v := ⟨_, List.getElem?_eq_getElem (show q < ((ys[i]).1.vs (ys[i]).2).length from hq)⟩
      obtain ⟨v, hv⟩ := hvq
      rw [key _ v (e1.trans hpi) hv, Array.getElem?_setIfInBounds_ne (by omega)]
      exact hm' i _ hpi q v hv
  · rw [if_neg hk, List.getElem?_eq_none]
    rw [cellsFl_length, hlen]
    omega

/-- A slice of files as a list with places. -/
theorem flI_list {w : World} {B n : Nat} {A : Option Addr} {xs : List Fl} (h : FlI w B A n xs) : ∃ ys : List (Fl × FlLay), ys.map Prod.fst = xs ∧ ys.length = n ∧ ∀ (j : Nat) (p : Fl × FlLay), ys[j]? = some p → FlV w B p.1 p.2 ∧ ∃ b off, A = some ⟨b, off, none⟩ ∧ b < B ∧ FlAt w b (off + j * 4) p.1 p.2 := by
  have hex : ∀ j, ∃ l : FlLay, ∀ x, xs[j]? = some x → FlV w B x l ∧ ∃ b off, A = some ⟨b, off, none⟩ ∧ b < B ∧ FlAt w b (off + j * 4) x l := fun j => by
    rcases hx : xs[j]? with _ | x
    · exact ⟨⟨none, 0, 0, Nat.le_refl _⟩, fun x hx' => by cases hx'⟩
    · have hj : j < n := by have := (List.getElem?_eq_some_iff.1 hx).1; have := h.1; omega
      obtain ⟨b, off, x', l, e, hb, hx', h1, h2⟩ := h.at_ hj
      rw [hx] at hx'
      cases hx'
      exact ⟨l, fun y hy => by cases hy; exact ⟨h2, b, off, e, hb, h1⟩⟩
  refine ⟨xs.mapIdx fun j x => (x, Classical.choose (hex j)), ?_, by rw [List.length_mapIdx]; exact h.1, fun j p hp => ?_⟩
  · apply List.ext_getElem?
    intro k
    rw [List.getElem?_map, List.getElem?_mapIdx]
    rw [Option.map_map]
    show Option.map (fun x => x) xs[k]? = _
    simp
  · rw [List.getElem?_mapIdx, Option.map_eq_some_iff] at hp
    obtain ⟨x, hx, rfl⟩ := hp
    exact Classical.choose_spec (hex j) x hx
theorem cellsFl_one (ys : List (Fl × FlLay)) : ∀ u ∈ cellsFl ys, u.oneCell' = true := by
  induction ys with
  | nil => intro u hu; simp [cellsFl] at hu
  | cons p ys ih =>
    intro u hu
    rw [cellsFl, List.mem_append] at hu
    rcases hu with hu | hu
    · simp [Fl.vs] at hu
      rcases hu with rfl | rfl | rfl | rfl <;> rfl
    · exact ih u hu
theorem flI_src {w : World} {A : Option Addr} {ys : List (Fl × FlLay)} (h : ∀ (j : Nat) (p : Fl × FlLay), ys[j]? = some p → ∃ b off, A = some ⟨b, off, none⟩ ∧ FlAt w b (off + j * 4) p.1 p.2) : 0 < ys.length → ∃ ad, A = some ad ∧ ∀ j u, (cellsFl ys)[j]? = some u → w.cell? (ad.add j) = some u := fun h0 => by
  obtain ⟨b, off, e, _⟩ := h 0 _ (List.getElem?_eq_getElem h0)
  refine ⟨_, e, fun k u hu => ?_⟩
  rw [Addr.add_lit]
  have hk : k < ys.length * 4 := by rw [← cellsFl_length]; exact (List.getElem?_eq_some_iff.1 hu).1
  obtain ⟨i, q, hi, hq, ek⟩ : ∃ i q, i < ys.length ∧ q < 4 ∧ k = i * 4 + q := ⟨k / 4, k % 4, by omega, Nat.mod_lt _ (by omega), by omega⟩
  subst ek
  have hp := List.getElem?_eq_getElem hi
  obtain ⟨b', off', e', a0, a1, a2, a3⟩ := h i _ hp
  rw [e] at e'
  simp only [Option.some.injEq, Addr.mk.injEq, and_true] at e'
  obtain ⟨rfl, rfl⟩ := e'
  rw [← Nat.add_assoc]
  have key : ∀ v, ((ys[i]).1.vs (ys[i]).2)[q]? = some v → u = v := fun v hv => by
    rw [cellsFl_at hp hv] at hu
    exact (Option.some.inj hu).symm
  obtain rfl | rfl | rfl | rfl : q = 0 ∨ q = 1 ∨ q = 2 ∨ q = 3 := by omega
  · rw [key (.string (ys[i]).1.name_) rfl]; exact a0
  · rw [key (.slice (ys[i]).2.A1 (ys[i]).2.n1 (ys[i]).2.c1) rfl]; exact a1
  · rw [key (.int .i64 (ys[i]).1.mode_) rfl]; exact a2
  · rw [key (.int .i64 (ys[i]).1.at_) rfl]; exact a3
end Go.Proofs.YtlohjmlenbkbmaaDoor

namespace Go.Proofs.YtlohjmlenbkbmaaDoor
open Go Go.RowKit

/-- Where a row of one's own begins. -/
def AtB (A : Option Addr) (b : Nat) : Prop := A = some ⟨b, 0, none⟩
/-- A row of strings of one's own. -/
def OwnS (w : World) (B : Nat) (A : Option Addr) (n c : Nat) (xs : List St) : Prop := w.ownsRow B 9 1 (.slice A n c) n (valsSt xs) ∧ ∀ (j : Nat) (x : St), xs[j]? = some x → ByteArray.size x ≤ maxLen
theorem OwnS.len {w : World} {B n c : Nat} {A : Option Addr} {xs : List St} (h : OwnS w B A n c xs) : xs.length = n := by
  have := h.1.1
  rw [valsSt_len] at this
  omega
theorem OwnS.row {w : World} {B n c b : Nat} {A : Option Addr} {xs : List St} (h : OwnS w B A n c xs) (hb : AtB A b) : B ≤ b ∧ ∃ cs, RW 9 w b cs := by
  rcases h.1.2 with ⟨e, _⟩ | ⟨g, cap, cur, e, hg, hh, _⟩
  · simp only [Value.slice.injEq] at e
    rw [AtB, e.1] at hb
    cases hb
  · simp only [Value.slice.injEq, true_and] at e
    rw [AtB, e.1, Option.some.injEq, Addr.mk.injEq] at hb
    obtain ⟨rfl, _⟩ := hb
    exact ⟨hg, cur, hh⟩
theorem OwnS.keepB {w w' : World} {B n c : Nat} {A : Option Addr} {xs : List St} (h : OwnS w B A n c xs) (hk : ∀ b, AtB A b → w'.heap[b]? = w.heap[b]?) : OwnS w' B A n c xs := by
  refine ⟨⟨h.1.1, ?_⟩, h.2⟩
  rcases h.1.2 with h0 | ⟨g, cap, cur, e, hg, hh, r⟩
  · exact .inl h0
  · have hA : AtB A g := by
      simp only [Value.slice.injEq, true_and] at e
      exact e.1
    exact .inr ⟨g, cap, cur, e, hg, (hk g hA).trans hh, r⟩
theorem OwnS.lt {w : World} {B n c b : Nat} {A : Option Addr} {xs : List St} (h : OwnS w B A n c xs) (hb : AtB A b) : b < w.heap.size := by
  obtain ⟨_, cs, hr⟩ := h.row hb
  exact hr.lt
theorem OwnS.keep {w w' : World} {B n c : Nat} {A : Option Addr} {xs : List St} (h : OwnS w B A n c xs) (hb : Below w.heap.size w w') : OwnS w' B A n c xs := h.keepB fun b hA => hb.block b (h.lt hA)
theorem OwnS.lower {w : World} {B B' n c : Nat} {A : Option Addr} {xs : List St} (h : OwnS w B A n c xs) (hB : B' ≤ B) : OwnS w B' A n c xs := by
  refine ⟨⟨h.1.1, ?_⟩, h.2⟩
  rcases h.1.2 with h0 | ⟨g, cap, cur, e, hg, r⟩
  · exact .inl h0
  · exact .inr ⟨g, cap, cur, e, Nat.le_trans hB hg, r⟩
theorem OwnS.toIO {w : World} {B n c : Nat} {A : Option Addr} {xs : List St} (h : OwnS w B A n c xs) : StIO w w.heap.size A n xs ∧ n ≤ c := by
  obtain ⟨A', c', e, hc, hi⟩ := own_StI h.1 h.2
  simp only [Value.slice.injEq, true_and] at e
  obtain ⟨rfl, rfl⟩ := e
  refine ⟨⟨hi, fun hn => ?_⟩, hc⟩
  rcases h.1.2 with ⟨_, h0⟩ | ⟨g, cap, cur, e, hg, hh, hnc, _, hcs, ht⟩
  · omega
  · simp only [Value.slice.injEq, true_and] at e
    obtain ⟨rfl, rfl⟩ := e
    exact ⟨g, cur, rfl, hh, by omega⟩
theorem Blk1.atB {A : Option Addr} {n b : Nat} (h : Blk1 A n b) : AtB A b := h.2
/-- A block of another kind is stored to. -/
theorem OwnS.other {w : World} {B n c g i : Nat} {A : Option Addr} {xs : List St} {T : TypeId} {cs : Array Value} (h : OwnS w B A n c xs) (hr : RW T w g cs) (hT : 9 ≠ T) (v : Value) : OwnS (w.setCell ⟨g, i, none⟩ v) B A n c xs := h.keepB fun b hb => by
  obtain ⟨_, cs', hr'⟩ := h.row hb
  have hne : b ≠ g := fun e => by
    subst e
    exact hT (RW.same hr' hr).1
  exact Below.heap_setCell w ⟨g, i, none⟩ v b hne
theorem OwnS.grown {w w' : World} {B n c : Nat} {A : Option Addr} {xs : List St} {r : Option Nat} (h : OwnS w B A n c xs) (hg : w.grownBy w' r) (hr : ∀ b, AtB A b → some b ≠ r) : OwnS w' B A n c xs := h.keepB fun b hb => hg.block b (h.lt hb) (hr b hb)

/-- Of what was there only blocks of S have turned. -/
def Turn (S : Nat → Prop) (w w' : World) : Prop := w'.os = w.os ∧ w'.tape = w.tape ∧ w'.output = w.output ∧ w.heap.size ≤ w'.heap.size ∧ ∀ j, j < w.heap.size → ¬ S j → w'.heap[j]? = w.heap[j]?
theorem Turn.below {S : Nat → Prop} {a b : World} {B : Nat} (h : Turn S a b) (hS : ∀ j, S j → B ≤ j) (hB : B ≤ a.heap.size) : Below B a b := ⟨h.1, h.2.1, h.2.2.1, h.2.2.2.1, fun j hj => h.2.2.2.2 j (by omega) fun hs => by have := hS j hs; omega⟩
theorem Turn.of_below {S : Nat → Prop} {a b : World} (h : Below a.heap.size a b) : Turn S a b := ⟨h.os, h.tape, h.output, h.size, fun j hj _ => h.block j hj⟩
theorem Turn.trans {S : Nat → Prop} {a b c : World} (h : Turn S a b) (h' : Turn S b c) : Turn S a c := by
  obtain ⟨h1, h2, h3, h4, h5⟩ := h
  obtain ⟨k1, k2, k3, k4, k5⟩ := h'
  exact ⟨k1.trans h1, k2.trans h2, k3.trans h3, Nat.le_trans h4 k4, fun j hj hn => (k5 j (Nat.lt_of_lt_of_le hj h4) hn).trans (h5 j hj hn)⟩
theorem Turn.mono {S S' : Nat → Prop} {a b : World} (h : Turn S a b) (hS : ∀ j, j < a.heap.size → S j → S' j) : Turn S' a b := ⟨h.1, h.2.1, h.2.2.1, h.2.2.2.1, fun j hj hn => h.2.2.2.2 j hj fun hs => hn (hS j hj hs)⟩

/-- Files of one's own, each with its list. -/
structure FlsO (B : Nat) (w : World) (v : Value) (zs : List (Fl × FlLay)) : Prop where
  own : OwnFl w B v zs
  el : ∀ (j : Nat) (p : Fl × FlLay), zs[j]? = some p → OwnS w B p.2.A1 p.2.n1 p.2.c1 p.1.lines_ ∧ p.1.name_.size ≤ maxLen
  ap : ∀ (i j : Nat) (p q : Fl × FlLay), zs[i]? = some p → zs[j]? = some q → i ≠ j → ∀ b, AtB p.2.A1 b → ¬ AtB q.2.A1 b
theorem FlsO.keep {B : Nat} {w w' : World} {v : Value} {zs : List (Fl × FlLay)} (h : FlsO B w v zs) (hb : Below w.heap.size w w') : FlsO B w' v zs := ⟨ownFl_keep h.own hb, fun j p hp => ⟨(h.el j p hp).1.keep hb, (h.el j p hp).2⟩, h.ap⟩
theorem FlsO.nil (B : Nat) (w : World) : FlsO B w (.slice none 0 0) [] := ⟨World.ownsRow_nil _ _ _ _, fun j p hp => by simp at hp, fun i j p q hp => by simp at hp⟩
theorem OwnFl.blk {w : World} {B : Nat} {v : Value} {zs : List (Fl × FlLay)} (h : OwnFl w B v zs) : ∀ b, v.ownBlock = some b → ∃ cs, RW 50 w b cs := fun b hb => by
  rcases h.2 with ⟨rfl, _⟩ | ⟨g, cap, cur, rfl, hg, hh, _⟩
  · cases hb
  · obtain rfl : g = b := Option.some.inj hb
    exact ⟨cur, hh⟩
theorem str_Fl : 9 ≠ 50 := by decide
/-- One more, whose list is new. -/
theorem FlsO.snoc {B n : Nat} {w w1 w' : World} {v v' : Value} {zs : List (Fl × FlLay)} {x : Fl} {l : FlLay} (h : FlsO B w v zs) (hb : Below w.heap.size w w1) (ho : OwnS w1 w.heap.size l.A1 l.n1 l.c1 x.lines_) (hx : x.name_.size ≤ maxLen) (hB : B ≤ w.heap.size) (hn : zs.length = n)
    (hown : w'.ownsRow B 50 4 v' (n + 1) (cellsFl zs ++ x.vs l)) (hg : w1.grownBy w' v.ownBlock) : FlsO B w' v' (zs ++ [(x, l)]) := by
  have hk : ∀ {A : Option Addr} {m c B' : Nat} {xs : List St}, OwnS w1 B' A m c xs → OwnS w' B' A m c xs := fun {A m c B' xs} ho => ho.grown hg fun b hb2 e => by
    obtain ⟨cs, hr⟩ := (ownFl_keep h.own hb).blk b e.symm
    obtain ⟨_, cs', hr'⟩ := ho.row hb2
    exact str_Fl (RW.same hr' hr).1
  refine ⟨ownFl_snoc x l hown hn, fun j p hp => ?_, fun i j p q hp hq hij b hA hA' => ?_⟩
  · rcases Nat.lt_or_ge j zs.length with hj | hj
    · rw [List.getElem?_append_left hj] at hp
      exact ⟨hk ((h.el j p hp).1.keep hb), (h.el j p hp).2⟩
    · rw [List.getElem?_append_right hj] at hp
      have hj0 : j - zs.length = 0 := by
        have := (List.getElem?_eq_some_iff.1 hp).1
        simp at this
        exact this
      rw [hj0] at hp
      simp only [List.getElem?_cons_zero, Option.some.injEq] at hp
      subst hp
      exact ⟨(hk ho).lower hB, hx⟩
  · have key : ∀ {i j : Nat} {p q : Fl × FlLay}, (zs ++ [(x, l)])[i]? = some p → (zs ++ [(x, l)])[j]? = some q → i < zs.length → j ≠ i → AtB p.2.A1 b → ¬ AtB q.2.A1 b := fun {i j p q} hp hq hi hij hA hA' => by
      rw [List.getElem?_append_left hi] at hp
      rcases Nat.lt_or_ge j zs.length with hj | hj
      · rw [List.getElem?_append_left hj] at hq
        exact h.ap i j p q hp hq (fun e => hij e.symm) b hA hA'
      · rw [List.getElem?_append_right hj] at hq
        have hj0 : j - zs.length = 0 := by
          have := (List.getElem?_eq_some_iff.1 hq).1
          simp at this
          exact this
        rw [hj0] at hq
        simp only [List.getElem?_cons_zero, Option.some.injEq] at hq
        subst hq
        have h1 := (h.el i p hp).1.lt hA
        have h2 := (ho.row hA').1
        omega
    have hlen : (zs ++ [(x, l)]).length = zs.length + 1 := by simp
    have hi := (List.getElem?_eq_some_iff.1 hp).1
    have hj := (List.getElem?_eq_some_iff.1 hq).1
    rcases Nat.lt_or_ge i zs.length with h1 | h1
    · exact key hp hq h1 (fun e => hij e.symm) hA hA'
    · exact key hq hp (show j < zs.length by omega) hij hA' hA

/-- A console of one's own. -/
structure OwnCn (B : Nat) (w : World) (x : Cn) (l : CnLay) (zs : List (Fl × FlLay)) : Prop where
  o0 : OwnS w B l.A0 l.n0 l.c0 x.input_
  o2 : OwnS w B l.A2 l.n2 l.c2 x.output_
  o4 : OwnS w B l.A4 l.n4 l.c4 x.trace_
  o3 : FlsO B w (.slice l.A3 l.n3 l.c3) zs
  n3 : zs.length = l.n3
  fs : zs.map Prod.fst = x.files_
  a02 : ∀ b, AtB l.A0 b → ¬ AtB l.A2 b
  a04 : ∀ b, AtB l.A0 b → ¬ AtB l.A4 b
  a24 : ∀ b, AtB l.A2 b → ¬ AtB l.A4 b
  a3 : ∀ (j : Nat) (p : Fl × FlLay), zs[j]? = some p → ∀ b, AtB p.2.A1 b → ¬ AtB l.A0 b ∧ ¬ AtB l.A2 b ∧ ¬ AtB l.A4 b
theorem OwnCn.keep {B : Nat} {w w' : World} {x : Cn} {l : CnLay} {zs : List (Fl × FlLay)} (h : OwnCn B w x l zs) (hb : Below w.heap.size w w') : OwnCn B w' x l zs := ⟨h.o0.keep hb, h.o2.keep hb, h.o4.keep hb, h.o3.keep hb, h.n3, h.fs, h.a02, h.a04, h.a24, h.a3⟩
theorem FlsO.other {B g i : Nat} {w : World} {v : Value} {zs : List (Fl × FlLay)} {T : TypeId} {cs : Array Value} (h : FlsO B w v zs) (hr : RW T w g cs) (hT : 9 ≠ T) (hF : 50 ≠ T) (u : Value) : FlsO B (w.setCell ⟨g, i, none⟩ u) v zs := by
  refine ⟨⟨h.own.1, ?_⟩, fun j p hp => ⟨(h.el j p hp).1.other hr hT u, (h.el j p hp).2⟩, h.ap⟩
  rcases h.own.2 with h0 | ⟨b, cap, cur, hv, hb, hh, r⟩
  · exact .inl h0
  · have hne : b ≠ g := fun e => by
      subst e
      exact hF (RW.same (show RW 50 w b cur from hh) hr).1
    exact .inr ⟨b, cap, cur, hv, hb, (Below.heap_setCell w ⟨g, i, none⟩ u b hne).trans hh, r⟩
theorem OwnCn.other {B g i : Nat} {w : World} {x : Cn} {l : CnLay} {zs : List (Fl × FlLay)} {T : TypeId} {cs : Array Value} (h : OwnCn B w x l zs) (hr : RW T w g cs) (hT : 9 ≠ T) (hF : 50 ≠ T) (u : Value) : OwnCn B (w.setCell ⟨g, i, none⟩ u) x l zs :=
  ⟨h.o0.other hr hT u, h.o2.other hr hT u, h.o4.other hr hT u, h.o3.other hr hT hF u, h.n3, h.fs, h.a02, h.a04, h.a24, h.a3⟩
theorem OwnCn.at_ {B : Nat} {w : World} {x0 x2 x4 : List St} {x1 : Int} {x3 : List Fl} {l : CnLay} {zs : List (Fl × FlLay)} (h : OwnCn B w ⟨x0, x1, x2, x3, x4⟩ l zs) (z : Int) : OwnCn B w ⟨x0, z, x2, x3, x4⟩ l zs := ⟨h.o0, h.o2, h.o4, h.o3, h.n3, h.fs, h.a02, h.a04, h.a24, h.a3⟩
/-- What a function that hands back a console answers. -/
def CloneT (x : Cn) (W : World) (e : Ending) (w' : World) : Prop := ∃ (l' : CnLay) (sh : Nat → FlLay), e = .returned (x.ag l') ∧ Hid (CnV w' w'.heap.size x l' ∧ Below W.heap.size W w' ∧ CnM w' l' sh ∧ CnApart l' sh ∧ (∀ b, SCn l' sh b → W.heap.size ≤ b) ∧ (∀ (j : Nat) (y : Fl), x.files_[j]? = some y → (sh j).n1 = y.lines_.length) ∧ l'.n3 = x.files_.length)
theorem shFl_get {zs : List (Fl × FlLay)} {j : Nat} (hj : j < zs.length) : ∃ p, zs[j]? = some p ∧ shFl zs j = p.2 := ⟨_, List.getElem?_eq_getElem hj, shFl_at (List.getElem?_eq_getElem hj)⟩
theorem OwnCn.toT {W w : World} {x : Cn} {l : CnLay} {zs : List (Fl × FlLay)} (h : OwnCn W.heap.size w x l zs) (hb : Below W.heap.size W w) : CloneT x W (.returned (x.ag l)) w := by
  obtain ⟨o0, o2, o4, o3, n3, fs, a02, a04, a24, a3⟩ := h
  have hown : OwnFl w W.heap.size (.slice l.A3 zs.length l.c3) zs := by rw [n3]; exact o3.own
  have hn : zs.length ≤ maxLen := by
    rcases hown.2 with ⟨_, h0⟩ | ⟨g, cap, cur, e, hg, hh, h1, h2, _⟩
    · omega
    · omega
  have hV : FlI w w.heap.size l.A3 zs.length (zs.map Prod.fst) := ownFl_FlI hown (fun j p hp => ⟨(o3.el j p hp).1.toIO.1.1, (o3.el j p hp).2⟩) hn
  have hP : FlP w l.A3 zs.length (shFl zs) := ownFl_P hown fun j p hp => (o3.el j p hp).1.toIO.1.2
  rw [n3, fs] at hV
  rw [n3] at hP
  refine ⟨l, shFl zs, rfl, Lib.hid ⟨⟨o0.toIO.1.1, o2.toIO.1.1, hV, o4.toIO.1.1⟩, hb, ⟨o0.toIO.1.2, o2.toIO.1.2, hP, o4.toIO.1.2⟩, ⟨fun i j hi hj hij b hA hA' => ?_, fun b hA hA' => a02 b hA.atB hA'.atB, fun b hA hA' => a04 b hA.atB hA'.atB, fun b hA hA' => a24 b hA.atB hA'.atB, fun i hi b hA => ?_⟩, fun b hS => ?_, fun j y hy => ?_, ?_⟩⟩
  · obtain ⟨p, hp, e⟩ := shFl_get (zs := zs) (j := i) (by omega)
    obtain ⟨q, hq, e'⟩ := shFl_get (zs := zs) (j := j) (by omega)
    rw [e] at hA
    rw [e'] at hA'
    exact o3.ap i j p q hp hq hij b hA.atB hA'.atB
  · obtain ⟨p, hp, e⟩ := shFl_get (zs := zs) (j := i) (by omega)
    rw [e] at hA
    have h3 := a3 i p hp b hA.atB
    exact ⟨fun h => h3.1 h.atB, fun h => h3.2.1 h.atB, fun h => h3.2.2 h.atB⟩
  · rcases hS with hS | hS | hS | hS
    · exact (o0.row hS.atB).1
    · exact (o2.row hS.atB).1
    · obtain ⟨hn0, g, e, hS⟩ := hS
      rcases hS with rfl | ⟨j, hj, hS⟩
      · exact own_ge hown b (by rw [e]; rfl)
      · obtain ⟨p, hp, e'⟩ := shFl_get (zs := zs) (j := j) (by omega)
        rw [e'] at hS
        exact ((o3.el j p hp).1.row hS.atB).1
    · exact (o4.row hS.atB).1
  · rw [← fs, List.getElem?_map, Option.map_eq_some_iff] at hy
    obtain ⟨p, hp, rfl⟩ := hy
    rw [shFl_at hp]
    exact ((o3.el j p hp).1.len).symm
  · rw [← n3, ← fs, List.length_map]

/-- A row of files, read off its cells. -/
theorem ownFl_of {w : World} {B g c : Nat} {cur : Array Value} {ys : List (Fl × FlLay)} (hg : B ≤ g) (hr : RW 50 w g cur) (hn : ys.length ≤ c) (hm : c ≤ maxLen) (hs : cur.size = c * 4) (hc : ∀ (j : Nat) (p : Fl × FlLay), ys[j]? = some p → ∀ (q : Nat) (v : Value), (p.1.vs p.2)[q]? = some v → cur[j * 4 + q]? = some v) :
    OwnFl w B (.slice (some ⟨g, 0, none⟩) ys.length c) ys := by
  refine ⟨cellsFl_length ys, .inr ⟨g, c, cur, rfl, hg, hr, hn, hm, hs, ?_⟩⟩
  apply List.ext_getElem?
  intro k
  rw [List.getElem?_take]
  by_cases hk : k < ys.length * 4
  · rw [if_pos hk, Array.getElem?_toList]
    obtain ⟨i, q, hi, hq, e⟩ : ∃ i q, i < ys.length ∧ q < 4 ∧ k = i * 4 + q := ⟨k / 4, k % 4, by omega, Nat.mod_lt _ (by omega), by omega⟩
    subst e
    have hpi := List.getElem?_eq_getElem hi
    obtain ⟨v, hv⟩ : ∃ v, ((ys[i]).1.vs (ys[i]).2)[q]? = some v := ⟨_, List.getElem?_eq_getElem (show q < ((ys[i]).1.vs (ys[i]).2).length from hq)⟩
    rw [hc i _ hpi q v hv, cellsFl_at hpi hv]
  · rw [if_neg hk, List.getElem?_eq_none]
    rw [cellsFl_length]
    omega
/-- A file of the row is stored anew. -/
theorem FlsO.put {B g c j : Nat} {w w' : World} {zs : List (Fl × FlLay)} {y y' : Fl} {ly ly' : FlLay} (h : FlsO B w (.slice (some ⟨g, 0, none⟩) zs.length c) zs) (hj : zs[j]? = some (y, ly)) (hT : Turn (AtB ly.A1) w w') (ho : OwnS w' B ly'.A1 ly'.n1 ly'.c1 y'.lines_) (hy : y'.name_.size ≤ maxLen) (hA : ∀ b, AtB ly'.A1 b → AtB ly.A1 b ∨ w.heap.size ≤ b)
    (w'' : World) (hw : ∀ i, i ≠ g → w''.heap[i]? = w'.heap[i]?) (hr : ∀ cs, RW 50 w' g cs → ∃ cs', RW 50 w'' g cs' ∧ cs'.size = cs.size ∧ (∀ i, i < j * 4 ∨ j * 4 + 4 ≤ i → cs'[i]? = cs[i]?) ∧ ∀ q v, cs.size ≥ j * 4 + 4 → (∀ q v, (y.vs ly)[q]? = some v → cs[j * 4 + q]? = some v) → (y'.vs ly')[q]? = some v → cs'[j * 4 + q]? = some v) :
    FlsO B w'' (.slice (some ⟨g, 0, none⟩) (zs.set j (y', ly')).length c) (zs.set j (y', ly')) := by
  have hjl : j < zs.length := (List.getElem?_eq_some_iff.1 hj).1
  have hlen : (zs.set j (y', ly')).length = zs.length := by rw [List.length_set]
  rcases h.own.2 with ⟨_, h0⟩ | ⟨g', cap, cur, e, hg, hh, hnc, hcm, hcs, ht⟩
  · omega
  obtain ⟨g2, c2, cur2, e2, _, hr2, _, hcell⟩ := ownFl_row h.own (by omega)
  simp only [Value.slice.injEq, Option.some.injEq, Addr.mk.injEq, and_true, true_and] at e e2
  obtain ⟨rfl, rfl⟩ := e
  obtain ⟨rfl, _⟩ := e2
  have hcur : cur = cur2 := (RW.same (T := 50) (T' := 50) hh hr2).2
  subst hcur
  have hgl : g < w.heap.size := RW.lt (T := 50) hh
  have hoy := (h.el j _ hj).1
  have hng : ∀ b, AtB ly.A1 b → b ≠ g := fun b hb e => by
    subst e
    obtain ⟨_, cs', hr'⟩ := hoy.row hb
    exact str_Fl (RW.same hr' hr2).1
  have hrw' : RW 50 w' g cur := (hT.2.2.2.2 g hgl fun hs => hng g hs rfl).trans hh
  obtain ⟨cs', hr', hsz, hold, hnew⟩ := hr cur hrw'
  have h4 : j * 4 + 4 ≤ cur.size := by
    have : (j + 1) * 4 ≤ c * 4 := Nat.mul_le_mul_right _ (by omega)
    omega
  have hkeep : ∀ {A : Option Addr} {n c : Nat} {xs : List St}, OwnS w B A n c xs → (∀ b, AtB A b → ¬ AtB ly.A1 b) → OwnS w'' B A n c xs := fun {A n c xs} ho hd => ho.keepB fun b hb => by
    obtain ⟨_, cs2, hrs⟩ := ho.row hb
    have hne : b ≠ g := fun e => by
      subst e
      exact str_Fl (RW.same hrs hr2).1
    rw [hw b hne]
    exact hT.2.2.2.2 b hrs.lt (hd b hb)
  refine ⟨?_, fun i p hp => ?_, fun i i' p q hp hq hii b hb hb' => ?_⟩
  · refine ownFl_of hg hr' (by rw [hlen]; exact hnc) hcm (by rw [hsz]; exact hcs) fun i p hp q v hv => ?_
    by_cases hij : i = j
    · subst hij
      rw [List.getElem?_set_self hjl] at hp
      cases hp
      exact hnew q v h4 (fun q v hv => hcell i _ hj q v hv) hv
    · rw [List.getElem?_set_ne (fun e => hij e.symm)] at hp
      have hq : q < 4 := (List.getElem?_eq_some_iff.1 hv).1
      rw [hold _ (by omega)]
      exact hcell i p hp q v hv
  · by_cases hij : i = j
    · subst hij
      rw [List.getElem?_set_self hjl] at hp
      cases hp
      refine ⟨ho.keepB fun b hb => hw b fun e => ?_, hy⟩
      subst e
      obtain ⟨_, cs2, hrs⟩ := ho.row hb
      exact str_Fl (RW.same hrs hrw').1
    · rw [List.getElem?_set_ne (fun e => hij e.symm)] at hp
      exact ⟨hkeep (h.el i p hp).1 fun b hb => h.ap i j p _ hp hj hij b hb, (h.el i p hp).2⟩
  · have key : ∀ {i : Nat} {p : Fl × FlLay}, i ≠ j → zs[i]? = some p → AtB p.2.A1 b → ¬ AtB ly'.A1 b := fun {i p} hij hp hb hb' => by
      rcases hA b hb' with h1 | h1
      · exact h.ap i j p _ hp hj hij b hb h1
      · have := (h.el i p hp).1.lt hb
        omega
    by_cases hij : i = j
    · subst hij
      rw [List.getElem?_set_self hjl] at hp
      cases hp
      rw [List.getElem?_set_ne hii] at hq
      exact key (fun e => hii e.symm) hq hb' hb
    · rw [List.getElem?_set_ne (fun e => hij e.symm)] at hp
      by_cases hij' : i' = j
      · subst hij'
        rw [List.getElem?_set_self hjl] at hq
        cases hq
        exact key hij hp hb hb'
      · rw [List.getElem?_set_ne (fun e => hij' e.symm)] at hq
        exact h.ap i i' p q hp hq hii b hb hb'
end Go.Proofs.YtlohjmlenbkbmaaDoor

namespace Go.Proofs.YtlohjmlenbkbmaaDoor
open Go Go.RowKit

/-- What a copy is. -/
def CopyO (xs : List St) (n : Nat) (W : World) (e : Ending) (w' : World) : Prop := ∃ A' c', e = .returned (.slice A' n c') ∧ n ≤ c' ∧ Hid (OwnS w' W.heap.size A' n c' xs ∧ Below W.heap.size W w')
theorem own_copyO {w W : World} {n : Nat} {v : Value} {xs : List St} (h : w.ownsRow W.heap.size 9 1 v n (valsSt xs)) (hs : ∀ (j : Nat) (x : St), xs[j]? = some x → ByteArray.size x ≤ maxLen) (hb : Below W.heap.size W w) : CopyO xs n W (.returned v) w := by
  obtain ⟨A, c, e, hc, hi⟩ := own_StI h hs
  subst e
  exact ⟨A, c, rfl, hc, Lib.hid ⟨⟨h, hs⟩, hb⟩⟩
theorem stI_sz {w : World} {B n : Nat} {A : Option Addr} {xs : List St} (hr : StI w B A n xs) : ∀ (j : Nat) (x : St), xs[j]? = some x → ByteArray.size x ≤ maxLen := fun j x hx => by
  have hj : j < n := by have := (List.getElem?_eq_some_iff.1 hx).1; have := hr.1; omega
  obtain ⟨b, off, e, hg, hc⟩ := hr.2.2 (by omega)
  exact (hc j x hx).2

set_option maxHeartbeats 1000000 in
set_option maxRecDepth 100000 in
theorem copyOfO_any (A : Option Addr) (n c : Nat) (xs : List St) (W : World) (hr : StI W W.heap.size A n xs) (hn : n ≤ 1048576) :
    Calls Tryd.prog 83 #[.slice A n c] W (CopyO xs n W) := by
  obtain ⟨i0, hi0, hz0, hz1, hz2⟩ := info_parts infoStr
  have HR := Lib.hid hr
  have HL : Hid (xs.length = n) := hr.1
  have HS := Lib.hid (stI_sz hr)
  clear hr
  go_enter Tryd.func83, Tryd.ntmps83
  go_wp2_with (at_builtin; refine wpList_append_src _ rfl _ _ 22 rfl W.heap.size 9 i0 (.string ⟨#[]⟩) 1 16 Tryd.underlying22 hi0 hz0 hz1 hz2 rfl (by decide) (.slice none 0 0) 0 [] rfl (World.ownsRow_nil _ _ _ _) A n c (valsSt xs) rfl (by rw [valsSt_len]; have := HL.out; omega) (StI.src HR.out) (valsSt_one _) (by unfold maxLen; omega) (by omega) (Nat.le_refl _) ?_; intro v2 w2 hown hgr; rw [Nat.zero_add, List.nil_append] at hown; have HO := Lib.hid hown; have HB : Hid (Below W.heap.size W w2) := (Below.refl _ _).grown hgr (Nat.le_refl _) (fun b hb => by cases hb); clear hown hgr)
  go_ret
  exact own_copyO HO.out HS.out HB.out

set_option maxHeartbeats 1000000 in
set_option maxRecDepth 100000 in
theorem l21TextsO_any (A : Option Addr) (n c : Nat) (xs : List St) (W : World) (hr : StI W W.heap.size A n xs) (hn : n ≤ 1048576) :
    Calls Tryd.prog 65 #[.slice A n c] W (CopyO xs n W) := by
  obtain ⟨i0, hi0, hz0, hz1, hz2⟩ := info_parts infoStr
  have HR := Lib.hid hr
  have HL : Hid (xs.length = n) := hr.1
  have HS := Lib.hid (stI_sz hr)
  have HB0 := Lib.hid (fun cs => below_alloc W (.cells cs 9))
  clear hr
  go_enter Tryd.func65, Tryd.ntmps65
  go_wp2_with (at_builtin; refine wpList_append_src _ rfl _ _ 22 rfl W.heap.size 9 i0 (.string ⟨#[]⟩) 1 16 Tryd.underlying22 hi0 hz0 hz1 hz2 rfl (by decide) (.slice (some ⟨W.heap.size, 0, none⟩) 0 0) 0 [] rfl (World.ownsRow_lit W #[] 0 (Nat.le_refl _) (by decide) rfl) A n c (valsSt xs) rfl (by rw [valsSt_len]; have := HL.out; omega) (StI.src (HR.out.below (HB0.out _))) (valsSt_one _) (by unfold maxLen; omega) (by omega) (HB0.out _).size ?_; intro v2 w2 hown hgr; rw [Nat.zero_add, List.nil_append] at hown; have HO := Lib.hid hown; have HB : Hid (Below W.heap.size W w2) := (HB0.out _).grown hgr (HB0.out _).size (fun b hb => by cases hb; exact Nat.le_refl _); clear hown hgr)
  go_ret
  exact own_copyO HO.out HS.out HB.out

theorem two_newT (W : World) (T : TypeId) (c c' : Array Value) (X : World) (e : X = (W.alloc (.cells c T)).alloc (.cells c' T)) : RW T X W.heap.size c ∧ RW T X (W.heap.size + 1) c' ∧ Below W.heap.size W X ∧ X.heap.size = W.heap.size + 2 := two_new W T c c' X e
theorem OwnS.low {w : World} {B n c g i : Nat} {A : Option Addr} {xs : List St} (h : OwnS w B A n c xs) (hg : g < B) (v : Value) : OwnS (w.setCell ⟨g, i, none⟩ v) B A n c xs := h.keepB fun b hb => by
  have h1 := (h.row hb).1
  exact Below.heap_setCell w ⟨g, i, none⟩ v b (show b ≠ g by omega)
/-- What File.clone answers. -/
def CloneF (x : Fl) (n : Nat) (W : World) (e : Ending) (w' : World) : Prop := ∃ l' : FlLay, e = .returned (.agg #[.string x.name_, .slice l'.A1 n l'.c1, .int .i64 x.mode_, .int .i64 x.at_]) ∧ l'.n1 = n ∧ Hid (OwnS w' W.heap.size l'.A1 l'.n1 l'.c1 x.lines_ ∧ Below W.heap.size W w')
set_option maxHeartbeats 1000000 in
set_option maxRecDepth 100000 in
theorem cloneFl_any (x : Fl) (l : FlLay) (W : World) (hv : FlV W W.heap.size x l) (hn : l.n1 ≤ 1048576) :
    Calls Tryd.prog 106 #[x.ag l] W (CloneF x l.n1 W) := by
  obtain ⟨x0, x1, x2, x3⟩ := x
  obtain ⟨A1, n1, c1, h1⟩ := l
  obtain ⟨hv, hx⟩ := hv
  dsimp only at hv hx hn
  have HV := Lib.hid hv
  have HC := Lib.hid (two_newT W 50 #[.string x0, .slice A1 n1 c1, .int .i64 x2, .int .i64 x3] #[.string ⟨#[]⟩, .slice none 0 0, .int .i64 0, .int .i64 0])
  clear hv
  show Calls Tryd.prog 106 #[.agg #[.string x0, .slice A1 n1 c1, .int .i64 x2, .int .i64 x3]] W _
  go_enter Tryd.func106, Tryd.ntmps106
  go_wp2_with (go_at_call 83; obtain ⟨g0, g1, g2, g3⟩ := HC.out _ rfl; refine (copyOfO_any A1 n1 c1 x1 _ (HV.out.go g2) hn).mono ?_; rintro e w1 ⟨A1m, c1m, rfl, hc1m, h⟩; obtain ⟨hi, hb⟩ := h.out; have HC1 := Lib.hid hc1m; have HI1 : Hid (OwnS w1 (W.heap.size + 2) A1m n1 c1m x1) := (by rw [← g3]; exact hi); have HB1 := Lib.hid (g2.trans (hb.mono g2.size)); have HR1 := Lib.hid (g0.below hb g0.lt); have HO1 := Lib.hid (g1.below hb g1.lt); have z1 : w1.cell? ⟨W.heap.size, 1, none⟩ = some (.slice A1 n1 c1) := HR1.out.cell 1; have f1 := HR1.out.frozen 1; have z0 := HR1.out.cell 0; have z2 := HR1.out.cell 2; have z3 := HR1.out.cell 3; have y0 := HO1.out.cell 0; have y1 := HO1.out.cell 1; have y2 := HO1.out.cell 2; have y3 := HO1.out.cell 3; have e0 := HO1.out.frozen 0; have e1 := HO1.out.frozen 1; have e2 := HO1.out.frozen 2; have e3 := HO1.out.frozen 3; clear g0 g1 g2 g3 h hi hb hc1m)
  refine bodyPost_ret (v := .agg #[.string x0, .slice A1m n1 c1m, .int .i64 x2, .int .i64 x3]) (results_cell_row Tryd.results106 _ _ (W.heap.size + 1) 50 _ (0, 0) _ rfl (((((HO1.out.other (p := ⟨W.heap.size, 1, none⟩) (by simp) _).set_ 0 _).set_ 1 _).set_ 2 _).set_ 3 _) Tryd.underlying50 rfl (by kernel_rfl)) rfl ?_
  exact ⟨⟨A1m, n1, c1m, HC1.out⟩, rfl, rfl, Lib.hid ⟨(((((HI1.out.low (by omega) _).low (by omega) _).low (by omega) _).low (by omega) _).low (by omega) _).lower (by omega), ((((HB1.out.setCell (p := ⟨W.heap.size, 1, none⟩) (Nat.le_refl _) _).setCell (p := ⟨W.heap.size + 1, 0, none⟩) (by simp) _).setCell (p := ⟨W.heap.size + 1, 1, none⟩) (by simp) _).setCell (p := ⟨W.heap.size + 1, 2, none⟩) (by simp) _).setCell (p := ⟨W.heap.size + 1, 3, none⟩) (by simp) _⟩⟩

theorem method_cloneFl (v0 v1 v2 v3 : Value) (w : World) : (method 227 50 (.agg #[v0, v1, v2, v3]) "loop.example/g00873/impl.clone").run Tryd.prog w = .ok (106, .agg #[v0, v1, v2, v3]) w := by kernel_rfl
theorem cell_four_newF (w : World) (x0 x1 x2 x3 : Value) (t : TypeId) : ∀ j u, [x0, x1, x2, x3][j]? = some u → (w.alloc (.cells #[x0, x1, x2, x3] t)).cell? ((⟨w.heap.size, 0, none⟩ : Addr).add j) = some u := by
  intro j u hj
  have hc := cell_of_row (w.alloc (.cells #[x0, x1, x2, x3] t)) w.heap.size j #[x0, x1, x2, x3] t (0, 0) (heap_alloc_new w _)
  have ha : (⟨w.heap.size, 0, none⟩ : Addr).add j = ⟨w.heap.size, j, none⟩ := by unfold Addr.add; split <;> simp_all
  rw [ha, hc]
  rw [← hj]
  simp
theorem ownFl_form2 {w : World} {B n : Nat} {v : Value} {ys : List (Fl × FlLay)} (h : w.ownsRow B 50 4 v n (cellsFl ys)) : ∃ A c, v = .slice A n c := by
  rcases h.2 with ⟨rfl, h0⟩ | ⟨g, cap, cur, rfl, _⟩
  · exact ⟨none, 0, by rw [h0]⟩
  · exact ⟨_, _, rfl⟩
theorem ownFl_grown {w w1 w' : World} {B : Nat} {v : Value} {ys : List (Fl × FlLay)} (h : OwnFl w B v ys) (hB : B ≤ w1.heap.size) (hb : Below B w w1) (hg : w1.grownBy w' v.ownBlock) : Below B w w' := hb.grown hg hB fun b hb => own_ge h b hb
/-- What the list's clone answers. -/
def CloneFS (xs : List Fl) (n : Nat) (W : World) (e : Ending) (w' : World) : Prop := ∃ A' c' zs, e = .returned (.slice A' n c') ∧ Hid (FlsO W.heap.size w' (.slice A' n c') zs ∧ zs.map Prod.fst = xs ∧ Below W.heap.size W w')
set_option maxHeartbeats 4000000 in
set_option maxRecDepth 100000 in
theorem cloneFls_any (A : Option Addr) (n c : Nat) (xs : List Fl) (W : World) (hI : FlI W W.heap.size A n xs) (hn : n ≤ 1048576) (hF : ∀ (j : Nat) (y : Fl), xs[j]? = some y → y.lines_.length ≤ 1048576) :
    Calls Tryd.prog 84 #[.slice A n c] W (CloneFS xs n W) := by
  obtain ⟨i0, hi0, hz0, hz1, hz2⟩ := info_parts infoFl
  have HII := Lib.hid (And.intro hi0 (And.intro hz0 (And.intro hz1 hz2)))
  have HI := Lib.hid hI
  have HL : Hid (xs.length = n) := hI.1
  have HFF := Lib.hid hF
  have HN := Lib.hid hn
  clear hI hF hn hi0 hz0 hz1 hz2
  go_enter Tryd.func84, Tryd.ntmps84
  go_wp2_with fail
  go_loopw [3, 8] (fun v i wr => ∃ (k : Nat) (zs : List (Fl × FlLay)), k ≤ n ∧ i = .int .i64 k ∧ Hid (FlsO W.heap.size wr v zs ∧ zs.length = k ∧ zs.map Prod.fst = xs.take k ∧ Below W.heap.size W wr)) (fun _ i _ => n - (intOf i).toNat)
  case atStart => exact ⟨0, [], Nat.zero_le _, rfl, FlsO.nil _ _, rfl, rfl, Below.refl _ _⟩
  case round =>
    obtain ⟨k, zs, hk, rfl, HQ⟩ := hrel
    by_cases hlt : k < n
    · have b0 : (0 : Int) ≤ (k : Int) := by omega
      have b1 : (k : Int) < (n : Int) := by omega
      obtain ⟨b, off, x, l, rfl, hg, hx, ⟨q0, q1, q2, q3⟩, hv⟩ := (HI.out.go HQ.out.2.2.2).at_ hlt
      have HX := Lib.hid hx
      have HV := Lib.hid hv
      have HKL := Lib.hid hlt
      have HLN : Hid (l.n1 ≤ 1048576) := by
        have h1 : x.lines_.length = l.n1 := hv.1.1
        have h2 := HFF.out k x hx
        show _ ≤ _
        omega
      have hkb : k < 1048576 := by have := HN.out; omega
      have HC := Lib.hid (fun X (e : X = wr.alloc (.cells #[.string x.name_, .slice l.A1 l.n1 l.c1, .int .i64 x.mode_, .int .i64 x.at_] 50)) => (show RW 50 X wr.heap.size #[.string x.name_, .slice l.A1 l.n1 l.c1, .int .i64 x.mode_, .int .i64 x.at_] ∧ Below wr.heap.size wr X from by subst e; exact ⟨RW.new _ _ _, below_alloc _ _⟩))
      have hm := method_cloneFl (.string x.name_) (.slice l.A1 l.n1 l.c1) (.int .i64 x.mode_) (.int .i64 x.at_)
      clear hx hv hg
      go_wp2_with (first
        | (go_at_call 106; obtain ⟨g0, g1⟩ := HC.out _ rfl; refine (cloneFl_any x l _ (HV.out.go g1) HLN.out).mono ?_; rintro e w2 ⟨l', rfl, hl', h⟩; obtain ⟨ho, hb⟩ := h.out; have HO2 : Hid (OwnS w2 wr.heap.size l'.A1 l'.n1 l'.c1 x.lines_) := ho.lower g1.size; have HB2 : Hid (Below wr.heap.size wr w2) := g1.trans (hb.mono g1.size); have HL' := Lib.hid hl'; clear g0 g1 h ho hb hl' q0 q1 q2 q3)
        | (at_builtin; refine wpList_append_own_at _ rfl _ _ 75 rfl W.heap.size 50 i0 (.agg #[.string ⟨#[]⟩, .slice none 0 0, .int .i64 0, .int .i64 0]) 4 56 Tryd.underlying75 HII.out.1 HII.out.2.1 HII.out.2.2.1 HII.out.2.2.2 rfl (by decide) _ _ _ rfl ((ownFl_keep HQ.out.1.own HB2.out).alloc _) ⟨w2.heap.size, 0, none⟩ 1 1 [.string x.name_, .slice l'.A1 l.n1 l'.c1, .int .i64 x.mode_, .int .i64 x.at_] rfl rfl (cell_four_newF _ _ _ _ _ _) (fun x hx => by simp at hx; rcases hx with rfl | rfl | rfl | rfl <;> rfl) (by have := HQ.out.2.1; have := HN.out; unfold maxLen; omega) (by have := HQ.out.2.1; have := HN.out; omega) (by have := HQ.out.2.2.2.size; have := HB2.out.size; simp; omega) ?_; intro v1 w1 hown1 hgr1 _ hor))
      have hmap : (zs ++ [(x, l')]).map Prod.fst = xs.take (k + 1) := by
        rw [List.map_append, HQ.out.2.2.1, List.take_add_one, HX.out]
        rfl
      have hB1 : Below W.heap.size W (w2.alloc (.cells #[.string x.name_, .slice l'.A1 l.n1 l'.c1, .int .i64 x.mode_, .int .i64 x.at_] 50)) := (HQ.out.2.2.2.trans (HB2.out.mono HQ.out.2.2.2.size)).trans ((below_alloc w2 _).mono (Nat.le_trans HQ.out.2.2.2.size HB2.out.size))
      have hown2 : w1.ownsRow W.heap.size 50 4 v1 (zs.length + 1) (cellsFl zs ++ x.vs l') := by
        have h := hown1
        rw [← HL'.out] at h
        exact h
      go_roundw
      case rel => exact ⟨k + 1, zs ++ [(x, l')], HKL.out, by go_num, Lib.hid ⟨FlsO.snoc HQ.out.1 (HB2.out.trans ((below_alloc w2 _).mono HB2.out.size)) (HO2.out.keep (below_alloc _ _)) HV.out.2 HQ.out.2.2.2.size rfl hown2 hgr1, by rw [List.length_append, HQ.out.2.1]; rfl, hmap, hB1.grown hgr1 hB1.size fun b hb => own_ge HQ.out.1.own b hb⟩⟩
      case measure => have := HKL.out; simp [intOf]; omega
    · have HKN : Hid (k = n) := by show _ = _; omega
      obtain ⟨A', c', rfl, hc⟩ := ownFl_form HQ.out.1.own
      have hzn : zs.length = n := by rw [HQ.out.2.1, HKN.out]
      rw [hzn] at HQ
      clear hc
      go_wp2_with fail
      go_ret
      refine ⟨A', c', zs, by rw [hzn]; rfl, Lib.hid ⟨HQ.out.1, ?_, HQ.out.2.2.2⟩⟩
      rw [HQ.out.2.2.1, HKN.out, ← HL.out, List.take_length]
end Go.Proofs.YtlohjmlenbkbmaaDoor

namespace Go.Proofs.YtlohjmlenbkbmaaDoor
open Go Go.RowKit

/-- The first k elements are what a valid list has. -/
def UpOk {α : Type} (ok : α → Bool) (nm : α → ByteArray) (xs : List α) (k : Nat) : Prop := ∀ (i : Nat) (x : α), i < k → xs[i]? = some x → ok x = true ∧ ∀ y, 0 < i → xs[i - 1]? = some y → Op.bytesLess (nm y).toList (nm x).toList = true
def ListOk {α : Type} (ok : α → Bool) (nm : α → ByteArray) (lim : Nat) (xs : List α) : Prop := xs.length ≤ lim ∧ UpOk ok nm xs xs.length
theorem UpOk.zero {α : Type} {ok : α → Bool} {nm : α → ByteArray} {xs : List α} : UpOk ok nm xs 0 := fun i x h => absurd h (by omega)
theorem UpOk.first {α : Type} {ok : α → Bool} {nm : α → ByteArray} {xs : List α} {x : α} (hx : xs[0]? = some x) (h : ok x = true) : UpOk ok nm xs (0 + 1) := by
  intro i u hi hu
  obtain rfl : i = 0 := by omega
  rw [hx, Option.some.injEq] at hu
  subst hu
  exact ⟨h, fun y h0 => absurd h0 (by omega)⟩
theorem UpOk.next {α : Type} {ok : α → Bool} {nm : α → ByteArray} {xs : List α} {k : Nat} {x y : α} (h : UpOk ok nm xs k) (hx : xs[k]? = some x) (hok : ok x = true) (hy : xs[k - 1]? = some y) (hl : Op.bytesLess (nm y).toList (nm x).toList = true) : UpOk ok nm xs (k + 1) := by
  intro i u hi hu
  by_cases e : i = k
  · subst e
    rw [hx, Option.some.injEq] at hu
    subst hu
    refine ⟨hok, fun z h0 hz => ?_⟩
    rw [hy, Option.some.injEq] at hz
    subst hz
    exact hl
  · exact h i u (by omega) hu
theorem not_ok {α : Type} {ok : α → Bool} {nm : α → ByteArray} {lim : Nat} {xs : List α} {k : Nat} {x : α} (hx : xs[k]? = some x) (hok : ok x = false) : ¬ ListOk ok nm lim xs := fun h => by
  have := (h.2 k x (List.getElem?_eq_some_iff.1 hx).1 hx).1
  rw [hok] at this
  cases this
theorem not_up {α : Type} {ok : α → Bool} {nm : α → ByteArray} {lim : Nat} {xs : List α} {k : Nat} {x y : α} (hk : 0 < k) (hx : xs[k]? = some x) (hy : xs[k - 1]? = some y) (hl : Op.bytesLess (nm y).toList (nm x).toList = false) : ¬ ListOk ok nm lim xs := fun h => by
  have := (h.2 k x (List.getElem?_eq_some_iff.1 hx).1 hx).2 y hk hy
  rw [hl] at this
  cases this
end Go.Proofs.YtlohjmlenbkbmaaDoor

namespace Go.Proofs.YtlohjmlenbkbmaaDoor
open Go Go.RowKit

theorem one_new1 (W : World) (T : TypeId) (c : Array Value) (X : World) (e : X = W.alloc (.cells c T)) : RW T X W.heap.size c ∧ Below W.heap.size W X ∧ W.heap.size < X.heap.size := by
  subst e
  exact ⟨RW.new _ _ _, below_alloc _ _, lt_alloc _ _⟩
/-- At most m lines of at most k bytes. -/
def linesB (xs : List St) (m k : Nat) : Bool := decide (xs.length ≤ m) && xs.all fun s => decide (s.size ≤ k)
theorem lines_long {xs : List St} {m k : Nat} (h : m < xs.length) : linesB xs m k = false := by
  unfold linesB
  rw [show decide (xs.length ≤ m) = false by simp; omega]
  rfl
theorem lines_all {xs : List St} {m k : Nat} (h : xs.length ≤ m) (ha : ∀ (j : Nat) (s : St), j < xs.length → xs[j]? = some s → s.size ≤ k) : linesB xs m k = true := by
  unfold linesB
  rw [show decide (xs.length ≤ m) = true by simp; omega, Bool.true_and, List.all_eq_true]
  intro s hs
  obtain ⟨j, hj⟩ := List.getElem?_of_mem hs
  exact decide_eq_true (ha j s (List.getElem?_eq_some_iff.1 hj).1 hj)
theorem lines_not {xs : List St} {m k j : Nat} {s : St} (hx : xs[j]? = some s) (h : k < s.size) : linesB xs m k = false := by
  unfold linesB
  rw [show (xs.all fun s => decide (s.size ≤ k)) = false from ?_, Bool.and_false]
  rw [Bool.eq_false_iff]
  intro ha
  have := of_decide_eq_true (List.all_eq_true.1 ha s (List.mem_of_getElem? hx))
  omega

set_option maxHeartbeats 1000000 in
set_option maxRecDepth 100000 in
theorem l21Lines_any (A : Option Addr) (n c m k : Nat) (xs : List St) (W : World) (hr : StI W W.heap.size A n xs) (hm : m ≤ 100000) (_ : k ≤ 100000) :
    Calls Tryd.prog 62 #[.slice A n c, .int .i64 m, .int .i64 k] W fun e w' => e = .returned (.bool (linesB xs m k)) ∧ W = w' := by
  have HR := Lib.hid hr
  have hl := hr.1
  have hnm := hr.2.1
  unfold maxLen at hnm
  clear hr
  by_cases hl1 : n ≤ m
  case neg =>
    rw [lines_long (by omega)]
    have d0 : decide ((n : Int) > (m : Int)) = true := by simp; omega
    have d1 : (m : Int) < (n : Int) := by omega
    go_enter Tryd.func62, Tryd.ntmps62
    go_wp2_with fail
    go_ret
    exact ⟨rfl, rfl⟩
  have HLL := Lib.hid hl
  have HLM := Lib.hid hl1
  obtain ⟨P, hP⟩ : ∃ P, linesB xs m k = P := ⟨_, rfl⟩
  have HP := Lib.hid hP
  rw [hP]
  clear hP hl
  have d1 : ¬ (m : Int) < (n : Int) := by omega
  clear hl1
  go_enter Tryd.func62, Tryd.ntmps62
  go_wp2_with fail
  go_loopw [7] (fun i wr => ∃ j : Nat, j ≤ n ∧ i = .int .i64 j ∧ Hid (wr = W) ∧ Hid (∀ (i : Nat) (y : St), i < j → xs[i]? = some y → y.size ≤ k)) (fun i _ => n - (intOf i).toNat)
  case atStart => exact ⟨0, Nat.zero_le _, rfl, rfl, Lib.hid (fun i y hi => absurd hi (by omega))⟩
  case round =>
    obtain ⟨j, hj, rfl, HW, HV⟩ := hrel
    by_cases hlt : j < n
    · have b0 : (0 : Int) ≤ (j : Int) := by omega
      have b1 : (j : Int) < (n : Int) := by omega
      obtain ⟨b, off, s, rfl, hg, hx, p0, hsz⟩ := HR.out.at_ hlt
      rw [← HW.out] at p0
      have HX := Lib.hid hx
      unfold maxLen at hsz
      clear hx hg
      by_cases hz : s.size ≤ k
      · have HZ := Lib.hid hz
        have e1 : ¬ (k : Int) < (s.size : Int) := by omega
        clear hz
        go_wp2_with fail
        go_roundw
        case rel =>
          refine ⟨j + 1, by omega, by go_num, HW, Lib.hid (fun i y hi hy => ?_)⟩
          by_cases e : i = j
          · subst e
            rw [HX.out, Option.some.injEq] at hy
            subst hy
            exact HZ.out
          · exact HV.out i y (by omega) hy
        case measure => simp [intOf]; omega
      · have HF : Hid (P = false) := by show _ = _; rw [← HP.out]; exact lines_not HX.out (by omega)
        have e1 : (k : Int) < (s.size : Int) := by omega
        clear hz
        go_wp2_with fail
        go_ret
        exact ⟨by rw [HF.out]; rfl, HW.out.symm⟩
    · have hjn : j = n := by omega
      have HT : Hid (P = true) := by
        show _ = _
        rw [← HP.out]
        exact lines_all (by rw [HLL.out]; exact HLM.out) fun i y hi hy => HV.out i y (by have := HLL.out; omega) hy
      clear hjn
      go_wp2_with fail
      go_ret
      exact ⟨by rw [HT.out]; rfl, HW.out.symm⟩

set_option maxHeartbeats 1000000 in
theorem tooLong_any (s : ByteArray) (g k : Nat) (W : World) (hg : W.cell? ⟨g, 0, none⟩ = some (.int .i64 k)) (hs : s.size ≤ maxLen) (_ : k ≤ 100000) :
    Calls Tryd.prog 90 #[.string s, .pointer (some ⟨g, 0, none⟩)] W fun e w' => e = .returned (.bool (decide (k < s.size))) ∧ W = w' := by
  have := hs; unfold maxLen at this
  by_cases h : k < s.size
  · rw [show decide (k < s.size) = true from decide_eq_true h]
    have h1 : (k : Int) < (s.size : Int) := by omega
    clear h
    go_enter Tryd.func90, Tryd.ntmps90
    go_wp2_with fail
    go_ret
    exact ⟨rfl, rfl⟩
  · rw [show decide (k < s.size) = false from decide_eq_false h]
    have h1 : ¬ (k : Int) < (s.size : Int) := by omega
    clear h
    go_enter Tryd.func90, Tryd.ntmps90
    go_wp2_with fail
    go_ret
    exact ⟨rfl, rfl⟩

set_option maxHeartbeats 1000000 in
set_option maxRecDepth 100000 in
/-- The first line that is too long. -/
theorem firstLong_any (A : Option Addr) (n c g k : Nat) (xs : List St) (W : World) (hr : StI W W.heap.size A n xs) (hg : W.cell? ⟨g, 0, none⟩ = some (.int .i64 k)) (hk : k ≤ 100000) :
    Calls Tryd.prog 89 #[.slice A n c, .func (.func 90) #[] #[.pointer (some ⟨g, 0, none⟩)]] W fun e w' => ∃ i : Int, e = .returned (.int .i64 i) ∧ Hid (((0 ≤ i ∧ ∃ (j : Nat) (s : St), xs[j]? = some s ∧ k < s.size) ∨ (i = -1 ∧ ∀ (j : Nat) (s : St), j < n → xs[j]? = some s → s.size ≤ k)) ∧ W = w') := by
  have HR := Lib.hid hr
  have hl := hr.1
  have hnm := hr.2.1
  unfold maxLen at hnm
  have HC := Lib.hid hg
  clear hr hg hl
  go_enter Tryd.func89, Tryd.ntmps89
  go_wp2_with fail
  go_loopw [9] (fun i wr => ∃ j : Nat, j ≤ n ∧ i = .int .i64 j ∧ Hid (wr = W) ∧ Hid (∀ (i : Nat) (y : St), i < j → xs[i]? = some y → y.size ≤ k)) (fun i _ => n - (intOf i).toNat)
  case atStart => exact ⟨0, Nat.zero_le _, rfl, rfl, Lib.hid (fun i y hi => absurd hi (by omega))⟩
  case round =>
    obtain ⟨j, hj, rfl, HW, HV⟩ := hrel
    by_cases hlt : j < n
    · have b0 : (0 : Int) ≤ (j : Int) := by omega
      have b1 : (j : Int) < (n : Int) := by omega
      obtain ⟨b, off, s, rfl, hg, hx, p0, hsz⟩ := HR.out.at_ hlt
      rw [← HW.out] at p0
      have HX := Lib.hid hx
      have HQ := Lib.hid (tooLong_any s g k wr (by rw [HW.out]; exact HC.out) hsz hk)
      obtain ⟨z, hz⟩ : ∃ z, decide (k < s.size) = z := ⟨_, rfl⟩
      rw [hz] at HQ
      have HZ := Lib.hid hz
      clear hx hg hz hsz
      cases z
      · go_wp2_with (go_at_call 90; refine Calls.mono HQ.out ?_; rintro e w2 ⟨rfl, rfl⟩)
        go_roundw
        case rel =>
          refine ⟨j + 1, by omega, by go_num, HW, Lib.hid (fun i y hi hy => ?_)⟩
          by_cases e : i = j
          · subst e
            rw [HX.out, Option.some.injEq] at hy
            subst hy
            have := of_decide_eq_false HZ.out
            omega
          · exact HV.out i y (by omega) hy
        case measure => simp [intOf]; omega
      · go_wp2_with (go_at_call 90; refine Calls.mono HQ.out ?_; rintro e w2 ⟨rfl, rfl⟩)
        go_ret
        exact ⟨_, rfl, Lib.hid ⟨.inl ⟨b0, j, s, HX.out, of_decide_eq_true HZ.out⟩, HW.out.symm⟩⟩
    · have hjn : j = n := by omega
      have HAA : Hid (∀ (i : Nat) (s : St), i < n → xs[i]? = some s → s.size ≤ k) := fun i s hi hs => HV.out i s (by omega) hs
      clear hjn
      go_wp2_with fail
      go_ret
      exact ⟨_, rfl, Lib.hid ⟨.inr ⟨rfl, HAA.out⟩, HW.out.symm⟩⟩

set_option maxHeartbeats 1000000 in
set_option maxRecDepth 100000 in
theorem areLines_any (A : Option Addr) (n c m k : Nat) (xs : List St) (W : World) (hr : StI W W.heap.size A n xs) (_ : m ≤ 100000) (hk : k ≤ 100000) :
    Calls Tryd.prog 81 #[.slice A n c, .int .i64 m, .int .i64 k] W fun e w' => e = .returned (.bool (linesB xs m k)) ∧ Below W.heap.size W w' := by
  have hl := hr.1
  have hnm := hr.2.1
  unfold maxLen at hnm
  by_cases hl1 : n ≤ m
  case neg =>
    rw [lines_long (by omega)]
    have d1 : ¬ (n : Int) ≤ (m : Int) := by omega
    clear hr hl hl1
    go_enter Tryd.func81, Tryd.ntmps81
    go_wp2_with fail
    go_ret
    exact ⟨rfl, below_alloc _ _⟩
  have d1 : (n : Int) ≤ (m : Int) := by omega
  have HL := Lib.hid hl
  have HLM := Lib.hid hl1
  have HQ := Lib.hid (fun X (e : X = W.alloc (.cells #[.int .i64 k] 3)) => (show Calls Tryd.prog 89 #[.slice A n c, .func (.func 90) #[] #[.pointer (some ⟨W.heap.size, 0, none⟩)]] X _ from firstLong_any A n c W.heap.size k xs X (by rw [e]; exact hr.go (below_alloc _ _)) ((one_new1 W 3 #[.int .i64 k] X e).1.cell 0) hk))
  clear hr hl hl1
  go_enter Tryd.func81, Tryd.ntmps81
  go_wp2_with (go_at_call 89; refine Calls.mono (HQ.out _ rfl) ?_; clear HQ; rintro e w2 ⟨i, rfl, h⟩; obtain ⟨hi, rfl⟩ := h.out; clear h; have HI := Lib.hid hi; clear hi)
  rcases HI.out with ⟨h0, j, s, hx, hs⟩ | ⟨rfl, ha⟩
  · rw [lines_not hx hs]
    have e1 : decide (i < 0) = false := by simp; omega
    have e2 : ¬ i < 0 := by omega
    clear HI hx hs
    go_wp2_with fail
    go_ret
    exact ⟨rfl, below_alloc _ _⟩
  · rw [lines_all (by have := HL.out; have := HLM.out; omega) fun j s hj hx => ha j s (by have := HL.out; omega) hx]
    clear HI ha
    go_wp2_with fail
    go_ret
    exact ⟨rfl, below_alloc _ _⟩
end Go.Proofs.YtlohjmlenbkbmaaDoor

namespace Go.Proofs.YtlohjmlenbkbmaaDoor
open Go Go.RowKit Go.Sort

theorem within_i64 (x lo hi : Int) (W : World) :
    Calls Tryd.prog 39 #[.int .i64 x, .int .i64 lo, .int .i64 hi] W fun e w' => e = .returned (.bool (decide (lo ≤ x ∧ x ≤ hi))) ∧ W = w' := by
  by_cases h0 : lo ≤ x
  · have d0 : decide (lo ≤ x) = true := by simp [h0]
    by_cases h1 : x ≤ hi
    · have d1 : decide (x ≤ hi) = true := by simp [h1]
      have e : decide (lo ≤ x ∧ x ≤ hi) = true := by simp [h0, h1]
      rw [e]
      go_enter Tryd.func39, Tryd.ntmps39
      go_wp2
      all_goals go_ret
      all_goals exact ⟨rfl, rfl⟩
    · have d1 : decide (x ≤ hi) = false := by simp; omega
      have e : decide (lo ≤ x ∧ x ≤ hi) = false := by simp; omega
      rw [e]
      go_enter Tryd.func39, Tryd.ntmps39
      go_wp2
      all_goals go_ret
      all_goals exact ⟨rfl, rfl⟩
  · have d0 : decide (lo ≤ x) = false := by simp; omega
    have e : decide (lo ≤ x ∧ x ≤ hi) = false := by simp; omega
    rw [e]
    go_enter Tryd.func39, Tryd.ntmps39
    go_wp2
    all_goals go_ret
    all_goals exact ⟨rfl, rfl⟩

theorem same_regrown {f : FuncId} {args : Array Value} {w : World} {d : Nat} {os : Array Obj} {b b' : Bool} (h : Calls Tryd.prog f args (grow (redrawn w d) os) fun e w' => e = .returned (.bool b) ∧ grow (redrawn w d) os = w') (hb : b = b') :
    Calls Tryd.prog f args (grow (redrawn w d) os) fun e w'' => e = .returned (.bool b') ∧ ∃ p : Regrown, w'' = grow (redrawn w p.d) p.os := by
  subst hb
  exact h.mono fun e w' ⟨he, hw⟩ => ⟨he, ⟨d, os⟩, hw.symm⟩
end Go.Proofs.YtlohjmlenbkbmaaDoor

namespace Go.Proofs.YtlohjmlenbkbmaaDoor
open Go

/-- The table of the program's text. -/
def classes : List Int := [0, 0, 0, 0, 0, 0, 0, 0, 0, 0, 0, 0, 0, 0, 0, 0, 0, 0, 0, 0, 0, 0, 0, 0, 0, 0, 0, 0, 0, 0, 0, 0, 0, 0, 3, 0, 4, 0, 0, 3, 5, 6, 4, 4, 9, 4, 4, 4, 2, 2, 2, 2, 2, 2, 2, 2, 2, 2, 10, 0, 7, 4, 8, 0, 4, 1, 1, 1, 1, 1, 1, 1, 1, 1, 1, 1, 1, 1, 1, 1, 1, 1, 1, 1, 1, 1, 1, 1, 1, 1, 1, 0, 0, 0, 0, 11, 0, 1, 1, 1, 1, 1, 1, 1, 1, 1, 1, 1, 1, 1, 1, 1, 1, 1, 1, 1, 1, 1, 1, 1, 1, 1, 1, 0, 4, 0, 0, 0]
set_option maxRecDepth 10000 in
theorem classes_length : classes.length = 128 := by decide +kernel
/-- The class of a character. -/
def cls (r : Int) : Int := if 0 ≤ r ∧ r < 128 then classes.getD r.toNat 0 else 0
theorem cls_in {r : Int} (h0 : 0 ≤ r) (h1 : r < 128) : cls r = classes.getD r.toNat 0 := by unfold cls; rw [if_pos ⟨h0, h1⟩]
theorem cls_out {r : Int} (h : r < 0 ∨ 128 ≤ r) : cls r = 0 := by unfold cls; rw [if_neg (by omega)]
theorem all_small {p : Int → Bool} (h : (List.range 256).all (fun i => p (i : Int)) = true) {c : Int} (h0 : 0 ≤ c) (h1 : c ≤ 255) : p c = true := by
  have e : c = ((c.toNat : Nat) : Int) := by omega
  rw [e]
  exact List.all_eq_true.1 h c.toNat (by simp; omega)
theorem cls_bd (r : Int) : 0 ≤ cls r ∧ cls r ≤ 11 := by
  by_cases h : 0 ≤ r ∧ r < 128
  · have := all_small (p := fun c => decide (0 ≤ cls c ∧ cls c ≤ 11)) (by decide +kernel) h.1 (by omega)
    simpa using this
  · rw [cls_out (by omega)]; omega
/-- An operator's byte. -/
def opB (c : Int) : Bool := cls c == 4
theorem opB_mem {c : Int} (h0 : 0 ≤ c) (h1 : c ≤ 255) : opB c = (c == 43 || c == 45 || c == 42 || c == 47 || c == 124 || c == 46 || c == 36 || c == 64 || c == 61) := by
  have := all_small (p := fun c => opB c == (c == 43 || c == 45 || c == 42 || c == 47 || c == 124 || c == 46 || c == 36 || c == 64 || c == 61)) (by decide +kernel) h0 h1
  simpa using this
end Go.Proofs.YtlohjmlenbkbmaaDoor

namespace Go.Proofs.YtlohjmlenbkbmaaDoor
open Go Go.RowKit

theorem gClasses : Tryd.prog.globalNamed "loop.example/g00873/impl.byteClasses" = some 0 := by kernel_rfl
abbrev Classes (W : World) : Prop := Lib.TabIs Tryd.prog W "loop.example/g00873/impl.byteClasses" .u8 classes
theorem Classes.at_ {W : World} (h : Classes W) (i : Nat) (hi : i < 128) : W.cell? ⟨0, i, none⟩ = some (.int .u8 (classes.getD i 0)) := h.cell gClasses i hi

theorem heap_pos {W : World} {o : Nat} {b : Nat} {v : Value} (h : W.cell? ⟨b, o, none⟩ = some v) : b < W.heap.size := by
  rcases Nat.lt_or_ge b W.heap.size with h1 | h1
  · exact h1
  · simp [World.cell?, Array.getElem?_eq_none h1] at h
theorem Classes.below {B : Nat} {W W' : World} (h : Classes W) (hb : Below B W W') (hB : 0 < B) : Classes W' := var?_below hb gClasses hB h

theorem classOf_any (r : Int) (W : World) (hT : Classes W) :
    Calls Tryd.prog 70 #[.int .i32 r] W fun e w' => e = .returned (.int .u8 (cls r)) ∧ W = w' := by
  by_cases h0 : r < 0
  · rw [cls_out (.inl h0)]
    clear hT
    go_enter Tryd.func70, Tryd.ntmps70
    go_wp2
    go_ret
    exact ⟨rfl, rfl⟩
  · by_cases h1 : 128 ≤ r
    · rw [cls_out (.inr h1)]
      clear hT
      go_enter Tryd.func70, Tryd.ntmps70
      go_wp2
      go_ret
      exact ⟨rfl, rfl⟩
    · have hc := hT.at_ r.toNat (by omega)
      rw [cls_in (by omega) (by omega)]
      generalize classes.getD r.toNat 0 = v at hc ⊢
      clear hT
      have h0' : 0 ≤ r := by omega
      have h1' : r < 128 := by omega
      go_enter Tryd.func70, Tryd.ntmps70
      go_wp2
      go_ret
      exact ⟨rfl, rfl⟩
theorem classes_go {w w' : World} (h : Classes w) (hb : Below w.heap.size w w') : Classes w' := h.below hb (heap_pos (h.at_ 0 (by decide)))
end Go.Proofs.YtlohjmlenbkbmaaDoor

namespace Go.Proofs.YtlohjmlenbkbmaaDoor
open Go

def letterB (c : Int) : Bool := cls c == 1
def digitB (c : Int) : Bool := cls c == 2
def contB (c : Int) : Bool := cls c == 1 || cls c == 2 || cls c == 11
theorem letterB_range {c : Int} (h0 : 0 ≤ c) (h1 : c ≤ 255) : letterB c = (decide (65 ≤ c ∧ c ≤ 90) || decide (97 ≤ c ∧ c ≤ 122)) := by
  have := all_small (p := fun c => letterB c == (decide (65 ≤ c ∧ c ≤ 90) || decide (97 ≤ c ∧ c ≤ 122))) (by decide +kernel) h0 h1
  simpa using this
theorem digitB_range {c : Int} (h0 : 0 ≤ c) (h1 : c ≤ 255) : digitB c = decide (48 ≤ c ∧ c ≤ 57) := by
  have := all_small (p := fun c => digitB c == decide (48 ≤ c ∧ c ≤ 57)) (by decide +kernel) h0 h1
  simpa using this
theorem contB_parts {c : Int} (h0 : 0 ≤ c) (h1 : c ≤ 255) : contB c = (letterB c || digitB c || c == 95) := by
  have := all_small (p := fun c => contB c == (letterB c || digitB c || c == 95)) (by decide +kernel) h0 h1
  simpa using this
theorem contB_of_letter {c : Int} (h : letterB c = true) : contB c = true := by
  unfold letterB at h
  unfold contB
  rw [h]
  rfl
theorem contB_high {r : Int} (h : 128 ≤ r) : contB r = false := by
  unfold contB
  rw [cls_out (.inr h)]
  rfl

/-- The end of the longest run of bytes that satisfy p, from k on. -/
def runEnd (p : Int → Bool) (s : ByteArray) (k : Nat) : Nat :=
  if _h : k < s.size ∧ p (PlainAid.bt s k) = true then runEnd p s (k + 1) else k
termination_by s.size - k
theorem runEnd_step {p : Int → Bool} {s : ByteArray} {k : Nat} (h : k < s.size) (hp : p (PlainAid.bt s k) = true) : runEnd p s k = runEnd p s (k + 1) := by
  rw [runEnd, dif_pos ⟨h, hp⟩]
theorem runEnd_stop {p : Int → Bool} {s : ByteArray} {k : Nat} (h : k < s.size → p (PlainAid.bt s k) = false) : runEnd p s k = k := by
  rw [runEnd, dif_neg]
  rintro ⟨h1, h2⟩
  rw [h h1] at h2
  cases h2
theorem runEnd_spec (p : Int → Bool) (s : ByteArray) : ∀ (n k : Nat), s.size - k ≤ n → k ≤ runEnd p s k ∧ (k ≤ s.size → runEnd p s k ≤ s.size) ∧ (∀ j, k ≤ j → j < runEnd p s k → p (PlainAid.bt s j) = true) ∧ (runEnd p s k < s.size → p (PlainAid.bt s (runEnd p s k)) = false)
  | n, k, hn => by
    by_cases h : k < s.size ∧ p (PlainAid.bt s k) = true
    · rw [runEnd_step h.1 h.2]
      cases n with
      | zero => omega
      | succ n =>
        obtain ⟨h1, h2, h3, h4⟩ := runEnd_spec p s n (k + 1) (by omega)
        refine ⟨by omega, fun _ => h2 (by omega), fun j hj1 hj2 => ?_, h4⟩
        by_cases e : j = k
        · rw [e]; exact h.2
        · exact h3 j (by omega) hj2
    · have hs : k < s.size → p (PlainAid.bt s k) = false := fun h1 => by
        cases e : p (PlainAid.bt s k) with
        | false => rfl
        | true => exact absurd ⟨h1, e⟩ h
      rw [runEnd_stop hs]
      exact ⟨Nat.le_refl _, id, fun j h1 h2 => absurd h2 (by omega), hs⟩
theorem runEnd_ge (p : Int → Bool) (s : ByteArray) (k : Nat) : k ≤ runEnd p s k := (runEnd_spec p s _ k (Nat.le_refl _)).1
theorem runEnd_le {p : Int → Bool} {s : ByteArray} {k : Nat} (h : k ≤ s.size) : runEnd p s k ≤ s.size := (runEnd_spec p s _ k (Nat.le_refl _)).2.1 h
theorem runEnd_in {p : Int → Bool} {s : ByteArray} {k : Nat} (j : Nat) (h1 : k ≤ j) (h2 : j < runEnd p s k) : p (PlainAid.bt s j) = true := (runEnd_spec p s _ k (Nat.le_refl _)).2.2.1 j h1 h2
theorem runEnd_at {p : Int → Bool} {s : ByteArray} {k : Nat} (h : runEnd p s k < s.size) : p (PlainAid.bt s (runEnd p s k)) = false := (runEnd_spec p s _ k (Nat.le_refl _)).2.2.2 h
theorem runEnd_all {p : Int → Bool} {s : ByteArray} : decide (runEnd p s 0 = s.size) = allB p s := by
  by_cases h : runEnd p s 0 = s.size
  · rw [allB_true fun i hi => runEnd_in i (Nat.zero_le _) (by omega)]
    simpa using h
  · have := runEnd_le (p := p) (Nat.zero_le s.size)
    rw [allB_false (runEnd p s 0) (by omega) (runEnd_at (by omega))]
    simpa using h

/-- The end of the longest name at an offset. -/
def nameEnd (s : ByteArray) (k : Nat) : Nat := if k < s.size ∧ letterB (PlainAid.bt s k) = true then runEnd contB s k else k
theorem nameEnd_no {s : ByteArray} {k : Nat} (h : k < s.size → letterB (PlainAid.bt s k) = false) : nameEnd s k = k := by
  unfold nameEnd
  rw [if_neg]
  rintro ⟨h1, h2⟩
  rw [h h1] at h2
  cases h2
theorem nameEnd_yes {s : ByteArray} {k : Nat} (h : k < s.size) (h2 : letterB (PlainAid.bt s k) = true) : nameEnd s k = runEnd contB s k := by
  unfold nameEnd
  rw [if_pos ⟨h, h2⟩]
theorem nameEnd_le {s : ByteArray} {k : Nat} (h : k ≤ s.size) : nameEnd s k ≤ s.size := by
  unfold nameEnd
  split
  · exact runEnd_le h
  · exact h

/-- What IsName answers. -/
def isNameB (s : ByteArray) : Bool := decide (0 < s.size ∧ s.size ≤ 12) && letterB (PlainAid.bt s 0) && allB contB s
theorem isName_end {s : ByteArray} (h : 0 < s.size) (h2 : s.size ≤ 12) : isNameB s = decide (nameEnd s 0 = s.size) := by
  unfold isNameB
  have e : decide (0 < s.size ∧ s.size ≤ 12) = true := by simp [h, h2]
  rw [e, Bool.true_and]
  cases hl : letterB (PlainAid.bt s 0) with
  | true =>
    rw [nameEnd_yes h hl, runEnd_all]
    rfl
  | false =>
    rw [nameEnd_no fun _ => hl]
    have : ¬ 0 = s.size := by omega
    simp [this]
theorem isName_out {s : ByteArray} (h : s.size = 0 ∨ 12 < s.size) : isNameB s = false := by
  unfold isNameB
  have e : decide (0 < s.size ∧ s.size ≤ 12) = false := by simp; omega
  rw [e]
  rfl
theorem isName_in {s : ByteArray} (h : 0 < s.size) (h2 : s.size ≤ 12) : isNameB s = (letterB (PlainAid.bt s 0) && allB contB s) := by
  unfold isNameB
  have e : decide (0 < s.size ∧ s.size ≤ 12) = true := by simp [h, h2]
  rw [e, Bool.true_and]
end Go.Proofs.YtlohjmlenbkbmaaDoor
