/- Contract: l21Own of the model: a console of its own whose lists lie apart. Condition: lists of at most 2^20 elements. A list whose names rise: where a name stands or would stand. Plain. Contract: sort.Search over a test that is false ahead of m and true from m on. No condition but that it is short. Contracts: place of the program at bindings (sort.Search through a closure), and the closure. No condition but that the names rise. What a function that uses an open file answers. Plain. Contract: ValidConsole of the model. No condition. Contracts: l21Find, l21Code of the model. No condition. Contract: slices.Contains at integers; four cells stored. No condition. Contract: the closure of useFile where there is no such file, or it is in another state. Condition: the names rise. The end of the closure of useFile. Plain. A file of a console of one's own is another one now. Plain. Contracts: write of a list of lines; what WriteFile does with an open file. No condition. A file of a console of one's own has other lines now. Plain. Contract: changeConsole of the program at what is valid, with one closure as the change. Conditions: lists of at most 2^20 elements; the table holds what the program's text lays. Contract: the closure of useFile where the file is in another state. Condition: the names rise. -/
import Derived.Test.YtlohjmlenbkbmaaDoorWriAll3
import Derived.Deep.RegionHeld3
import Derived.Deep.CutBlock
import Derived.Test.YtlohjmlenbkbmaaDoorWriAll2
import Derived.Sort.Walk0
import Derived.Test.YtlohjmlenbkbmaaDoorWriAll1
import Derived.Maps.AppendAt
import Derived.Deep.RegionLaw
namespace Go.Proofs.YtlohjmlenbkbmaaDoor
open Go Go.RowKit

/-- Behind the first statement: the box of the answer, and the three copies; c's box in block g. -/
def Ow1 (W : World) (x : Cn) (l : CnLay) (g q : Nat) (A0 A2 A4 : Option Addr) (c0 c2 c4 : Nat) (w : World) : Prop :=
  RW 29 w q #[.slice A0 l.n0 c0, .int .i64 x.at_, .slice A2 l.n2 c2, .slice none 0 0, .slice A4 l.n4 c4] ∧ RW 29 w W.heap.size zeroC ∧ W.heap.size < q ∧ g < W.heap.size ∧ Below W.heap.size W w ∧
  (OwnS w W.heap.size A0 l.n0 c0 x.input_ ∧ OwnS w W.heap.size A2 l.n2 c2 x.output_ ∧ OwnS w W.heap.size A4 l.n4 c4 x.trace_) ∧ (l.n0 ≤ c0 ∧ l.n2 ≤ c2 ∧ l.n4 ≤ c4) ∧ (∀ b, AtB A0 b → ¬ AtB A2 b) ∧ (∀ b, AtB A0 b → ¬ AtB A4 b) ∧ (∀ b, AtB A2 b → ¬ AtB A4 b)
theorem Ow1.of {W w : World} {x0 x2 x4 : List St} {x1 : Int} {x3 : List Fl} {A0 A2 A3 A4 A0m A2m A4m : Option Addr} {n0 c0 n2 c2 n3 c3 n4 c4 c0m c2m c4m m1 m2 g q : Nat} {h0 : n0 ≤ c0} {h2 : n2 ≤ c2} {h3 : n3 ≤ c3} {h4 : n4 ≤ c4}
    (hE : RW 29 w q #[.slice none 0 0, .int .i64 0, .slice none 0 0, .slice none 0 0, .slice none 0 0]) (hr : RW 29 w W.heap.size zeroC) (hq : W.heap.size < q) (hg : g < W.heap.size) (hb : Below W.heap.size W w)
    (hi : OwnS w W.heap.size A0m n0 c0m x0 ∧ OwnS w m1 A2m n2 c2m x2 ∧ OwnS w m2 A4m n4 c4m x4) (hc0 : n0 ≤ c0m) (hc2 : n2 ≤ c2m) (hc4 : n4 ≤ c4m) (hm1 : W.heap.size ≤ m1) (hm2 : m1 ≤ m2) (t0 : ∀ b, AtB A0m b → b < m1) (t2 : ∀ b, AtB A2m b → b < m2) :
    Ow1 W ⟨x0, x1, x2, x3, x4⟩ ⟨A0, n0, c0, h0, A2, n2, c2, h2, A3, n3, c3, h3, A4, n4, c4, h4⟩ g q A0m A2m A4m c0m c2m c4m (((((w.setCell ⟨q, 0, none⟩ (.slice A0m n0 c0m)).setCell ⟨q, 1, none⟩ (.int .i64 x1)).setCell ⟨q, 2, none⟩ (.slice A2m n2 c2m)).setCell ⟨q, 3, none⟩ (.slice none 0 0)).setCell ⟨q, 4, none⟩ (.slice A4m n4 c4m)) := by
  have k : ∀ {B n c : Nat} {A : Option Addr} {xs : List St}, OwnS w B A n c xs → OwnS (((((w.setCell ⟨q, 0, none⟩ (.slice A0m n0 c0m)).setCell ⟨q, 1, none⟩ (.int .i64 x1)).setCell ⟨q, 2, none⟩ (.slice A2m n2 c2m)).setCell ⟨q, 3, none⟩ (.slice none 0 0)).setCell ⟨q, 4, none⟩ (.slice A4m n4 c4m)) B A n c xs := fun {B n c A xs} h =>
    ((((h.other hE (by decide) _).other (hE.set_ 0 _) (by decide) _).other ((hE.set_ 0 _).set_ 1 _) (by decide) _).other (((hE.set_ 0 _).set_ 1 _).set_ 2 _) (by decide) _).other ((((hE.set_ 0 _).set_ 1 _).set_ 2 _).set_ 3 _) (by decide) _
  exact ⟨sets_five hE, rw_five hr (by omega), hq, hg, below_five hb (Nat.le_of_lt hq) _ _ _ _ _, ⟨k hi.1, (k hi.2.1).lower hm1, (k hi.2.2).lower (by omega)⟩, ⟨hc0, hc2, hc4⟩, fun b hA hA' => by (have := t0 b hA; have := (hi.2.1.row hA').1; omega), fun b hA hA' => by (have := t0 b hA; have := (hi.2.2.row hA').1; omega), fun b hA hA' => by (have := t2 b hA; have := (hi.2.2.row hA').1; omega)⟩

theorem own_form {w : World} {B n : Nat} {v : Value} {xs : List Value} (h : w.ownsRow B 50 4 v n xs) : ∃ A c, v = .slice A n c ∧ n ≤ c := by
  rcases h.2 with ⟨rfl, h0⟩ | ⟨g, cap, cur, rfl, _, _, h, _⟩
  · exact ⟨none, 0, by rw [h0], by omega⟩
  · exact ⟨_, _, rfl, h⟩
theorem rowC_grown {w w' : World} {B k q : Nat} {v : Value} {xs : List Value} {cs : Array Value} (h : RW 29 w q cs) (ho : w.ownsRow B 50 4 v k xs) (hg : w.grownBy w' v.ownBlock) : RW 29 w' q cs := by
  refine (hg.block q h.lt fun e => ?_).trans h
  rcases ho.2 with ⟨rfl, _⟩ | ⟨g, cap, cur, rfl, hg, hh, _⟩
  · cases e
  · obtain rfl : q = g := Option.some.inj e
    exact absurd (RW.same (show RW 50 w q cur from hh) h).1 (by decide)
theorem Turn.step {q i : Nat} {wc wr w5 : World} (h : Turn (fun b => b = q) wc wr) (hb : Below wc.heap.size wr w5) (v : Value) : Turn (fun b => b = q) wc (w5.setCell ⟨q, i, none⟩ v) := by
  obtain ⟨h1, h2, h3, h4, h5⟩ := h
  exact ⟨hb.os.trans h1, hb.tape.trans h2, hb.output.trans h3, by rw [size_set]; exact Nat.le_trans h4 hb.size, fun j hj hn => ((Below.heap_setCell w5 ⟨q, i, none⟩ v j hn).trans (hb.block j hj)).trans (h5 j hj hn)⟩
/-- Behind the loop. -/
theorem Ow1.fin {W wc wr : World} {x0 x2 x4 : List St} {x1 : Int} {x3 : List Fl} {A0 A2 A3 A A4 A0m A2m A4m : Option Addr} {n0 c0 n2 c2 n3 c3 c n4 c4 c0m c2m c4m g q : Nat} {h0 : n0 ≤ c0} {h2 : n2 ≤ c2} {h3 : n3 ≤ c3} {h4 : n4 ≤ c4} {zs : List (Fl × FlLay)}
    (h : Ow1 W ⟨x0, x1, x2, x3, x4⟩ ⟨A0, n0, c0, h0, A2, n2, c2, h2, A3, n3, c3, h3, A4, n4, c4, h4⟩ g q A0m A2m A4m c0m c2m c4m wc) (hT : Turn (fun b => b = q) wc wr) (hf : FlsO wc.heap.size wr (.slice A n3 c) zs) (hz : zs.map Prod.fst = x3) (hn : x3.length = n3) (hc : n3 ≤ c) :
    OwnCn W.heap.size wr ⟨x0, x1, x2, x3, x4⟩ ⟨A0m, n0, c0m, h.2.2.2.2.2.2.1.1, A2m, n2, c2m, h.2.2.2.2.2.2.1.2.1, A, n3, c, hc, A4m, n4, c4m, h.2.2.2.2.2.2.1.2.2⟩ zs := by
  obtain ⟨hE, hr, hq, hg, hW, ⟨i0, i2, i4⟩, _, a0, a1, a2⟩ := h
  have k : ∀ {B n c : Nat} {A : Option Addr} {xs : List St}, OwnS wc B A n c xs → OwnS wr B A n c xs := fun {B n c A xs} ho => ho.keepB fun b hb => by
    obtain ⟨_, cs, hrs⟩ := ho.row hb
    exact hT.2.2.2.2 b hrs.lt fun e => by
      subst e
      exact absurd (RW.same hrs hE).1 (by decide)
  refine ⟨k i0, k i2, k i4, hf.lower hW.size, by have e : zs.length = x3.length := by { rw [← hz, List.length_map] }; exact e.trans hn, hz, a0, a1, a2, fun j p hp b hA => ?_⟩
  have hge := ((hf.el j p hp).1.row hA).1
  exact ⟨fun h => by have := i0.lt h; omega, fun h => by have := i2.lt h; omega, fun h => by have := i4.lt h; omega⟩
theorem own_len {w : World} {B k : Nat} {v : Value} {zs : List (Fl × FlLay)} (h : OwnFl w B v zs) (hk : zs.length = k) : w.ownsRow B 50 4 v k (cellsFl zs) := by
  subst hk
  exact h
theorem cell_four_newF' {n : Nat} (w : World) (hn : w.heap.size = n) (x0 x1 x2 x3 : Value) (t : TypeId) : ∀ j u, [x0, x1, x2, x3][j]? = some u → (w.alloc (.cells #[x0, x1, x2, x3] t)).cell? ((⟨n, 0, none⟩ : Addr).add j) = some u := by
  subst hn
  exact cell_four_newF w x0 x1 x2 x3 t
theorem keep_five {w : World} {g q : Nat} {A0 A2 A3 A4 : Option Addr} {n0 c0 n2 c2 n3 c3 n4 c4 : Nat} {x1 : Int} {v0 v1 v2 v3 v4 : Value} (h : RW 29 w g #[.slice A0 n0 c0, .int .i64 x1, .slice A2 n2 c2, .slice A3 n3 c3, .slice A4 n4 c4]) (hne : g ≠ q) : (((((w.setCell ⟨q, 0, none⟩ v0).setCell ⟨q, 1, none⟩ v1).setCell ⟨q, 2, none⟩ v2).setCell ⟨q, 3, none⟩ v3).setCell ⟨q, 4, none⟩ v4).cell? ⟨g, 0, none⟩ = some (.slice A0 n0 c0) ∧ (((((w.setCell ⟨q, 0, none⟩ v0).setCell ⟨q, 1, none⟩ v1).setCell ⟨q, 2, none⟩ v2).setCell ⟨q, 3, none⟩ v3).setCell ⟨q, 4, none⟩ v4).cell? ⟨g, 1, none⟩ = some (.int .i64 x1) ∧ (((((w.setCell ⟨q, 0, none⟩ v0).setCell ⟨q, 1, none⟩ v1).setCell ⟨q, 2, none⟩ v2).setCell ⟨q, 3, none⟩ v3).setCell ⟨q, 4, none⟩ v4).cell? ⟨g, 2, none⟩ = some (.slice A2 n2 c2) ∧ (((((w.setCell ⟨q, 0, none⟩ v0).setCell ⟨q, 1, none⟩ v1).setCell ⟨q, 2, none⟩ v2).setCell ⟨q, 3, none⟩ v3).setCell ⟨q, 4, none⟩ v4).cell? ⟨g, 4, none⟩ = some (.slice A4 n4 c4) :=
  have k := rw_five h hne (v0 := v0) (v1 := v1) (v2 := v2) (v3 := v3) (v4 := v4)
  ⟨k.cell 0, k.cell 1, k.cell 2, k.cell 4⟩
theorem keep_new {w : World} {g : Nat} {A0 A2 A3 A4 : Option Addr} {n0 c0 n2 c2 n3 c3 n4 c4 : Nat} {x1 : Int} {o : Obj} (h : RW 29 w g #[.slice A0 n0 c0, .int .i64 x1, .slice A2 n2 c2, .slice A3 n3 c3, .slice A4 n4 c4]) : (w.alloc o).cell? ⟨g, 0, none⟩ = some (.slice A0 n0 c0) ∧ (w.alloc o).cell? ⟨g, 1, none⟩ = some (.int .i64 x1) ∧ (w.alloc o).cell? ⟨g, 2, none⟩ = some (.slice A2 n2 c2) ∧ (w.alloc o).cell? ⟨g, 4, none⟩ = some (.slice A4 n4 c4) :=
  have k := h.alloc o
  ⟨k.cell 0, k.cell 1, k.cell 2, k.cell 4⟩
theorem Ow1.new {W w : World} {x0 x2 x4 : List St} {x1 : Int} {x3 : List Fl} {A0 A2 A3 A4 A0m A2m A4m : Option Addr} {n0 c0 n2 c2 n3 c3 n4 c4 c0m c2m c4m m1 m2 g : Nat} {h0 : n0 ≤ c0} {h2 : n2 ≤ c2} {h3 : n3 ≤ c3} {h4 : n4 ≤ c4}
    (hr : RW 29 w W.heap.size zeroC) (hq : W.heap.size < w.heap.size) (hg : g < W.heap.size) (hb : Below W.heap.size W w)
    (hi : OwnS w W.heap.size A0m n0 c0m x0 ∧ OwnS w m1 A2m n2 c2m x2 ∧ OwnS w m2 A4m n4 c4m x4) (hc0 : n0 ≤ c0m) (hc2 : n2 ≤ c2m) (hc4 : n4 ≤ c4m) (hm1 : W.heap.size ≤ m1) (hm2 : m1 ≤ m2) (t0 : ∀ b, AtB A0m b → b < m1) (t2 : ∀ b, AtB A2m b → b < m2) :
    Ow1 W ⟨x0, x1, x2, x3, x4⟩ ⟨A0, n0, c0, h0, A2, n2, c2, h2, A3, n3, c3, h3, A4, n4, c4, h4⟩ g w.heap.size A0m A2m A4m c0m c2m c4m (w.alloc (.cells #[.slice A0m n0 c0m, .int .i64 x1, .slice A2m n2 c2m, .slice none 0 0, .slice A4m n4 c4m] 29)) := by
  have k := below_alloc w (.cells #[.slice A0m n0 c0m, .int .i64 x1, .slice A2m n2 c2m, .slice none 0 0, .slice A4m n4 c4m] 29)
  exact ⟨RW.new _ _ _, hr.alloc _, hq, hg, hb.trans (k.mono (Nat.le_of_lt hq)), ⟨hi.1.keep k, (hi.2.1.keep k).lower hm1, (hi.2.2.keep k).lower (by omega)⟩, ⟨hc0, hc2, hc4⟩, fun b hA hA' => by (have := t0 b hA; have := (hi.2.1.row hA').1; omega), fun b hA hA' => by (have := t0 b hA; have := (hi.2.2.row hA').1; omega), fun b hA hA' => by (have := t2 b hA; have := (hi.2.2.row hA').1; omega)⟩

set_option maxHeartbeats 4000000 in
set_option maxRecDepth 100000 in
theorem l21Own_any (x : Cn) (l : CnLay) (g : Nat) (W : World) (hg : RW 29 W g #[.slice l.A0 l.n0 l.c0, .int .i64 x.at_, .slice l.A2 l.n2 l.c2, .slice l.A3 l.n3 l.c3, .slice l.A4 l.n4 l.c4]) (hv : CnV W W.heap.size x l) (h0 : l.n0 ≤ 1048576) (h2 : l.n2 ≤ 1048576) (h4 : l.n4 ≤ 1048576) (h3 : l.n3 ≤ 1048576) (hF : ∀ (j : Nat) (y : Fl), x.files_[j]? = some y → y.lines_.length ≤ 1048576) :
    Calls Tryd.prog 32 #[.pointer (some ⟨g, 0, none⟩)] W (CloneO x W) := by
  obtain ⟨x0, x1, x2, x3, x4⟩ := x
  obtain ⟨A0, n0, c0, h0', A2, n2, c2, h2', A3, n3, c3, h3', A4, n4, c4, h4'⟩ := l
  obtain ⟨k0, k2, k3, k4⟩ := hv
  dsimp only at k0 k2 k3 k4 h0 h2 h3 h4 hF hg
  have HFF := Lib.hid hF
  have HK3 := Lib.hid k3
  have HGG := Lib.hid hg
  have HT0 := Lib.hid (fun (w : World) (hb : Below W.heap.size W w) => l21TextsO_any A0 n0 c0 x0 w (k0.go hb) h0)
  have HT2 := Lib.hid (fun (w : World) (hb : Below W.heap.size W w) => l21TextsO_any A2 n2 c2 x2 w (k2.go hb) h2)
  have HT4 := Lib.hid (fun (w : World) (hb : Below W.heap.size W w) => l21TextsO_any A4 n4 c4 x4 w (k4.go hb) h4)
  have HC := Lib.hid (fun X (e : X = W.alloc (.cells #[.slice none 0 0, .int .i64 0, .slice none 0 0, .slice none 0 0, .slice none 0 0] 29)) => (show RW 29 X W.heap.size zeroC ∧ Below W.heap.size W X ∧ W.heap.size < X.heap.size from by subst e; exact ⟨RW.new _ _ _, below_alloc _ _, lt_alloc _ _⟩))
  clear k0 k2 k3 k4 hF hg
  go_enter Tryd.func32, Tryd.ntmps32
  go_wp2_with fail
  obtain ⟨w0, hw0⟩ : ∃ w0, W.alloc (.cells #[.slice none 0 0, .int .i64 0, .slice none 0 0, .slice none 0 0, .slice none 0 0] 29) = w0 := ⟨_, rfl⟩
  rw [hw0]
  obtain ⟨g0, g1, g2⟩ := HC.out w0 hw0.symm
  have HR0 := Lib.hid (rw_drew g0)
  have HB0 : Hid (Below W.heap.size W w0.drew) := g1.drew
  have HS0 : Hid (W.heap.size < w0.drew.heap.size) := g2
  have HG0 := Lib.hid (rw_drew (HGG.out.below g1 HGG.out.lt))
  have HBa0 : Hid (Below W.heap.size W (w0.alloc (.cells #[.slice none 0 0, .int .i64 0, .slice none 0 0, .slice none 0 0, .slice none 0 0] 29)).drew) := (g1.trans ((below_alloc w0 _).mono (Nat.le_of_lt g2))).drew
  clear hw0 HC g0 g1 g2
  have hgl : g < W.heap.size := HGG.out.lt
  have hs0 : W.heap.size < w0.heap.size := HS0.out
  have HGa0 : Hid (RW 29 (w0.alloc (.cells #[.slice none 0 0, .int .i64 0, .slice none 0 0, .slice none 0 0, .slice none 0 0] 29)).drew g #[.slice A0 n0 c0, .int .i64 x1, .slice A2 n2 c2, .slice A3 n3 c3, .slice A4 n4 c4]) := rw_drew (RW.alloc (w := w0) HG0.out (.cells #[.slice none 0 0, .int .i64 0, .slice none 0 0, .slice none 0 0, .slice none 0 0] 29))
  have HRa0 : Hid (RW 29 (w0.alloc (.cells #[.slice none 0 0, .int .i64 0, .slice none 0 0, .slice none 0 0, .slice none 0 0] 29)).drew W.heap.size zeroC) := rw_drew (RW.alloc (w := w0) HR0.out (.cells #[.slice none 0 0, .int .i64 0, .slice none 0 0, .slice none 0 0, .slice none 0 0] 29))
  have F0 : Hid (w0.drew.cell? ⟨g, 0, none⟩ = some (.slice A0 n0 c0) ∧ w0.drew.cell? ⟨g, 1, none⟩ = some (.int .i64 x1) ∧ w0.drew.cell? ⟨g, 2, none⟩ = some (.slice A2 n2 c2) ∧ w0.drew.cell? ⟨g, 4, none⟩ = some (.slice A4 n4 c4)) := ⟨HG0.out.cell 0, HG0.out.cell 1, HG0.out.cell 2, HG0.out.cell 4⟩
  have Fa0 : Hid ((w0.alloc (.cells #[.slice none 0 0, .int .i64 0, .slice none 0 0, .slice none 0 0, .slice none 0 0] 29)).drew.cell? ⟨g, 0, none⟩ = some (.slice A0 n0 c0) ∧ (w0.alloc (.cells #[.slice none 0 0, .int .i64 0, .slice none 0 0, .slice none 0 0, .slice none 0 0] 29)).drew.cell? ⟨g, 1, none⟩ = some (.int .i64 x1) ∧ (w0.alloc (.cells #[.slice none 0 0, .int .i64 0, .slice none 0 0, .slice none 0 0, .slice none 0 0] 29)).drew.cell? ⟨g, 2, none⟩ = some (.slice A2 n2 c2) ∧ (w0.alloc (.cells #[.slice none 0 0, .int .i64 0, .slice none 0 0, .slice none 0 0, .slice none 0 0] 29)).drew.cell? ⟨g, 4, none⟩ = some (.slice A4 n4 c4)) := ⟨HGa0.out.cell 0, HGa0.out.cell 1, HGa0.out.cell 2, HGa0.out.cell 4⟩
  go_cut [3] from 6 to 25 (fun p wx => ∃ q A0m c0m A2m c2m A4m c4m, p = .pointer (some ⟨q, 0, none⟩) ∧ Hid (Ow1 W ⟨x0, x1, x2, x3, x4⟩ ⟨A0, n0, c0, h0', A2, n2, c2, h2', A3, n3, c3, h3', A4, n4, c4, h4'⟩ g q A0m A2m A4m c0m c2m c4m wx))
  case first =>
    go_region_held3 (fun w' => w'.cell? ⟨g, 0, none⟩ = some (.slice A0 n0 c0) ∧ w'.cell? ⟨g, 1, none⟩ = some (.int .i64 x1) ∧ w'.cell? ⟨g, 2, none⟩ = some (.slice A2 n2 c2) ∧ w'.cell? ⟨g, 4, none⟩ = some (.slice A4 n4 c4))
      (first | (with_reducible exact F0.out) | (with_reducible exact Fa0.out) | (with_reducible exact F1.out) | (with_reducible exact Fa1.out) | (with_reducible exact F2.out) | (with_reducible exact Fa2.out) | (with_reducible exact F3.out) | (with_reducible exact Fa3.out) | (with_reducible exact keep_new HG3.out) | (with_reducible exact keep_five HG3.out (by omega)))
      ((first
        | (go_at_call 65; refine Calls.mono (HT0.out (w0.drew) HB0.out) ?_; rintro e w1 ⟨A0m, c0m, rfl, hcm, h⟩; obtain ⟨hi, hb⟩ := h.out; have HC1 := Lib.hid hcm; have hb' := hb; have hs1 : w0.heap.size ≤ w1.heap.size := hb'.size; have HI1 : Hid (OwnS w1 W.heap.size A0m n0 c0m x0) := hi.lower HB0.out.size; have HL1 : Hid (∀ b, AtB A0m b → b < w1.heap.size) := (fun b hA => hi.lt hA); have HB1 : Hid (Below W.heap.size W w1) := HB0.out.trans (hb.mono HB0.out.size); have HBa1 : Hid (Below W.heap.size W (w1.alloc (.cells #[.slice none 0 0, .int .i64 0, .slice none 0 0, .slice none 0 0, .slice none 0 0] 29))) := HB1.out.trans ((below_alloc w1 _).mono HB1.out.size); have HG1 : Hid (RW 29 w1 g #[.slice A0 n0 c0, .int .i64 x1, .slice A2 n2 c2, .slice A3 n3 c3, .slice A4 n4 c4]) := HG0.out.below hb HG0.out.lt; have HGa1 := Lib.hid (HG1.out.alloc (.cells #[.slice none 0 0, .int .i64 0, .slice none 0 0, .slice none 0 0, .slice none 0 0] 29)); have HR1 : Hid (RW 29 w1 W.heap.size zeroC) := HR0.out.below hb HR0.out.lt; have HRa1 := Lib.hid (HR1.out.alloc (.cells #[.slice none 0 0, .int .i64 0, .slice none 0 0, .slice none 0 0, .slice none 0 0] 29)); have F1 : Hid (w1.cell? ⟨g, 0, none⟩ = some (.slice A0 n0 c0) ∧ w1.cell? ⟨g, 1, none⟩ = some (.int .i64 x1) ∧ w1.cell? ⟨g, 2, none⟩ = some (.slice A2 n2 c2) ∧ w1.cell? ⟨g, 4, none⟩ = some (.slice A4 n4 c4)) := ⟨HG1.out.cell 0, HG1.out.cell 1, HG1.out.cell 2, HG1.out.cell 4⟩; have Fa1 : Hid ((w1.alloc (.cells #[.slice none 0 0, .int .i64 0, .slice none 0 0, .slice none 0 0, .slice none 0 0] 29)).cell? ⟨g, 0, none⟩ = some (.slice A0 n0 c0) ∧ (w1.alloc (.cells #[.slice none 0 0, .int .i64 0, .slice none 0 0, .slice none 0 0, .slice none 0 0] 29)).cell? ⟨g, 1, none⟩ = some (.int .i64 x1) ∧ (w1.alloc (.cells #[.slice none 0 0, .int .i64 0, .slice none 0 0, .slice none 0 0, .slice none 0 0] 29)).cell? ⟨g, 2, none⟩ = some (.slice A2 n2 c2) ∧ (w1.alloc (.cells #[.slice none 0 0, .int .i64 0, .slice none 0 0, .slice none 0 0, .slice none 0 0] 29)).cell? ⟨g, 4, none⟩ = some (.slice A4 n4 c4)) := ⟨HGa1.out.cell 0, HGa1.out.cell 1, HGa1.out.cell 2, HGa1.out.cell 4⟩; clear h hi hb hb' hcm)
        | (go_at_call 65; refine Calls.mono (HT0.out ((w0.alloc (.cells #[.slice none 0 0, .int .i64 0, .slice none 0 0, .slice none 0 0, .slice none 0 0] 29)).drew) HBa0.out) ?_; rintro e w1 ⟨A0m, c0m, rfl, hcm, h⟩; obtain ⟨hi, hb⟩ := h.out; have HC1 := Lib.hid hcm; have hs1 : w0.heap.size ≤ w1.heap.size := Nat.le_trans (Nat.le_of_lt (lt_alloc w0 _)) hb.size; have HI1 : Hid (OwnS w1 W.heap.size A0m n0 c0m x0) := hi.lower HBa0.out.size; have HL1 : Hid (∀ b, AtB A0m b → b < w1.heap.size) := (fun b hA => hi.lt hA); have HB1 : Hid (Below W.heap.size W w1) := HBa0.out.trans (hb.mono HBa0.out.size); have HBa1 : Hid (Below W.heap.size W (w1.alloc (.cells #[.slice none 0 0, .int .i64 0, .slice none 0 0, .slice none 0 0, .slice none 0 0] 29))) := HB1.out.trans ((below_alloc w1 _).mono HB1.out.size); have HG1 : Hid (RW 29 w1 g #[.slice A0 n0 c0, .int .i64 x1, .slice A2 n2 c2, .slice A3 n3 c3, .slice A4 n4 c4]) := HGa0.out.below hb HGa0.out.lt; have HGa1 := Lib.hid (HG1.out.alloc (.cells #[.slice none 0 0, .int .i64 0, .slice none 0 0, .slice none 0 0, .slice none 0 0] 29)); have HR1 : Hid (RW 29 w1 W.heap.size zeroC) := HRa0.out.below hb HRa0.out.lt; have HRa1 := Lib.hid (HR1.out.alloc (.cells #[.slice none 0 0, .int .i64 0, .slice none 0 0, .slice none 0 0, .slice none 0 0] 29)); have F1 : Hid (w1.cell? ⟨g, 0, none⟩ = some (.slice A0 n0 c0) ∧ w1.cell? ⟨g, 1, none⟩ = some (.int .i64 x1) ∧ w1.cell? ⟨g, 2, none⟩ = some (.slice A2 n2 c2) ∧ w1.cell? ⟨g, 4, none⟩ = some (.slice A4 n4 c4)) := ⟨HG1.out.cell 0, HG1.out.cell 1, HG1.out.cell 2, HG1.out.cell 4⟩; have Fa1 : Hid ((w1.alloc (.cells #[.slice none 0 0, .int .i64 0, .slice none 0 0, .slice none 0 0, .slice none 0 0] 29)).cell? ⟨g, 0, none⟩ = some (.slice A0 n0 c0) ∧ (w1.alloc (.cells #[.slice none 0 0, .int .i64 0, .slice none 0 0, .slice none 0 0, .slice none 0 0] 29)).cell? ⟨g, 1, none⟩ = some (.int .i64 x1) ∧ (w1.alloc (.cells #[.slice none 0 0, .int .i64 0, .slice none 0 0, .slice none 0 0, .slice none 0 0] 29)).cell? ⟨g, 2, none⟩ = some (.slice A2 n2 c2) ∧ (w1.alloc (.cells #[.slice none 0 0, .int .i64 0, .slice none 0 0, .slice none 0 0, .slice none 0 0] 29)).cell? ⟨g, 4, none⟩ = some (.slice A4 n4 c4)) := ⟨HGa1.out.cell 0, HGa1.out.cell 1, HGa1.out.cell 2, HGa1.out.cell 4⟩; have HE1 : Hid (RW 29 w1 w0.heap.size #[.slice none 0 0, .int .i64 0, .slice none 0 0, .slice none 0 0, .slice none 0 0] ∧ W.heap.size < w0.heap.size) := ⟨(rw_drew (RW.new w0 #[.slice none 0 0, .int .i64 0, .slice none 0 0, .slice none 0 0, .slice none 0 0] 29)).below hb (lt_alloc w0 _), by omega⟩; clear h hi hb hcm)
        | (go_at_call 65; refine Calls.mono (HT2.out (w1) HB1.out) ?_; rintro e w2 ⟨A2m, c2m, rfl, hcm, h⟩; obtain ⟨hi, hb⟩ := h.out; have HC2 := Lib.hid hcm; have hb' := hb; have hs2 : w1.heap.size ≤ w2.heap.size := hb'.size; have HI2 : Hid (OwnS w2 W.heap.size A0m n0 c0m x0 ∧ OwnS w2 w1.heap.size A2m n2 c2m x2) := ⟨HI1.out.keep hb', hi.lower (Nat.le_refl _)⟩; have HL2 : Hid (∀ b, AtB A2m b → b < w2.heap.size) := (fun b hA => hi.lt hA); have HB2 : Hid (Below W.heap.size W w2) := HB1.out.trans (hb.mono HB1.out.size); have HBa2 : Hid (Below W.heap.size W (w2.alloc (.cells #[.slice none 0 0, .int .i64 0, .slice none 0 0, .slice none 0 0, .slice none 0 0] 29))) := HB2.out.trans ((below_alloc w2 _).mono HB2.out.size); have HG2 : Hid (RW 29 w2 g #[.slice A0 n0 c0, .int .i64 x1, .slice A2 n2 c2, .slice A3 n3 c3, .slice A4 n4 c4]) := HG1.out.below hb HG1.out.lt; have HGa2 := Lib.hid (HG2.out.alloc (.cells #[.slice none 0 0, .int .i64 0, .slice none 0 0, .slice none 0 0, .slice none 0 0] 29)); have HR2 : Hid (RW 29 w2 W.heap.size zeroC) := HR1.out.below hb HR1.out.lt; have HRa2 := Lib.hid (HR2.out.alloc (.cells #[.slice none 0 0, .int .i64 0, .slice none 0 0, .slice none 0 0, .slice none 0 0] 29)); have F2 : Hid (w2.cell? ⟨g, 0, none⟩ = some (.slice A0 n0 c0) ∧ w2.cell? ⟨g, 1, none⟩ = some (.int .i64 x1) ∧ w2.cell? ⟨g, 2, none⟩ = some (.slice A2 n2 c2) ∧ w2.cell? ⟨g, 4, none⟩ = some (.slice A4 n4 c4)) := ⟨HG2.out.cell 0, HG2.out.cell 1, HG2.out.cell 2, HG2.out.cell 4⟩; have Fa2 : Hid ((w2.alloc (.cells #[.slice none 0 0, .int .i64 0, .slice none 0 0, .slice none 0 0, .slice none 0 0] 29)).cell? ⟨g, 0, none⟩ = some (.slice A0 n0 c0) ∧ (w2.alloc (.cells #[.slice none 0 0, .int .i64 0, .slice none 0 0, .slice none 0 0, .slice none 0 0] 29)).cell? ⟨g, 1, none⟩ = some (.int .i64 x1) ∧ (w2.alloc (.cells #[.slice none 0 0, .int .i64 0, .slice none 0 0, .slice none 0 0, .slice none 0 0] 29)).cell? ⟨g, 2, none⟩ = some (.slice A2 n2 c2) ∧ (w2.alloc (.cells #[.slice none 0 0, .int .i64 0, .slice none 0 0, .slice none 0 0, .slice none 0 0] 29)).cell? ⟨g, 4, none⟩ = some (.slice A4 n4 c4)) := ⟨HGa2.out.cell 0, HGa2.out.cell 1, HGa2.out.cell 2, HGa2.out.cell 4⟩; (try have HE2 := Lib.hid (And.intro (HE1.out.1.below hb HE1.out.1.lt) HE1.out.2)); clear h hi hb hb' hcm)
        | (go_at_call 65; refine Calls.mono (HT2.out ((w1.alloc (.cells #[.slice none 0 0, .int .i64 0, .slice none 0 0, .slice none 0 0, .slice none 0 0] 29))) HBa1.out) ?_; rintro e w2 ⟨A2m, c2m, rfl, hcm, h⟩; obtain ⟨hi, hb⟩ := h.out; have HC2 := Lib.hid hcm; have hb' : Below w1.heap.size w1 w2 := (below_alloc _ _).trans (hb.mono (Nat.le_of_lt (lt_alloc _ _))); have hs2 : w1.heap.size ≤ w2.heap.size := hb'.size; have HI2 : Hid (OwnS w2 W.heap.size A0m n0 c0m x0 ∧ OwnS w2 w1.heap.size A2m n2 c2m x2) := ⟨HI1.out.keep hb', hi.lower (Nat.le_of_lt (lt_alloc _ _))⟩; have HL2 : Hid (∀ b, AtB A2m b → b < w2.heap.size) := (fun b hA => hi.lt hA); have HB2 : Hid (Below W.heap.size W w2) := HBa1.out.trans (hb.mono HBa1.out.size); have HBa2 : Hid (Below W.heap.size W (w2.alloc (.cells #[.slice none 0 0, .int .i64 0, .slice none 0 0, .slice none 0 0, .slice none 0 0] 29))) := HB2.out.trans ((below_alloc w2 _).mono HB2.out.size); have HG2 : Hid (RW 29 w2 g #[.slice A0 n0 c0, .int .i64 x1, .slice A2 n2 c2, .slice A3 n3 c3, .slice A4 n4 c4]) := HGa1.out.below hb HGa1.out.lt; have HGa2 := Lib.hid (HG2.out.alloc (.cells #[.slice none 0 0, .int .i64 0, .slice none 0 0, .slice none 0 0, .slice none 0 0] 29)); have HR2 : Hid (RW 29 w2 W.heap.size zeroC) := HRa1.out.below hb HRa1.out.lt; have HRa2 := Lib.hid (HR2.out.alloc (.cells #[.slice none 0 0, .int .i64 0, .slice none 0 0, .slice none 0 0, .slice none 0 0] 29)); have F2 : Hid (w2.cell? ⟨g, 0, none⟩ = some (.slice A0 n0 c0) ∧ w2.cell? ⟨g, 1, none⟩ = some (.int .i64 x1) ∧ w2.cell? ⟨g, 2, none⟩ = some (.slice A2 n2 c2) ∧ w2.cell? ⟨g, 4, none⟩ = some (.slice A4 n4 c4)) := ⟨HG2.out.cell 0, HG2.out.cell 1, HG2.out.cell 2, HG2.out.cell 4⟩; have Fa2 : Hid ((w2.alloc (.cells #[.slice none 0 0, .int .i64 0, .slice none 0 0, .slice none 0 0, .slice none 0 0] 29)).cell? ⟨g, 0, none⟩ = some (.slice A0 n0 c0) ∧ (w2.alloc (.cells #[.slice none 0 0, .int .i64 0, .slice none 0 0, .slice none 0 0, .slice none 0 0] 29)).cell? ⟨g, 1, none⟩ = some (.int .i64 x1) ∧ (w2.alloc (.cells #[.slice none 0 0, .int .i64 0, .slice none 0 0, .slice none 0 0, .slice none 0 0] 29)).cell? ⟨g, 2, none⟩ = some (.slice A2 n2 c2) ∧ (w2.alloc (.cells #[.slice none 0 0, .int .i64 0, .slice none 0 0, .slice none 0 0, .slice none 0 0] 29)).cell? ⟨g, 4, none⟩ = some (.slice A4 n4 c4)) := ⟨HGa2.out.cell 0, HGa2.out.cell 1, HGa2.out.cell 2, HGa2.out.cell 4⟩; have HE2 : Hid (RW 29 w2 w1.heap.size #[.slice none 0 0, .int .i64 0, .slice none 0 0, .slice none 0 0, .slice none 0 0] ∧ W.heap.size < w1.heap.size) := ⟨(RW.new w1 #[.slice none 0 0, .int .i64 0, .slice none 0 0, .slice none 0 0, .slice none 0 0] 29).below hb (lt_alloc w1 _), by omega⟩; clear h hi hb hb' hcm)
        | (go_at_call 65; refine Calls.mono (HT4.out (w2) HB2.out) ?_; rintro e w3 ⟨A4m, c4m, rfl, hcm, h⟩; obtain ⟨hi, hb⟩ := h.out; have HC3 := Lib.hid hcm; have hb' := hb; have hs3 : w2.heap.size ≤ w3.heap.size := hb'.size; have HI3 : Hid (OwnS w3 W.heap.size A0m n0 c0m x0 ∧ OwnS w3 w1.heap.size A2m n2 c2m x2 ∧ OwnS w3 w2.heap.size A4m n4 c4m x4) := ⟨HI2.out.1.keep hb', HI2.out.2.keep hb', hi.lower (Nat.le_refl _)⟩; have HL3 : Hid (∀ b, AtB A4m b → b < w3.heap.size) := (fun b hA => hi.lt hA); have HB3 : Hid (Below W.heap.size W w3) := HB2.out.trans (hb.mono HB2.out.size); have HBa3 : Hid (Below W.heap.size W (w3.alloc (.cells #[.slice none 0 0, .int .i64 0, .slice none 0 0, .slice none 0 0, .slice none 0 0] 29))) := HB3.out.trans ((below_alloc w3 _).mono HB3.out.size); have HG3 : Hid (RW 29 w3 g #[.slice A0 n0 c0, .int .i64 x1, .slice A2 n2 c2, .slice A3 n3 c3, .slice A4 n4 c4]) := HG2.out.below hb HG2.out.lt; have HGa3 := Lib.hid (HG3.out.alloc (.cells #[.slice none 0 0, .int .i64 0, .slice none 0 0, .slice none 0 0, .slice none 0 0] 29)); have HR3 : Hid (RW 29 w3 W.heap.size zeroC) := HR2.out.below hb HR2.out.lt; have HRa3 := Lib.hid (HR3.out.alloc (.cells #[.slice none 0 0, .int .i64 0, .slice none 0 0, .slice none 0 0, .slice none 0 0] 29)); have F3 : Hid (w3.cell? ⟨g, 0, none⟩ = some (.slice A0 n0 c0) ∧ w3.cell? ⟨g, 1, none⟩ = some (.int .i64 x1) ∧ w3.cell? ⟨g, 2, none⟩ = some (.slice A2 n2 c2) ∧ w3.cell? ⟨g, 4, none⟩ = some (.slice A4 n4 c4)) := ⟨HG3.out.cell 0, HG3.out.cell 1, HG3.out.cell 2, HG3.out.cell 4⟩; have Fa3 : Hid ((w3.alloc (.cells #[.slice none 0 0, .int .i64 0, .slice none 0 0, .slice none 0 0, .slice none 0 0] 29)).cell? ⟨g, 0, none⟩ = some (.slice A0 n0 c0) ∧ (w3.alloc (.cells #[.slice none 0 0, .int .i64 0, .slice none 0 0, .slice none 0 0, .slice none 0 0] 29)).cell? ⟨g, 1, none⟩ = some (.int .i64 x1) ∧ (w3.alloc (.cells #[.slice none 0 0, .int .i64 0, .slice none 0 0, .slice none 0 0, .slice none 0 0] 29)).cell? ⟨g, 2, none⟩ = some (.slice A2 n2 c2) ∧ (w3.alloc (.cells #[.slice none 0 0, .int .i64 0, .slice none 0 0, .slice none 0 0, .slice none 0 0] 29)).cell? ⟨g, 4, none⟩ = some (.slice A4 n4 c4)) := ⟨HGa3.out.cell 0, HGa3.out.cell 1, HGa3.out.cell 2, HGa3.out.cell 4⟩; (try have HE3 := Lib.hid (And.intro (HE2.out.1.below hb HE2.out.1.lt) HE2.out.2)); (try (have e0 := HE3.out.1.cell 0; have e1 := HE3.out.1.cell 1; have e2 := HE3.out.1.cell 2; have e3 := HE3.out.1.cell 3; have e4 := HE3.out.1.cell 4; have f0 := HE3.out.1.frozen 0; have f1 := HE3.out.1.frozen 1; have f2 := HE3.out.1.frozen 2; have f3 := HE3.out.1.frozen 3; have f4 := HE3.out.1.frozen 4)); clear h hi hb hb' hcm)
        | (go_at_call 65; refine Calls.mono (HT4.out ((w2.alloc (.cells #[.slice none 0 0, .int .i64 0, .slice none 0 0, .slice none 0 0, .slice none 0 0] 29))) HBa2.out) ?_; rintro e w3 ⟨A4m, c4m, rfl, hcm, h⟩; obtain ⟨hi, hb⟩ := h.out; have HC3 := Lib.hid hcm; have hb' : Below w2.heap.size w2 w3 := (below_alloc _ _).trans (hb.mono (Nat.le_of_lt (lt_alloc _ _))); have hs3 : w2.heap.size ≤ w3.heap.size := hb'.size; have HI3 : Hid (OwnS w3 W.heap.size A0m n0 c0m x0 ∧ OwnS w3 w1.heap.size A2m n2 c2m x2 ∧ OwnS w3 w2.heap.size A4m n4 c4m x4) := ⟨HI2.out.1.keep hb', HI2.out.2.keep hb', hi.lower (Nat.le_of_lt (lt_alloc _ _))⟩; have HL3 : Hid (∀ b, AtB A4m b → b < w3.heap.size) := (fun b hA => hi.lt hA); have HB3 : Hid (Below W.heap.size W w3) := HBa2.out.trans (hb.mono HBa2.out.size); have HBa3 : Hid (Below W.heap.size W (w3.alloc (.cells #[.slice none 0 0, .int .i64 0, .slice none 0 0, .slice none 0 0, .slice none 0 0] 29))) := HB3.out.trans ((below_alloc w3 _).mono HB3.out.size); have HG3 : Hid (RW 29 w3 g #[.slice A0 n0 c0, .int .i64 x1, .slice A2 n2 c2, .slice A3 n3 c3, .slice A4 n4 c4]) := HGa2.out.below hb HGa2.out.lt; have HGa3 := Lib.hid (HG3.out.alloc (.cells #[.slice none 0 0, .int .i64 0, .slice none 0 0, .slice none 0 0, .slice none 0 0] 29)); have HR3 : Hid (RW 29 w3 W.heap.size zeroC) := HRa2.out.below hb HRa2.out.lt; have HRa3 := Lib.hid (HR3.out.alloc (.cells #[.slice none 0 0, .int .i64 0, .slice none 0 0, .slice none 0 0, .slice none 0 0] 29)); have F3 : Hid (w3.cell? ⟨g, 0, none⟩ = some (.slice A0 n0 c0) ∧ w3.cell? ⟨g, 1, none⟩ = some (.int .i64 x1) ∧ w3.cell? ⟨g, 2, none⟩ = some (.slice A2 n2 c2) ∧ w3.cell? ⟨g, 4, none⟩ = some (.slice A4 n4 c4)) := ⟨HG3.out.cell 0, HG3.out.cell 1, HG3.out.cell 2, HG3.out.cell 4⟩; have Fa3 : Hid ((w3.alloc (.cells #[.slice none 0 0, .int .i64 0, .slice none 0 0, .slice none 0 0, .slice none 0 0] 29)).cell? ⟨g, 0, none⟩ = some (.slice A0 n0 c0) ∧ (w3.alloc (.cells #[.slice none 0 0, .int .i64 0, .slice none 0 0, .slice none 0 0, .slice none 0 0] 29)).cell? ⟨g, 1, none⟩ = some (.int .i64 x1) ∧ (w3.alloc (.cells #[.slice none 0 0, .int .i64 0, .slice none 0 0, .slice none 0 0, .slice none 0 0] 29)).cell? ⟨g, 2, none⟩ = some (.slice A2 n2 c2) ∧ (w3.alloc (.cells #[.slice none 0 0, .int .i64 0, .slice none 0 0, .slice none 0 0, .slice none 0 0] 29)).cell? ⟨g, 4, none⟩ = some (.slice A4 n4 c4)) := ⟨HGa3.out.cell 0, HGa3.out.cell 1, HGa3.out.cell 2, HGa3.out.cell 4⟩; have HE3 : Hid (RW 29 w3 w2.heap.size #[.slice none 0 0, .int .i64 0, .slice none 0 0, .slice none 0 0, .slice none 0 0] ∧ W.heap.size < w2.heap.size) := ⟨(RW.new w2 #[.slice none 0 0, .int .i64 0, .slice none 0 0, .slice none 0 0, .slice none 0 0] 29).below hb (lt_alloc w2 _), by omega⟩; (try (have e0 := HE3.out.1.cell 0; have e1 := HE3.out.1.cell 1; have e2 := HE3.out.1.cell 2; have e3 := HE3.out.1.cell 3; have e4 := HE3.out.1.cell 4; have f0 := HE3.out.1.frozen 0; have f1 := HE3.out.1.frozen 1; have f2 := HE3.out.1.frozen 2; have f3 := HE3.out.1.frozen 3; have f4 := HE3.out.1.frozen 4)); clear h hi hb hb' hcm)))
    all_goals (go_wp2_with fail; go_meet)
    · refine ⟨w3.heap.size, A0m, c0m, A2m, c2m, A4m, c4m, rfl, ?_⟩
      have u1 : W.heap.size ≤ w1.heap.size := by omega
      have u2 : w1.heap.size ≤ w2.heap.size := by omega
      have u3 : W.heap.size < w3.heap.size := by omega
      exact Lib.hid (Ow1.new HR3.out u3 hgl HB3.out HI3.out HC1.out HC2.out HC3.out u1 u2 HL1.out HL2.out)
    · refine ⟨w2.heap.size, A0m, c0m, A2m, c2m, A4m, c4m, rfl, ?_⟩
      have u1 : W.heap.size ≤ w1.heap.size := by omega
      have u2 : w1.heap.size ≤ w2.heap.size := by omega
      exact Lib.hid (Ow1.of HE3.out.1 HR3.out HE3.out.2 hgl HB3.out HI3.out HC1.out HC2.out HC3.out u1 u2 HL1.out HL2.out)
    · refine ⟨w1.heap.size, A0m, c0m, A2m, c2m, A4m, c4m, rfl, ?_⟩
      have u1 : W.heap.size ≤ w1.heap.size := by omega
      have u2 : w1.heap.size ≤ w2.heap.size := by omega
      exact Lib.hid (Ow1.of HE3.out.1 HR3.out HE3.out.2 hgl HB3.out HI3.out HC1.out HC2.out HC3.out u1 u2 HL1.out HL2.out)
    · refine ⟨w0.heap.size, A0m, c0m, A2m, c2m, A4m, c4m, rfl, ?_⟩
      have u1 : W.heap.size ≤ w1.heap.size := by omega
      have u2 : w1.heap.size ≤ w2.heap.size := by omega
      exact Lib.hid (Ow1.of HE3.out.1 HR3.out HE3.out.2 hgl HB3.out HI3.out HC1.out HC2.out HC3.out u1 u2 HL1.out HL2.out)
  case rest =>
    obtain ⟨q, A0m, c0m, A2m, c2m, A4m, c4m, rfl, HCL⟩ := hcut
    clear HT0 HT2 HT4
    have HBC : Hid (Below W.heap.size W wc) := HCL.out.2.2.2.2.1
    have HQQ : Hid (q < wc.heap.size) := HCL.out.1.lt
    have HQW : Hid (W.heap.size < q) := HCL.out.2.2.1
    obtain ⟨i0, hi0, hz0, hz1, hz2⟩ := info_parts infoFl
    have HII := Lib.hid (And.intro hi0 (And.intro hz0 (And.intro hz1 hz2)))
    have HL : Hid (x3.length = n3) := HK3.out.1
    have HN := Lib.hid h3
    clear hi0 hz0 hz1 hz2
    go_wp2_with fail
    go_loopw [4] (fun i wr => ∃ (k : Nat) (zs : List (Fl × FlLay)) (A : Option Addr) (c : Nat), k ≤ n3 ∧ i = .int .i64 k ∧ Hid (RW 29 wr q #[.slice A0m n0 c0m, .int .i64 x1, .slice A2m n2 c2m, .slice A k c, .slice A4m n4 c4m] ∧ FlsO wc.heap.size wr (.slice A k c) zs ∧ zs.length = k ∧ zs.map Prod.fst = x3.take k ∧ Turn (fun b => b = q) wc wr)) (fun i _ => n3 - (intOf i).toNat)
    case atStart => exact ⟨0, [], none, 0, Nat.zero_le _, rfl, HCL.out.1, FlsO.nil _ _, rfl, rfl, Turn.of_below (Below.refl _ _)⟩
    case round =>
      obtain ⟨k, zs, A, c, hk, rfl, HQ⟩ := hrel
      have HBR : Hid (Below wc.heap.size wc wc) := Below.refl _ _
      have hTB : Below W.heap.size wc wr := HQ.out.2.2.2.2.below (fun j hj => by rw [hj]; exact Nat.le_of_lt HQW.out) HBC.out.size
      have HBW : Hid (Below W.heap.size W wr) := HBC.out.trans hTB
      have HSW : Hid (wc.heap.size ≤ wr.heap.size) := HQ.out.2.2.2.2.2.2.2.1
      have HGR : Hid (RW 29 wr g #[.slice A0 n0 c0, .int .i64 x1, .slice A2 n2 c2, .slice A3 n3 c3, .slice A4 n4 c4]) := HGG.out.below HBW.out HGG.out.lt
      have p3 : wr.cell? ⟨g, 3, none⟩ = some (.slice A3 n3 c3) := HGR.out.cell 3
      clear hTB
      by_cases hlt : k < n3
      · have b0 : (0 : Int) ≤ (k : Int) := by omega
        have b1 : (k : Int) < (n3 : Int) := by omega
        obtain ⟨b, off, x, l, rfl, hg, hx, ⟨q0, q1, q2, q3⟩, hv⟩ := (HK3.out.go HBW.out).at_ hlt
        have HX := Lib.hid hx
        have HV := Lib.hid hv
        have HKL := Lib.hid hlt
        have HLN : Hid (l.n1 ≤ 1048576) := by
          have h1 : x.lines_.length = l.n1 := hv.1.1
          have h2 := HFF.out k x hx
          show _ ≤ _
          omega
        have hkb : k < 1048576 := by have := HN.out; omega
        have HC := Lib.hid (fun X (e : X = wr.alloc (.cells #[.string x.name_, .slice l.A1 l.n1 l.c1, .int .i64 x.mode_, .int .i64 x.at_] 50)) => (show RW 50 X wr.heap.size #[.string x.name_, .slice l.A1 l.n1 l.c1, .int .i64 x.mode_, .int .i64 x.at_] ∧ Below wr.heap.size wr X from by subst e; exact ⟨RW.new _ _ _, below_alloc _ _⟩))
        have hqf : ¬ q = wr.heap.size := by have := HQQ.out; have := HSW.out; omega
        have hqf2 : ¬ wr.heap.size = q := fun e => hqf e.symm
        clear hx hv hg
        go_wp2_with (first
          | (go_at_call 65; obtain ⟨g0, g1⟩ := HC.out _ rfl; refine (l21TextsO_any l.A1 l.n1 l.c1 x.lines_ _ (HV.out.1.go g1) HLN.out).mono ?_; rintro e w2 ⟨A1m, c1m, rfl, hc1m, h⟩; obtain ⟨ho, hb⟩ := h.out; have HC1 := Lib.hid hc1m; have HB2 : Hid (Below wr.heap.size wr w2) := g1.trans (hb.mono g1.size); have HX2 := Lib.hid (g0.below hb g0.lt); have HQ2 := Lib.hid (HQ.out.1.below HB2.out HQ.out.1.lt); have HO3 : Hid (OwnS (w2.setCell ⟨wr.heap.size, 1, none⟩ (.slice A1m l.n1 c1m)) wr.heap.size A1m l.n1 c1m x.lines_) := (ho.lower g1.size).other HX2.out (by decide) _; have HB3 : Hid (Below wr.heap.size wr (w2.setCell ⟨wr.heap.size, 1, none⟩ (.slice A1m l.n1 c1m))) := HB2.out.setCell (Nat.le_refl _) _; have HQ3 : Hid (RW 29 (w2.setCell ⟨wr.heap.size, 1, none⟩ (.slice A1m l.n1 c1m)) q #[.slice A0m n0 c0m, .int .i64 x1, .slice A2m n2 c2m, .slice A k c, .slice A4m n4 c4m]) := HQ2.out.other (p := ⟨wr.heap.size, 1, none⟩) hqf _; have y0 := HX2.out.cell 0; have y1 := HX2.out.cell 1; have y2 := HX2.out.cell 2; have y3 := HX2.out.cell 3; have f1 := HX2.out.frozen 1; have r3 := HQ2.out.cell 3; clear g0 g1 h ho hb hc1m q0 q1 q2 q3 p3)
          | (at_builtin; refine wpList_append_own_at _ rfl _ _ 27 rfl wc.heap.size 50 i0 (.agg #[.string ⟨#[]⟩, .slice none 0 0, .int .i64 0, .int .i64 0]) 4 56 Tryd.underlying27 HII.out.1 HII.out.2.1 HII.out.2.2.1 HII.out.2.2.2 rfl (by decide) _ _ _ rfl ((own_len (ownFl_keep HQ.out.2.1.own HB3.out) HQ.out.2.2.1).alloc _) ⟨w2.heap.size, 0, none⟩ 1 1 [.string x.name_, .slice A1m l.n1 c1m, .int .i64 x.mode_, .int .i64 x.at_] rfl rfl (cell_four_newF' _ (size_set _ _ _) _ _ _ _ _) (fun x hx => by simp at hx; rcases hx with rfl | rfl | rfl | rfl <;> rfl) (by have := HN.out; unfold maxLen; omega) (by have := HN.out; omega) (by have := HSW.out; have := HB2.out.size; simp ; omega) ?_; intro v1 w5 hown1 hgr1 _ hor; obtain ⟨A9, c9, rfl, hc9⟩ := own_form hown1; have HQ5 := Lib.hid (rowC_grown (HQ3.out.alloc _) ((own_len (ownFl_keep HQ.out.2.1.own HB3.out) HQ.out.2.2.1).alloc _) hgr1); have s3 := HQ5.out.cell 3; have t3 := HQ5.out.frozen 3; have HW5 := Lib.hid hown1; have HV5 := Lib.hid hgr1; clear hown1 hgr1 hor y0 y1 y2 y3 f1 r3))
        have hmap : (zs ++ [(x, (⟨A1m, l.n1, c1m, HC1.out⟩ : FlLay))]).map Prod.fst = x3.take (k + 1) := by
          rw [List.map_append, HQ.out.2.2.2.1, List.take_add_one, HX.out]
          rfl
        have hb4 := HB3.out.trans ((below_alloc (w2.setCell ⟨wr.heap.size, 1, none⟩ (.slice A1m l.n1 c1m)) (.cells #[.string x.name_, .slice A1m l.n1 c1m, .int .i64 x.mode_, .int .i64 x.at_] 50)).mono HB3.out.size)
        have hsn := FlsO.snoc (x := x) (l := ⟨A1m, l.n1, c1m, HC1.out⟩) HQ.out.2.1 hb4 (HO3.out.keep (below_alloc _ _)) HV.out.2 HSW.out HQ.out.2.2.1 HW5.out HV5.out
        have hb5 : Below wc.heap.size wr w5 := (hb4.mono HSW.out).grown HV5.out (Nat.le_trans HSW.out hb4.size) fun b hb => own_ge HQ.out.2.1.own b hb
        go_roundw
        case rel => exact ⟨k + 1, zs ++ [(x, (⟨A1m, l.n1, c1m, HC1.out⟩ : FlLay))], A9, c9, HKL.out, by go_num, Lib.hid ⟨HQ5.out.set_ 3 _, hsn.other HQ5.out (by decide) (by decide) _, by rw [List.length_append, HQ.out.2.2.1]; rfl, hmap, HQ.out.2.2.2.2.step hb5 _⟩⟩
        case measure => have := HKL.out; simp [intOf]; omega
      · have HKN : Hid (k = n3) := by show _ = _; omega
        have hz : RW 29 wr W.heap.size #[.slice none 0 0, .int .i64 0, .slice none 0 0, .slice none 0 0, .slice none 0 0] := (HQ.out.2.2.2.2.2.2.2.2 W.heap.size (by have := HQQ.out; have := HQW.out; omega) (by have := HQW.out; show ¬ _ = _; omega)).trans HCL.out.2.1
        have HZ := Lib.hid hz
        obtain ⟨hc0m, hc2m, hc4m⟩ := HCL.out.2.2.2.2.2.2.1
        dsimp only at hc0m hc2m hc4m
        have r0 := HQ.out.1.cell 0
        have r1 := HQ.out.1.cell 1
        have r2 := HQ.out.1.cell 2
        have r3 := HQ.out.1.cell 3
        have r4 := HQ.out.1.cell 4
        have z0 := hz.cell 0
        have z1 := hz.cell 1
        have z2 := hz.cell 2
        have z3 := hz.cell 3
        have z4 := hz.cell 4
        have f0 := hz.frozen 0
        have f1 := hz.frozen 1
        have f2 := hz.frozen 2
        have f3 := hz.frozen 3
        have f4 := hz.frozen 4
        clear hz
        go_wp2_with fail
        obtain rfl := HKN.out
        have hcc : k ≤ c := by
          obtain ⟨A9, c9, e, h9⟩ := own_form HQ.out.2.1.own
          simp only [Value.slice.injEq] at e
          have := HQ.out.2.2.1
          omega
        refine bodyPost_ret (v := .agg #[.slice A0m n0 c0m, .int .i64 x1, .slice A2m n2 c2m, .slice A k c, .slice A4m n4 c4m]) (results_cell_row Tryd.results32 _ _ W.heap.size 29 _ (0, 0) _ rfl (sets_five HZ.out) Tryd.underlying29 rfl (by kernel_rfl)) rfl ?_
        exact ⟨⟨A0m, n0, c0m, hc0m, A2m, n2, c2m, hc2m, A, k, c, hcc, A4m, n4, c4m, hc4m⟩, zs, rfl, Lib.hid ⟨own_five (HCL.out.fin HQ.out.2.2.2.2 HQ.out.2.1 (by rw [HQ.out.2.2.2.1, ← HL.out, List.take_length]) HL.out hcc) HZ.out, below_five HBW.out (Nat.le_refl _) _ _ _ _ _⟩⟩
end Go.Proofs.YtlohjmlenbkbmaaDoor

namespace Go.Proofs.YtlohjmlenbkbmaaDoor
open Go Go.RowKit

theorem less_trans {a b c : List UInt8} (h : Op.bytesLess a b = true) (h' : Op.bytesLess b c = true) : Op.bytesLess a c = true := by
  rw [Go.Proofs.bytesLess_eq, decide_eq_true_eq] at h h' ⊢
  exact List.lt_trans h h'
theorem less_irrefl (a : List UInt8) : Op.bytesLess a a = false := by
  rw [Go.Proofs.bytesLess_eq, decide_eq_false_iff_not]
  exact List.lt_irrefl a
theorem UpOk.rise {α : Type} {ok : α → Bool} {nm : α → ByteArray} {xs : List α} (h : UpOk ok nm xs xs.length) : ∀ {j i : Nat} {a b : α}, i < j → xs[i]? = some a → xs[j]? = some b → Op.bytesLess (nm a).toList (nm b).toList = true
  | 0, _, _, _, hij, _, _ => by omega
  | j + 1, i, a, b, hij, ha, hb => by
    have hl := (List.getElem?_eq_some_iff.1 hb).1
    have hc : xs[j]? = some (xs[j]'(by omega)) := List.getElem?_eq_getElem (by omega)
    have h1 := (h (j + 1) b hl hb).2 _ (by omega) hc
    by_cases e : i = j
    · subst e
      rw [ha, Option.some.injEq] at hc
      rw [hc]
      exact h1
    · exact less_trans (h.rise (show i < j by omega) ha hc) h1
/-- How many names lie ahead of s. -/
def PlaceP {α : Type} (nm : α → ByteArray) (xs : List α) (s : ByteArray) (m : Nat) : Prop :=
  m ≤ xs.length ∧ (∀ (i : Nat) (b : α), i < m → xs[i]? = some b → Op.bytesLess (nm b).toList s.toList = true) ∧ (∀ (i : Nat) (b : α), m ≤ i → xs[i]? = some b → Op.bytesLess (nm b).toList s.toList = false)
theorem PlaceP.ex {α : Type} {ok : α → Bool} {nm : α → ByteArray} {xs : List α} (h : UpOk ok nm xs xs.length) (s : ByteArray) : ∃ m, PlaceP nm xs s m := by
  have key : ∀ k, k ≤ xs.length → (∃ m, PlaceP nm xs s m) ∨ (∀ (i : Nat) (b : α), i < k → xs[i]? = some b → Op.bytesLess (nm b).toList s.toList = true) := by
    intro k
    induction k with
    | zero => exact fun _ => .inr fun i b hi => absurd hi (by omega)
    | succ k ih =>
      intro hk
      rcases ih (by omega) with h' | h'
      · exact .inl h'
      · have hc : xs[k]? = some (xs[k]'(by omega)) := List.getElem?_eq_getElem (by omega)
        cases hb : Op.bytesLess (nm (xs[k]'(by omega))).toList s.toList
        · refine .inl ⟨k, by omega, h', fun i b hi hx => ?_⟩
          by_cases e : i = k
          · subst e
            rw [hc, Option.some.injEq] at hx
            rw [← hx]
            exact hb
          · cases hbb : Op.bytesLess (nm b).toList s.toList
            · rfl
            · have := less_trans (h.rise (show k < i by omega) hc hx) hbb
              rw [hb] at this
              cases this
        · refine .inr fun i b hi hx => ?_
          by_cases e : i = k
          · subst e
            rw [hc, Option.some.injEq] at hx
            rw [← hx]
            exact hb
          · exact h' i b (by omega) hx
  rcases key xs.length (Nat.le_refl _) with h' | h'
  · exact h'
  · exact ⟨xs.length, Nat.le_refl _, fun i b hi hx => h' i b hi hx, fun i b hi hx => absurd (List.getElem?_eq_some_iff.1 hx).1 (by omega)⟩
/-- Found: it is the only one of that name. -/
theorem PlaceP.hit {α : Type} {nm : α → ByteArray} {xs : List α} {s : ByteArray} {m : Nat} {b : α} (h : PlaceP nm xs s m) (_hb : xs[m]? = some b) (_e : nm b = s) : ∀ j, j < m → ∀ c : α, xs[j]? = some c → nm c ≠ s := by
  intro j hj c hc e2
  have := h.2.1 j c hj hc
  rw [e2, less_irrefl] at this
  cases this
theorem PlaceP.miss {α : Type} {ok : α → Bool} {nm : α → ByteArray} {xs : List α} {s : ByteArray} {m : Nat} (hu : UpOk ok nm xs xs.length) (h : PlaceP nm xs s m) (hm : ∀ b, xs[m]? = some b → nm b ≠ s) : ∀ (j : Nat) (c : α), xs[j]? = some c → nm c ≠ s := by
  intro j c hc e2
  rcases Nat.lt_trichotomy j m with q | q | q
  · have := h.2.1 j c q hc
    rw [e2, less_irrefl] at this
    cases this
  · subst q
    exact hm c hc e2
  · have hl := (List.getElem?_eq_some_iff.1 hc).1
    have hb : xs[m]? = some (xs[m]'(by omega)) := List.getElem?_eq_getElem (by omega)
    have h1 := h.2.2 m _ (Nat.le_refl _) hb
    have h2 := hu.rise q hb hc
    rw [e2, h1] at h2
    cases h2
end Go.Proofs.YtlohjmlenbkbmaaDoor

namespace Go.Proofs.YtlohjmlenbkbmaaDoor
open Go Go.RowKit

set_option maxHeartbeats 4000000 in
set_option maxRecDepth 100000 in
theorem searchFl_any (cap : Array Value) (n m : Nat) (W : World) (hn : n ≤ 1000000) (hm : m ≤ n)
    (hf : ∀ (h : Nat) (w : World), h < n → Below W.heap.size W w → Calls Tryd.prog 86 (#[.int .i64 h] ++ cap) w fun e w' => e = .returned (.bool (decide (m ≤ h))) ∧ Below w.heap.size w w') :
    Calls Tryd.prog 85 #[.int .i64 n, .func (.func 86) #[] cap] W fun e w' => e = .returned (.int .i64 m) ∧ Below W.heap.size W w' := by
  have HF := Lib.hid hf
  clear hf
  go_enter Tryd.func85, Tryd.ntmps85
  go_wp2_with fail
  go_loopw [5, 6] (fun p q wr => ∃ i j : Nat, p = .int .i64 i ∧ q = .int .i64 j ∧ i ≤ m ∧ m ≤ j ∧ j ≤ n ∧ Hid (Below W.heap.size W wr)) (fun p q _ => (intOf q).toNat - (intOf p).toNat)
  case atStart => exact ⟨0, n, rfl, rfl, Nat.zero_le _, hm, Nat.le_refl _, Below.refl _ _⟩
  case round =>
    obtain ⟨i, j, rfl, rfl, hi, hj, hjn, HW⟩ := hrel
    by_cases hlt : i < j
    · have b1 : (i : Int) < (j : Int) := by omega
      obtain ⟨h, hh⟩ : ∃ h, (i + j) / 2 = h := ⟨_, rfl⟩
      have HH : Hid (i ≤ h ∧ h < j) := ⟨by omega, by omega⟩
      have HQ : Hid ((h : Int) = ((i : Int) + (j : Int)) / 2) := by show _ = _; omega
      clear hh
      have HCL := Lib.hid (fun w (hb : Below W.heap.size W w) => (by have hq := HF.out h w (by have := HH.out; omega) hb; rw [HQ.out] at hq; exact hq : Calls Tryd.prog 86 (#[.int .i64 (((i : Int) + (j : Int)) / 2)] ++ cap) w fun e w' => e = .returned (.bool (decide (m ≤ h))) ∧ Below w.heap.size w w'))
      by_cases hmh : m ≤ h
      · have HM := Lib.hid (show decide (m ≤ h) = true by simp [hmh])
        go_wp2_with (go_at_call 86; refine Calls.mono (HCL.out _ HW.out) ?_; rintro e w1 ⟨rfl, hb⟩; rw [HM.out]; have HW1 := Lib.hid (HW.out.trans (hb.mono HW.out.size)); clear hb)
        go_roundw
        case rel => exact ⟨i, h, rfl, by rw [HQ.out], hi, hmh, by have := HH.out; omega, HW1⟩
        case measure => have h1 := HH.out; have h2 := HQ.out; simp [intOf]; omega
      · have HM := Lib.hid (show decide (m ≤ h) = false by simp [hmh])
        go_wp2_with (go_at_call 86; refine Calls.mono (HCL.out _ HW.out) ?_; rintro e w1 ⟨rfl, hb⟩; rw [HM.out]; have HW1 := Lib.hid (HW.out.trans (hb.mono HW.out.size)); clear hb)
        go_roundw
        case rel => exact ⟨h + 1, j, by rw [← HQ.out]; go_num, rfl, by omega, hj, hjn, HW1⟩
        case measure => have h1 := HH.out; have h2 := HQ.out; simp [intOf]; omega
    · have hij : i = m := by omega
      subst hij
      go_wp2_with fail
      go_ret
      exact ⟨rfl, HW.out⟩
end Go.Proofs.YtlohjmlenbkbmaaDoor

namespace Go.Proofs.YtlohjmlenbkbmaaDoor
open Go Go.RowKit Go.Sort

theorem two_cells (W : World) (T T' : TypeId) (c c' : Array Value) (X : World) (e : X = (W.alloc (.cells c T)).alloc (.cells c' T')) : RW T X W.heap.size c ∧ RW T' X (W.heap.size + 1) c' ∧ Below W.heap.size W X := by
  subst e
  refine ⟨(RW.new W c T).alloc _, ?_, (below_alloc _ _).alloc (by simp) _⟩
  have := RW.new (W.alloc (.cells c T)) c' T'
  simpa using this

set_option maxHeartbeats 4000000 in
set_option maxRecDepth 100000 in
theorem placeCF_any (g2 g3 : Nat) (A : Option Addr) (n c h : Nat) (xs : List Fl) (s : ByteArray) (x : Fl) (W : World) (h2 : W.cell? ⟨g2, 0, none⟩ = some (.slice A n c)) (h3 : W.cell? ⟨g3, 0, none⟩ = some (.string s)) (hI : FlI W W.heap.size A n xs) (hh : h < n) (hx : xs[h]? = some x) :
    Calls Tryd.prog 86 (#[.int .i64 h] ++ #[.pointer (some ⟨g2, 0, none⟩), .pointer (some ⟨g3, 0, none⟩)]) W fun e w' => e = .returned (.bool (!(Op.bytesLess x.name_.toList s.toList))) ∧ Below W.heap.size W w' := by
  have hn := hI.2.1
  unfold maxLen at hn
  obtain ⟨b, off, y, l, rfl, hg, hy, ⟨q0, q1, q2, q3⟩, _⟩ := hI.at_ hh
  obtain rfl : x = y := Option.some.inj (hx.symm.trans hy)
  have b0 : (0 : Int) ≤ (h : Int) := by omega
  have b1 : (h : Int) < (n : Int) := by omega
  have hmx := method_keyFl (.string x.name_) (.slice l.A1 l.n1 l.c1) (.int .i64 x.mode_) (.int .i64 x.at_)
  obtain ⟨z, hz⟩ : ∃ z, Op.bytesLess x.name_.toList s.toList = z := ⟨_, rfl⟩
  rw [hz]
  have HKX := Lib.hid (fun w => keyFl_any x l w)
  clear hx hy hI hg
  show Calls Tryd.prog 86 #[.int .i64 h, .pointer (some ⟨g2, 0, none⟩), .pointer (some ⟨g3, 0, none⟩)] W _
  go_enter Tryd.func86, Tryd.ntmps86
  go_wp2_with fail
  obtain ⟨w0, hw0⟩ : ∃ w0, W = w0 := ⟨_, rfl⟩
  have x0 := cell_regrown q0
  have x1 := cell_regrown q1
  have x2 := cell_regrown q2
  have x3 := cell_regrown q3
  have y2 := cell_regrown h2
  have y3 := cell_regrown h3
  have cX : ∀ d os', Calls Tryd.prog 108 #[.agg #[.string x.name_, .slice l.A1 l.n1 l.c1, .int .i64 x.mode_, .int .i64 x.at_]] (grow (redrawn W d) os') (fun e w'' => e = .returned (.string x.name_) ∧ ∃ q : Regrown, w'' = grow (redrawn W q.d) q.os) := fun d os' => Calls.regrown_of (HKX.out _)
  clear hw0 q0 q1 q2 q3 h2 h3
  refine wp_region_quiet_below (by kernel_rfl) (by kernel_rfl) ?_
  repeat (first | go_big_quiet_step (with_reducible exact cX _ _) | quiet_step (with_reducible exact cX _ _))
  refine wpQuiet_nil ?_
  intro w4 hw'
  obtain ⟨⟨dq, osq⟩, hw''⟩ := hw'
  have HB4 : Hid (Below W.heap.size W w4) := by show Below _ _ _; rw [hw'']; exact below_regrown W dq osq
  clear hw'' x0 x1 x2 x3 y2 y3 cX
  go_wp2_with fail
  go_ret
  exact ⟨rfl, HB4.out⟩

theorem place_boolF {xs : List Fl} {s : ByteArray} {m h : Nat} {x : Fl} (hp : PlaceP Fl.name_ xs s m) (hx : xs[h]? = some x) : (!(Op.bytesLess x.name_.toList s.toList)) = decide (m ≤ h) := by
  by_cases hmh : m ≤ h
  · rw [hp.2.2 h x hmh hx]; simp [hmh]
  · rw [hp.2.1 h x (by omega) hx]; simp [hmh]

set_option maxHeartbeats 4000000 in
set_option maxRecDepth 100000 in
theorem placeFl_any (A : Option Addr) (n c m : Nat) (xs : List Fl) (s : ByteArray) (f : Bool) (W : World) (hI : FlI W W.heap.size A n xs) (hn : n ≤ 1000) (hp : PlaceP Fl.name_ xs s m) (hf : (∃ x : Fl, xs[m]? = some x ∧ (x.name_.toList == s.toList) = f) ∨ (m = n ∧ f = false)) :
    Calls Tryd.prog 76 #[.slice A n c, .string s] W fun e w' => e = .returned (.tuple #[.int .i64 m, .bool f]) ∧ Below W.heap.size W w' := by
  have HI := Lib.hid hI
  have HP := Lib.hid hp
  have hl := hI.1
  have hmn : m ≤ n := by have := hp.1; omega
  have HC := Lib.hid (fun (X : World) (T T' : TypeId) (e : X = (W.alloc (.cells #[.slice A n c] T)).alloc (.cells #[.string s] T')) => two_cells W T T' #[.slice A n c] #[.string s] X e)
  have HCL : Hid (∀ (w1 : World), Below W.heap.size W w1 → w1.cell? ⟨W.heap.size, 0, none⟩ = some (.slice A n c) → w1.cell? ⟨W.heap.size + 1, 0, none⟩ = some (.string s) → W.heap.size + 2 ≤ w1.heap.size → ∀ (h : Nat) (w : World), h < n → Below w1.heap.size w1 w → Calls Tryd.prog 86 (#[.int .i64 h] ++ #[.pointer (some ⟨W.heap.size, 0, none⟩), .pointer (some ⟨W.heap.size + 1, 0, none⟩)]) w fun e w' => e = .returned (.bool (decide (m ≤ h))) ∧ Below w.heap.size w w') := by
    show ∀ _, _
    intro w1 hb1 k2 k3 hz h w hlt hb
    have hx : xs[h]? = some (xs[h]'(by omega)) := List.getElem?_eq_getElem (by omega)
    rw [← place_boolF HP.out hx]
    exact placeCF_any W.heap.size (W.heap.size + 1) A n c h xs s _ w ((hb.cell (p := ⟨W.heap.size, 0, none⟩) (by dsimp only; omega)).trans k2) ((hb.cell (p := ⟨W.heap.size + 1, 0, none⟩) (by dsimp only; omega)).trans k3) ((HI.out.go hb1).go hb) hlt hx
  clear hI hp
  go_enter Tryd.func76, Tryd.ntmps76
  go_wp2_with (go_at_call 85; obtain ⟨g0, g1, g2⟩ := HC.out _ _ _ rfl; refine (searchFl_any #[.pointer (some ⟨W.heap.size, 0, none⟩), .pointer (some ⟨W.heap.size + 1, 0, none⟩)] n m _ (by omega) hmn (HCL.out _ g2 (g0.cell 0) (g1.cell 0) (by simp))).mono ?_; rintro e w1 ⟨rfl, hb⟩; have HA1 := Lib.hid (g0.below hb g0.lt); have HD1 := Lib.hid (g1.below hb g1.lt); have HB1 := Lib.hid (g2.trans (hb.mono g2.size)); clear g0 g1 g2 hb)
  have r2 : w1.cell? ⟨W.heap.size, 0, none⟩ = some (.slice A n c) := HA1.out.cell 0
  have r3 : w1.cell? ⟨W.heap.size + 1, 0, none⟩ = some (.string s) := HD1.out.cell 0
  have y2 := cell_regrown r2
  have y3 := cell_regrown r3
  have c0 : (0 : Int) ≤ (m : Int) := by omega
  rcases hf with ⟨x, hx, hz⟩ | ⟨hmn2, rfl⟩
  · have hlt : m < n := by have := (List.getElem?_eq_some_iff.1 hx).1; omega
    have c1 : (m : Int) < (n : Int) := by omega
    have c2 : decide ((m : Int) < (n : Int)) = true := by simp; omega
    obtain ⟨b, off, y, l, rfl, hg, hy, ⟨q0, q1, q2, q3⟩, _⟩ := (HI.out.go HB1.out).at_ hlt
    obtain rfl : x = y := Option.some.inj (hx.symm.trans hy)
    have hmx := method_keyFl (.string x.name_) (.slice l.A1 l.n1 l.c1) (.int .i64 x.mode_) (.int .i64 x.at_)
    have HKX := Lib.hid (fun w => keyFl_any x l w)
    have x0 := cell_regrown q0
    have x1 := cell_regrown q1
    have x2 := cell_regrown q2
    have x3 := cell_regrown q3
    have cX : ∀ d os', Calls Tryd.prog 108 #[.agg #[.string x.name_, .slice l.A1 l.n1 l.c1, .int .i64 x.mode_, .int .i64 x.at_]] (grow (redrawn w1 d) os') (fun e w'' => e = .returned (.string x.name_) ∧ ∃ q : Regrown, w'' = grow (redrawn w1 q.d) q.os) := fun d os' => Calls.regrown_of (HKX.out _)
    clear r2 r3 q0 q1 q2 q3 hx hy hg
    refine wp_region_quiet_below (by kernel_rfl) (by kernel_rfl) ?_
    repeat (first | go_big_quiet_step (with_reducible exact cX _ _) | quiet_step (with_reducible exact cX _ _))
    refine wpQuiet_nil ?_
    intro w4 hw'
    obtain ⟨⟨dq, osq⟩, hw''⟩ := hw'
    have HB4 : Hid (Below W.heap.size W w4) := by show Below _ _ _; rw [hw'']; exact HB1.out.trans ((below_regrown w1 dq osq).mono HB1.out.size)
    clear hw'' x0 x1 x2 x3 y2 y3 cX
    go_wp2_with fail
    exact bodyPost_ret (v := .tuple #[.int .i64 m, .bool f]) (by rw [results_tmp2 rfl]; first | (go_simp; done) | (go_simp; rw [hz])) rfl ⟨rfl, HB4.out⟩
  · have c1 : ¬ (m : Int) < (n : Int) := by omega
    have c2 : decide ((m : Int) < (n : Int)) = false := by simp; omega
    clear r2 r3
    refine wp_region_quiet_below (by kernel_rfl) (by kernel_rfl) ?_
    repeat (first | go_big_quiet_step (fail) | quiet_step (fail))
    refine wpQuiet_nil ?_
    intro w4 hw'
    obtain ⟨⟨dq, osq⟩, hw''⟩ := hw'
    have HB4 : Hid (Below W.heap.size W w4) := by show Below _ _ _; rw [hw'']; exact HB1.out.trans ((below_regrown w1 dq osq).mono HB1.out.size)
    clear hw'' y2 y3
    go_wp2_with fail
    exact bodyPost_ret (v := .tuple #[.int .i64 m, .bool false]) (by rw [results_tmp2 rfl]; go_simp) rfl ⟨by rw [hmn2], HB4.out⟩
end Go.Proofs.YtlohjmlenbkbmaaDoor

namespace Go.Proofs.YtlohjmlenbkbmaaDoor
open Go Go.RowKit

theorem bytes_ne {a b : ByteArray} (h : a ≠ b) : (a.toList == b.toList) = false := by
  rw [Bool.eq_false_iff, ne_eq, beq_iff_eq]
  intro e
  apply h
  have h2 : a.data = b.data := by
    have e1 := e
    rw [ByteArray.toList_eq, ByteArray.toList_eq] at e1
    exact Array.toList_inj.1 e1
  cases a; cases b
  simp_all
theorem results_row_tmp {P : Program} {fn : Func} {p u : Tmp} {ty : TypeId} (h : fn.results = #[.cell p ty, .tmp u]) (tmps : Array Value) (w : World) (g : Nat) (t : TypeId) (cs : Array Value) (fr : Nat × Nat) (d : TypeDesc) (v : Value)
    (hp : tmps.getD p undef = .pointer (some ⟨g, 0, none⟩)) (hv : tmps.getD u undef = v) (hg : w.heap[g]? = some (.cells cs t fr))
    (hu : P.underlying ty = some d) (hd : (match d with | .struct _ | .array _ _ => true | _ => false) = true) (hi : (P.info? ty).map (·.size) = some cs.size) :
    (results fn tmps).run P w = .ok (.tuple #[.agg cs, v]) w := by
  rw [results_cell_tmp h, hp, hv]
  simp [asAddr, run_loadVar_row w g t ty cs fr d hg hu hd hi]
/-- The console X and the code K that a use of file s answers, where act is what is done. -/
def UseR (x : Cn) (s : ByteArray) (ms : List Int) (act : Fl → Fl × Int) (K : Int) (X : Cn) : Prop :=
  ((consoleB x && isNameB s) = false ∧ K = 1 ∧ X = zC) ∨
  (consoleB x = true ∧ isNameB s = true ∧ ∃ m, PlaceP Fl.name_ x.files_ s m ∧
    (((∀ y : Fl, x.files_[m]? = some y → y.name_ ≠ s) ∧ K = 11 ∧ X = zC) ∨
     ∃ y : Fl, x.files_[m]? = some y ∧ y.name_ = s ∧
      ((ms.contains y.mode_ = false ∧ K = 10 ∧ X = zC) ∨ (ms.contains y.mode_ = true ∧ (((act y).2 = 0 ∧ K = 0 ∧ X = { x with files_ := x.files_.set m (act y).1 }) ∨ (¬ (act y).2 = 0 ∧ K = (act y).2 ∧ X = zC))))))
theorem files_ok {x : Cn} (h : consoleB x = true) : ListOk fileB Fl.name_ 6 x.files_ := by
  unfold consoleB filesB at h
  rw [Bool.and_eq_true] at h
  exact of_tt h.2
theorem UseR.ex (x : Cn) (s : ByteArray) (ms : List Int) (act : Fl → Fl × Int) : ∃ K X, UseR x s ms act K X := by
  by_cases h : (consoleB x && isNameB s) = false
  · exact ⟨1, zC, .inl ⟨h, rfl, rfl⟩⟩
  · rw [Bool.not_eq_false, Bool.and_eq_true] at h
    obtain ⟨m, hp⟩ := PlaceP.ex (files_ok h.1).2 s
    by_cases hy : ∀ y : Fl, x.files_[m]? = some y → y.name_ ≠ s
    · exact ⟨11, zC, .inr ⟨h.1, h.2, m, hp, .inl ⟨hy, rfl, rfl⟩⟩⟩
    · obtain ⟨y, hy1, hy2⟩ : ∃ y : Fl, x.files_[m]? = some y ∧ y.name_ = s := by
        refine Classical.byContradiction fun hc => hy fun y h1 h2 => hc ⟨y, h1, h2⟩
      by_cases hc : ms.contains y.mode_ = true
      · by_cases h0 : (act y).2 = 0
        · exact ⟨0, _, .inr ⟨h.1, h.2, m, hp, .inr ⟨y, hy1, hy2, .inr ⟨hc, .inl ⟨h0, rfl, rfl⟩⟩⟩⟩⟩
        · exact ⟨(act y).2, zC, .inr ⟨h.1, h.2, m, hp, .inr ⟨y, hy1, hy2, .inr ⟨hc, .inr ⟨h0, rfl, rfl⟩⟩⟩⟩⟩
      · rw [Bool.not_eq_true] at hc
        exact ⟨10, zC, .inr ⟨h.1, h.2, m, hp, .inr ⟨y, hy1, hy2, .inl ⟨hc, rfl, rfl⟩⟩⟩⟩
theorem ConR.lower {K : Int} {X : Cn} {W w w' : World} {e : Ending} (h : ConR K X w e w') (hb : Below W.heap.size W w) : ConR K X W e w' := by
  obtain ⟨l, zs, he, h⟩ := h
  exact ⟨l, zs, he, Lib.hid ⟨h.out.1.lower hb.size, hb.trans (h.out.2.mono hb.size)⟩⟩
theorem five_new (W : World) (T0 T1 T2 T3 T4 : TypeId) (c0 c1 c2 c3 c4 : Array Value) (X : World) (e : X = ((((W.alloc (.cells c0 T0)).alloc (.cells c1 T1)).alloc (.cells c2 T2)).alloc (.cells c3 T3)).alloc (.cells c4 T4)) : RW T0 X W.heap.size c0 ∧ RW T1 X (W.heap.size + 1) c1 ∧ RW T2 X (W.heap.size + 2) c2 ∧ RW T3 X (W.heap.size + 3) c3 ∧ RW T4 X (W.heap.size + 4) c4 ∧ Below W.heap.size W X ∧ X.heap.size = W.heap.size + 5 := by
  obtain ⟨g0, g1, g2, g3, g4⟩ := three_new W T0 T1 T2 c0 c1 c2 _ rfl
  have h3 := RW.new (((W.alloc (.cells c0 T0)).alloc (.cells c1 T1)).alloc (.cells c2 T2)) c3 T3
  have h4 := RW.new ((((W.alloc (.cells c0 T0)).alloc (.cells c1 T1)).alloc (.cells c2 T2)).alloc (.cells c3 T3)) c4 T4
  subst e
  refine ⟨(g0.alloc _).alloc _, (g1.alloc _).alloc _, (g2.alloc _).alloc _, ?_, ?_, (g3.alloc (by rw [g4]; omega) _).alloc (by simp; omega) _, by simp⟩
  · have := h3.alloc (.cells c4 T4)
    simpa using this
  · simpa using h4
end Go.Proofs.YtlohjmlenbkbmaaDoor

namespace Go.Proofs.YtlohjmlenbkbmaaDoor
open Go Go.RowKit Go.Sort

set_option maxHeartbeats 1000000 in
set_option maxRecDepth 100000 in
theorem l21Ok_any (x : Cn) (l : CnLay) (g : Nat) (W : World) (hx : CnV W W.heap.size x l) (hg : RW 29 W g (x.vs l).toArray) :
    Calls Tryd.prog 28 #[.pointer (some ⟨g, 0, none⟩)] W fun e w' => e = .returned (.bool (consoleB x)) ∧ Below W.heap.size W w' := by
  unfold consoleB partsB filesB
  obtain ⟨x0, x1, x2, x3, x4⟩ := x
  obtain ⟨A0, n0, c0, h0, A2, n2, c2, h2, A3, n3, c3, h3, A4, n4, c4, h4⟩ := l
  obtain ⟨k0, k2, k3, k4⟩ := hx
  dsimp only at k0 k2 k3 k4 ⊢
  have HK0 := Lib.hid k0
  have HK2 := Lib.hid k2
  have HK3 := Lib.hid k3
  have HK4 := Lib.hid k4
  have hn0 := k0.2.1
  unfold maxLen at hn0
  have hn3 := k3.2.1
  unfold maxLen at hn3
  have HLL := Lib.hid k3.1
  rw [k0.1]
  have HRW : Hid (RW 29 W g #[.slice A0 n0 c0, .int .i64 x1, .slice A2 n2 c2, .slice A3 n3 c3, .slice A4 n4 c4]) := hg
  obtain ⟨a, ha⟩ : ∃ z, linesB x0 100 200 = z := ⟨_, rfl⟩
  obtain ⟨b, hb⟩ : ∃ z, decide (0 ≤ x1 ∧ x1 ≤ (n0 : Int)) = z := ⟨_, rfl⟩
  obtain ⟨c, hc⟩ : ∃ z, linesB x2 100 200 = z := ⟨_, rfl⟩
  obtain ⟨d, hd⟩ : ∃ z, linesB x4 200 1300 = z := ⟨_, rfl⟩
  have HA := Lib.hid ha
  have HB := Lib.hid hb
  have HC := Lib.hid hc
  have HD := Lib.hid hd
  rw [ha, hb, hc, hd]
  clear k0 k2 k3 k4 ha hb hc hd hg
  obtain ⟨P, hP⟩ : ∃ P, tt (ListOk fileB Fl.name_ 6 x3) = P := ⟨_, rfl⟩
  have HNO : Hid (¬ ListOk fileB Fl.name_ 6 x3 → P = false) := fun h => by rw [← hP]; exact tt_false h
  have HYES : Hid (ListOk fileB Fl.name_ 6 x3 → P = true) := fun h => by rw [← hP]; exact tt_true h
  rw [hP]
  clear hP
  cases a
  · skip
    go_enter Tryd.func28, Tryd.ntmps28
    go_wp2_with fail
    have z0 := cell_regrown (HRW.out.cell 0)
    have z1 := cell_regrown (HRW.out.cell 1)
    have z2 := cell_regrown (HRW.out.cell 2)
    have z3 := cell_regrown (HRW.out.cell 3)
    have z4 := cell_regrown (HRW.out.cell 4)
    have cA : ∀ (d' : Nat) (os : Array Obj), Calls Tryd.prog 62 #[.slice A0 n0 c0, .int .i64 100, .int .i64 200] (grow (redrawn W d') os) (fun e w'' => e = .returned (.bool false) ∧ ∃ q : Regrown, w'' = grow (redrawn W q.d) q.os) := fun (d : Nat) (os : Array Obj) => same_regrown (w := W) (d := d) (os := os) (l21Lines_any A0 n0 c0 100 200 x0 _ (HK0.out.go (below_regrown W d os)) (by decide) (by decide)) HA.out
    have cC : ∀ (d' : Nat) (os : Array Obj), Calls Tryd.prog 62 #[.slice A2 n2 c2, .int .i64 100, .int .i64 200] (grow (redrawn W d') os) (fun e w'' => e = .returned (.bool c) ∧ ∃ q : Regrown, w'' = grow (redrawn W q.d) q.os) := fun (d : Nat) (os : Array Obj) => same_regrown (w := W) (d := d) (os := os) (l21Lines_any A2 n2 c2 100 200 x2 _ (HK2.out.go (below_regrown W d os)) (by decide) (by decide)) HC.out
    have cD : ∀ (d' : Nat) (os : Array Obj), Calls Tryd.prog 62 #[.slice A4 n4 c4, .int .i64 200, .int .i64 1300] (grow (redrawn W d') os) (fun e w'' => e = .returned (.bool d) ∧ ∃ q : Regrown, w'' = grow (redrawn W q.d) q.os) := fun (d : Nat) (os : Array Obj) => same_regrown (w := W) (d := d) (os := os) (l21Lines_any A4 n4 c4 200 1300 x4 _ (HK4.out.go (below_regrown W d os)) (by decide) (by decide)) HD.out
    have cB := fun (d : Nat) (os : Array Obj) => same_regrown (w := W) (d := d) (os := os) (l00In_any x1 0 (n0 : Int) _) HB.out
    refine wp_region_quiet_below (by kernel_rfl) (by kernel_rfl) ?_
    repeat (first | go_big_quiet_step (first | with_reducible exact cA _ _ | with_reducible exact cB _ _ | with_reducible exact cC _ _ | with_reducible exact cD _ _) | quiet_step (first | with_reducible exact cA _ _ | with_reducible exact cB _ _ | with_reducible exact cC _ _ | with_reducible exact cD _ _))
    refine wpQuiet_nil ?_
    intro w1 hw'
    obtain ⟨⟨dq, osq⟩, hw''⟩ := hw'
    have hb1 : Below W.heap.size W w1 := by rw [hw'']; exact below_regrown W dq osq
    have HB1 := Lib.hid hb1
    have HR1 : Hid (RW 29 w1 g #[.slice A0 n0 c0, .int .i64 x1, .slice A2 n2 c2, .slice A3 n3 c3, .slice A4 n4 c4] ∧ Below W.heap.size W w1) := ⟨HRW.out.below hb1 HRW.out.lt, hb1⟩
    clear hw'' z0 z1 z2 z3 z4 cA cB cC cD hb1
    go_wp2_with fail
    go_ret
    exact ⟨rfl, HB1.out⟩
  cases b
  · skip
    go_enter Tryd.func28, Tryd.ntmps28
    go_wp2_with fail
    have z0 := cell_regrown (HRW.out.cell 0)
    have z1 := cell_regrown (HRW.out.cell 1)
    have z2 := cell_regrown (HRW.out.cell 2)
    have z3 := cell_regrown (HRW.out.cell 3)
    have z4 := cell_regrown (HRW.out.cell 4)
    have cA : ∀ (d' : Nat) (os : Array Obj), Calls Tryd.prog 62 #[.slice A0 n0 c0, .int .i64 100, .int .i64 200] (grow (redrawn W d') os) (fun e w'' => e = .returned (.bool true) ∧ ∃ q : Regrown, w'' = grow (redrawn W q.d) q.os) := fun (d : Nat) (os : Array Obj) => same_regrown (w := W) (d := d) (os := os) (l21Lines_any A0 n0 c0 100 200 x0 _ (HK0.out.go (below_regrown W d os)) (by decide) (by decide)) HA.out
    have cC : ∀ (d' : Nat) (os : Array Obj), Calls Tryd.prog 62 #[.slice A2 n2 c2, .int .i64 100, .int .i64 200] (grow (redrawn W d') os) (fun e w'' => e = .returned (.bool c) ∧ ∃ q : Regrown, w'' = grow (redrawn W q.d) q.os) := fun (d : Nat) (os : Array Obj) => same_regrown (w := W) (d := d) (os := os) (l21Lines_any A2 n2 c2 100 200 x2 _ (HK2.out.go (below_regrown W d os)) (by decide) (by decide)) HC.out
    have cD : ∀ (d' : Nat) (os : Array Obj), Calls Tryd.prog 62 #[.slice A4 n4 c4, .int .i64 200, .int .i64 1300] (grow (redrawn W d') os) (fun e w'' => e = .returned (.bool d) ∧ ∃ q : Regrown, w'' = grow (redrawn W q.d) q.os) := fun (d : Nat) (os : Array Obj) => same_regrown (w := W) (d := d) (os := os) (l21Lines_any A4 n4 c4 200 1300 x4 _ (HK4.out.go (below_regrown W d os)) (by decide) (by decide)) HD.out
    have cB := fun (d : Nat) (os : Array Obj) => same_regrown (w := W) (d := d) (os := os) (l00In_any x1 0 (n0 : Int) _) HB.out
    refine wp_region_quiet_below (by kernel_rfl) (by kernel_rfl) ?_
    repeat (first | go_big_quiet_step (first | with_reducible exact cA _ _ | with_reducible exact cB _ _ | with_reducible exact cC _ _ | with_reducible exact cD _ _) | quiet_step (first | with_reducible exact cA _ _ | with_reducible exact cB _ _ | with_reducible exact cC _ _ | with_reducible exact cD _ _))
    refine wpQuiet_nil ?_
    intro w1 hw'
    obtain ⟨⟨dq, osq⟩, hw''⟩ := hw'
    have hb1 : Below W.heap.size W w1 := by rw [hw'']; exact below_regrown W dq osq
    have HB1 := Lib.hid hb1
    have HR1 : Hid (RW 29 w1 g #[.slice A0 n0 c0, .int .i64 x1, .slice A2 n2 c2, .slice A3 n3 c3, .slice A4 n4 c4] ∧ Below W.heap.size W w1) := ⟨HRW.out.below hb1 HRW.out.lt, hb1⟩
    clear hw'' z0 z1 z2 z3 z4 cA cB cC cD hb1
    go_wp2_with fail
    go_ret
    exact ⟨rfl, HB1.out⟩
  cases c
  · skip
    go_enter Tryd.func28, Tryd.ntmps28
    go_wp2_with fail
    have z0 := cell_regrown (HRW.out.cell 0)
    have z1 := cell_regrown (HRW.out.cell 1)
    have z2 := cell_regrown (HRW.out.cell 2)
    have z3 := cell_regrown (HRW.out.cell 3)
    have z4 := cell_regrown (HRW.out.cell 4)
    have cA : ∀ (d' : Nat) (os : Array Obj), Calls Tryd.prog 62 #[.slice A0 n0 c0, .int .i64 100, .int .i64 200] (grow (redrawn W d') os) (fun e w'' => e = .returned (.bool true) ∧ ∃ q : Regrown, w'' = grow (redrawn W q.d) q.os) := fun (d : Nat) (os : Array Obj) => same_regrown (w := W) (d := d) (os := os) (l21Lines_any A0 n0 c0 100 200 x0 _ (HK0.out.go (below_regrown W d os)) (by decide) (by decide)) HA.out
    have cC : ∀ (d' : Nat) (os : Array Obj), Calls Tryd.prog 62 #[.slice A2 n2 c2, .int .i64 100, .int .i64 200] (grow (redrawn W d') os) (fun e w'' => e = .returned (.bool false) ∧ ∃ q : Regrown, w'' = grow (redrawn W q.d) q.os) := fun (d : Nat) (os : Array Obj) => same_regrown (w := W) (d := d) (os := os) (l21Lines_any A2 n2 c2 100 200 x2 _ (HK2.out.go (below_regrown W d os)) (by decide) (by decide)) HC.out
    have cD : ∀ (d' : Nat) (os : Array Obj), Calls Tryd.prog 62 #[.slice A4 n4 c4, .int .i64 200, .int .i64 1300] (grow (redrawn W d') os) (fun e w'' => e = .returned (.bool d) ∧ ∃ q : Regrown, w'' = grow (redrawn W q.d) q.os) := fun (d : Nat) (os : Array Obj) => same_regrown (w := W) (d := d) (os := os) (l21Lines_any A4 n4 c4 200 1300 x4 _ (HK4.out.go (below_regrown W d os)) (by decide) (by decide)) HD.out
    have cB := fun (d : Nat) (os : Array Obj) => same_regrown (w := W) (d := d) (os := os) (l00In_any x1 0 (n0 : Int) _) HB.out
    refine wp_region_quiet_below (by kernel_rfl) (by kernel_rfl) ?_
    repeat (first | go_big_quiet_step (first | with_reducible exact cA _ _ | with_reducible exact cB _ _ | with_reducible exact cC _ _ | with_reducible exact cD _ _) | quiet_step (first | with_reducible exact cA _ _ | with_reducible exact cB _ _ | with_reducible exact cC _ _ | with_reducible exact cD _ _))
    refine wpQuiet_nil ?_
    intro w1 hw'
    obtain ⟨⟨dq, osq⟩, hw''⟩ := hw'
    have hb1 : Below W.heap.size W w1 := by rw [hw'']; exact below_regrown W dq osq
    have HB1 := Lib.hid hb1
    have HR1 : Hid (RW 29 w1 g #[.slice A0 n0 c0, .int .i64 x1, .slice A2 n2 c2, .slice A3 n3 c3, .slice A4 n4 c4] ∧ Below W.heap.size W w1) := ⟨HRW.out.below hb1 HRW.out.lt, hb1⟩
    clear hw'' z0 z1 z2 z3 z4 cA cB cC cD hb1
    go_wp2_with fail
    go_ret
    exact ⟨rfl, HB1.out⟩
  by_cases hn6 : n3 ≤ 6
  case neg =>
    have HF : Hid (P = false) := HNO.out fun h => by have := h.1; have := HLL.out; omega
    have e6 : (6 : Int) < (n3 : Int) := by omega
    rw [HF.out]
    cases d
    · skip
      go_enter Tryd.func28, Tryd.ntmps28
      go_wp2_with fail
      have z0 := cell_regrown (HRW.out.cell 0)
      have z1 := cell_regrown (HRW.out.cell 1)
      have z2 := cell_regrown (HRW.out.cell 2)
      have z3 := cell_regrown (HRW.out.cell 3)
      have z4 := cell_regrown (HRW.out.cell 4)
      have cA : ∀ (d' : Nat) (os : Array Obj), Calls Tryd.prog 62 #[.slice A0 n0 c0, .int .i64 100, .int .i64 200] (grow (redrawn W d') os) (fun e w'' => e = .returned (.bool true) ∧ ∃ q : Regrown, w'' = grow (redrawn W q.d) q.os) := fun (d : Nat) (os : Array Obj) => same_regrown (w := W) (d := d) (os := os) (l21Lines_any A0 n0 c0 100 200 x0 _ (HK0.out.go (below_regrown W d os)) (by decide) (by decide)) HA.out
      have cC : ∀ (d' : Nat) (os : Array Obj), Calls Tryd.prog 62 #[.slice A2 n2 c2, .int .i64 100, .int .i64 200] (grow (redrawn W d') os) (fun e w'' => e = .returned (.bool true) ∧ ∃ q : Regrown, w'' = grow (redrawn W q.d) q.os) := fun (d : Nat) (os : Array Obj) => same_regrown (w := W) (d := d) (os := os) (l21Lines_any A2 n2 c2 100 200 x2 _ (HK2.out.go (below_regrown W d os)) (by decide) (by decide)) HC.out
      have cD : ∀ (d' : Nat) (os : Array Obj), Calls Tryd.prog 62 #[.slice A4 n4 c4, .int .i64 200, .int .i64 1300] (grow (redrawn W d') os) (fun e w'' => e = .returned (.bool false) ∧ ∃ q : Regrown, w'' = grow (redrawn W q.d) q.os) := fun (d : Nat) (os : Array Obj) => same_regrown (w := W) (d := d) (os := os) (l21Lines_any A4 n4 c4 200 1300 x4 _ (HK4.out.go (below_regrown W d os)) (by decide) (by decide)) HD.out
      have cB := fun (d : Nat) (os : Array Obj) => same_regrown (w := W) (d := d) (os := os) (l00In_any x1 0 (n0 : Int) _) HB.out
      refine wp_region_quiet_below (by kernel_rfl) (by kernel_rfl) ?_
      repeat (first | go_big_quiet_step (first | with_reducible exact cA _ _ | with_reducible exact cB _ _ | with_reducible exact cC _ _ | with_reducible exact cD _ _) | quiet_step (first | with_reducible exact cA _ _ | with_reducible exact cB _ _ | with_reducible exact cC _ _ | with_reducible exact cD _ _))
      refine wpQuiet_nil ?_
      intro w1 hw'
      obtain ⟨⟨dq, osq⟩, hw''⟩ := hw'
      have hb1 : Below W.heap.size W w1 := by rw [hw'']; exact below_regrown W dq osq
      have HB1 := Lib.hid hb1
      have HR1 : Hid (RW 29 w1 g #[.slice A0 n0 c0, .int .i64 x1, .slice A2 n2 c2, .slice A3 n3 c3, .slice A4 n4 c4] ∧ Below W.heap.size W w1) := ⟨HRW.out.below hb1 HRW.out.lt, hb1⟩
      clear hw'' z0 z1 z2 z3 z4 cA cB cC cD hb1
      go_wp2_with fail
      go_ret
      exact ⟨rfl, HB1.out⟩
    · skip
      go_enter Tryd.func28, Tryd.ntmps28
      go_wp2_with fail
      have z0 := cell_regrown (HRW.out.cell 0)
      have z1 := cell_regrown (HRW.out.cell 1)
      have z2 := cell_regrown (HRW.out.cell 2)
      have z3 := cell_regrown (HRW.out.cell 3)
      have z4 := cell_regrown (HRW.out.cell 4)
      have cA : ∀ (d' : Nat) (os : Array Obj), Calls Tryd.prog 62 #[.slice A0 n0 c0, .int .i64 100, .int .i64 200] (grow (redrawn W d') os) (fun e w'' => e = .returned (.bool true) ∧ ∃ q : Regrown, w'' = grow (redrawn W q.d) q.os) := fun (d : Nat) (os : Array Obj) => same_regrown (w := W) (d := d) (os := os) (l21Lines_any A0 n0 c0 100 200 x0 _ (HK0.out.go (below_regrown W d os)) (by decide) (by decide)) HA.out
      have cC : ∀ (d' : Nat) (os : Array Obj), Calls Tryd.prog 62 #[.slice A2 n2 c2, .int .i64 100, .int .i64 200] (grow (redrawn W d') os) (fun e w'' => e = .returned (.bool true) ∧ ∃ q : Regrown, w'' = grow (redrawn W q.d) q.os) := fun (d : Nat) (os : Array Obj) => same_regrown (w := W) (d := d) (os := os) (l21Lines_any A2 n2 c2 100 200 x2 _ (HK2.out.go (below_regrown W d os)) (by decide) (by decide)) HC.out
      have cD : ∀ (d' : Nat) (os : Array Obj), Calls Tryd.prog 62 #[.slice A4 n4 c4, .int .i64 200, .int .i64 1300] (grow (redrawn W d') os) (fun e w'' => e = .returned (.bool true) ∧ ∃ q : Regrown, w'' = grow (redrawn W q.d) q.os) := fun (d : Nat) (os : Array Obj) => same_regrown (w := W) (d := d) (os := os) (l21Lines_any A4 n4 c4 200 1300 x4 _ (HK4.out.go (below_regrown W d os)) (by decide) (by decide)) HD.out
      have cB := fun (d : Nat) (os : Array Obj) => same_regrown (w := W) (d := d) (os := os) (l00In_any x1 0 (n0 : Int) _) HB.out
      refine wp_region_quiet_below (by kernel_rfl) (by kernel_rfl) ?_
      repeat (first | go_big_quiet_step (first | with_reducible exact cA _ _ | with_reducible exact cB _ _ | with_reducible exact cC _ _ | with_reducible exact cD _ _) | quiet_step (first | with_reducible exact cA _ _ | with_reducible exact cB _ _ | with_reducible exact cC _ _ | with_reducible exact cD _ _))
      refine wpQuiet_nil ?_
      intro w1 hw'
      obtain ⟨⟨dq, osq⟩, hw''⟩ := hw'
      have hb1 : Below W.heap.size W w1 := by rw [hw'']; exact below_regrown W dq osq
      have HB1 := Lib.hid hb1
      have HR1 : Hid (RW 29 w1 g #[.slice A0 n0 c0, .int .i64 x1, .slice A2 n2 c2, .slice A3 n3 c3, .slice A4 n4 c4] ∧ Below W.heap.size W w1) := ⟨HRW.out.below hb1 HRW.out.lt, hb1⟩
      clear hw'' z0 z1 z2 z3 z4 cA cB cC cD hb1
      go_wp2_with fail
      go_ret
      exact ⟨rfl, HB1.out⟩
  have e6 : ¬ (6 : Int) < (n3 : Int) := by omega
  have HN6 := Lib.hid hn6
  clear hn6
  cases d
  · skip
    go_enter Tryd.func28, Tryd.ntmps28
    go_wp2_with fail
    have z0 := cell_regrown (HRW.out.cell 0)
    have z1 := cell_regrown (HRW.out.cell 1)
    have z2 := cell_regrown (HRW.out.cell 2)
    have z3 := cell_regrown (HRW.out.cell 3)
    have z4 := cell_regrown (HRW.out.cell 4)
    have cA : ∀ (d' : Nat) (os : Array Obj), Calls Tryd.prog 62 #[.slice A0 n0 c0, .int .i64 100, .int .i64 200] (grow (redrawn W d') os) (fun e w'' => e = .returned (.bool true) ∧ ∃ q : Regrown, w'' = grow (redrawn W q.d) q.os) := fun (d : Nat) (os : Array Obj) => same_regrown (w := W) (d := d) (os := os) (l21Lines_any A0 n0 c0 100 200 x0 _ (HK0.out.go (below_regrown W d os)) (by decide) (by decide)) HA.out
    have cC : ∀ (d' : Nat) (os : Array Obj), Calls Tryd.prog 62 #[.slice A2 n2 c2, .int .i64 100, .int .i64 200] (grow (redrawn W d') os) (fun e w'' => e = .returned (.bool true) ∧ ∃ q : Regrown, w'' = grow (redrawn W q.d) q.os) := fun (d : Nat) (os : Array Obj) => same_regrown (w := W) (d := d) (os := os) (l21Lines_any A2 n2 c2 100 200 x2 _ (HK2.out.go (below_regrown W d os)) (by decide) (by decide)) HC.out
    have cD : ∀ (d' : Nat) (os : Array Obj), Calls Tryd.prog 62 #[.slice A4 n4 c4, .int .i64 200, .int .i64 1300] (grow (redrawn W d') os) (fun e w'' => e = .returned (.bool false) ∧ ∃ q : Regrown, w'' = grow (redrawn W q.d) q.os) := fun (d : Nat) (os : Array Obj) => same_regrown (w := W) (d := d) (os := os) (l21Lines_any A4 n4 c4 200 1300 x4 _ (HK4.out.go (below_regrown W d os)) (by decide) (by decide)) HD.out
    have cB := fun (d : Nat) (os : Array Obj) => same_regrown (w := W) (d := d) (os := os) (l00In_any x1 0 (n0 : Int) _) HB.out
    refine wp_region_quiet_below (by kernel_rfl) (by kernel_rfl) ?_
    repeat (first | go_big_quiet_step (first | with_reducible exact cA _ _ | with_reducible exact cB _ _ | with_reducible exact cC _ _ | with_reducible exact cD _ _) | quiet_step (first | with_reducible exact cA _ _ | with_reducible exact cB _ _ | with_reducible exact cC _ _ | with_reducible exact cD _ _))
    refine wpQuiet_nil ?_
    intro w1 hw'
    obtain ⟨⟨dq, osq⟩, hw''⟩ := hw'
    have hb1 : Below W.heap.size W w1 := by rw [hw'']; exact below_regrown W dq osq
    have HB1 := Lib.hid hb1
    have HR1 : Hid (RW 29 w1 g #[.slice A0 n0 c0, .int .i64 x1, .slice A2 n2 c2, .slice A3 n3 c3, .slice A4 n4 c4] ∧ Below W.heap.size W w1) := ⟨HRW.out.below hb1 HRW.out.lt, hb1⟩
    clear hw'' z0 z1 z2 z3 z4 cA cB cC cD hb1
    go_wp2_with fail
    go_ret
    exact ⟨rfl, HB1.out⟩
  go_enter Tryd.func28, Tryd.ntmps28
  go_wp2_with fail
  have z0 := cell_regrown (HRW.out.cell 0)
  have z1 := cell_regrown (HRW.out.cell 1)
  have z2 := cell_regrown (HRW.out.cell 2)
  have z3 := cell_regrown (HRW.out.cell 3)
  have z4 := cell_regrown (HRW.out.cell 4)
  have cA : ∀ (d' : Nat) (os : Array Obj), Calls Tryd.prog 62 #[.slice A0 n0 c0, .int .i64 100, .int .i64 200] (grow (redrawn W d') os) (fun e w'' => e = .returned (.bool true) ∧ ∃ q : Regrown, w'' = grow (redrawn W q.d) q.os) := fun (d : Nat) (os : Array Obj) => same_regrown (w := W) (d := d) (os := os) (l21Lines_any A0 n0 c0 100 200 x0 _ (HK0.out.go (below_regrown W d os)) (by decide) (by decide)) HA.out
  have cC : ∀ (d' : Nat) (os : Array Obj), Calls Tryd.prog 62 #[.slice A2 n2 c2, .int .i64 100, .int .i64 200] (grow (redrawn W d') os) (fun e w'' => e = .returned (.bool true) ∧ ∃ q : Regrown, w'' = grow (redrawn W q.d) q.os) := fun (d : Nat) (os : Array Obj) => same_regrown (w := W) (d := d) (os := os) (l21Lines_any A2 n2 c2 100 200 x2 _ (HK2.out.go (below_regrown W d os)) (by decide) (by decide)) HC.out
  have cD : ∀ (d' : Nat) (os : Array Obj), Calls Tryd.prog 62 #[.slice A4 n4 c4, .int .i64 200, .int .i64 1300] (grow (redrawn W d') os) (fun e w'' => e = .returned (.bool true) ∧ ∃ q : Regrown, w'' = grow (redrawn W q.d) q.os) := fun (d : Nat) (os : Array Obj) => same_regrown (w := W) (d := d) (os := os) (l21Lines_any A4 n4 c4 200 1300 x4 _ (HK4.out.go (below_regrown W d os)) (by decide) (by decide)) HD.out
  have cB := fun (d : Nat) (os : Array Obj) => same_regrown (w := W) (d := d) (os := os) (l00In_any x1 0 (n0 : Int) _) HB.out
  refine wp_region_quiet_below (by kernel_rfl) (by kernel_rfl) ?_
  repeat (first | go_big_quiet_step (first | with_reducible exact cA _ _ | with_reducible exact cB _ _ | with_reducible exact cC _ _ | with_reducible exact cD _ _) | quiet_step (first | with_reducible exact cA _ _ | with_reducible exact cB _ _ | with_reducible exact cC _ _ | with_reducible exact cD _ _))
  refine wpQuiet_nil ?_
  intro w1 hw'
  obtain ⟨⟨dq, osq⟩, hw''⟩ := hw'
  have hb1 : Below W.heap.size W w1 := by rw [hw'']; exact below_regrown W dq osq
  have HB1 := Lib.hid hb1
  have HR1 : Hid (RW 29 w1 g #[.slice A0 n0 c0, .int .i64 x1, .slice A2 n2 c2, .slice A3 n3 c3, .slice A4 n4 c4] ∧ Below W.heap.size W w1) := ⟨HRW.out.below hb1 HRW.out.lt, hb1⟩
  clear hw'' z0 z1 z2 z3 z4 cA cB cC cD hb1
  have s3 : w1.cell? ⟨g, 3, none⟩ = some (.slice A3 n3 c3) := HR1.out.1.cell 3
  go_wp2_with fail
  go_loopw [3] (fun i wr => ∃ k : Nat, k ≤ n3 ∧ i = .int .i64 k ∧ wr.cell? ⟨g, 3, none⟩ = some (.slice A3 n3 c3) ∧ Hid (RW 29 wr g #[.slice A0 n0 c0, .int .i64 x1, .slice A2 n2 c2, .slice A3 n3 c3, .slice A4 n4 c4] ∧ Below W.heap.size W wr) ∧ Hid (UpOk fileB Fl.name_ x3 k)) (fun i _ => n3 - (intOf i).toNat)
  case atStart => exact ⟨0, Nat.zero_le _, rfl, s3, HR1, Lib.hid UpOk.zero⟩
  case round =>
    obtain ⟨k, hk, rfl, s3, HB, HV⟩ := hrel
    by_cases hlt : k < n3
    · have b0 : (0 : Int) ≤ (k : Int) := by omega
      have b1 : (k : Int) < (n3 : Int) := by omega
      obtain ⟨b, off, x, l, rfl, hgb, hx, ⟨q0, q1, q2, q3⟩, hv⟩ := (HK3.out.go HB.out.2).at_ hlt
      have HX := Lib.hid hx
      have HGB : Hid (b < wr.heap.size) := hgb
      have HEL := Lib.hid (fun (w : World) (hb : Below wr.heap.size wr w) => l21File_any x l w (hv.go hb))
      obtain ⟨u0, u1, u2, u3⟩ := x
      obtain ⟨a1, s1, d1', e1⟩ := l
      dsimp only at q0 q1 q2 q3
      obtain ⟨z0, hz0⟩ : ∃ z, fileB ⟨u0, u1, u2, u3⟩ = z := ⟨_, rfl⟩
      have HZ := Lib.hid hz0
      clear hx hgb hv hz0

      cases z0
      case false =>
        have HF : Hid (P = false) := HNO.out (not_ok HX.out HZ.out)
        go_wp2_with fail
        have x0' := cell_regrown q0
        have x1' := cell_regrown q1
        have x2' := cell_regrown q2
        have x3' := cell_regrown q3
        have xs := cell_regrown s3
        have cA : ∀ d os', Calls Tryd.prog 63 #[.agg #[.string u0, .slice a1 s1 d1', .int .i64 u2, .int .i64 u3]] (grow (redrawn wr d) os') (fun e w'' => e = .returned (.bool false) ∧ ∃ q : Regrown, w'' = grow (redrawn wr q.d) q.os) := fun d os' => Calls.regrown_of (by have h := HEL.out _ (below_regrown wr d os'); rw [HZ.out] at h; exact h)
        clear q0 q1 q2 q3
        refine wp_region_quiet_below (by kernel_rfl) (by kernel_rfl) ?_
        repeat (first | go_big_quiet_step (with_reducible exact cA _ _) | quiet_step (with_reducible exact cA _ _))
        refine wpQuiet_nil ?_
        intro w4 hw'
        obtain ⟨⟨dq, osq⟩, hw''⟩ := hw'
        have HB4 : Hid (RW 29 w4 g #[.slice A0 n0 c0, .int .i64 x1, .slice A2 n2 c2, .slice (some ⟨b, off, none⟩) n3 c3, .slice A4 n4 c4] ∧ Below W.heap.size W w4) := by show _ ∧ _; rw [hw'']; exact ⟨HB.out.1.below (below_regrown wr dq osq) HB.out.1.lt, HB.out.2.trans ((below_regrown wr dq osq).mono HB.out.2.size)⟩
        clear hw'' x0' x1' x2' x3' xs cA s3
        go_wp2_with fail
        go_ret
        exact ⟨by rw [HF.out]; rfl, HB4.out.2⟩
      have HOK : Hid (fileB ⟨u0, u1, u2, u3⟩ = true) := HZ.out
      by_cases hkp : k = 0
      · subst hkp
        have HV2 := Lib.hid (UpOk.first (nm := Fl.name_) HX.out HOK.out)
        simp only [Nat.zero_mul, Nat.add_zero] at q0 q1 q2 q3
        go_wp2_with fail
        have x0' := cell_regrown q0
        have x1' := cell_regrown q1
        have x2' := cell_regrown q2
        have x3' := cell_regrown q3
        have xs := cell_regrown s3
        have cA : ∀ d os', Calls Tryd.prog 63 #[.agg #[.string u0, .slice a1 s1 d1', .int .i64 u2, .int .i64 u3]] (grow (redrawn wr d) os') (fun e w'' => e = .returned (.bool true) ∧ ∃ q : Regrown, w'' = grow (redrawn wr q.d) q.os) := fun d os' => Calls.regrown_of (by have h := HEL.out _ (below_regrown wr d os'); rw [HZ.out] at h; exact h)
        clear q0 q1 q2 q3
        refine wp_region_quiet_below (by kernel_rfl) (by kernel_rfl) ?_
        repeat (first | go_big_quiet_step (with_reducible exact cA _ _) | quiet_step (with_reducible exact cA _ _))
        refine wpQuiet_nil ?_
        intro w4 hw'
        obtain ⟨⟨dq, osq⟩, hw''⟩ := hw'
        have HB4 : Hid (RW 29 w4 g #[.slice A0 n0 c0, .int .i64 x1, .slice A2 n2 c2, .slice (some ⟨b, off, none⟩) n3 c3, .slice A4 n4 c4] ∧ Below W.heap.size W w4) := by show _ ∧ _; rw [hw'']; exact ⟨HB.out.1.below (below_regrown wr dq osq) HB.out.1.lt, HB.out.2.trans ((below_regrown wr dq osq).mono HB.out.2.size)⟩
        clear hw'' x0' x1' x2' x3' xs cA s3
        go_wp2_with fail
        go_roundw
        case rel => exact ⟨0 + 1, by omega, by go_num, HB4.out.1.cell 3, HB4, HV2⟩
        case measure => simp [intOf]; omega
      obtain ⟨j, hj⟩ : ∃ j, k = j + 1 := ⟨k - 1, by omega⟩
      have hj1 : (k : Int) - 1 = (j : Int) := by omega
      have hkp2 : (0 : Int) < (k : Int) := by omega
      have hkp3 : decide ((0 : Int) < (k : Int)) = true := by simp; omega
      have hkp4 : decide (0 < k) = true := by simp; omega
      have hkp5 : 0 < k := by omega
      have e0 : (0 : Int) ≤ (j : Int) := by omega
      have e1' : (j : Int) < (n3 : Int) := by omega
      obtain ⟨b', off', y, l', hA', hg', hy, ⟨r0, r1, r2, r3⟩, _⟩ := (HK3.out.go HB.out.2).at_ (show j < n3 by omega)
      simp only [Option.some.injEq, Addr.mk.injEq, and_true] at hA'
      obtain ⟨rfl, rfl⟩ := hA'
      have HY : Hid (x3[k - 1]? = some y) := by show _ = _; rw [show k - 1 = j by omega]; exact hy
      clear hj hkp hg' hy r1 r2 r3
      obtain ⟨R, hRR⟩ : ∃ z, Op.bytesLess y.name_.toList u0.toList = z := ⟨_, rfl⟩
      have HRR := Lib.hid hRR
      cases R
      · have HF : Hid (P = false) := HNO.out (not_up hkp5 HX.out HY.out HRR.out)
        go_wp2_with fail
        have x0' := cell_regrown q0
        have x1' := cell_regrown q1
        have x2' := cell_regrown q2
        have x3' := cell_regrown q3
        have xs := cell_regrown s3
        have y0 := cell_regrown r0
        have cA : ∀ d os', Calls Tryd.prog 63 #[.agg #[.string u0, .slice a1 s1 d1', .int .i64 u2, .int .i64 u3]] (grow (redrawn wr d) os') (fun e w'' => e = .returned (.bool true) ∧ ∃ q : Regrown, w'' = grow (redrawn wr q.d) q.os) := fun d os' => Calls.regrown_of (by have h := HEL.out _ (below_regrown wr d os'); rw [HZ.out] at h; exact h)
        clear q0 q1 q2 q3 r0
        refine wp_region_quiet_below (by kernel_rfl) (by kernel_rfl) ?_
        repeat (first | go_big_quiet_step (with_reducible exact cA _ _) | quiet_step (with_reducible exact cA _ _))
        refine wpQuiet_nil ?_
        intro w4 hw'
        obtain ⟨⟨dq, osq⟩, hw''⟩ := hw'
        have HB4 : Hid (RW 29 w4 g #[.slice A0 n0 c0, .int .i64 x1, .slice A2 n2 c2, .slice (some ⟨b, off, none⟩) n3 c3, .slice A4 n4 c4] ∧ Below W.heap.size W w4) := by show _ ∧ _; rw [hw'']; exact ⟨HB.out.1.below (below_regrown wr dq osq) HB.out.1.lt, HB.out.2.trans ((below_regrown wr dq osq).mono HB.out.2.size)⟩
        clear hw'' x0' x1' x2' x3' xs cA y0 s3
        go_wp2_with fail
        go_ret
        exact ⟨by rw [HF.out]; rfl, HB4.out.2⟩
      · have HV2 := Lib.hid (UpOk.next HV.out HX.out HOK.out HY.out HRR.out)
        go_wp2_with fail
        have x0' := cell_regrown q0
        have x1' := cell_regrown q1
        have x2' := cell_regrown q2
        have x3' := cell_regrown q3
        have xs := cell_regrown s3
        have y0 := cell_regrown r0
        have cA : ∀ d os', Calls Tryd.prog 63 #[.agg #[.string u0, .slice a1 s1 d1', .int .i64 u2, .int .i64 u3]] (grow (redrawn wr d) os') (fun e w'' => e = .returned (.bool true) ∧ ∃ q : Regrown, w'' = grow (redrawn wr q.d) q.os) := fun d os' => Calls.regrown_of (by have h := HEL.out _ (below_regrown wr d os'); rw [HZ.out] at h; exact h)
        clear q0 q1 q2 q3 r0
        refine wp_region_quiet_below (by kernel_rfl) (by kernel_rfl) ?_
        repeat (first | go_big_quiet_step (with_reducible exact cA _ _) | quiet_step (with_reducible exact cA _ _))
        refine wpQuiet_nil ?_
        intro w4 hw'
        obtain ⟨⟨dq, osq⟩, hw''⟩ := hw'
        have HB4 : Hid (RW 29 w4 g #[.slice A0 n0 c0, .int .i64 x1, .slice A2 n2 c2, .slice (some ⟨b, off, none⟩) n3 c3, .slice A4 n4 c4] ∧ Below W.heap.size W w4) := by show _ ∧ _; rw [hw'']; exact ⟨HB.out.1.below (below_regrown wr dq osq) HB.out.1.lt, HB.out.2.trans ((below_regrown wr dq osq).mono HB.out.2.size)⟩
        clear hw'' x0' x1' x2' x3' xs cA y0 s3
        go_wp2_with fail
        go_roundw
        case rel => exact ⟨k + 1, by omega, by go_num, HB4.out.1.cell 3, HB4, HV2⟩
        case measure => simp [intOf]; omega
    · have hkn : k = n3 := by omega
      have HT1 : Hid (P = true) := HYES.out (by
        refine ⟨by have := HLL.out; have := HN6.out; omega, ?_⟩
        rw [HLL.out, ← hkn]
        exact HV.out)
      have hnk : ¬ (k : Int) < (n3 : Int) := by omega
      clear HV hkn
      go_wp2_with fail
      go_ret
      exact ⟨by rw [HT1.out]; rfl, HB.out.2⟩

end Go.Proofs.YtlohjmlenbkbmaaDoor

namespace Go.Proofs.YtlohjmlenbkbmaaDoor
open Go Go.RowKit

/-- The index of the first file of a name, or -1. -/
def FindP (xs : List Fl) (s : ByteArray) (f : Int) : Prop := (∃ (m : Nat) (y : Fl), f = (m : Int) ∧ xs[m]? = some y ∧ y.name_ = s ∧ ∀ (j : Nat) (z : Fl), j < m → xs[j]? = some z → z.name_ ≠ s) ∨ ((∀ (j : Nat) (z : Fl), xs[j]? = some z → z.name_ ≠ s) ∧ f = -1)
theorem bytes_eq {a b : ByteArray} (h : (a.toList == b.toList) = true) : a = b := by
  rw [beq_iff_eq] at h
  exact WideShapes.bytes_inj (by rw [← ByteArray.toList_eq, ← ByteArray.toList_eq]; exact h)

set_option maxHeartbeats 2000000 in
set_option maxRecDepth 100000 in
theorem l21Find_any (x : Cn) (l : CnLay) (g : Nat) (s : ByteArray) (f : Int) (W : World) (hg : RW 29 W g #[.slice l.A0 l.n0 l.c0, .int .i64 x.at_, .slice l.A2 l.n2 l.c2, .slice l.A3 l.n3 l.c3, .slice l.A4 l.n4 l.c4]) (hv : CnV W W.heap.size x l) (hf : FindP x.files_ s f) :
    Calls Tryd.prog 31 #[.pointer (some ⟨g, 0, none⟩), .string s] W fun e w' => e = .returned (.int .i64 f) ∧ w' = W := by
  have HI := Lib.hid hv.2.2.1
  have HF := Lib.hid hf
  have p3 := hg.cell 3
  have hn := hv.2.2.1.2.1
  unfold maxLen at hn
  obtain ⟨x0, x1, x2, x3, x4⟩ := x
  obtain ⟨A0, n0, c0, h0, A2, n2, c2, h2, A3, n3, c3, h3, A4, n4, c4, h4⟩ := l
  dsimp only at hn p3
  have HL : Hid (x3.length = n3) := hv.2.2.1.1
  clear hg hv hf
  go_enter Tryd.func31, Tryd.ntmps31
  go_wp2_with fail
  go_loopw [5] (fun i wr => ∃ k : Nat, k ≤ n3 ∧ i = .int .i64 k ∧ wr = W ∧ Hid (∀ (j : Nat) (z : Fl), j < k → x3[j]? = some z → z.name_ ≠ s)) (fun i _ => n3 - (intOf i).toNat)
  case atStart => exact ⟨0, Nat.zero_le _, rfl, rfl, fun j z hj => absurd hj (by omega)⟩
  case round =>
    obtain ⟨k, hk, rfl, rfl, HV⟩ := hrel
    by_cases hlt : k < n3
    · have b0 : (0 : Int) ≤ (k : Int) := by omega
      have b1 : (k : Int) < (n3 : Int) := by omega
      obtain ⟨b, off, y, ly, rfl, hg, hy, ⟨q0, q1, q2, q3⟩, _⟩ := HI.out.at_ hlt
      have HY := Lib.hid hy
      obtain ⟨z, hz⟩ : ∃ z, (y.name_.toList == s.toList) = z := ⟨_, rfl⟩
      have HZ := Lib.hid hz
      clear hy hg q1 q2 q3
      cases z
      · have hne : y.name_ ≠ s := fun e => by have h := HZ.out; rw [e] at h; simp at h
        have HV2 : Hid (∀ (j : Nat) (z : Fl), j < k + 1 → x3[j]? = some z → z.name_ ≠ s) := by
          intro j z hj hz
          by_cases e : j = k
          · rw [e, HY.out] at hz
            cases hz
            exact hne
          · exact HV.out j z (by omega) hz
        clear hne
        go_wp2_with fail
        go_roundw
        case rel => exact ⟨k + 1, by omega, by go_num, trivial, HV2⟩
        case measure => simp [intOf]; omega
      · have he : Hid (f = (k : Int)) := by
          have hys := bytes_eq HZ.out
          rcases HF.out with ⟨m, y', hf, hm, hn', hl⟩ | ⟨hno, _⟩
          · rcases Nat.lt_trichotomy m k with h | h | h
            · exact absurd hn' (HV.out m y' h hm)
            · show f = _
              rw [hf, h]
            · exact absurd hys (hl k y h HY.out)
          · exact absurd hys (hno k y HY.out)
        go_wp2_with fail
        go_ret
        exact ⟨by rw [he.out]; rfl, rfl⟩
    · have he : Hid (f = -1) := by
        rcases HF.out with ⟨m, y', hf, hm, hn', hl⟩ | ⟨_, h⟩
        · have := (List.getElem?_eq_some_iff.1 hm).1
          have := HL.out
          exact absurd hn' (HV.out m y' (by have h3 : x3.length = n3 := HL.out; have h4 : m < x3.length := (List.getElem?_eq_some_iff.1 hm).1; omega) hm)
        · exact h
      go_wp2_with fail
      go_ret
      exact ⟨by rw [he.out]; rfl, rfl⟩
/-- What l21Code answers. -/
def CodeP (x : Cn) (s : ByteArray) (k c : Int) : Prop := ((consoleB x && isNameB s) = false ∧ k = 0 ∧ c = 1) ∨ (consoleB x = true ∧ isNameB s = true ∧ ((FindP x.files_ s (-1) ∧ k = 0 ∧ c = 11) ∨ (0 ≤ k ∧ FindP x.files_ s k ∧ c = 0)))

set_option maxHeartbeats 2000000 in
set_option maxRecDepth 100000 in
theorem l21Code_any (x : Cn) (l : CnLay) (g : Nat) (s : ByteArray) (k c : Int) (W : World) (hg : RW 29 W g #[.slice l.A0 l.n0 l.c0, .int .i64 x.at_, .slice l.A2 l.n2 l.c2, .slice l.A3 l.n3 l.c3, .slice l.A4 l.n4 l.c4]) (hv : CnV W W.heap.size x l) (hs : s.size ≤ maxLen) (hc : CodeP x s k c) :
    Calls Tryd.prog 47 #[.pointer (some ⟨g, 0, none⟩), .string s] W fun e w' => e = .returned (.tuple #[.int .i64 k, .int .i64 c]) ∧ Below W.heap.size W w' := by
  have HO := Lib.hid (l21Ok_any x l g W hv hg)
  have HN := Lib.hid (fun w : World => spec_IsName_any s w hs)
  have HFI := Lib.hid (fun (w : World) (hb : Below W.heap.size W w) (f : Int) (hf : FindP x.files_ s f) => l21Find_any x l g s f w (hg.below hb hg.lt) (hv.go hb) hf)
  clear hg hv hs
  rcases hc with ⟨hno, rfl, rfl⟩ | ⟨hcb, hnm, hc⟩
  · have key : consoleB x = false ∨ (consoleB x = true ∧ isNameB s = false) := by cases h1 : consoleB x <;> cases h2 : isNameB s <;> simp_all
    rcases key with h1 | ⟨h1, h2⟩
    · have H1 := Lib.hid h1
      clear h1 hno
      go_enter Tryd.func47, Tryd.ntmps47
      go_wp2_with (go_at_call 28; refine HO.out.mono ?_; rintro e w1 ⟨rfl, hb⟩; rw [H1.out]; have HB1 := Lib.hid hb; clear hb)
      exact bodyPost_ret (v := .tuple #[.int .i64 0, .int .i64 1]) (by rw [results_tmp2 rfl]; go_simp) rfl ⟨rfl, HB1.out⟩
    · have H1 := Lib.hid h1
      have H2 := Lib.hid h2
      clear h1 h2 hno
      go_enter Tryd.func47, Tryd.ntmps47
      go_wp2_with (first | (go_at_call 28; refine HO.out.mono ?_; rintro e w1 ⟨rfl, hb⟩; rw [H1.out]; have HB1 := Lib.hid hb; clear hb) | (go_at_call 29; refine (HN.out _).mono ?_; rintro e w2 ⟨rfl, rfl⟩; rw [H2.out]))
      exact bodyPost_ret (v := .tuple #[.int .i64 0, .int .i64 1]) (by rw [results_tmp2 rfl]; go_simp) rfl ⟨rfl, HB1.out⟩
  have H1 := Lib.hid hcb
  have H2 := Lib.hid hnm
  rcases hc with ⟨hf, rfl, rfl⟩ | ⟨hk, hf, rfl⟩
  · have HF := Lib.hid hf
    clear hcb hnm hf
    go_enter Tryd.func47, Tryd.ntmps47
    go_wp2_with (first | (go_at_call 28; refine HO.out.mono ?_; rintro e w1 ⟨rfl, hb⟩; rw [H1.out]; have HB1 := Lib.hid hb; clear hb) | (go_at_call 29; refine (HN.out _).mono ?_; rintro e w2 ⟨rfl, rfl⟩; rw [H2.out]) | (go_at_call 31; refine (HFI.out _ HB1.out _ HF.out).mono ?_; rintro e w3 ⟨rfl, rfl⟩))
    exact bodyPost_ret (v := .tuple #[.int .i64 0, .int .i64 11]) (by rw [results_tmp2 rfl]; go_simp) rfl ⟨rfl, HB1.out⟩
  · have HF := Lib.hid hf
    have hk2 : ¬ k < 0 := by omega
    clear hcb hnm hf
    go_enter Tryd.func47, Tryd.ntmps47
    go_wp2_with (first | (go_at_call 28; refine HO.out.mono ?_; rintro e w1 ⟨rfl, hb⟩; rw [H1.out]; have HB1 := Lib.hid hb; clear hb) | (go_at_call 29; refine (HN.out _).mono ?_; rintro e w2 ⟨rfl, rfl⟩; rw [H2.out]) | (go_at_call 31; refine (HFI.out _ HB1.out _ HF.out).mono ?_; rintro e w3 ⟨rfl, rfl⟩))
    exact bodyPost_ret (v := .tuple #[.int .i64 k, .int .i64 0]) (by rw [results_tmp2 rfl]; go_simp) rfl ⟨rfl, HB1.out⟩
theorem CodeP.ofUse {x : Cn} {s : ByteArray} {ms : List Int} {act : Fl → Fl × Int} {K : Int} {X : Cn} (h : UseR x s ms act K X) : ((consoleB x && isNameB s) = false ∧ CodeP x s 0 1 ∧ K = 1 ∧ X = zC) ∨ (consoleB x = true ∧ CodeP x s 0 11 ∧ K = 11 ∧ X = zC) ∨ (consoleB x = true ∧ ∃ (m : Nat) (y : Fl), x.files_[m]? = some y ∧ CodeP x s (m : Int) 0 ∧ ((ms.contains y.mode_ = false ∧ K = 10 ∧ X = zC) ∨ (ms.contains y.mode_ = true ∧ (((act y).2 = 0 ∧ K = 0 ∧ X = { x with files_ := x.files_.set m (act y).1 }) ∨ (¬ (act y).2 = 0 ∧ K = (act y).2 ∧ X = zC))))) := by
  rcases h with ⟨hno, rfl, rfl⟩ | ⟨hcb, hnm, m, hp, h⟩
  · exact .inl ⟨hno, .inl ⟨hno, rfl, rfl⟩, rfl, rfl⟩
  · rcases h with ⟨hy, rfl, rfl⟩ | ⟨y, hy, hys, h⟩
    · exact .inr (.inl ⟨hcb, .inr ⟨hcb, hnm, .inl ⟨.inr ⟨hp.miss (files_ok hcb).2 hy, rfl⟩, rfl, rfl⟩⟩, rfl, rfl⟩)
    · exact .inr (.inr ⟨hcb, m, y, hy, .inr ⟨hcb, hnm, .inr ⟨by omega, .inl ⟨m, y, rfl, hy, hys, fun j z hj hz => hp.hit hy hys j hj z hz⟩, rfl⟩⟩, h⟩)
end Go.Proofs.YtlohjmlenbkbmaaDoor

namespace Go.Proofs.YtlohjmlenbkbmaaDoor
open Go Go.RowKit Go.Sort

theorem index64_any (b off n c : Nat) (ms : List Int) (v : Int) (W : World) (hl : ms.length = n) (hn : n ≤ 1000) (hc : ∀ (j : Nat) (x : Int), ms[j]? = some x → W.cell? ⟨b, off + j, none⟩ = some (.int .i64 x)) :
    Calls Tryd.prog 87 #[.slice (some ⟨b, off, none⟩) n c, .int .i64 v] W fun e w' => ∃ f : Int, e = .returned (.int .i64 f) ∧ decide (0 ≤ f) = ms.contains v ∧ w' = W := by
  have HC := Lib.hid hc
  have HL := Lib.hid hl
  clear hc hl
  go_enter Tryd.func87, Tryd.ntmps87
  go_wp2_with fail
  go_loopw [8] (fun i wr => ∃ k : Nat, k ≤ n ∧ i = .int .i64 k ∧ wr = W ∧ Hid (∀ (j : Nat) (x : Int), j < k → ms[j]? = some x → x ≠ v)) (fun i _ => n - (intOf i).toNat)
  case atStart => exact ⟨0, Nat.zero_le _, rfl, rfl, fun j x hj => absurd hj (by omega)⟩
  case round =>
    obtain ⟨k, hk, rfl, rfl, HV⟩ := hrel
    by_cases hlt : k < n
    · have b0 : (0 : Int) ≤ (k : Int) := by omega
      have b1 : (k : Int) < (n : Int) := by omega
      obtain ⟨x, hx⟩ : ∃ x, ms[k]? = some x := ⟨_, List.getElem?_eq_getElem (by rw [HL.out]; exact hlt)⟩
      have HX := Lib.hid hx
      have q := HC.out k x hx
      clear hx
      by_cases hvx : v = x
      · subst hvx
        have HM : Hid (ms.contains v = true) := by show _ = _; rw [List.contains_iff_mem]; exact List.mem_of_getElem? HX.out
        go_wp2_with fail
        go_ret
        exact ⟨(k : Int), rfl, by rw [HM.out]; simp, rfl⟩
      · have HV2 : Hid (∀ (j : Nat) (y : Int), j < k + 1 → ms[j]? = some y → y ≠ v) := by
          intro j y hj hy
          by_cases e : j = k
          · rw [e, HX.out] at hy
            cases hy
            exact fun e => hvx e.symm
          · exact HV.out j y (by omega) hy
        go_wp2_with fail
        go_roundw
        case rel => exact ⟨k + 1, by omega, by go_num, trivial, HV2⟩
        case measure => simp [intOf]; omega
    · have HM : Hid (ms.contains v = false) := by
        show _ = _
        rw [Bool.eq_false_iff, ne_eq, List.contains_iff_mem]
        intro hm
        obtain ⟨j, hj⟩ := List.getElem?_of_mem hm
        have := (List.getElem?_eq_some_iff.1 hj).1
        have := HL.out
        exact HV.out j v (by omega) hj rfl
      go_wp2_with fail
      go_ret
      exact ⟨-1, rfl, by rw [HM.out]; decide, rfl⟩
theorem contains64_any (b off n c : Nat) (ms : List Int) (v : Int) (W : World) (hl : ms.length = n) (hn : n ≤ 1000) (hc : ∀ (j : Nat) (x : Int), ms[j]? = some x → W.cell? ⟨b, off + j, none⟩ = some (.int .i64 x)) :
    Calls Tryd.prog 77 #[.slice (some ⟨b, off, none⟩) n c, .int .i64 v] W fun e w' => e = .returned (.bool (ms.contains v)) ∧ w' = W := by
  have HI := Lib.hid (index64_any b off n c ms v W hl hn hc)
  clear hl hn hc
  go_enter Tryd.func77, Tryd.ntmps77
  go_wp2_with (go_at_call 87; refine HI.out.mono ?_; rintro e w1 ⟨f, rfl, hf, rfl⟩; have HF := Lib.hid hf; clear hf)
  go_ret
  exact ⟨by rw [← HF.out]; rfl, rfl⟩

theorem put4 {T : TypeId} {w : World} {g p : Nat} {cs : Array Value} {v0 v1 v2 v3 : Value} (h : RW T w g cs) : ∃ cs', RW T ((((w.setCell ⟨g, p, none⟩ v0).setCell ⟨g, p + 1, none⟩ v1).setCell ⟨g, p + 2, none⟩ v2).setCell ⟨g, p + 3, none⟩ v3) g cs' ∧ cs'.size = cs.size ∧ (∀ i, i < p ∨ p + 4 ≤ i → cs'[i]? = cs[i]?) ∧ (p + 4 ≤ cs.size → ∀ q v, [v0, v1, v2, v3][q]? = some v → cs'[p + q]? = some v) := by
  refine ⟨_, (((h.set_ p v0).set_ (p + 1) v1).set_ (p + 2) v2).set_ (p + 3) v3, by simp, fun i hi => ?_, fun hp q v hq => ?_⟩
  · rw [Array.getElem?_setIfInBounds_ne (by omega), Array.getElem?_setIfInBounds_ne (by omega), Array.getElem?_setIfInBounds_ne (by omega), Array.getElem?_setIfInBounds_ne (by omega)]
  · have hq4 : q < 4 := by have := (List.getElem?_eq_some_iff.1 hq).1; simpa using this
    obtain rfl | rfl | rfl | rfl : q = 0 ∨ q = 1 ∨ q = 2 ∨ q = 3 := by omega
    · simp only [List.getElem?_cons_zero] at hq
      rw [Array.getElem?_setIfInBounds_ne (by omega), Array.getElem?_setIfInBounds_ne (by omega), Array.getElem?_setIfInBounds_ne (by omega), Nat.add_zero, Array.getElem?_setIfInBounds_self_of_lt (by omega)]
      exact hq
    · simp only [List.getElem?_cons_succ, List.getElem?_cons_zero] at hq
      rw [Array.getElem?_setIfInBounds_ne (by omega), Array.getElem?_setIfInBounds_ne (by omega), Array.getElem?_setIfInBounds_self_of_lt (by simp; omega)]
      exact hq
    · simp only [List.getElem?_cons_succ, List.getElem?_cons_zero] at hq
      rw [Array.getElem?_setIfInBounds_ne (by omega), Array.getElem?_setIfInBounds_self_of_lt (by simp; omega)]
      exact hq
    · simp only [List.getElem?_cons_succ, List.getElem?_cons_zero] at hq
      rw [Array.getElem?_setIfInBounds_self_of_lt (by simp; omega)]
      exact hq
theorem Stand.of_below {g : Nat} {w w' : World} (h : Below w.heap.size w w') : Stand g w w' := fun _ _ _ hr _ _ _ => hr.below h hr.lt
theorem OwnCn.toV {B : Nat} {w : World} {x : Cn} {l : CnLay} {zs : List (Fl × FlLay)} (h : OwnCn B w x l zs) : CnV w w.heap.size x l := by
  have hown : OwnFl w B (.slice l.A3 zs.length l.c3) zs := by rw [h.n3]; exact h.o3.own
  have hn : zs.length ≤ maxLen := by
    rcases hown.2 with ⟨_, h0⟩ | ⟨g, cap, cur, e, hg, hh, h1, h2, _⟩
    · omega
    · omega
  have hV : FlI w w.heap.size l.A3 zs.length (zs.map Prod.fst) := ownFl_FlI hown (fun j p hp => ⟨(h.o3.el j p hp).1.toIO.1.1, (h.o3.el j p hp).2⟩) hn
  rw [h.n3, h.fs] at hV
  exact ⟨h.o0.toIO.1.1, h.o2.toIO.1.1, hV, h.o4.toIO.1.1⟩
/-- The m-th file of the row. -/
theorem OwnCn.file {B m : Nat} {w : World} {x : Cn} {l : CnLay} {zs : List (Fl × FlLay)} {y : Fl} (h : OwnCn B w x l zs) (hy : x.files_[m]? = some y) : ∃ g3 ly cur, l.A3 = some ⟨g3, 0, none⟩ ∧ zs[m]? = some (y, ly) ∧ m < l.n3 ∧ RW 50 w g3 cur ∧ m * 4 + 4 ≤ cur.size ∧ (∀ (q : Nat) (v : Value), (y.vs ly)[q]? = some v → cur[m * 4 + q]? = some v) := by
  have hy2 := hy
  rw [← h.fs, List.getElem?_map, Option.map_eq_some_iff] at hy2
  obtain ⟨⟨y', ly⟩, hp, rfl⟩ := hy2
  have hm : m < zs.length := (List.getElem?_eq_some_iff.1 hp).1
  obtain ⟨g, c', cur, e, hg, hr, hc, hcell⟩ := ownFl_row (show OwnFl w B (.slice l.A3 zs.length l.c3) zs by rw [h.n3]; exact h.o3.own) (by omega)
  simp only [Value.slice.injEq, true_and] at e
  have : (m + 1) * 4 ≤ zs.length * 4 := Nat.mul_le_mul_right _ hm
  exact ⟨g, ly, cur, e.1, hp, by rw [← h.n3]; exact hm, hr, by omega, fun q v hv => hcell m _ hp q v hv⟩
end Go.Proofs.YtlohjmlenbkbmaaDoor

namespace Go.Proofs.YtlohjmlenbkbmaaDoor
open Go Go.RowKit Go.Sort

/-- What the closure of useFile captures. -/
def Capt (w : World) (gn gm ga : Nat) (s : ByteArray) (bm cm : Nat) (ms : List Int) (va : Value) : Prop := w.cell? ⟨gn, 0, none⟩ = some (.string s) ∧ w.cell? ⟨gm, 0, none⟩ = some (.slice (some ⟨bm, 0, none⟩) ms.length cm) ∧ w.cell? ⟨ga, 0, none⟩ = some va ∧ ∀ (j : Nat) (x : Int), ms[j]? = some x → w.cell? ⟨bm, 0 + j, none⟩ = some (.int .i64 x)
def CaptLt (B gn gm ga bm : Nat) : Prop := gn < B ∧ gm < B ∧ ga < B ∧ bm < B
theorem Capt.below {w w' : World} {gn gm ga bm cm B : Nat} {s : ByteArray} {ms : List Int} {va : Value} (h : Capt w gn gm ga s bm cm ms va) (hb : Below B w w') (hl : CaptLt B gn gm ga bm) : Capt w' gn gm ga s bm cm ms va :=
  ⟨(hb.cell (p := ⟨gn, 0, none⟩) hl.1).trans h.1, (hb.cell (p := ⟨gm, 0, none⟩) hl.2.1).trans h.2.1, (hb.cell (p := ⟨ga, 0, none⟩) hl.2.2.1).trans h.2.2.1, fun j x hx => (hb.cell (p := ⟨bm, 0 + j, none⟩) hl.2.2.2).trans (h.2.2.2 j x hx)⟩
theorem CaptLt.mono {B B' gn gm ga bm : Nat} (h : CaptLt B gn gm ga bm) (hB : B ≤ B') : CaptLt B' gn gm ga bm := ⟨by have := h.1; omega, by have := h.2.1; omega, by have := h.2.2.1; omega, by have := h.2.2.2; omega⟩

theorem rw_four {T : TypeId} {w : World} {b g p : Nat} {cs : Array Value} (h : RW T w b cs) (hg : b ≠ g) {v0 v1 v2 v3 : Value} : RW T ((((w.setCell ⟨g, p, none⟩ v0).setCell ⟨g, p + 1, none⟩ v1).setCell ⟨g, p + 2, none⟩ v2).setCell ⟨g, p + 3, none⟩ v3) b cs :=
  (((h.other (p := ⟨g, p, none⟩) hg v0).other (p := ⟨g, p + 1, none⟩) hg v1).other (p := ⟨g, p + 2, none⟩) hg v2).other (p := ⟨g, p + 3, none⟩) hg v3
/-- What an action on an open file answers: its code; and the file in box f. -/
def ActRes (K : Int) (y : Fl) (B f : Nat) (A1 : Option Addr) (w : World) (e : Ending) (w' : World) : Prop := e = .returned (.int .i64 K) ∧ Hid (∃ (A1' : Option Addr) (n1' c1' : Nat), n1' ≤ c1' ∧ RW 71 w' f #[.slice A1' n1' c1', .int .i64 y.at_, .string y.name_, .int .i64 y.mode_] ∧ OwnS w' B A1' n1' c1' y.lines_ ∧ Turn (fun b => b = f ∨ AtB A1 b) w w' ∧ ∀ b, AtB A1' b → AtB A1 b ∨ w.heap.size ≤ b)

set_option maxHeartbeats 4000000 in
set_option maxRecDepth 100000 in
theorem useNo_any (x : Cn) (X : Cn) (s : ByteArray) (ms : List Int) (va : Value) (gn gm ga bm cm m g : Nat) (l : CnLay) (zs : List (Fl × FlLay)) (W w : World) (hB : Below W.heap.size W w) (_ : W.heap.size ≤ g) (hR : RW 29 w g #[.slice l.A0 l.n0 l.c0, .int .i64 x.at_, .slice l.A2 l.n2 l.c2, .slice l.A3 l.n3 l.c3, .slice l.A4 l.n4 l.c4]) (hO : OwnCn W.heap.size w x l zs)
    (hc : Capt w gn gm ga s bm cm ms va) (_ : CaptLt w.heap.size gn gm ga bm) (hn : l.n3 ≤ 1000) (hp : PlaceP Fl.name_ x.files_ s m) (hf : (∃ y : Fl, x.files_[m]? = some y ∧ (y.name_.toList == s.toList) = false) ∨ (m = l.n3 ∧ false = false)) :
    Calls Tryd.prog 75 (#[.pointer (some ⟨g, 0, none⟩)] ++ #[.pointer (some ⟨gn, 0, none⟩), .pointer (some ⟨gm, 0, none⟩), .pointer (some ⟨ga, 0, none⟩)]) w (ChRes 11 X W g w) := by
  have HP := Lib.hid (fun (w1 : World) (hb : Below w.heap.size w w1) => placeFl_any l.A3 l.n3 l.c3 m x.files_ s false w1 (hO.toV.2.2.1.go hb) hn hp hf)
  have HF := Lib.hid (fun (w1 : World) => files_any x l w1)
  have HR := Lib.hid hR
  have HBW := Lib.hid hB
  have h0 := hc.1
  obtain ⟨x0, x1, x2, x3, x4⟩ := x
  obtain ⟨A0, n0, c0, h0', A2, n2, c2, h2', A3, n3, c3, h3', A4, n4, c4, h4'⟩ := l
  clear hO hR hB hc hp hf
  show Calls Tryd.prog 75 #[.pointer (some ⟨g, 0, none⟩), .pointer (some ⟨gn, 0, none⟩), .pointer (some ⟨gm, 0, none⟩), .pointer (some ⟨ga, 0, none⟩)] w _
  go_enter Tryd.func75, Tryd.ntmps75
  go_wp2_with fail
  obtain ⟨w0, hw0⟩ : ∃ w0, w = w0 := ⟨_, rfl⟩
  have z0 := cell_regrown (HR.out.cell 0)
  have z1 := cell_regrown (HR.out.cell 1)
  have z2 := cell_regrown (HR.out.cell 2)
  have z3 := cell_regrown (HR.out.cell 3)
  have z4 := cell_regrown (HR.out.cell 4)
  have zn := cell_regrown h0
  have cF : ∀ d os', Calls Tryd.prog 58 #[.agg #[.slice A0 n0 c0, .int .i64 x1, .slice A2 n2 c2, .slice A3 n3 c3, .slice A4 n4 c4]] (grow (redrawn w d) os') (fun e w'' => e = .returned (.slice A3 n3 c3) ∧ ∃ q : Regrown, w'' = grow (redrawn w q.d) q.os) := fun d os' => Calls.regrown_of (HF.out _)
  have cP : ∀ d os', Calls Tryd.prog 76 #[.slice A3 n3 c3, .string s] (grow (redrawn w d) os') (fun e w'' => e = .returned (.tuple #[.int .i64 m, .bool false]) ∧ ∃ q : Regrown, w'' = grow (redrawn w q.d) q.os) := fun d os' => Calls.regrown_of (HP.out _ (below_regrown w d os'))
  clear hw0 h0
  refine wp_region_quiet_below (by kernel_rfl) (by kernel_rfl) ?_
  repeat (first | go_big_quiet_step (first | with_reducible exact cF _ _ | with_reducible exact cP _ _) | quiet_step (first | with_reducible exact cF _ _ | with_reducible exact cP _ _))
  refine wpQuiet_nil ?_
  intro w4 hw'
  obtain ⟨⟨dq, osq⟩, hw''⟩ := hw'
  have HB4 : Hid (Below w.heap.size w w4) := by show Below _ _ _; rw [hw'']; exact below_regrown w dq osq
  clear hw'' z0 z1 z2 z3 z4 zn cF cP
  go_wp2_with fail
  go_ret
  exact ⟨rfl, Lib.hid ⟨HBW.out.trans (HB4.out.mono HBW.out.size), Stand.of_below HB4.out, ⟨⟨A0, n0, c0, h0', A2, n2, c2, h2', A3, n3, c3, h3', A4, n4, c4, h4'⟩, x1, HR.out.below HB4.out HR.out.lt⟩, fun h => absurd h (by decide)⟩⟩
end Go.Proofs.YtlohjmlenbkbmaaDoor

namespace Go.Proofs.YtlohjmlenbkbmaaDoor
open Go Go.RowKit

theorem Turn.trans' {A : Option Addr} {w w4 X w6 : World} (h : Turn (AtB A) w X) (h' : Turn (fun b => b = w4.heap.size + 1 ∨ AtB A b) X w6) (h4 : w.heap.size ≤ w4.heap.size) (_hX : w4.heap.size ≤ X.heap.size) : Turn (AtB A) w w6 := by
  obtain ⟨h1, h2, h3, h4', h5⟩ := h
  obtain ⟨k1, k2, k3, k4, k5⟩ := h'
  refine ⟨k1.trans h1, k2.trans h2, k3.trans h3, Nat.le_trans h4' k4, fun j hj hn => (k5 j (Nat.lt_of_lt_of_le hj h4') fun hs => ?_).trans (h5 j hj hn)⟩
  rcases hs with hs | hs
  · omega
  · exact hn hs
/-- A file of the console is another one now. -/
theorem OwnCn.put {B : Nat} {w w6 : World} {x : Cn} {l : CnLay} {zs : List (Fl × FlLay)} {m g3 : Nat} {y y' : Fl} {ly : FlLay} {A1' : Option Addr} {n1' c1' : Nat} {cur : Array Value} (hO : OwnCn B w x l zs) (hA3 : l.A3 = some ⟨g3, 0, none⟩) (hz : zs[m]? = some (y, ly)) (hT : Turn (AtB ly.A1) w w6) (hn : n1' ≤ c1') (ho : OwnS w6 B A1' n1' c1' y'.lines_) (ha : ∀ b, AtB A1' b → AtB ly.A1 b ∨ w.heap.size ≤ b) (hyn : y'.name_.size ≤ maxLen) (hF : RW 50 w g3 cur) :
    OwnCn B ((((w6.setCell ⟨g3, m * 4, none⟩ (.string y'.name_)).setCell ⟨g3, m * 4 + 1, none⟩ (.slice A1' n1' c1')).setCell ⟨g3, m * 4 + 2, none⟩ (.int .i64 y'.mode_)).setCell ⟨g3, m * 4 + 3, none⟩ (.int .i64 y'.at_)) { x with files_ := x.files_.set m y' } l (zs.set m (y', ⟨A1', n1', c1', hn⟩)) := by
  have hsame : ∀ b, b ≠ g3 → ((((w6.setCell ⟨g3, m * 4, none⟩ (.string y'.name_)).setCell ⟨g3, m * 4 + 1, none⟩ (.slice A1' n1' c1')).setCell ⟨g3, m * 4 + 2, none⟩ (.int .i64 y'.mode_)).setCell ⟨g3, m * 4 + 3, none⟩ (.int .i64 y'.at_)).heap[b]? = w6.heap[b]? := fun b hb =>
    (((Below.heap_setCell _ ⟨g3, m * 4 + 3, none⟩ _ b hb).trans (Below.heap_setCell _ ⟨g3, m * 4 + 2, none⟩ _ b hb)).trans (Below.heap_setCell _ ⟨g3, m * 4 + 1, none⟩ _ b hb)).trans (Below.heap_setCell _ ⟨g3, m * 4, none⟩ _ b hb)
  have hstr : ∀ {A : Option Addr} {n c : Nat} {xs : List St}, OwnS w B A n c xs → (∀ b, AtB A b → ¬ AtB ly.A1 b) → OwnS ((((w6.setCell ⟨g3, m * 4, none⟩ (.string y'.name_)).setCell ⟨g3, m * 4 + 1, none⟩ (.slice A1' n1' c1')).setCell ⟨g3, m * 4 + 2, none⟩ (.int .i64 y'.mode_)).setCell ⟨g3, m * 4 + 3, none⟩ (.int .i64 y'.at_)) B A n c xs := fun {A n c xs} ho hd => ho.keepB fun b hb => by
    obtain ⟨_, cs2, hrs⟩ := ho.row hb
    have hne : b ≠ g3 := fun e => by
      subst e
      exact str_Fl (RW.same hrs hF).1
    rw [hsame b hne]
    exact hT.2.2.2.2 b hrs.lt (hd b hb)
  have h3 := hO.a3 m _ hz
  have hown : FlsO B w (.slice (some ⟨g3, 0, none⟩) zs.length l.c3) zs := by
    have h := hO.o3
    rw [hA3, ← hO.n3] at h
    exact h
  have hput := FlsO.put (y' := y') (ly' := ⟨A1', n1', c1', hn⟩) hown hz hT ho hyn ha _ hsame fun cs hr => by
    obtain ⟨cs', h1, h2, h4, h5⟩ := put4 (p := m * 4) (v0 := .string y'.name_) (v1 := .slice A1' n1' c1') (v2 := .int .i64 y'.mode_) (v3 := .int .i64 y'.at_) hr
    exact ⟨cs', h1, h2, h4, fun q v hs _ hv => h5 hs q v hv⟩
  have hlen : (zs.set m (y', (⟨A1', n1', c1', hn⟩ : FlLay))).length = l.n3 := by rw [List.length_set]; exact hO.n3
  rw [hlen, ← hA3] at hput
  refine ⟨hstr hO.o0 fun b hA hA' => (h3 b hA').1 hA, hstr hO.o2 fun b hA hA' => (h3 b hA').2.1 hA, hstr hO.o4 fun b hA hA' => (h3 b hA').2.2 hA, hput, hlen, by rw [List.map_set, hO.fs], hO.a02, hO.a04, hO.a24, fun j p hp b hA => ?_⟩
  by_cases hj : j = m
  · subst hj
    rw [List.getElem?_set_self (List.getElem?_eq_some_iff.1 hz).1] at hp
    cases hp
    rcases ha b hA with h | h
    · exact h3 b h
    · exact ⟨fun h' => by have := hO.o0.lt h'; omega, fun h' => by have := hO.o2.lt h'; omega, fun h' => by have := hO.o4.lt h'; omega⟩
  · rw [List.getElem?_set_ne (fun e => hj e.symm)] at hp
    exact hO.a3 j p hp b hA
theorem act_end {K : Int} {X : Cn} {W w w6 : World} {x : Cn} {l : CnLay} {zs : List (Fl × FlLay)} {m g g3 : Nat} {y y' : Fl} {ly : FlLay} {A1' : Option Addr} {n1' c1' : Nat} {cur : Array Value} (hBW : Below W.heap.size W w) (hO : OwnCn W.heap.size w x l zs) (hA3 : l.A3 = some ⟨g3, 0, none⟩) (hz : zs[m]? = some (y, ly)) (hT : Turn (AtB ly.A1) w w6) (hn : n1' ≤ c1') (ho : OwnS w6 W.heap.size A1' n1' c1' y'.lines_) (ha : ∀ b, AtB A1' b → AtB ly.A1 b ∨ w.heap.size ≤ b) (hyn : y'.name_.size ≤ maxLen) (hF : RW 50 w g3 cur)
    (hR : RW 29 w6 g #[.slice l.A0 l.n0 l.c0, .int .i64 x.at_, .slice l.A2 l.n2 l.c2, .slice l.A3 l.n3 l.c3, .slice l.A4 l.n4 l.c4]) (hgg : g ≠ g3) (hX : K = 0 → X = { x with files_ := x.files_.set m y' }) :
    ChRes K X W g w (.returned (.int .i64 K)) ((((w6.setCell ⟨g3, m * 4, none⟩ (.string y'.name_)).setCell ⟨g3, m * 4 + 1, none⟩ (.slice A1' n1' c1')).setCell ⟨g3, m * 4 + 2, none⟩ (.int .i64 y'.mode_)).setCell ⟨g3, m * 4 + 3, none⟩ (.int .i64 y'.at_)).drew := by
  have hg3 : W.heap.size ≤ g3 := own_ge hO.o3.own g3 (by rw [hA3]; rfl)
  have hel := (hO.o3.el m _ hz).1
  have hB6 : Below W.heap.size W w6 := hBW.trans (hT.below (fun j hj => (hel.row hj).1) hBW.size)
  refine ⟨rfl, Lib.hid ⟨((((hB6.setCell (p := ⟨g3, m * 4, none⟩) hg3 _).setCell (p := ⟨g3, m * 4 + 1, none⟩) hg3 _).setCell (p := ⟨g3, m * 4 + 2, none⟩) hg3 _).setCell (p := ⟨g3, m * 4 + 3, none⟩) hg3 _).drew, fun b T cs hr h1 h2 hne => rw_drew (rw_four ?_ ?_), ⟨l, x.at_, rw_drew (rw_four hR hgg)⟩, fun hk => ?_⟩⟩
  · refine (hT.2.2.2.2 b hr.lt fun h => ?_).trans hr
    obtain ⟨_, cs2, hrs⟩ := hel.row h
    exact h1 (RW.same hrs hr).1
  · intro e
    subst e
    exact h2 (RW.same hF hr).1
  · rw [hX hk]
    exact ⟨l, _, rw_drew (rw_four hR hgg), own_drew (hO.put hA3 hz hT hn ho ha hyn hF)⟩
end Go.Proofs.YtlohjmlenbkbmaaDoor

namespace Go.Proofs.YtlohjmlenbkbmaaDoor
open Go Go.RowKit

theorem OwnCn.putG {B : Nat} {w w6 : World} {x : Cn} {l : CnLay} {zs : List (Fl × FlLay)} {m g3 : Nat} {y y' : Fl} {ly ly' : FlLay} {cur : Array Value} (hO : OwnCn B w x l zs) (hA3 : l.A3 = some ⟨g3, 0, none⟩) (hz : zs[m]? = some (y, ly)) (hT : Turn (AtB ly.A1) w w6) (ho : OwnS w6 B ly'.A1 ly'.n1 ly'.c1 y'.lines_) (ha : ∀ b, AtB ly'.A1 b → AtB ly.A1 b ∨ w.heap.size ≤ b) (hyn : y'.name_.size ≤ maxLen) (hF : RW 50 w g3 cur)
    (w'' : World) (hsame : ∀ i, i ≠ g3 → w''.heap[i]? = w6.heap[i]?) (hr : ∀ cs, RW 50 w6 g3 cs → ∃ cs', RW 50 w'' g3 cs' ∧ cs'.size = cs.size ∧ (∀ i, i < m * 4 ∨ m * 4 + 4 ≤ i → cs'[i]? = cs[i]?) ∧ ∀ q v, cs.size ≥ m * 4 + 4 → (∀ q v, (y.vs ly)[q]? = some v → cs[m * 4 + q]? = some v) → (y'.vs ly')[q]? = some v → cs'[m * 4 + q]? = some v) :
    OwnCn B w'' { x with files_ := x.files_.set m y' } l (zs.set m (y', ly')) := by
  have hstr : ∀ {A : Option Addr} {n c : Nat} {xs : List St}, OwnS w B A n c xs → (∀ b, AtB A b → ¬ AtB ly.A1 b) → OwnS w'' B A n c xs := fun {A n c xs} ho hd => ho.keepB fun b hb => by
    obtain ⟨_, cs2, hrs⟩ := ho.row hb
    have hne : b ≠ g3 := fun e => by
      subst e
      exact str_Fl (RW.same hrs hF).1
    rw [hsame b hne]
    exact hT.2.2.2.2 b hrs.lt (hd b hb)
  have h3 := hO.a3 m _ hz
  have hown : FlsO B w (.slice (some ⟨g3, 0, none⟩) zs.length l.c3) zs := by
    have h := hO.o3
    rw [hA3, ← hO.n3] at h
    exact h
  have hput := FlsO.put (y' := y') (ly' := ly') hown hz hT ho hyn ha w'' hsame hr
  have hlen : (zs.set m (y', ly')).length = l.n3 := by rw [List.length_set]; exact hO.n3
  rw [hlen, ← hA3] at hput
  refine ⟨hstr hO.o0 fun b hA hA' => (h3 b hA').1 hA, hstr hO.o2 fun b hA hA' => (h3 b hA').2.1 hA, hstr hO.o4 fun b hA hA' => (h3 b hA').2.2 hA, hput, hlen, by rw [List.map_set, hO.fs], hO.a02, hO.a04, hO.a24, fun j p hp b hA => ?_⟩
  by_cases hj : j = m
  · subst hj
    rw [List.getElem?_set_self (List.getElem?_eq_some_iff.1 hz).1] at hp
    cases hp
    rcases ha b hA with h | h
    · exact h3 b h
    · exact ⟨fun h' => by have := hO.o0.lt h'; omega, fun h' => by have := hO.o2.lt h'; omega, fun h' => by have := hO.o4.lt h'; omega⟩
  · rw [List.getElem?_set_ne (fun e => hj e.symm)] at hp
    exact hO.a3 j p hp b hA
/-- At of a file is set to 0. -/
theorem OwnCn.rew {B : Nat} {w : World} {x : Cn} {l : CnLay} {zs : List (Fl × FlLay)} {m g3 : Nat} {y : Fl} {ly : FlLay} {cur : Array Value} (hO : OwnCn B w x l zs) (hA3 : l.A3 = some ⟨g3, 0, none⟩) (hz : zs[m]? = some (y, ly)) (hF : RW 50 w g3 cur) :
    OwnCn B (w.setCell ⟨g3, m * 4 + 3, none⟩ (.int .i64 0)) { x with files_ := x.files_.set m { y with at_ := 0 } } l (zs.set m ({ y with at_ := 0 }, ly)) := by
  have hel := hO.o3.el m _ hz
  refine hO.putG (w6 := w) (y' := { y with at_ := 0 }) (ly' := ly) hA3 hz (Turn.of_below (Below.refl _ _)) hel.1 (fun b hb => .inl hb) hel.2 hF _ (fun i hi => Below.heap_setCell w ⟨g3, m * 4 + 3, none⟩ _ i hi) fun cs hr => ⟨_, hr.set_ (m * 4 + 3) (.int .i64 0), by simp, fun i hi => by rw [Array.getElem?_setIfInBounds_ne (by omega)], fun q v hs hold hv => ?_⟩
  have hq4 : q < 4 := by have h := (List.getElem?_eq_some_iff.1 hv).1; exact h
  obtain rfl | rfl | rfl | rfl : q = 0 ∨ q = 1 ∨ q = 2 ∨ q = 3 := by omega
  · rw [Array.getElem?_setIfInBounds_ne (by omega)]; exact hold 0 _ hv
  · rw [Array.getElem?_setIfInBounds_ne (by omega)]; exact hold 1 _ hv
  · rw [Array.getElem?_setIfInBounds_ne (by omega)]; exact hold 2 _ hv
  · rw [Array.getElem?_setIfInBounds_self_of_lt (by omega)]; exact hv
/-- .. and Mode. -/
theorem OwnCn.mod {B : Nat} {w : World} {x : Cn} {l : CnLay} {zs : List (Fl × FlLay)} {m g3 : Nat} {y : Fl} {ly : FlLay} {cur : Array Value} (hO : OwnCn B w x l zs) (hA3 : l.A3 = some ⟨g3, 0, none⟩) (hz : zs[m]? = some (y, ly)) (hF : RW 50 w g3 cur) (z : Int) :
    OwnCn B (w.setCell ⟨g3, m * 4 + 2, none⟩ (.int .i64 z)) { x with files_ := x.files_.set m { y with mode_ := z } } l (zs.set m ({ y with mode_ := z }, ly)) := by
  have hel := hO.o3.el m _ hz
  refine hO.putG (w6 := w) (y' := { y with mode_ := z }) (ly' := ly) hA3 hz (Turn.of_below (Below.refl _ _)) hel.1 (fun b hb => .inl hb) hel.2 hF _ (fun i hi => Below.heap_setCell w ⟨g3, m * 4 + 2, none⟩ _ i hi) fun cs hr => ⟨_, hr.set_ (m * 4 + 2) (.int .i64 z), by simp, fun i hi => by rw [Array.getElem?_setIfInBounds_ne (by omega)], fun q v hs hold hv => ?_⟩
  have hq4 : q < 4 := by have h := (List.getElem?_eq_some_iff.1 hv).1; exact h
  obtain rfl | rfl | rfl | rfl : q = 0 ∨ q = 1 ∨ q = 2 ∨ q = 3 := by omega
  · rw [Array.getElem?_setIfInBounds_ne (by omega)]; exact hold 0 _ hv
  · rw [Array.getElem?_setIfInBounds_ne (by omega)]; exact hold 1 _ hv
  · rw [Array.getElem?_setIfInBounds_self_of_lt (by omega)]; exact hv
  · rw [Array.getElem?_setIfInBounds_ne (by omega)]; exact hold 3 _ hv
end Go.Proofs.YtlohjmlenbkbmaaDoor

namespace Go.Proofs.YtlohjmlenbkbmaaDoor
open Go Go.RowKit

noncomputable def wrF (s : ByteArray) (y : Fl) : Fl × Int := if y.lines_.length = 40 then (y, 6) else ({ y with lines_ := y.lines_ ++ [s] }, 0)
theorem own_atB {w : World} {B n c b : Nat} {A : Option Addr} {xs : List St} (h : OwnS w B A n c xs) (hb : AtB A b) : (Value.slice A n c).ownBlock = some b := by
  rw [AtB] at hb
  subst hb
  rfl
theorem own_atB' {w : World} {B n c b : Nat} {A : Option Addr} {xs : List St} (h : OwnS w B A n c xs) (hb : (Value.slice A n c).ownBlock = some b) : AtB A b := by
  rcases h.1.2 with ⟨e, _⟩ | ⟨g, cap, cur, e, _⟩
  · rw [e] at hb; cases hb
  · rw [e] at hb
    simp only [Value.slice.injEq, true_and] at e
    rw [AtB, e.1]
    have := Option.some.inj hb
    simp only at this
    rw [this]
/-- One line more. -/
theorem OwnS.snoc {w w1 w' : World} {B n c c' : Nat} {A A' : Option Addr} {xs : List St} {s : ByteArray} (h : OwnS w B A n c xs) (hs : s.size ≤ maxLen) (hown : w'.ownsRow B 9 1 (.slice A' (n + 1) c') (n + 1) (valsSt xs ++ [.string s])) : OwnS w' B A' (n + 1) c' (xs ++ [s]) := by
  refine ⟨by rw [← valsSt_append]; exact hown, fun j x hx => ?_⟩
  rcases Nat.lt_or_ge j xs.length with hj | hj
  · rw [List.getElem?_append_left hj] at hx
    exact h.2 j x hx
  · rw [List.getElem?_append_right hj] at hx
    have hj0 : j - xs.length = 0 := by
      have := (List.getElem?_eq_some_iff.1 hx).1
      simp at this
      exact this
    rw [hj0] at hx
    simp only [List.getElem?_cons_zero, Option.some.injEq] at hx
    subst hx
    exact hs

theorem own_formS {w : World} {B n : Nat} {v : Value} {xs : List Value} (h : w.ownsRow B 9 1 v n xs) : ∃ A c, v = .slice A n c ∧ n ≤ c := by
  rcases h.2 with ⟨rfl, h0⟩ | ⟨g, cap, cur, rfl, _, _, h, _⟩
  · exact ⟨none, 0, by rw [h0], by omega⟩
  · exact ⟨_, _, rfl, h⟩
theorem rowO_grown {w w' : World} {B k q : Nat} {v : Value} {xs : List Value} {cs : Array Value} (h : RW 71 w q cs) (ho : w.ownsRow B 9 1 v k xs) (hg : w.grownBy w' v.ownBlock) : RW 71 w' q cs := by
  refine (hg.block q h.lt fun e => ?_).trans h
  rcases ho.2 with ⟨rfl, _⟩ | ⟨g, cap, cur, rfl, hg, hh, _⟩
  · cases e
  · obtain rfl : q = g := Option.some.inj e
    exact absurd (RW.same (show RW 9 w q cur from hh) h).1 (by decide)

set_option maxHeartbeats 2000000 in
set_option maxRecDepth 100000 in
theorem write_any (f B n1 c1 : Nat) (A1 : Option Addr) (xs : List St) (z mo : Int) (nm s : ByteArray) (W : World) (hr : RW 71 W f #[.slice A1 n1 c1, .int .i64 z, .string nm, .int .i64 mo]) (ho : OwnS W B A1 n1 c1 xs) (hB : B ≤ W.heap.size) (hn : n1 ≤ 1048576) (hs : s.size ≤ maxLen) (h40 : ¬ n1 = 40) :
    Calls Tryd.prog 53 #[.pointer (some ⟨f, 0, none⟩), .string s, .int .i64 40] W fun e w' => e = .returned (.int .i64 0) ∧ ∃ A' c', Hid (n1 + 1 ≤ c' ∧ RW 71 w' f #[.slice A' (n1 + 1) c', .int .i64 z, .string nm, .int .i64 mo] ∧ OwnS w' B A' (n1 + 1) c' (xs ++ [s]) ∧ Turn (fun b => b = f ∨ AtB A1 b) W w' ∧ ∀ b, AtB A' b → AtB A1 b ∨ W.heap.size ≤ b) := by
  obtain ⟨i0, hi0, hz0, hz1, hz2⟩ := info_parts infoStr
  have HII := Lib.hid (And.intro hi0 (And.intro hz0 (And.intro hz1 hz2)))
  have HR := Lib.hid hr
  have HO := Lib.hid ho
  have HB := Lib.hid hB
  have HS := Lib.hid hs
  have z0 := hr.cell 0
  have f0 := hr.frozen 0
  have dn : ¬ (n1 : Int) = 40 := by omega
  clear hr ho hi0 hz0 hz1 hz2 hB hs h40
  go_enter Tryd.func53, Tryd.ntmps53
  go_wp2_with (at_builtin; refine wpList_append_own_at _ rfl _ _ 22 rfl B 9 i0 (.string ⟨#[]⟩) 1 16 Tryd.underlying22 HII.out.1 HII.out.2.1 HII.out.2.2.1 HII.out.2.2.2 rfl (by decide) _ _ _ rfl ((HO.out.keep (below_alloc _ _)).1) ⟨W.heap.size, 0, none⟩ 1 1 [.string s] rfl rfl (cell_one_new _ _ _) (fun x hx => by simp at hx; subst hx; rfl) (by unfold maxLen; omega) (by omega) (by have := HB.out; simp; omega) ?_; intro v1 w5 hown1 hgr1 _ hor; obtain ⟨A', c', rfl, hc'⟩ := own_formS hown1; have HW5 := Lib.hid hown1; have HV5 := Lib.hid hgr1; have HO5 := Lib.hid hor; have HC5 := Lib.hid hc'; have HR5 := Lib.hid (rowO_grown (HR.out.alloc (.cells #[.string s] 9)) ((HO.out.keep (below_alloc W (.cells #[.string s] 9))).1) hgr1); have y0 := HR5.out.cell 0; have g0 := HR5.out.frozen 0; clear hown1 hgr1 hor hc' z0 f0)
  go_ret
  have hO5 : OwnS w5 B A' (n1 + 1) c' (xs ++ [s]) := HO.out.snoc (w1 := W) HS.out HW5.out
  have hk := below_alloc W (.cells #[.string s] 9)
  refine ⟨rfl, A', c', Lib.hid ⟨HC5.out, ?_, hO5.other HR5.out (by decide) _, ⟨HV5.out.os, HV5.out.tape, HV5.out.output, by rw [size_set]; exact Nat.le_trans hk.size HV5.out.size, fun j hj hn => ?_⟩, fun b hb => ?_⟩⟩
  · have h := HR5.out.set_ 0 (.slice A' (n1 + 1) c')
    simpa using h
  · have h1 : j ≠ f := fun e => hn (.inl e)
    refine (Below.heap_setCell w5 ⟨f, 0, none⟩ _ j h1).trans ((HV5.out.block j (Nat.lt_of_lt_of_le hj hk.size) fun e => hn (.inr (own_atB' HO.out e.symm))).trans (hk.block j hj))
  · have hb1 := own_atB hO5 hb
    rcases HO5.out with h | h
    · exact .inl (own_atB' HO.out (h.symm.trans hb1))
    · rw [hb1] at h
      have := Option.some.inj h
      exact .inr (by simp at this; omega)
set_option maxHeartbeats 1000000 in
theorem writeFull_any (f n1 c1 : Nat) (A1 : Option Addr) (v1 v2 v3 : Value) (s : ByteArray) (W : World) (hr : RW 71 W f #[.slice A1 n1 c1, v1, v2, v3]) (h40 : n1 = 40) :
    Calls Tryd.prog 53 #[.pointer (some ⟨f, 0, none⟩), .string s, .int .i64 40] W fun e w' => e = .returned (.int .i64 6) ∧ w' = W := by
  have z0 := hr.cell 0
  have dn : (n1 : Int) = 40 := by omega
  clear hr h40
  go_enter Tryd.func53, Tryd.ntmps53
  go_wp2_with fail
  go_ret
  exact ⟨rfl, rfl⟩
theorem six : (6 : Int) = 6 := rfl
set_option maxHeartbeats 2000000 in
set_option maxRecDepth 100000 in
theorem wrAct_any (y : Fl) (B f gs : Nat) (A1 : Option Addr) (n1 c1 : Nat) (s : ByteArray) (W : World) (hr : RW 71 W f #[.slice A1 n1 c1, .int .i64 y.at_, .string y.name_, .int .i64 y.mode_]) (ho : OwnS W B A1 n1 c1 y.lines_) (hB : B ≤ W.heap.size) (hn : n1 ≤ 1048576) (hs : s.size ≤ maxLen) (hg : W.cell? ⟨gs, 0, none⟩ = some (.string s)) (hgB : gs < B) (hgf : gs < f) :
    Calls Tryd.prog 52 (#[.pointer (some ⟨f, 0, none⟩)] ++ #[.pointer (some ⟨gs, 0, none⟩)]) W (ActRes (wrF s y).2 (wrF s y).1 B f A1 W) := by
  have HR := Lib.hid hr
  have HO := Lib.hid ho
  have hl := ho.len
  obtain ⟨y0, y1, y2, y3⟩ := y
  dsimp only at hl
  have hf : f < W.heap.size := hr.lt
  have HW := Lib.hid (show Below W.heap.size W W.drew from (Below.refl _ _).drew)
  have HG : Hid (W.drew.cell? ⟨gs, 0, none⟩ = some (.string s)) := hg
  by_cases h40 : n1 = 40
  · have e : wrF s ⟨y0, y1, y2, y3⟩ = (⟨y0, y1, y2, y3⟩, 6) := by unfold wrF; rw [if_pos (show y1.length = 40 by omega)]
    rw [e]
    clear hr ho hl hs hB
    show Calls Tryd.prog 52 #[.pointer (some ⟨f, 0, none⟩), .pointer (some ⟨gs, 0, none⟩)] W _
    go_enter Tryd.func52, Tryd.ntmps52
    go_wp2_with fail
    go_region_held3 (fun w => w.cell? ⟨gs, 0, none⟩ = some (.string s)) (first | exact HG.out | exact HG2.out | go_keep)
      ((go_at_call 53; refine Calls.mono (writeFull_any f n1 c1 A1 _ _ _ s W.drew (rw_drew HR.out) h40) ?_; rintro e w1 ⟨rfl, rfl⟩; have HG2 := Lib.hid HG.out))
    go_wp2_with fail
    go_ret
    exact ⟨rfl, Lib.hid ⟨A1, n1, c1, HO.out.toIO.2, rw_drew HR.out, HO.out.keep HW.out, Turn.of_below HW.out, fun b hb => .inl hb⟩⟩
  · have e : wrF s ⟨y0, y1, y2, y3⟩ = (⟨y0, y1 ++ [s], y2, y3⟩, 0) := by unfold wrF; rw [if_neg (show ¬ y1.length = 40 by omega)]
    rw [e]
    clear hr ho hl
    show Calls Tryd.prog 52 #[.pointer (some ⟨f, 0, none⟩), .pointer (some ⟨gs, 0, none⟩)] W _
    go_enter Tryd.func52, Tryd.ntmps52
    go_wp2_with fail
    go_region_held3 (fun w => w.cell? ⟨gs, 0, none⟩ = some (.string s)) (first | exact HG.out | exact HG2.out | go_keep)
      ((go_at_call 53; refine Calls.mono (write_any f B n1 c1 A1 y1 y3 y2 y0 s W.drew (rw_drew HR.out) (HO.out.keep HW.out) hB hn hs h40) ?_; rintro e w1 ⟨rfl, A', c', h⟩; have HH := Lib.hid h.out; have HG2 : Hid (w1.cell? ⟨gs, 0, none⟩ = some (.string s)) := (by show _ = _; refine (World.cell?_of_block (a := ⟨gs, 0, none⟩) (h.out.2.2.2.1.2.2.2.2 gs (Nat.lt_trans hgf hf) (fun hs => hs.elim (fun h => by omega) (fun h => by have := (HO.out.row h).1; omega)))).trans HG.out); clear h))
    go_wp2_with fail
    go_ret
    obtain ⟨hc, hr1, ho1, ht1, ha1⟩ := HH.out
    exact ⟨rfl, Lib.hid ⟨A', n1 + 1, c', hc, hr1, ho1, ⟨ht1.1.trans HW.out.os, ht1.2.1.trans HW.out.tape, ht1.2.2.1.trans HW.out.output, ht1.2.2.2.1, ht1.2.2.2.2⟩, ha1⟩⟩
end Go.Proofs.YtlohjmlenbkbmaaDoor

namespace Go.Proofs.YtlohjmlenbkbmaaDoor
open Go Go.RowKit

theorem OwnCn.lin {B : Nat} {w w7 : World} {x : Cn} {l : CnLay} {zs : List (Fl × FlLay)} {m g3 : Nat} {y : Fl} {ly : FlLay} {cur : Array Value} {A1' : Option Addr} {n1' c1' : Nat} {ls : List St} (hO : OwnCn B w x l zs) (hA3 : l.A3 = some ⟨g3, 0, none⟩) (hz : zs[m]? = some (y, ly)) (hT : Turn (AtB ly.A1) w w7) (hn : n1' ≤ c1') (ho : OwnS w7 B A1' n1' c1' ls) (ha : ∀ b, AtB A1' b → AtB ly.A1 b ∨ w.heap.size ≤ b) (hF : RW 50 w g3 cur) :
    OwnCn B (w7.setCell ⟨g3, m * 4 + 1, none⟩ (.slice A1' n1' c1')) { x with files_ := x.files_.set m { y with lines_ := ls } } l (zs.set m ({ y with lines_ := ls }, ⟨A1', n1', c1', hn⟩)) := by
  have hel := hO.o3.el m _ hz
  refine hO.putG (w6 := w7) (y' := { y with lines_ := ls }) (ly' := ⟨A1', n1', c1', hn⟩) hA3 hz hT ho ha hel.2 hF _ (fun i hi => Below.heap_setCell w7 ⟨g3, m * 4 + 1, none⟩ _ i hi) fun cs hr => ⟨_, hr.set_ (m * 4 + 1) (.slice A1' n1' c1'), by simp, fun i hi => by rw [Array.getElem?_setIfInBounds_ne (by omega)], fun q v hs hold hv => ?_⟩
  have hq4 : q < 4 := by have h := (List.getElem?_eq_some_iff.1 hv).1; exact h
  obtain rfl | rfl | rfl | rfl : q = 0 ∨ q = 1 ∨ q = 2 ∨ q = 3 := by omega
  · rw [Array.getElem?_setIfInBounds_ne (by omega)]; exact hold 0 _ hv
  · rw [Array.getElem?_setIfInBounds_self_of_lt (by omega)]; exact hv
  · rw [Array.getElem?_setIfInBounds_ne (by omega)]; exact hold 2 _ hv
  · rw [Array.getElem?_setIfInBounds_ne (by omega)]; exact hold 3 _ hv
/-- A row of another kind stands where a row of strings grows. -/
theorem row_grown {T : TypeId} {w w' : World} {B k q : Nat} {v : Value} {xs : List Value} {cs : Array Value} (h : RW T w q cs) (hT : 9 ≠ T) (ho : w.ownsRow B 9 1 v k xs) (hg : w.grownBy w' v.ownBlock) : RW T w' q cs := by
  refine (hg.block q h.lt fun e => ?_).trans h
  rcases ho.2 with ⟨rfl, _⟩ | ⟨g, cap, cur, rfl, hg, hh, _⟩
  · cases e
  · obtain rfl : q = g := Option.some.inj e
    exact absurd (RW.same (show RW 9 w q cur from hh) h).1 hT
/-- Behind an append: only that row has turned. -/
theorem turn_grown {w3 C w7 : World} {B n c : Nat} {A : Option Addr} {xs : List St} (hk : Below w3.heap.size w3 C) (ho : OwnS w3 B A n c xs) (hg : C.grownBy w7 (Value.slice A n c).ownBlock) : Turn (AtB A) w3 w7 :=
  ⟨hg.os.trans hk.os, hg.tape.trans hk.tape, hg.output.trans hk.output, Nat.le_trans hk.size hg.size, fun j hj hn => (hg.block j (Nat.lt_of_lt_of_le hj hk.size) fun e => hn (own_atB' ho e.symm)).trans (hk.block j hj)⟩
/-- Behind the statement that appends. -/
def WEnd (W : World) (X : Cn) (l : CnLay) (q : Nat) (con : Array Value) (w : World) : Prop := (∃ zs', OwnCn W.heap.size w X l zs') ∧ RW 29 w (W.heap.size + 1) #[.slice none 0 0, .int .i64 0, .slice none 0 0, .slice none 0 0, .slice none 0 0] ∧ RW 29 w q con ∧ Below W.heap.size W w
theorem WEnd.mk' {W w3 w7 : World} {x : Cn} {l : CnLay} {zs : List (Fl × FlLay)} {m g3 q : Nat} {y : Fl} {ly : FlLay} {cur con : Array Value} {A1' : Option Addr} {n1' c1' : Nat} {ls : List St} (hO : OwnCn W.heap.size w3 x l zs) (hA3 : l.A3 = some ⟨g3, 0, none⟩) (hz : zs[m]? = some (y, ly)) (hT : Turn (AtB ly.A1) w3 w7) (ho : OwnS w7 W.heap.size A1' n1' c1' ls) (ha : ∀ b, AtB A1' b → AtB ly.A1 b ∨ w3.heap.size ≤ b) (hF : RW 50 w3 g3 cur) (hF7 : RW 50 w7 g3 cur) (hR : RW 29 w7 (W.heap.size + 1) #[.slice none 0 0, .int .i64 0, .slice none 0 0, .slice none 0 0, .slice none 0 0]) (hQ : RW 29 w7 q con) (hB : Below W.heap.size W w3) :
    WEnd W { x with files_ := x.files_.set m { y with lines_ := ls } } l q con (w7.setCell ⟨g3, m * 4 + 1, none⟩ (.slice A1' n1' c1')) := by
  have hg3 : W.heap.size ≤ g3 := by
    have h := hO.o3.own
    rw [hA3] at h
    exact own_ge h g3 rfl
  have hne : ∀ {k : Nat} {cs : Array Value}, RW 29 w7 k cs → k ≠ g3 := fun h e => by subst e; exact absurd (RW.same hF7 h).1 (by decide)
  exact ⟨⟨_, hO.lin hA3 hz hT ho.toIO.2 ho ha hF⟩, hR.other (hne hR) _, hQ.other (hne hQ) _, (hB.trans (hT.below (B := W.heap.size) (fun j hj => ((hO.o3.el m _ hz).1.row hj).1) hB.size)).setCell hg3 _⟩
theorem WEnd.drew {W : World} {X : Cn} {l : CnLay} {q : Nat} {con : Array Value} {w : World} (h : WEnd W X l q con w) : WEnd W X l q con w.drew := by
  obtain ⟨⟨zs, ho⟩, h1, h2, h3⟩ := h
  exact ⟨⟨zs, own_drew ho⟩, rw_drew h1, rw_drew h2, h3.drew⟩
theorem below_da (w : World) (o : Obj) : Below w.heap.size w (w.drew.alloc o) := (Below.refl _ _).drew.trans (below_alloc w.drew o)
theorem own_drewS {w : World} {B n c : Nat} {A : Option Addr} {xs : List St} (h : OwnS w B A n c xs) : OwnS w.drew B A n c xs := h
end Go.Proofs.YtlohjmlenbkbmaaDoor

namespace Go.Proofs.YtlohjmlenbkbmaaDoor
open Go Go.RowKit

set_option maxHeartbeats 4000000 in
set_option maxRecDepth 100000 in
theorem changeUse_any (x : Cn) (l : CnLay) (K : Int) (X : Cn) (cap : Array Value) (W : World) (hv : CnV W W.heap.size x l) (hT : Classes W) (hok : consoleB x = true) (h0 : l.n0 ≤ 1048576) (h2 : l.n2 ≤ 1048576) (h4 : l.n4 ≤ 1048576) (h3 : l.n3 ≤ 1048576) (hF : ∀ (j : Nat) (y : Fl), x.files_[j]? = some y → y.lines_.length ≤ 1048576)
    (hch : ∀ (w : World) (g : Nat) (l' : CnLay) (zs : List (Fl × FlLay)), Below W.heap.size W w → W.heap.size ≤ g → RW 29 w g #[.slice l'.A0 l'.n0 l'.c0, .int .i64 x.at_, .slice l'.A2 l'.n2 l'.c2, .slice l'.A3 l'.n3 l'.c3, .slice l'.A4 l'.n4 l'.c4] → OwnCn W.heap.size w x l' zs → Calls Tryd.prog 75 (#[.pointer (some ⟨g, 0, none⟩)] ++ cap) w (ChRes K X W g w)) :
    Calls Tryd.prog 36 #[x.ag l, .bool true, .func (.func 75) #[] cap] W (ConR K (if K = 0 then X else zC) W) := by
  have hmf : ∀ (fn : Fn) (first cap : Array Value) (w : World), (Instr.makeFunc fn first cap).run Tryd.prog w = .ok (.func fn first cap) w := fun _ _ _ _ => rfl
  have HV := Lib.hid (fun (w : World) (hb : Below W.heap.size W w) => impl_ValidConsole_any x l w (hv.go hb) (classes_go hT hb))
  have HCL := Lib.hid (fun (w : World) (hb : Below W.heap.size W w) => cloneConsole_any x l w (hv.go hb) h0 h2 h4 h3 hF)
  have HCH := Lib.hid hch
  obtain ⟨x0, x1, x2, x3, x4⟩ := x
  obtain ⟨A0, n0, c0, h0', A2, n2, c2, h2', A3, n3, c3, h3', A4, n4, c4, h4'⟩ := l
  have HA := Lib.hid hok
  have HC := Lib.hid (three_new W 29 29 2 #[.slice A0 n0 c0, .int .i64 x1, .slice A2 n2 c2, .slice A3 n3 c3, .slice A4 n4 c4] #[.slice none 0 0, .int .i64 0, .slice none 0 0, .slice none 0 0, .slice none 0 0] #[.int .i64 0])
  obtain ⟨R, hRX⟩ : ∃ R, (if K = 0 then X else zC) = R := ⟨_, rfl⟩
  have HRX := Lib.hid hRX
  rw [hRX]
  clear hv hT hok h0 h2 h4 h3 hF hch hRX
  show Calls Tryd.prog 36 #[.agg #[.slice A0 n0 c0, .int .i64 x1, .slice A2 n2 c2, .slice A3 n3 c3, .slice A4 n4 c4], .bool true, .func (.func 75) #[] cap] W _
  go_enter_defers Tryd.func36, Tryd.ntmps36
  go_wp2_with (first
    | (go_at_call 67; obtain ⟨g0, g1, g2, g3, g4⟩ := HC.out _ rfl; refine (HV.out _ g3).mono ?_; rintro e w1 ⟨rfl, hb⟩; rw [HA.out]; have HB1 := Lib.hid (g3.trans (hb.mono g3.size)); have HS1 : Hid (W.heap.size + 3 ≤ w1.heap.size) := (by rw [← g4]; exact hb.size); have HI1 := Lib.hid (g0.below hb g0.lt); have HR1 := Lib.hid (g1.below hb g1.lt); have HQ1 := Lib.hid (g2.below hb g2.lt); have z0 := HI1.out.cell 0; have z1 := HI1.out.cell 1; have z2 := HI1.out.cell 2; have z3 := HI1.out.cell 3; have z4 := HI1.out.cell 4; clear g0 g1 g2 g3 g4 hb)
    | (go_at_call 69; refine (HCL.out _ HB1.out).mono ?_; rintro e w2 ⟨⟨A0q, n0q, c0q, h0q, A2q, n2q, c2q, h2q, A3q, n3q, c3q, h3q, A4q, n4q, c4q, h4q⟩, zs, he, h⟩; obtain rfl : e = .returned (.agg #[.slice A0q n0q c0q, .int .i64 x1, .slice A2q n2q c2q, .slice A3q n3q c3q, .slice A4q n4q c4q]) := he; obtain ⟨ho, hb⟩ := h.out; have HO2 := Lib.hid (ho.lower HB1.out.size); have HB2 := Lib.hid (HB1.out.trans (hb.mono HB1.out.size)); have HR2 := Lib.hid (HR1.out.below hb HR1.out.lt); have HQ2 := Lib.hid (HQ1.out.below hb HQ1.out.lt); have y0 := HR2.out.cell 0; have y1 := HR2.out.cell 1; have y2 := HR2.out.cell 2; have y3 := HR2.out.cell 3; have y4 := HR2.out.cell 4; have f0 := HR2.out.frozen 0; have f1 := HR2.out.frozen 1; have f2 := HR2.out.frozen 2; have f3 := HR2.out.frozen 3; have f4 := HR2.out.frozen 4; clear h ho hb z0 z1 z2 z3 z4)
    | (go_at_call 75; refine (HCH.out _ (W.heap.size + 1) ⟨A0q, n0q, c0q, h0q, A2q, n2q, c2q, h2q, A3q, n3q, c3q, h3q, A4q, n4q, c4q, h4q⟩ zs (below_five HB2.out (by omega) _ _ _ _ _) (by omega) (sets_five HR2.out) (own_five HO2.out HR2.out)).mono ?_; rintro e w3 ⟨rfl, h⟩; obtain ⟨hb, hst, ⟨⟨A0v, n0v, c0v, hv0, A2v, n2v, c2v, hv2, A3v, n3v, c3v, hv3, A4v, n4v, c4v, hv4⟩, z, hr⟩, hx⟩ := h.out; have HB3 := Lib.hid hb; have HR3 := Lib.hid hr; have HX3 := Lib.hid hx; have HQ3 := Lib.hid (hst _ _ _ (rw_five HQ2.out (by simp)) (by decide) (by decide) (by simp)); have k0 : w3.cell? ⟨W.heap.size + 1 + 1, 0, none⟩ = some (.int .i64 0) := HQ3.out.cell 0; have kf := HQ3.out.frozen 0; clear h hb hst hr hx y0 y1 y2 y3 y4 f0 f1 f2 f3 f4))
  obtain ⟨w4, hw4⟩ : ∃ w4, w3.setCell ⟨W.heap.size + 1 + 1, 0, none⟩ (.int .i64 K) = w4 := ⟨_, rfl⟩
  have HR4 : Hid (RW 29 w4 (W.heap.size + 1) #[.slice A0v n0v c0v, .int .i64 z, .slice A2v n2v c2v, .slice A3v n3v c3v, .slice A4v n4v c4v]) := by show RW _ _ _ _; rw [← hw4]; exact HR3.out.other (by simp) _
  have HQ4 : Hid (RW 2 w4 (W.heap.size + 1 + 1) #[.int .i64 K]) := by show RW _ _ _ _; rw [← hw4]; exact HQ3.out.set_ 0 _
  have HB4 : Hid (Below W.heap.size W w4) := by show Below _ _ _; rw [← hw4]; exact HB3.out.setCell (show W.heap.size ≤ W.heap.size + 1 + 1 by omega) _
  have HE4 : Hid (AtEnd W K X (W.heap.size + 1) (W.heap.size + 1 + 1) ⟨A0v, n0v, c0v, hv0, A2v, n2v, c2v, hv2, A3v, n3v, c3v, hv3, A4v, n4v, c4v, hv4⟩ z w4) := by
    refine ⟨HR4.out, HQ4.out, HB4.out, fun hk => ?_⟩
    obtain ⟨l2, zs2, h1, h2⟩ := HX3.out hk
    refine ⟨l2, zs2, (RW.same HR3.out h1).2, ?_⟩
    rw [← hw4]
    exact h2.other HQ3.out (by decide) (by decide) _
  rw [hw4]
  have y0 := HR4.out.cell 0
  have y1 := HR4.out.cell 1
  have y2 := HR4.out.cell 2
  have y3 := HR4.out.cell 3
  have y4 := HR4.out.cell 4
  have f0 := HR4.out.frozen 0
  have f1 := HR4.out.frozen 1
  have f2 := HR4.out.frozen 2
  have f3 := HR4.out.frozen 3
  have f4 := HR4.out.frozen 4
  have kk := HQ4.out.cell 0
  have kg := HQ4.out.frozen 0
  clear hw4 k0 kf HR3 HQ3 HX3 HB3
  go_cut [] from 21 to 22 (fun wx => Hid (AtEnd W K X (W.heap.size + 1) (W.heap.size + 1 + 1) ⟨A0v, n0v, c0v, hv0, A2v, n2v, c2v, hv2, A3v, n3v, c3v, hv3, A4v, n4v, c4v, hv4⟩ z wx))
  case first =>
    go_region_law (fail)
    all_goals (go_wp2_with fail; go_meet)
    all_goals exact Lib.hid (HE4.out.last (by simp) (by omega) (by omega))
  case rest =>
    have HU := Lib.hid hcut.out
    clear hcut HE4 HR4 HQ4 HB4 y0 y1 y2 y3 y4 f0 f1 f2 f3 f4 kk kg
    go_wp2_with fail
    exact change_door (l1 := ⟨A0v, n0v, c0v, hv0, A2v, n2v, c2v, hv2, A3v, n3v, c3v, hv3, A4v, n4v, c4v, hv4⟩) (z := z) (X := X) rfl rfl (by simp) (by omega) HU.out.1 HU.out.2.1 HU.out.2.2.1 HU.out.2.2.2 HRX.out
end Go.Proofs.YtlohjmlenbkbmaaDoor

namespace Go.Proofs.YtlohjmlenbkbmaaDoor
open Go Go.RowKit Go.Sort

set_option maxHeartbeats 4000000 in
set_option maxRecDepth 100000 in
theorem useSt_any (x : Cn) (X : Cn) (s : ByteArray) (ms : List Int) (va : Value) (gn gm ga bm cm m g : Nat) (y : Fl) (l : CnLay) (zs : List (Fl × FlLay)) (W w : World) (hB : Below W.heap.size W w) (_ : W.heap.size ≤ g) (hR : RW 29 w g #[.slice l.A0 l.n0 l.c0, .int .i64 x.at_, .slice l.A2 l.n2 l.c2, .slice l.A3 l.n3 l.c3, .slice l.A4 l.n4 l.c4]) (hO : OwnCn W.heap.size w x l zs)
    (hc : Capt w gn gm ga s bm cm ms va) (hl : CaptLt w.heap.size gn gm ga bm) (hn : l.n3 ≤ 1000) (hms : ms.length ≤ 1000) (hp : PlaceP Fl.name_ x.files_ s m) (hy : x.files_[m]? = some y) (hys : (y.name_.toList == s.toList) = true) (hct : ms.contains y.mode_ = false) :
    Calls Tryd.prog 75 (#[.pointer (some ⟨g, 0, none⟩)] ++ #[.pointer (some ⟨gn, 0, none⟩), .pointer (some ⟨gm, 0, none⟩), .pointer (some ⟨ga, 0, none⟩)]) w (ChRes 10 X W g w) := by
  have HP := Lib.hid (fun (w1 : World) (hb : Below w.heap.size w w1) => placeFl_any l.A3 l.n3 l.c3 m x.files_ s true w1 (hO.toV.2.2.1.go hb) hn hp (.inl ⟨y, hy, hys⟩))
  have HF := Lib.hid (fun (w1 : World) => files_any x l w1)
  have HR := Lib.hid hR
  have HBW := Lib.hid hB
  have HOO := Lib.hid hO
  have HCC := Lib.hid hc
  have HLT := Lib.hid hl
  have HMM := Lib.hid hms
  have HCT := Lib.hid hct
  have HY := Lib.hid hy
  have h0 := hc.1
  obtain ⟨g3, ly, cur, hA3, hz, hm, hrF, hsz, hcell⟩ := hO.file hy
  have HZ := Lib.hid hz
  have HRF := Lib.hid hrF
  have HSZ := Lib.hid hsz
  have HEL := Lib.hid hcell
  obtain ⟨x0, x1, x2, x3, x4⟩ := x
  obtain ⟨A0, n0, c0, h0', A2, n2, c2, h2', A3, n3, c3, h3', A4, n4, c4, h4'⟩ := l
  obtain ⟨y0, y1, y2, y3⟩ := y
  obtain ⟨B1, k1, d1, e1⟩ := ly
  dsimp only at hA3 hm
  subst hA3
  have b0 : (0 : Int) ≤ (m : Int) := by omega
  have b1 : (m : Int) < (n3 : Int) := by omega
  have hbd : n3 ≤ 1000 := hn
  clear hO hR hB hc hp hy hys hct hl hms hn hz hrF hsz hcell
  show Calls Tryd.prog 75 #[.pointer (some ⟨g, 0, none⟩), .pointer (some ⟨gn, 0, none⟩), .pointer (some ⟨gm, 0, none⟩), .pointer (some ⟨ga, 0, none⟩)] w _
  go_enter Tryd.func75, Tryd.ntmps75
  go_wp2_with fail
  obtain ⟨w0, hw0⟩ : ∃ w0, w = w0 := ⟨_, rfl⟩
  have z0 := cell_regrown (HR.out.cell 0)
  have z1 := cell_regrown (HR.out.cell 1)
  have z2 := cell_regrown (HR.out.cell 2)
  have z3 := cell_regrown (HR.out.cell 3)
  have z4 := cell_regrown (HR.out.cell 4)
  have zn := cell_regrown h0
  have cF : ∀ d os', Calls Tryd.prog 58 #[.agg #[.slice A0 n0 c0, .int .i64 x1, .slice A2 n2 c2, .slice (some ⟨g3, 0, none⟩) n3 c3, .slice A4 n4 c4]] (grow (redrawn w d) os') (fun e w'' => e = .returned (.slice (some ⟨g3, 0, none⟩) n3 c3) ∧ ∃ q : Regrown, w'' = grow (redrawn w q.d) q.os) := fun d os' => Calls.regrown_of (HF.out _)
  have cP : ∀ d os', Calls Tryd.prog 76 #[.slice (some ⟨g3, 0, none⟩) n3 c3, .string s] (grow (redrawn w d) os') (fun e w'' => e = .returned (.tuple #[.int .i64 m, .bool true]) ∧ ∃ q : Regrown, w'' = grow (redrawn w q.d) q.os) := fun d os' => Calls.regrown_of (HP.out _ (below_regrown w d os'))
  clear hw0 h0
  refine wp_region_quiet_below (by kernel_rfl) (by kernel_rfl) ?_
  repeat (first | go_big_quiet_step (first | with_reducible exact cF _ _ | with_reducible exact cP _ _) | quiet_step (first | with_reducible exact cF _ _ | with_reducible exact cP _ _))
  refine wpQuiet_nil ?_
  intro w4 hw'
  obtain ⟨⟨dq, osq⟩, hw''⟩ := hw'
  have HB4 : Hid (Below w.heap.size w w4) := by show Below _ _ _; rw [hw'']; exact below_regrown w dq osq
  clear hw'' z0 z1 z2 z3 z4 zn cF cP
  have HR4 := Lib.hid (HR.out.below HB4.out HR.out.lt)
  have HF4 := Lib.hid (HRF.out.below HB4.out HRF.out.lt)
  have HO4 := Lib.hid (HOO.out.keep HB4.out)
  have HC4 := Lib.hid (HCC.out.below HB4.out HLT.out)
  have HL4 := Lib.hid (HLT.out.mono HB4.out.size)
  have p3 := HR4.out.cell 3
  have q0 : w4.cell? ⟨g3, m * 4, none⟩ = some (.string y0) := (HF4.out.cell _).trans (HEL.out 0 _ rfl)
  have q1 : w4.cell? ⟨g3, m * 4 + 1, none⟩ = some (.slice B1 k1 d1) := (HF4.out.cell _).trans (HEL.out 1 _ rfl)
  have q2 : w4.cell? ⟨g3, m * 4 + 2, none⟩ = some (.int .i64 y2) := (HF4.out.cell _).trans (HEL.out 2 _ rfl)
  have q3 : w4.cell? ⟨g3, m * 4 + 3, none⟩ = some (.int .i64 y3) := (HF4.out.cell _).trans (HEL.out 3 _ rfl)
  have am : ∀ o, (w4.alloc o).cell? ⟨gm, 0, none⟩ = some (.slice (some ⟨bm, 0, none⟩) ms.length cm) := fun o => (HC4.out.below (below_alloc w4 o) HL4.out).2.1
  have HMS : Hid (∀ o (j : Nat) (x : Int), ms[j]? = some x → (w4.alloc o).cell? ⟨bm, 0 + j, none⟩ = some (.int .i64 x)) := fun o => (HC4.out.below (below_alloc w4 o) HL4.out).2.2.2
  go_wp2_with (go_at_call 77; refine (contains64_any bm 0 ms.length cm ms y2 _ rfl HMM.out (HMS.out _)).mono ?_; rintro e w5 ⟨rfl, rfl⟩; rw [HCT.out])
  go_ret
  exact ⟨rfl, Lib.hid ⟨(HBW.out.trans (HB4.out.mono HBW.out.size)).trans ((below_alloc w4 _).mono (Nat.le_trans HBW.out.size HB4.out.size)), Stand.of_below (HB4.out.trans ((below_alloc w4 _).mono HB4.out.size)), ⟨⟨A0, n0, c0, h0', A2, n2, c2, h2', some ⟨g3, 0, none⟩, n3, c3, h3', A4, n4, c4, h4'⟩, x1, HR4.out.alloc _⟩, fun h => absurd h (by decide)⟩⟩
end Go.Proofs.YtlohjmlenbkbmaaDoor
