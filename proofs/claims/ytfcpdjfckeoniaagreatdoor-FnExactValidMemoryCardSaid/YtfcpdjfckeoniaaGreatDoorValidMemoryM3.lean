/- File: as plain data and in memory; szFile, szFileS of the laws. No condition. toFile, toFileS of the laws. No condition. laws.eqFile, laws.eqFileS where both are the same. No condition. Console: as plain data and in memory; szConsole, szConsoleS of the laws. No condition. Memory: as plain data and in memory; szMemory of the laws. No condition. toHeap of the laws: its rows lie behind the call. No condition. toScope of the laws, by its own blocks. No condition. toConsole of the laws, by its own blocks. No condition. A row with some cells stored, as a list. Plain. toMemory of the laws. No condition. Contract: eqHeap of the laws where both are the same. No condition. -/
import Derived.Test.YtfcpdjfckeoniaaGreatDoorValidMemoryM2
import Derived.Test.YtfcpdjfckeoniaaGreatDoorValidMemoryM1
import Derived.Maps.RangeWalk
import Derived.Deep.MidRow
namespace Go.Proofs.YtfcpdjfckeoniaaGreatDoor
open Go Go.RowKit

structure Fl where
  name_ : ByteArray
  lines_ : List St
  mode_ : Int
  at_ : Int
/-- Where its lists lie. -/
structure FlLay where
  A1 : Option Addr
  n1 : Nat
  c1 : Nat
  h1 : n1 ≤ c1
/-- As one value. -/
abbrev Fl.ag (x : Fl) (l : FlLay) : Value := .agg #[.string x.name_, .slice l.A1 l.n1 l.c1, .int .i64 x.mode_, .int .i64 x.at_]
def Fl.vs (x : Fl) (l : FlLay) : List Value := [.string x.name_, .slice l.A1 l.n1 l.c1, .int .i64 x.mode_, .int .i64 x.at_]
/-- Its lists lie below B. -/
def FlV (w : World) (B : Nat) (x : Fl) (l : FlLay) : Prop := StI w B l.A1 l.n1 x.lines_ ∧ x.name_.size ≤ maxLen
theorem FlV.below {w w' : World} {B : Nat} {x : Fl} {l : FlLay} (h : FlV w B x l) (hb : Below B w w') : FlV w' B x l := by
  obtain ⟨h0, h1⟩ := h
  exact ⟨h0.below hb, h1⟩
theorem FlV.more {w : World} {B B' : Nat} {x : Fl} {l : FlLay} (h : FlV w B x l) (hB : B ≤ B') : FlV w B' x l := by
  obtain ⟨h0, h1⟩ := h
  exact ⟨h0.more hB, h1⟩
theorem FlV.go {W w : World} {x : Fl} {l : FlLay} (h : FlV W W.heap.size x l) (hb : Below W.heap.size W w) : FlV w w.heap.size x l := (h.below hb).more hb.size
theorem FlV.alloc {W : World} {x : Fl} {l : FlLay} (h : FlV W W.heap.size x l) (o : Obj) : FlV (W.alloc o) (W.alloc o).heap.size x l := h.go (below_alloc W o)
/-- Its cells from p on of block b. -/
def FlAt (w : World) (b p : Nat) (x : Fl) (l : FlLay) : Prop := w.cell? ⟨b, p, none⟩ = some (.string x.name_) ∧ w.cell? ⟨b, p + 1, none⟩ = some (.slice l.A1 l.n1 l.c1) ∧ w.cell? ⟨b, p + 2, none⟩ = some (.int .i64 x.mode_) ∧ w.cell? ⟨b, p + 3, none⟩ = some (.int .i64 x.at_)
theorem FlAt.below {w w' : World} {b p B : Nat} {x : Fl} {l : FlLay} (h : FlAt w b p x l) (hb : Below B w w') (hg : b < B) : FlAt w' b p x l := by
  obtain ⟨h0, h1, h2, h3⟩ := h
  exact ⟨(hb.cell (p := ⟨b, p, none⟩) hg).trans h0, (hb.cell (p := ⟨b, p + 1, none⟩) hg).trans h1, (hb.cell (p := ⟨b, p + 2, none⟩) hg).trans h2, (hb.cell (p := ⟨b, p + 3, none⟩) hg).trans h3⟩
theorem FlAt.range {w : World} {b p : Nat} {x : Fl} {l : FlLay} (h : FlAt w b p x l) : w.rangeAt b p (x.vs l) := by
  obtain ⟨h0, h1, h2, h3⟩ := h
  intro j v hj
  match j, hj with
  | 0, hj => cases hj; exact h0
  | 1, hj => cases hj; exact h1
  | 2, hj => cases hj; exact h2
  | 3, hj => cases hj; exact h3
  | j + 4, hj => simp [Fl.vs] at hj
/-- A slice of them that lies below B, with their lists. -/
def FlI (w : World) (B : Nat) (A : Option Addr) (n : Nat) (xs : List Fl) : Prop :=
  xs.length = n ∧ n ≤ maxLen ∧ (0 < n → ∃ b off, A = some ⟨b, off, none⟩ ∧ b < B ∧ ∀ (j : Nat) (x : Fl), xs[j]? = some x → ∃ l, FlAt w b (off + j * 4) x l ∧ FlV w B x l)
theorem FlI.below {w w' : World} {B n : Nat} {A : Option Addr} {xs : List Fl} (h : FlI w B A n xs) (hb : Below B w w') : FlI w' B A n xs :=
  ⟨h.1, h.2.1, fun hn => by
    obtain ⟨b, off, e, hg, hc⟩ := h.2.2 hn
    refine ⟨b, off, e, hg, fun j x hx => ?_⟩
    obtain ⟨l, h1, h2⟩ := hc j x hx
    exact ⟨l, h1.below hb hg, h2.below hb⟩⟩
theorem FlI.more {w : World} {B B' n : Nat} {A : Option Addr} {xs : List Fl} (h : FlI w B A n xs) (hB : B ≤ B') : FlI w B' A n xs :=
  ⟨h.1, h.2.1, fun hn => by
    obtain ⟨b, off, e, hg, hc⟩ := h.2.2 hn
    refine ⟨b, off, e, by omega, fun j x hx => ?_⟩
    obtain ⟨l, h1, h2⟩ := hc j x hx
    exact ⟨l, h1, h2.more hB⟩⟩
theorem FlI.at_ {w : World} {B n k : Nat} {A : Option Addr} {xs : List Fl} (h : FlI w B A n xs) (hk : k < n) : ∃ b off x l, A = some ⟨b, off, none⟩ ∧ b < B ∧ xs[k]? = some x ∧ FlAt w b (off + k * 4) x l ∧ FlV w B x l := by
  obtain ⟨b, off, e, hg, hc⟩ := h.2.2 (by omega)
  have hl : k < xs.length := by rw [h.1]; exact hk
  obtain ⟨l, h1, h2⟩ := hc k _ (List.getElem?_eq_getElem hl)
  exact ⟨b, off, xs[k], l, e, hg, List.getElem?_eq_getElem hl, h1, h2⟩
theorem FlI.go {W w : World} {A : Option Addr} {n : Nat} {xs : List Fl} (h : FlI W W.heap.size A n xs) (hb : Below W.heap.size W w) : FlI w w.heap.size A n xs := (h.below hb).more hb.size
theorem FlI.alloc {W : World} {A : Option Addr} {n : Nat} {xs : List Fl} (h : FlI W W.heap.size A n xs) (o : Obj) : FlI (W.alloc o) (W.alloc o).heap.size A n xs := h.go (below_alloc W o)

section
variable {H : Type} {enc : TypeId × Value → H} {W : World} {base : Nat} {held : Bool}
set_option maxRecDepth 100000 in
/-- Its cells, each with its own reading. -/
theorem open_FlN {fuel : Nat} {cs : List Value} {x : DataW H × List MemPlace} (h : DataW.trod enc Tryz.prog W base (fun _ => true) held fuel 92 cs = some x) :
    ∃ x l, cs = Fl.vs x l ∧ FlV W W.heap.size x l := by
  obtain ⟨ys, m, hm, _, hlen, _, hf⟩ := DataW.trod_struct Tryz.underlying92 h
  have hlen' : cs.length = 4 := hlen.trans (by kernel_rfl)
  match cs, hlen' with
  | [c0, c1, c2, c3], _ =>
    have hys : ∀ i, i < 4 → ∃ y, ys[i]? = some y := by
      intro i hi
      have : ys.length = 4 := by assumption
      exact ⟨_, List.getElem?_eq_getElem (by omega)⟩
    have f0 : DataW.trod enc Tryz.prog W base (fun _ => true) held m 9 [c0] = ys[0]? := field_at (i := 0) (o := 0) (k := 1) (T := 9) hf (by kernel_rfl) (by kernel_rfl)
    obtain ⟨y0, g0⟩ := hys 0 (by decide)
    rw [g0] at f0
    have f1 : DataW.trod enc Tryz.prog W base (fun _ => true) held m 22 [c1] = ys[1]? := field_at (i := 1) (o := 1) (k := 1) (T := 22) hf (by kernel_rfl) (by kernel_rfl)
    obtain ⟨y1, g1⟩ := hys 1 (by decide)
    rw [g1] at f1
    have f2 : DataW.trod enc Tryz.prog W base (fun _ => true) held m 2 [c2] = ys[2]? := field_at (i := 2) (o := 2) (k := 1) (T := 2) hf (by kernel_rfl) (by kernel_rfl)
    obtain ⟨y2, g2⟩ := hys 2 (by decide)
    rw [g2] at f2
    have f3 : DataW.trod enc Tryz.prog W base (fun _ => true) held m 2 [c3] = ys[3]? := field_at (i := 3) (o := 3) (k := 1) (T := 2) hf (by kernel_rfl) (by kernel_rfl)
    obtain ⟨y3, g3⟩ := hys 3 (by decide)
    rw [g3] at f3
    obtain ⟨z0, e0, _, hz0⟩ := DataW.trod_string Tryz.underlying9 f0
    obtain ⟨A1, n1, q1, hc1, e1⟩ := open_slice1 Tryz.underlying22 f1
    rw [e1] at f1
    obtain ⟨z1, hz1⟩ := open_StF f1
    obtain ⟨z2, e2, _, _⟩ := DataW.trod_int Tryz.underlying2 f2
    obtain ⟨z3, e3, _, _⟩ := DataW.trod_int Tryz.underlying2 f3
    simp only [List.cons.injEq, and_true] at e0 e1 e2 e3
    subst e0 e1 e2 e3
    exact ⟨⟨z0, z1, z2, z3⟩, ⟨A1, n1, q1, hc1⟩, rfl, hz1, hz0⟩
set_option maxRecDepth 100000 in
/-- An argument that is a slice. -/
theorem open_FlF {A : Option Addr} {n c fuel : Nat} {x : DataW H × List MemPlace} (hf : DataW.trod enc Tryz.prog W base (fun _ => true) held fuel 23 [.slice A n c] = some x) :
    ∃ xs, FlI W W.heap.size A n xs := by
  rcases Go.Deep.open_slice Tryz.underlying23 hf with ⟨h0, _⟩ | ⟨a, len, cap, m, k, D, Pl, hcs, hb, hl, hm, hmm, hx, hi⟩
  · simp at h0
    obtain ⟨rfl, rfl, rfl⟩ := h0
    exact ⟨[], rfl, Nat.zero_le _, fun h => absurd h (by omega)⟩
  · simp only [List.cons.injEq, Value.slice.injEq, and_true] at hcs
    obtain ⟨rfl, rfl, rfl⟩ := hcs
    simp only [if_true] at hmm
    have hC : Tryz.prog.cellsOf 92 = 4 := by kernel_rfl
    have key : ∀ i, i < n → ∃ o : Fl, ∃ l, (∀ j v, (Fl.vs o l)[j]? = some v → W.cell? (a.add (i * 4 + j)) = some v) ∧ FlV W W.heap.size o l := by
      intro i hin
      obtain ⟨cs', hc, ht'⟩ := hi i (by omega)
      rw [hC] at hc
      obtain ⟨o, l, e, ho⟩ := open_FlN ht'
      obtain ⟨_, hcl, hat⟩ := World.cells?_some hc
      refine ⟨o, l, fun j v hj => ?_, ho⟩
      rw [← e] at hj
      have hjl : j < 4 := by have := (List.getElem?_eq_some_iff.1 hj).1; omega
      rw [← Go.Deep.add_add, hat j hjl, hj]
    have hnm : n ≤ maxLen := Nat.le_trans hl hm
    by_cases hn : 0 < n
    · obtain ⟨ab, ao, spot⟩ := a
      obtain ⟨o0, l0, h0, _⟩ := key 0 hn
      have h00 := h0 0 _ rfl
      have hspot : spot = none := by simpa [Addr.add] using World.cell?_spot h00
      subst hspot
      rw [Addr.add_lit] at h00
      obtain ⟨os, hl', hx'⟩ := list_of (α := Fl) (P := fun j o => ∃ l, FlAt W ab (ao + j * 4) o l ∧ FlV W W.heap.size o l) (n := n) fun i hin => by
        obtain ⟨o, l, hc, ho⟩ := key i hin
        have hc' : ∀ j v, (Fl.vs o l)[j]? = some v → W.cell? ⟨ab, ao + i * 4 + j, none⟩ = some v := by
          intro j v hj
          have := hc j v hj
          rw [Addr.add_lit, ← Nat.add_assoc] at this
          exact this
        exact ⟨o, l, ⟨hc' 0 _ rfl, hc' 1 _ rfl, hc' 2 _ rfl, hc' 3 _ rfl⟩, ho⟩
      exact ⟨os, hl', hnm, fun _ => ⟨ab, ao, rfl, World.block_lt_of_cell? W ⟨ab, _, none⟩ h00, hx'⟩⟩
    · exact ⟨[], by simp; omega, hnm, fun h => absurd h hn⟩
end
set_option maxRecDepth 100000 in
/-- An argument. -/
theorem open_Fl {H : Type} {enc : TypeId × Value → H} {W : World} {v : Value} {d : DataW H} {p : List MemPlace} {r : Reach} {b0 : Nat} (hv : Value.okWide Tryz.prog W r b0 92 v) (h : DataW.Trod enc Tryz.prog W 0 (fun _ => true) true 92 v d p) :
    ∃ x l, v = Fl.ag x l ∧ FlV W W.heap.size x l := by
  obtain ⟨cs, rfl, hsz⟩ := Go.WideShapes.okWide_struct Tryz.underlying92 hv
  obtain ⟨fuel, hf⟩ := h
  obtain ⟨x, l, e, ho⟩ := open_FlN hf
  refine ⟨x, l, ?_, ho⟩
  have : cs.toList = Fl.vs x l := e
  rw [show cs = (Fl.vs x l).toArray from by rw [← this]]
  rfl
theorem open_FlS {H : Type} {enc : TypeId × Value → H} {W : World} {A : Option Addr} {n c : Nat} {d : DataW H} {p : List MemPlace} (h : DataW.Trod enc Tryz.prog W 0 (fun _ => true) true 23 (.slice A n c) d p) :
    ∃ xs, FlI W W.heap.size A n xs := by
  obtain ⟨fuel, hf⟩ := h
  exact open_FlF (by simpa [Value.cells] using hf)

/-- What szFile takes of the bound. -/
def szFl1 (x : Fl) : Nat := x.name_.size + szSt x.lines_

set_option maxHeartbeats 2000000 in
set_option maxRecDepth 100000 in
theorem szFile_any (x : Fl) (l : FlLay) (L : Int) (W : World) (ho : FlV W W.heap.size x l) (hLL : 0 ≤ L) (hL : L ≤ 1048576) :
    Calls Tryz.prog 49 #[x.ag l, .int .i64 L] W (SzL (szFl1 x) L W) := by
  obtain ⟨s, hs⟩ : ∃ s, szFl1 x = s := ⟨_, rfl⟩
  rw [hs]
  unfold szFl1 at hs
  obtain ⟨x0, x1, x2, x3⟩ := x
  obtain ⟨A1, n1, c1, h1⟩ := l
  obtain ⟨k1, k0⟩ := ho
  try unfold FlV at k1 k0
  dsimp only at hs k1 k0
  have HS := Lib.hid hs
  have HL0 := Lib.hid hLL
  have HL1 := Lib.hid hL
  have HK1 := Lib.hid k1
  unfold maxLen at k0
  have HC := Lib.hid (fun X (e : X = W.alloc (.cells #[.string x0, .slice A1 n1 c1, .int .i64 x2, .int .i64 x3] 92)) => (show RW 92 X W.heap.size #[.string x0, .slice A1 n1 c1, .int .i64 x2, .int .i64 x3] ∧ Below W.heap.size W X ∧ W.heap.size < X.heap.size from by rw [e]; exact ⟨RW.new _ _ _, below_alloc _ _, lt_alloc _ _⟩))
  clear hs k1
  show Calls Tryz.prog 49 #[.agg #[.string x0, .slice A1 n1 c1, .int .i64 x2, .int .i64 x3], .int .i64 L] W _
  by_cases cc0 : (x0.size : Int) ≤ L
  · have C0 := Lib.hid cc0
    clear cc0
    by_cases cc1 : (x0.size : Int) + (szSt x1 : Int) ≤ L
    · have C1 := Lib.hid cc1
      clear cc1
      have d0 : decide (L - (x0.size : Int) < 0) = false := (by have := C0.out; simp; omega)
      go_enter Tryz.func49, Tryz.ntmps49
      go_wp2_with (go_at_call 19; obtain ⟨g0, g1, g2⟩ := HC.out _ rfl; have HQ := szStringS_any A1 n1 c1 x1 (L - (x0.size : Int)) _ (HK1.out.go g1) (by have := C0.out; have := HL0.out; omega) (by have := C0.out; have := HL1.out; omega); refine Calls.mono HQ ?_; clear HQ; intro e w1 h; obtain ⟨z1, rfl, hz1, l1, u1, hb⟩ := h.fits (by have := C0.out; have := C1.out; omega) (by have := C0.out; have := HL1.out; omega); have Z1 := Lib.hid hz1; have d1 : decide (z1 < 0) = false := (by simp; omega); have HR1 := Lib.hid (g0.below hb g2); have HB1 := Lib.hid (g1.trans (hb.mono g1.size)); have HG1 := Lib.hid (Nat.lt_of_lt_of_le g2 hb.size); clear hb hz1 g0 g1 g2 HK1)
      go_ret
      refine ⟨.inl ⟨by have := C0.out; have := C1.out; have := Z1.out; have := HS.out; omega, ?_⟩, HB1.out⟩
      have hx : z1 = L - (s : Int) := by have := C0.out; have := C1.out; have := Z1.out; have := HS.out; omega
      rw [← hx]
      rfl
    · have C1 := Lib.hid cc1
      clear cc1
      have d0 : decide (L - (x0.size : Int) < 0) = false := (by have := C0.out; simp; omega)
      go_enter Tryz.func49, Tryz.ntmps49
      go_wp2_with (go_at_call 19; obtain ⟨g0, g1, g2⟩ := HC.out _ rfl; have HQ := szStringS_any A1 n1 c1 x1 (L - (x0.size : Int)) _ (HK1.out.go g1) (by have := C0.out; have := HL0.out; omega) (by have := C0.out; have := HL1.out; omega); refine Calls.mono HQ ?_; clear HQ; intro e w1 h; obtain ⟨rfl, hb⟩ := h.long (by have := C0.out; have := C1.out; omega); have HR1 := Lib.hid (g0.below hb g2); have HB1 := Lib.hid (g1.trans (hb.mono g1.size)); have HG1 := Lib.hid (Nat.lt_of_lt_of_le g2 hb.size); clear hb g0 g1 g2 HK1)
      go_ret
      exact ⟨.inr ⟨by have := C0.out; have := C1.out; have := HS.out; omega, rfl⟩, HB1.out⟩
  · have C0 := Lib.hid cc0
    clear cc0
    have d0 : decide (L - (x0.size : Int) < 0) = true := (by have := C0.out; simp; omega)
    go_enter Tryz.func49, Tryz.ntmps49
    go_wp2_with fail
    go_ret
    exact ⟨.inr ⟨by have := C0.out; have := HS.out; omega, rfl⟩, (below_alloc _ _)⟩

/-- Those of the first k. -/
def sumFl (xs : List Fl) : Nat → Nat
  | 0 => 0
  | k + 1 => sumFl xs k + ((xs[k]?.map szFl1).getD 0)
theorem sumFl_next {xs : List Fl} {k : Nat} {x : Fl} (h : xs[k]? = some x) : sumFl xs (k + 1) = sumFl xs k + szFl1 x := by
  rw [sumFl, h]
  rfl
theorem sumFl_mono {xs : List Fl} {j : Nat} : ∀ {k : Nat}, j ≤ k → sumFl xs j ≤ sumFl xs k
  | 0, h => by obtain rfl : j = 0 := by omega
               exact Nat.le_refl _
  | k + 1, h => by
    by_cases e : j = k + 1
    · rw [e]; exact Nat.le_refl _
    · have := sumFl_mono (xs := xs) (show j ≤ k by omega)
      rw [sumFl]
      omega
def szFl (xs : List Fl) : Nat := xs.length + sumFl xs xs.length

set_option maxHeartbeats 1000000 in
set_option maxRecDepth 100000 in
theorem szFileS_any (A : Option Addr) (n c : Nat) (xs : List Fl) (L : Int) (W : World) (hr : FlI W W.heap.size A n xs) (h0 : 0 ≤ L) (hL : L ≤ 1048576) :
    Calls Tryz.prog 20 #[.slice A n c, .int .i64 L] W (SzL (szFl xs) L W) := by
  have HR := Lib.hid hr
  have hn := hr.2.1
  have hxn := hr.1
  clear hr
  obtain ⟨s, hs⟩ : ∃ s, szFl xs = s := ⟨_, rfl⟩
  have HS : Hid (s = n + sumFl xs n) := by show _ = _; rw [← hs, szFl, hxn]
  rw [hs]
  clear hs hxn
  unfold maxLen at hn
  by_cases hbig : L < (n : Int)
  · have HB : Hid (L < (s : Int)) := by show _ < _; have := HS.out; omega
    have h2 : (n : Int) ≤ 9223372036854775807 := by omega
    have d0 : decide (L - n < 0) = true := by simp; omega
    go_enter Tryz.func20, Tryz.ntmps20
    go_wp2_with fail
    go_ret
    exact ⟨.inr ⟨HB.out, rfl⟩, Below.refl _ _⟩
  · have h1 : (n : Int) ≤ L := by omega
    have hn' : n ≤ 1048576 := by omega
    have d0 : decide (L - n < 0) = false := by simp; omega
    clear hbig
    go_enter Tryz.func20, Tryz.ntmps20
    go_wp2_with fail
    go_loopw [1, 5] (fun q i wr => ∃ k : Nat, ∃ z : Int, k ≤ n ∧ i = .int .i64 k ∧ q = .int .i64 z ∧ 0 ≤ z ∧ z ≤ 1048576 ∧ Hid (z = L - (n : Int) - (sumFl xs k : Int)) ∧ Hid (Below W.heap.size W wr)) (fun _ i _ => n - (intOf i).toNat)
    case atStart => exact ⟨0, _, Nat.zero_le _, rfl, rfl, by omega, by omega, by show _ = _; simp [sumFl], Below.refl _ _⟩
    case round =>
      obtain ⟨k, z, hk, rfl, rfl, hz0, hz1, HZ, HW⟩ := hrel
      by_cases hlt : k < n
      · obtain ⟨b, off, x, l, rfl, hg, hx, ⟨q0, q1, q2, q3⟩, hov⟩ := (HR.out.below HW.out).at_ hlt
        have HO := Lib.hid (hov.more HW.out.size)
        have HX := Lib.hid hx
        have b0 : (0 : Int) ≤ (k : Int) := by omega
        have b1 : (k : Int) < (n : Int) := by omega
        have HZ0 : Hid (0 ≤ z) := hz0
        have HZ1 : Hid (z ≤ 1048576) := hz1
        clear hx hov hg
        by_cases hf : (szFl1 x : Int) ≤ z
        · have HF := Lib.hid hf
          have HN : Hid (sumFl xs (k + 1) = sumFl xs k + szFl1 x) := sumFl_next HX.out
          clear hf
          go_wp2_with (go_at_call 49; refine (szFile_any x l _ _ HO.out HZ0.out HZ1.out).mono ?_; intro e w1 h; obtain ⟨z1, rfl, hz2, l1, u1, hb⟩ := h.fits HF.out HZ1.out; have Z1 := Lib.hid hz2; have dz : decide (z1 < 0) = false := (by simp; omega); have HW1 : Hid (Below W.heap.size W w1) := HW.out.trans (hb.mono HW.out.size); clear hb hz2)
          go_roundw
          case rel => exact ⟨k + 1, _, by omega, by go_num, rfl, by omega, by omega, by show _ = _; rw [HN.out, Z1.out, HZ.out]; omega, HW1⟩
          case measure => simp [intOf]; omega
        · have HF := Lib.hid hf
          have HBIG : Hid (L < (s : Int)) := by
            show _ < _
            have h1 := sumFl_mono (xs := xs) (j := k + 1) (k := n) (by omega)
            rw [sumFl_next HX.out] at h1
            have h2 := HZ.out
            have h3 := HS.out
            omega
          clear hf
          go_wp2_with (go_at_call 49; refine (szFile_any x l _ _ HO.out HZ0.out HZ1.out).mono ?_; intro e w1 h; obtain ⟨rfl, hb⟩ := h.long HF.out; have HW1 : Hid (Below W.heap.size W w1) := HW.out.trans (hb.mono HW.out.size); clear hb)
          go_ret
          exact ⟨.inr ⟨HBIG.out, rfl⟩, HW1.out⟩
      · have hkn : k = n := by omega
        have HE : Hid ((s : Int) ≤ L ∧ z = L - (s : Int)) := by
          have h := HZ.out
          have h3 := HS.out
          rw [hkn] at h
          exact ⟨by omega, by omega⟩
        go_wp2_with fail
        go_ret
        exact ⟨.inl ⟨HE.out.1, by rw [HE.out.2]; rfl⟩, HW.out⟩
/-- No list is too long. -/
def FlSmall (x : Fl) : Prop := x.lines_.length ≤ 1048576
theorem small_Fl1 {x : Fl} (h : (szFl1 x : Int) ≤ 1048576) : FlSmall x := by
  unfold szFl1 at h
  unfold FlSmall
  exact (by unfold szSt at h; omega)
theorem small_Fl {xs : List Fl} (h : (szFl xs : Int) ≤ 1048576) : (∀ (j : Nat) (x : Fl), xs[j]? = some x → FlSmall x) ∧ xs.length ≤ 1048576 := by
  unfold szFl at h
  refine ⟨fun j x hx => small_Fl1 ?_, by omega⟩
  have hl := (List.getElem?_eq_some_iff.1 hx).1
  have h1 := sumFl_mono (xs := xs) (j := j + 1) (k := xs.length) (by omega)
  rw [sumFl_next hx] at h1
  omega
end Go.Proofs.YtfcpdjfckeoniaaGreatDoor

namespace Go.Proofs.YtfcpdjfckeoniaaGreatDoor
open Go Go.RowKit

/-- What toFile answers. -/
def ToFl (x : Fl) (W : World) (e : Ending) (w' : World) : Prop := ∃ l, e = .returned (x.ag l) ∧ Hid (FlV w' w'.heap.size x l ∧ Below W.heap.size W w' ∧ l.n1 = x.lines_.length ∧ ∃ b1, l.A1 = some ⟨b1, 0, none⟩ ∧ W.heap.size ≤ b1)

set_option maxHeartbeats 2000000 in
set_option maxRecDepth 100000 in
theorem toFile_any (x : Fl) (l : FlLay) (W : World) (ho : FlV W W.heap.size x l) (hsm : FlSmall x) :
    Calls Tryz.prog 58 #[x.ag l] W (ToFl x W) := by
  obtain ⟨x0, x1, x2, x3⟩ := x
  obtain ⟨A1, n1, c1, h1⟩ := l
  obtain ⟨k1, k0⟩ := ho
  have s1 := hsm
  try unfold FlV at k1 k0
  try unfold FlSmall at s1
  dsimp only at k1 k0 s1
  rw [k1.1] at s1
  have HK1 := Lib.hid k1
  have HS1 := Lib.hid s1
  have HT0 := Lib.hid k0
  clear k1 k0 s1
  have HC := Lib.hid (fun (X Y : World) (T T' : TypeId) (c c' : Array Value) (eY : Y = W.alloc (.cells #[.string x0, .slice A1 n1 c1, .int .i64 x2, .int .i64 x3] T)) (eX : X = (Y.alloc (.cells c T')).alloc (.cells c' T')) =>
    (show RW T X W.heap.size #[.string x0, .slice A1 n1 c1, .int .i64 x2, .int .i64 x3] ∧ RW T' X (W.heap.size + 1 + 1) c' ∧ RW T' X (W.heap.size + 1) c ∧ Below W.heap.size W X ∧ X.heap.size = W.heap.size + 3 from by
      subst eX; subst eY
      refine ⟨((RW.new W _ T).alloc _).alloc _, ?_, ?_, ((below_alloc _ _).alloc (by simp) _).alloc (by simp; omega) _, by simp⟩
      · have := RW.new ((W.alloc (.cells #[.string x0, .slice A1 n1 c1, .int .i64 x2, .int .i64 x3] T)).alloc (.cells c T')) c' T'
        simpa using this
      · have := (RW.new (W.alloc (.cells #[.string x0, .slice A1 n1 c1, .int .i64 x2, .int .i64 x3] T)) c T').alloc (.cells c' T')
        simpa using this))
  show Calls Tryz.prog 58 #[.agg #[.string x0, .slice A1 n1 c1, .int .i64 x2, .int .i64 x3]] W _
  go_enter Tryz.func58, Tryz.ntmps58
  go_wp2_with (go_at_call 24; obtain ⟨g0, g1, g4, g2, g3⟩ := HC.out _ _ _ _ _ _ rfl rfl; have HQ := toStringS_any A1 n1 c1 x1 _ (HK1.out.go g2) HS1.out; refine Calls.mono HQ ?_; clear HQ; rintro e w1 ⟨rfl, h⟩; obtain ⟨hv, hb⟩ := h.out; have hd := hv.det; rw [g3] at hv hd; have HA1 := Lib.hid (g0.below hb (by omega)); have HR1 := Lib.hid (g1.below hb (by omega)); have HO1 := Lib.hid (g4.below hb (by omega)); have HB1 := Lib.hid (g2.trans (hb.mono g2.size)); have HV1_1 : Hid (Det (W.heap.size + 1 + 1 + 1) w1.heap.size w1 fun w => StI w w1.heap.size (some ⟨W.heap.size + 1 + 1 + 1, 0, none⟩) n1 x1) := hd; have HG1 : Hid (W.heap.size + 3 ≤ w1.heap.size) := (by have := hb.size; show _ ≤ _; omega); clear g0 g1 g2 g3 g4 h hv hd hb HK1; have q12 : w1.cell? ⟨W.heap.size, 2, none⟩ = some (.int .i64 x2) := HA1.out.cell 2; have q13 : w1.cell? ⟨W.heap.size, 3, none⟩ = some (.int .i64 x3) := HA1.out.cell 3; have p11 : w1.cell? ⟨W.heap.size + 1 + 1, 1, none⟩ = some (.slice none 0 0) := HR1.out.cell 1; have f11 := HR1.out.frozen 1; have p12 : w1.cell? ⟨W.heap.size + 1 + 1, 2, none⟩ = some (.int .i64 0) := HR1.out.cell 2; have f12 := HR1.out.frozen 2; have p13 : w1.cell? ⟨W.heap.size + 1 + 1, 3, none⟩ = some (.int .i64 0) := HR1.out.cell 3; have f13 := HR1.out.frozen 3; have p10 : w1.cell? ⟨W.heap.size + 1 + 1, 0, none⟩ = some (.string x0) := HR1.out.cell 0; have r0 : w1.cell? ⟨W.heap.size + 1, 0, none⟩ = some (.string ⟨#[]⟩) := HO1.out.cell 0; have z0 := HO1.out.frozen 0; have r1 : w1.cell? ⟨W.heap.size + 1, 1, none⟩ = some (.slice none 0 0) := HO1.out.cell 1; have z1 := HO1.out.frozen 1; have r2 : w1.cell? ⟨W.heap.size + 1, 2, none⟩ = some (.int .i64 0) := HO1.out.cell 2; have z2 := HO1.out.frozen 2; have r3 : w1.cell? ⟨W.heap.size + 1, 3, none⟩ = some (.int .i64 0) := HO1.out.cell 3; have z3 := HO1.out.frozen 3)
  have hs1 := HG1.out
  have hb1 : Below (W.heap.size + 1) w1 (((((((w1.setCell ⟨W.heap.size + 1 + 1, 1, none⟩ (.slice (some ⟨W.heap.size + 1 + 1 + 1, 0, none⟩) n1 n1)).setCell ⟨W.heap.size + 1 + 1, 2, none⟩ (.int .i64 x2)).setCell ⟨W.heap.size + 1 + 1, 3, none⟩ (.int .i64 x3)).setCell ⟨W.heap.size + 1, 0, none⟩ (.string x0)).setCell ⟨W.heap.size + 1, 1, none⟩ (.slice (some ⟨W.heap.size + 1 + 1 + 1, 0, none⟩) n1 n1)).setCell ⟨W.heap.size + 1, 2, none⟩ (.int .i64 x2)).setCell ⟨W.heap.size + 1, 3, none⟩ (.int .i64 x3)) := (((((((below_set w1 (p := ⟨W.heap.size + 1 + 1, 1, none⟩) (by simp) _).setCell (by simp) _).setCell (by simp) _).setCell (by simp) _).setCell (by simp) _).setCell (by simp) _).setCell (by simp) _)
  have hzz : (((((((w1.setCell ⟨W.heap.size + 1 + 1, 1, none⟩ (.slice (some ⟨W.heap.size + 1 + 1 + 1, 0, none⟩) n1 n1)).setCell ⟨W.heap.size + 1 + 1, 2, none⟩ (.int .i64 x2)).setCell ⟨W.heap.size + 1 + 1, 3, none⟩ (.int .i64 x3)).setCell ⟨W.heap.size + 1, 0, none⟩ (.string x0)).setCell ⟨W.heap.size + 1, 1, none⟩ (.slice (some ⟨W.heap.size + 1 + 1 + 1, 0, none⟩) n1 n1)).setCell ⟨W.heap.size + 1, 2, none⟩ (.int .i64 x2)).setCell ⟨W.heap.size + 1, 3, none⟩ (.int .i64 x3)).heap.size = w1.heap.size := by simp [World.setCell]
  refine bodyPost_ret (v := .agg #[.string x0, .slice (some ⟨W.heap.size + 1 + 1 + 1, 0, none⟩) n1 n1, .int .i64 x2, .int .i64 x3]) (results_cell_row Tryz.results58 _ _ (W.heap.size + 1) 100 _ (0, 0) _ rfl ((((((((((((((HO1.out).other (p := ⟨W.heap.size + 1 + 1, 1, none⟩) (by simp) (.slice (some ⟨W.heap.size + 1 + 1 + 1, 0, none⟩) n1 n1))).other (p := ⟨W.heap.size + 1 + 1, 2, none⟩) (by simp) (.int .i64 x2))).other (p := ⟨W.heap.size + 1 + 1, 3, none⟩) (by simp) (.int .i64 x3))).set_ 0 (.string x0))).set_ 1 (.slice (some ⟨W.heap.size + 1 + 1 + 1, 0, none⟩) n1 n1))).set_ 2 (.int .i64 x2))).set_ 3 (.int .i64 x3)) Tryz.underlying100 rfl (by kernel_rfl)) rfl ⟨⟨some ⟨W.heap.size + 1 + 1 + 1, 0, none⟩, n1, n1, Nat.le_refl _⟩, rfl, Lib.hid ⟨?_, HB1.out.trans (hb1.mono (by omega)), HV1_1.out.self.1.symm, _, rfl, by omega⟩⟩
  show FlV (((((((w1.setCell ⟨W.heap.size + 1 + 1, 1, none⟩ (.slice (some ⟨W.heap.size + 1 + 1 + 1, 0, none⟩) n1 n1)).setCell ⟨W.heap.size + 1 + 1, 2, none⟩ (.int .i64 x2)).setCell ⟨W.heap.size + 1 + 1, 3, none⟩ (.int .i64 x3)).setCell ⟨W.heap.size + 1, 0, none⟩ (.string x0)).setCell ⟨W.heap.size + 1, 1, none⟩ (.slice (some ⟨W.heap.size + 1 + 1 + 1, 0, none⟩) n1 n1)).setCell ⟨W.heap.size + 1, 2, none⟩ (.int .i64 x2)).setCell ⟨W.heap.size + 1, 3, none⟩ (.int .i64 x3)) (((((((w1.setCell ⟨W.heap.size + 1 + 1, 1, none⟩ (.slice (some ⟨W.heap.size + 1 + 1 + 1, 0, none⟩) n1 n1)).setCell ⟨W.heap.size + 1 + 1, 2, none⟩ (.int .i64 x2)).setCell ⟨W.heap.size + 1 + 1, 3, none⟩ (.int .i64 x3)).setCell ⟨W.heap.size + 1, 0, none⟩ (.string x0)).setCell ⟨W.heap.size + 1, 1, none⟩ (.slice (some ⟨W.heap.size + 1 + 1 + 1, 0, none⟩) n1 n1)).setCell ⟨W.heap.size + 1, 2, none⟩ (.int .i64 x2)).setCell ⟨W.heap.size + 1, 3, none⟩ (.int .i64 x3)).heap.size ⟨x0, x1, x2, x3⟩ ⟨some ⟨W.heap.size + 1 + 1 + 1, 0, none⟩, n1, n1, Nat.le_refl _⟩
  rw [hzz]
  exact ⟨((((((((((((((HV1_1.out).set (p := ⟨W.heap.size + 1 + 1, 1, none⟩) (by first | (dsimp only; omega) | omega) _)).set (p := ⟨W.heap.size + 1 + 1, 2, none⟩) (by first | (dsimp only; omega) | omega) _)).set (p := ⟨W.heap.size + 1 + 1, 3, none⟩) (by first | (dsimp only; omega) | omega) _)).set (p := ⟨W.heap.size + 1, 0, none⟩) (by first | (dsimp only; omega) | omega) _)).set (p := ⟨W.heap.size + 1, 1, none⟩) (by first | (dsimp only; omega) | omega) _)).set (p := ⟨W.heap.size + 1, 2, none⟩) (by first | (dsimp only; omega) | omega) _)).set (p := ⟨W.heap.size + 1, 3, none⟩) (by first | (dsimp only; omega) | omega) _).self, HT0.out⟩

/-- The elements of block g ahead of j are filled; their lists lie elsewhere. -/
def FilledFl (w : World) (g j n : Nat) (xs : List Fl) : Prop :=
  ∃ cs, RW 100 w g cs ∧ n * 4 ≤ cs.size ∧ ∀ (i : Nat) (x : Fl), i < j → xs[i]? = some x → ∃ l b1, l.A1 = some ⟨b1, 0, none⟩ ∧ g < b1 ∧ FlV w w.heap.size x l ∧ ∀ (q : Nat) (v : Value), (x.vs l)[q]? = some v → cs[i * 4 + q]? = some v
theorem FilledFl.below {w w' : World} {g j n : Nat} {xs : List Fl} (h : FilledFl w g j n xs) (hb : Below w.heap.size w w') : FilledFl w' g j n xs := by
  obtain ⟨cs, hr, hn, hm⟩ := h
  refine ⟨cs, hr.below hb hr.lt, hn, fun i x hi hx => ?_⟩
  obtain ⟨l, b1, h1, u1, h5, h6⟩ := hm i x hi hx
  exact ⟨l, b1, h1, u1, (h5.below hb).more hb.size, h6⟩
theorem FlV.others {w : World} {B g o : Nat} {x : Fl} {l : FlLay} {b1 : Nat} (h : FlV w B x l) (h1 : l.A1 = some ⟨b1, 0, none⟩) (u1 : b1 ≠ g) (vs : List Value) : FlV (w.setCells g o vs) B x l := by
  obtain ⟨a0, a1⟩ := h
  try unfold FlV at a0 a1 ⊢
  rw [h1] at a0
  refine ⟨?_, a1⟩
  · rw [h1]; exact a0.others u1
theorem size_setsFl (vs : List Value) (w : World) (g k : Nat) : (w.setCells g k vs).heap.size = w.heap.size := by
  induction vs generalizing w k with
  | nil => rfl
  | cons v r ih => exact (ih _ _).trans (size_set _ _ _)
theorem FilledFl.store {w : World} {g j n : Nat} {xs : List Fl} {x : Fl} {l : FlLay} {b1 : Nat} (h : FilledFl w g j n xs) (hx : xs[j]? = some x) (hj : j < n) (h1 : l.A1 = some ⟨b1, 0, none⟩) (u1 : g < b1) (h5 : FlV w w.heap.size x l) :
    FilledFl (w.setCells g (j * 4) (x.vs l)) g (j + 1) n xs := by
  obtain ⟨cs, hr, hn, hm⟩ := h
  have hs : (w.setCells g (j * 4) (x.vs l)).heap.size = w.heap.size := size_setsFl _ _ _ _
  have hlK : (x.vs l).length = 4 := rfl
  refine ⟨_, hr.cells, by rw [putL_size]; exact hn, fun i y hi hy => ?_⟩
  by_cases e : i = j
  · subst e
    rw [hx, Option.some.injEq] at hy
    subst hy
    refine ⟨l, b1, h1, u1, ?_, fun q v hq => putL_new _ _ _ _ _ (by rw [hlK]; omega) hq⟩
    rw [hs]
    exact h5.others h1 (by omega) _
  · obtain ⟨l', b1', j1, v1, k5, k6⟩ := hm i y (by omega) hy
    refine ⟨l', b1', j1, v1, ?_, fun q v hq => ?_⟩
    · rw [hs]
      exact k5.others j1 (by omega) _
    · have hqK : q < 4 := (List.getElem?_eq_some_iff.1 hq).1
      rw [putL_old _ _ _ _ (by omega)]
      exact k6 q v hq
theorem FilledFl.all {w : World} {g n : Nat} {xs : List Fl} (h : FilledFl w g n n xs) (hl : xs.length = n) (hn : n ≤ maxLen) : FlI w w.heap.size (some ⟨g, 0, none⟩) n xs := by
  obtain ⟨cs, hr, hc, hm⟩ := h
  refine ⟨hl, hn, fun _ => ⟨g, 0, rfl, hr.lt, fun j x hx => ?_⟩⟩
  obtain ⟨l, _, _, _, h5, h6⟩ := hm j x (by rw [← hl]; exact (List.getElem?_eq_some_iff.1 hx).1) hx
  rw [Nat.zero_add]
  have k : ∀ q v, (x.vs l)[q]? = some v → w.cell? ⟨g, j * 4 + q, none⟩ = some v := fun q v hq => (hr.cell _).trans (h6 q v hq)
  exact ⟨l, ⟨k 0 _ rfl, k 1 _ rfl, k 2 _ rfl, k 3 _ rfl⟩, h5⟩
theorem FilledFl.det {w : World} {g n : Nat} {xs : List Fl} (h : FilledFl w g n n xs) (hl : xs.length = n) (hn : n ≤ maxLen) : Det g w.heap.size w fun w' => FlI w' w.heap.size (some ⟨g, 0, none⟩) n xs := by
  intro w' hk
  obtain ⟨cs, hr, hc, hm⟩ := h
  have hr' : RW 100 w' g cs := (hk g (Nat.le_refl _) hr.lt).trans hr
  refine ⟨hl, hn, fun _ => ⟨g, 0, rfl, hr.lt, fun j x hx => ?_⟩⟩
  obtain ⟨l, b1, h1, u1, h5, h6⟩ := hm j x (by rw [← hl]; exact (List.getElem?_eq_some_iff.1 hx).1) hx
  rw [Nat.zero_add]
  have k : ∀ q v, (x.vs l)[q]? = some v → w'.cell? ⟨g, j * 4 + q, none⟩ = some v := fun q v hq => (hr'.cell _).trans (h6 q v hq)
  refine ⟨l, ⟨k 0 _ rfl, k 1 _ rfl, k 2 _ rfl, k 3 _ rfl⟩, ?_⟩
  obtain ⟨a0, a1⟩ := h5
  try unfold FlV at a0 a1 ⊢
  refine ⟨?_, a1⟩
  · rw [h1] at a0 ⊢; exact a0.det w' fun g' h1 h2 => hk g' (by omega) h2
theorem infoFl : (Tryz.prog.info? 100).map (fun i => (i.zero, i.size, i.bytes)) = some (some (Value.agg #[.string ⟨#[]⟩, .slice none 0 0, .int .i64 0, .int .i64 0]), 4, 56) := by kernel_rfl
theorem ownFl {w : World} {B g n : Nat} {xs : List Value} (h : w.ownsRow B 100 4 (.slice (some ⟨g, 0, none⟩) n n) n xs) : ∃ cs, RW 100 w g cs ∧ n * 4 ≤ cs.size := by
  rcases h.2 with ⟨h', _⟩ | ⟨g', cap', cur, h', _, hg, _, _, hsz, _⟩
  · simp at h'
  · simp only [Value.slice.injEq, Option.some.injEq, Addr.mk.injEq, and_true, true_and] at h'
    obtain ⟨rfl, rfl⟩ := h'
    exact ⟨cur, hg, by omega⟩
/-- What toFileS answers. -/
def ToFlS (xs : List Fl) (n : Nat) (W : World) (e : Ending) (w' : World) : Prop :=
  e = .returned (.slice (some ⟨W.heap.size, 0, none⟩) n n) ∧ Hid (FlI w' w'.heap.size (some ⟨W.heap.size, 0, none⟩) n xs ∧ Below W.heap.size W w' ∧ Det W.heap.size w'.heap.size w' fun w => FlI w w'.heap.size (some ⟨W.heap.size, 0, none⟩) n xs)

set_option maxHeartbeats 2000000 in
set_option maxRecDepth 100000 in
theorem toFileS_any (A : Option Addr) (n c : Nat) (xs : List Fl) (W : World) (hr : FlI W W.heap.size A n xs) (hs : ∀ (j : Nat) (x : Fl), xs[j]? = some x → FlSmall x) (hn : n ≤ 1048576) :
    Calls Tryz.prog 25 #[.slice A n c] W (ToFlS xs n W) := by
  obtain ⟨i0, hi, hz0, hz1, hz2⟩ := info_parts infoFl
  have HR := Lib.hid hr
  have HS := Lib.hid hs
  have h1 : (n : Int) ≤ 1048576 := by omega
  clear hr hs
  go_enter Tryz.func25, Tryz.ntmps25
  go_wp2_with (at_make; refine wpList_make_full _ rfl _ _ 30 rfl W.heap.size 100 i0 (.agg #[.string ⟨#[]⟩, .slice none 0 0, .int .i64 0, .int .i64 0]) 4 Tryz.underlying30 hi hz0 hz1 .i64 .i64 n n n rfl rfl rfl rfl (by rw [hz2]; omega) (by unfold maxLen; omega) (Nat.le_refl _) ?_)
  intro w1 hown hgrow
  have HB1 : Hid (Below W.heap.size W w1) := below_grown_none hgrow
  obtain ⟨cs, hcs, hcn⟩ := ownFl hown
  have HG : Hid (W.heap.size < w1.heap.size) := hcs.lt
  have HM : Hid (FilledFl w1 W.heap.size 0 n xs) := ⟨cs, hcs, hcn, fun i x hi => absurd hi (by omega)⟩
  clear hown hgrow hcs hcn hi hz0 hz1 hz2
  go_wp2_with fail
  go_loopw [4] (fun i wr => ∃ j : Nat, j ≤ n ∧ i = .int .i64 j ∧ Hid (Below W.heap.size W wr) ∧ Hid (W.heap.size < wr.heap.size) ∧ Hid (FilledFl wr W.heap.size j n xs)) (fun i _ => n - (intOf i).toNat)
  case atStart => exact ⟨0, Nat.zero_le _, rfl, HB1, HG, HM⟩
  case round =>
    obtain ⟨j, hj, rfl, HW, HZ, HJ⟩ := hrel
    by_cases hlt : j < n
    · obtain ⟨b, off, x, l, rfl, hg, hx, ⟨q0, q1, q2, q3⟩, hov⟩ := (HR.out.below HW.out).at_ hlt
      have HX := Lib.hid hx
      have HO := Lib.hid (hov.more HW.out.size)
      have HLT := Lib.hid hlt
      have HS1 := Lib.hid (HS.out j x hx)
      clear hx hov hg
      have b0 : (0 : Int) ≤ (j : Int) := by omega
      have b1 : (j : Int) < (n : Int) := by omega
      go_wp2_with (first | (go_at_call 58; have HQ := toFile_any x l _ HO.out HS1.out; refine Calls.mono HQ ?_; clear HQ; rintro e w2 ⟨⟨A1, n1, c1, h1⟩, rfl, h⟩; obtain ⟨g1, hb, en1, b1, e1, g1g⟩ := h.out; clear en1; have HF := Lib.hid (HJ.out.below hb); have hlt2 := HLT.out; have hzz := HZ.out; have HF2 : Hid (FilledFl (w2.setCells W.heap.size (j * 4) [.string x.name_, .slice A1 n1 c1, .int .i64 x.mode_, .int .i64 x.at_]) W.heap.size (j + 1) n xs) := (by have k := HF.out.store HX.out hlt2 e1 (Nat.lt_of_lt_of_le hzz g1g) g1; unfold Fl.vs at k; exact k); have HT : Hid (w2.there W.heap.size (j * 4) 4) := (by obtain ⟨cs, hr, hc, _⟩ := HF.out; exact hr.there (by omega)); have HW2 : Hid (Below W.heap.size W (w2.setCells W.heap.size (j * 4) [.string x.name_, .slice A1 n1 c1, .int .i64 x.mode_, .int .i64 x.at_])) := ((HW.out.trans (hb.mono HW.out.size)).trans (below_cells (Nat.le_refl _) _ _ _)); have HZ2 : Hid (W.heap.size < (w2.setCells W.heap.size (j * 4) [.string x.name_, .slice A1 n1 c1, .int .i64 x.mode_, .int .i64 x.at_]).heap.size) := (by obtain ⟨_, hr, _⟩ := HF2.out; exact hr.lt); have tk1 : True := trivial; clear h g1 hb e1 g1g hlt2 hzz q0 q1 q2 q3) | (clear tk1; refine wpList_store_mid rfl 100 (.tmp 21) (.tmp 20) rfl W.heap.size (j * 4) _ rfl rfl HT.out (by kernel_rfl) (by kernel_rfl) ?_; go_frame; clear HT; generalize w2.setCells W.heap.size (j * 4) [.string x.name_, .slice A1 n1 c1, .int .i64 x.mode_, .int .i64 x.at_] = w3 at HF2 HW2 HZ2 ⊢))
      go_roundw
      case rel => exact ⟨j + 1, by omega, by go_num, HW2, HZ2, HF2⟩
      case measure => simp [intOf]; omega
    · have HN : Hid (j = n) := by show _ = _; omega
      go_wp2_with fail
      go_ret
      have h := HJ.out
      rw [HN.out] at h
      exact ⟨rfl, Lib.hid ⟨h.all HR.out.1 HR.out.2.1, HW.out, h.det HR.out.1 HR.out.2.1⟩⟩
end Go.Proofs.YtfcpdjfckeoniaaGreatDoor

namespace Go.Proofs.YtfcpdjfckeoniaaGreatDoor
open Go Go.RowKit

set_option maxHeartbeats 1000000 in
set_option maxRecDepth 100000 in
theorem eqFile_same (x : Fl) (l l' : FlLay) (W : World) (ho : FlV W W.heap.size x l) (ho' : FlV W W.heap.size x l') :
    Calls Tryz.prog 68 #[x.ag l, x.ag l'] W fun e w' => e = .returned (.bool true) ∧ Below W.heap.size W w' := by
  obtain ⟨x0, x1, x2, x3⟩ := x
  obtain ⟨A1, n1, c1, h1⟩ := l
  obtain ⟨A1', n1', c1', h1'⟩ := l'
  obtain ⟨k1, k0⟩ := ho
  obtain ⟨j1, j0⟩ := ho'
  try unfold FlV at k1 j1 k0 j0
  dsimp only at k1 j1 k0 j0
  obtain rfl : n1 = n1' := k1.1.symm.trans j1.1
  have HK1 := Lib.hid k1
  have HJ1 := Lib.hid j1
  clear k1 j1 k0 j0
  have HC := Lib.hid (two_new W 100 #[.string x0, .slice A1 n1 c1, .int .i64 x2, .int .i64 x3] #[.string x0, .slice A1' n1 c1', .int .i64 x2, .int .i64 x3])
  show Calls Tryz.prog 68 #[.agg #[.string x0, .slice A1 n1 c1, .int .i64 x2, .int .i64 x3], .agg #[.string x0, .slice A1' n1 c1', .int .i64 x2, .int .i64 x3]] W _
  go_enter Tryz.func68, Tryz.ntmps68
  go_wp2_with (go_at_call 29; obtain ⟨g0, g1, g2, g3⟩ := HC.out _ rfl; have HQ := eqStringS_same A1 A1' n1 c1 c1' x1 _ (HK1.out.go g2) (HJ1.out.go g2); refine Calls.mono HQ ?_; clear HQ; rintro e w1 ⟨rfl, hb⟩; have HA1 := Lib.hid (g0.below hb (by omega)); have HD1 := Lib.hid (g1.below hb (by omega)); have HB1 := Lib.hid (g2.trans (hb.mono g2.size)); have HG1 : Hid (W.heap.size + 2 ≤ w1.heap.size) := (by have := hb.size; show _ ≤ _; omega); have q12 : w1.cell? ⟨W.heap.size, 2, none⟩ = some (.int .i64 x2) := HA1.out.cell 2; have p12 : w1.cell? ⟨W.heap.size + 1, 2, none⟩ = some (.int .i64 x2) := HD1.out.cell 2; have q13 : w1.cell? ⟨W.heap.size, 3, none⟩ = some (.int .i64 x3) := HA1.out.cell 3; have p13 : w1.cell? ⟨W.heap.size + 1, 3, none⟩ = some (.int .i64 x3) := HD1.out.cell 3; clear g0 g1 g2 g3 hb HK1)
  all_goals go_ret
  all_goals exact ⟨rfl, HB1.out⟩

/-- Two in two blocks, and their lists. -/
def TwoFl (wr : World) (b b' p p' : Nat) (x y : Fl) (l l' : FlLay) (w : World) : Prop := FlAt w b p x l ∧ FlAt w b' p' y l' ∧ FlV w w.heap.size x l ∧ FlV w w.heap.size y l' ∧ Below wr.heap.size wr w ∧ b < w.heap.size ∧ b' < w.heap.size
theorem TwoFl.grow {wr w w' : World} {b b' p p' : Nat} {x y : Fl} {l l' : FlLay} (h : TwoFl wr b b' p p' x y l l' w) (hb : Below w.heap.size w w') : TwoFl wr b b' p p' x y l l' w' :=
  ⟨h.1.below hb h.2.2.2.2.2.1, h.2.1.below hb h.2.2.2.2.2.2, (h.2.2.1.below hb).more hb.size, (h.2.2.2.1.below hb).more hb.size, h.2.2.2.2.1.trans (hb.mono h.2.2.2.2.1.size), Nat.lt_of_lt_of_le h.2.2.2.2.2.1 hb.size, Nat.lt_of_lt_of_le h.2.2.2.2.2.2 hb.size⟩
/-- .. cell by cell, as the walk of a region asks it. -/
abbrev FlatFl (wr : World) (b b' p p' : Nat) (x y : Fl) (l l' : FlLay) (w : World) : Prop := (w.cell? ⟨b, p, none⟩ = some (.string x.name_) ∧ w.cell? ⟨b, p + 1, none⟩ = some (.slice l.A1 l.n1 l.c1) ∧ w.cell? ⟨b, p + 2, none⟩ = some (.int .i64 x.mode_) ∧ w.cell? ⟨b, p + 3, none⟩ = some (.int .i64 x.at_)) ∧ (w.cell? ⟨b', p', none⟩ = some (.string y.name_) ∧ w.cell? ⟨b', p' + 1, none⟩ = some (.slice l'.A1 l'.n1 l'.c1) ∧ w.cell? ⟨b', p' + 2, none⟩ = some (.int .i64 y.mode_) ∧ w.cell? ⟨b', p' + 3, none⟩ = some (.int .i64 y.at_)) ∧ TwoFl wr b b' p p' x y l l' w
theorem TwoFl.flat {wr w : World} {b b' p p' : Nat} {x y : Fl} {l l' : FlLay} (h : TwoFl wr b b' p p' x y l l' w) : FlatFl wr b b' p p' x y l l' w := ⟨h.1, h.2.1, h⟩
theorem TwoFl.drew {wr : World} {b b' p p' : Nat} {x y : Fl} {l l' : FlLay} (h : TwoFl wr b b' p p' x y l l' wr) : TwoFl wr b b' p p' x y l l' wr.drew := h.grow (Below.refl _ _).drew

set_option maxHeartbeats 1000000 in
set_option maxRecDepth 100000 in
theorem eqFileS_same (A A' : Option Addr) (n c c' : Nat) (xs : List Fl) (W : World) (ha : FlI W W.heap.size A n xs) (hb : FlI W W.heap.size A' n xs) :
    Calls Tryz.prog 30 #[.slice A n c, .slice A' n c'] W fun e w' => e = .returned (.bool true) ∧ Below W.heap.size W w' := by
  have HA := Lib.hid ha
  have HB := Lib.hid hb
  have hn := ha.2.1
  unfold maxLen at hn
  clear ha hb
  go_enter Tryz.func30, Tryz.ntmps30
  go_wp2
  go_loopw [5] (fun i wr => ∃ k : Nat, k ≤ n ∧ i = .int .i64 k ∧ Hid (Below W.heap.size W wr)) (fun i _ => n - (intOf i).toNat)
  case atStart => exact ⟨0, Nat.zero_le _, rfl, Below.refl _ _⟩
  case round =>
    obtain ⟨k, hk, rfl, HW⟩ := hrel
    by_cases hlt : k < n
    · obtain ⟨b, off, x, l, rfl, hg, hx, h1, hv1⟩ := (HA.out.go HW.out).at_ hlt
      obtain ⟨b', off', x', l', rfl, hg', hx', h2, hv2⟩ := (HB.out.go HW.out).at_ hlt
      obtain rfl : x = x' := Option.some.inj (hx.symm.trans hx')
      have H0 := Lib.hid (show TwoFl wr b b' (off + k * 4) (off' + k * 4) x x l l' wr from ⟨h1, h2, hv1, hv2, Below.refl _ _, hg, hg'⟩)
      have b0 : (0 : Int) ≤ (k : Int) := by omega
      have b1 : (k : Int) < (n : Int) := by omega
      clear h1 h2 hv1 hv2 hx hx' hg hg'
      go_wp2_with fail
      go_region_held3 (fun w' => FlatFl wr b b' (off + k * 4) (off' + k * 4) x x l l' w')
        (first | exact H0.out.drew.flat | exact (TwoFl.grow H0.out.drew hb).flat | go_keep)
        ((go_at_call 68; have HS := H0.out.drew; have HQ := eqFile_same x l l' _ HS.2.2.1 HS.2.2.2.1; refine Calls.mono HQ ?_; clear HQ; rintro e w1 ⟨rfl, hb⟩))
      go_wp2_with fail
      go_split_ands
      have h2 : TwoFl wr b b' (off + k * 4) (off' + k * 4) x x l l' _ := ‹_›
      go_roundw
      case rel => exact ⟨k + 1, by omega, by go_num, HW.out.trans (h2.2.2.2.2.1.mono HW.out.size)⟩
      case measure => simp [intOf]; omega
    · go_wp2_with fail
      go_ret
      exact ⟨rfl, HW.out⟩
end Go.Proofs.YtfcpdjfckeoniaaGreatDoor

namespace Go.Proofs.YtfcpdjfckeoniaaGreatDoor
open Go Go.RowKit

structure Cn where
  input_ : List St
  at_ : Int
  output_ : List St
  files_ : List Fl
  trace_ : List St
/-- Where its lists lie. -/
structure CnLay where
  A0 : Option Addr
  n0 : Nat
  c0 : Nat
  h0 : n0 ≤ c0
  A2 : Option Addr
  n2 : Nat
  c2 : Nat
  h2 : n2 ≤ c2
  A3 : Option Addr
  n3 : Nat
  c3 : Nat
  h3 : n3 ≤ c3
  A4 : Option Addr
  n4 : Nat
  c4 : Nat
  h4 : n4 ≤ c4
/-- As one value. -/
abbrev Cn.ag (x : Cn) (l : CnLay) : Value := .agg #[.slice l.A0 l.n0 l.c0, .int .i64 x.at_, .slice l.A2 l.n2 l.c2, .slice l.A3 l.n3 l.c3, .slice l.A4 l.n4 l.c4]
def Cn.vs (x : Cn) (l : CnLay) : List Value := [.slice l.A0 l.n0 l.c0, .int .i64 x.at_, .slice l.A2 l.n2 l.c2, .slice l.A3 l.n3 l.c3, .slice l.A4 l.n4 l.c4]
/-- Its lists lie below B. -/
def CnV (w : World) (B : Nat) (x : Cn) (l : CnLay) : Prop := StI w B l.A0 l.n0 x.input_ ∧ StI w B l.A2 l.n2 x.output_ ∧ FlI w B l.A3 l.n3 x.files_ ∧ StI w B l.A4 l.n4 x.trace_
theorem CnV.below {w w' : World} {B : Nat} {x : Cn} {l : CnLay} (h : CnV w B x l) (hb : Below B w w') : CnV w' B x l := by
  obtain ⟨h0, h1, h2, h3⟩ := h
  exact ⟨h0.below hb, h1.below hb, h2.below hb, h3.below hb⟩
theorem CnV.more {w : World} {B B' : Nat} {x : Cn} {l : CnLay} (h : CnV w B x l) (hB : B ≤ B') : CnV w B' x l := by
  obtain ⟨h0, h1, h2, h3⟩ := h
  exact ⟨h0.more hB, h1.more hB, h2.more hB, h3.more hB⟩
theorem CnV.go {W w : World} {x : Cn} {l : CnLay} (h : CnV W W.heap.size x l) (hb : Below W.heap.size W w) : CnV w w.heap.size x l := (h.below hb).more hb.size
theorem CnV.alloc {W : World} {x : Cn} {l : CnLay} (h : CnV W W.heap.size x l) (o : Obj) : CnV (W.alloc o) (W.alloc o).heap.size x l := h.go (below_alloc W o)
/-- Its cells from p on of block b. -/
def CnAt (w : World) (b p : Nat) (x : Cn) (l : CnLay) : Prop := w.cell? ⟨b, p, none⟩ = some (.slice l.A0 l.n0 l.c0) ∧ w.cell? ⟨b, p + 1, none⟩ = some (.int .i64 x.at_) ∧ w.cell? ⟨b, p + 2, none⟩ = some (.slice l.A2 l.n2 l.c2) ∧ w.cell? ⟨b, p + 3, none⟩ = some (.slice l.A3 l.n3 l.c3) ∧ w.cell? ⟨b, p + 4, none⟩ = some (.slice l.A4 l.n4 l.c4)
theorem CnAt.below {w w' : World} {b p B : Nat} {x : Cn} {l : CnLay} (h : CnAt w b p x l) (hb : Below B w w') (hg : b < B) : CnAt w' b p x l := by
  obtain ⟨h0, h1, h2, h3, h4⟩ := h
  exact ⟨(hb.cell (p := ⟨b, p, none⟩) hg).trans h0, (hb.cell (p := ⟨b, p + 1, none⟩) hg).trans h1, (hb.cell (p := ⟨b, p + 2, none⟩) hg).trans h2, (hb.cell (p := ⟨b, p + 3, none⟩) hg).trans h3, (hb.cell (p := ⟨b, p + 4, none⟩) hg).trans h4⟩
theorem CnAt.range {w : World} {b p : Nat} {x : Cn} {l : CnLay} (h : CnAt w b p x l) : w.rangeAt b p (x.vs l) := by
  obtain ⟨h0, h1, h2, h3, h4⟩ := h
  intro j v hj
  match j, hj with
  | 0, hj => cases hj; exact h0
  | 1, hj => cases hj; exact h1
  | 2, hj => cases hj; exact h2
  | 3, hj => cases hj; exact h3
  | 4, hj => cases hj; exact h4
  | j + 5, hj => simp [Cn.vs] at hj
/-- A slice of them that lies below B, with their lists. -/
def CnI (w : World) (B : Nat) (A : Option Addr) (n : Nat) (xs : List Cn) : Prop :=
  xs.length = n ∧ n ≤ maxLen ∧ (0 < n → ∃ b off, A = some ⟨b, off, none⟩ ∧ b < B ∧ ∀ (j : Nat) (x : Cn), xs[j]? = some x → ∃ l, CnAt w b (off + j * 5) x l ∧ CnV w B x l)
theorem CnI.below {w w' : World} {B n : Nat} {A : Option Addr} {xs : List Cn} (h : CnI w B A n xs) (hb : Below B w w') : CnI w' B A n xs :=
  ⟨h.1, h.2.1, fun hn => by
    obtain ⟨b, off, e, hg, hc⟩ := h.2.2 hn
    refine ⟨b, off, e, hg, fun j x hx => ?_⟩
    obtain ⟨l, h1, h2⟩ := hc j x hx
    exact ⟨l, h1.below hb hg, h2.below hb⟩⟩
theorem CnI.more {w : World} {B B' n : Nat} {A : Option Addr} {xs : List Cn} (h : CnI w B A n xs) (hB : B ≤ B') : CnI w B' A n xs :=
  ⟨h.1, h.2.1, fun hn => by
    obtain ⟨b, off, e, hg, hc⟩ := h.2.2 hn
    refine ⟨b, off, e, by omega, fun j x hx => ?_⟩
    obtain ⟨l, h1, h2⟩ := hc j x hx
    exact ⟨l, h1, h2.more hB⟩⟩
theorem CnI.at_ {w : World} {B n k : Nat} {A : Option Addr} {xs : List Cn} (h : CnI w B A n xs) (hk : k < n) : ∃ b off x l, A = some ⟨b, off, none⟩ ∧ b < B ∧ xs[k]? = some x ∧ CnAt w b (off + k * 5) x l ∧ CnV w B x l := by
  obtain ⟨b, off, e, hg, hc⟩ := h.2.2 (by omega)
  have hl : k < xs.length := by rw [h.1]; exact hk
  obtain ⟨l, h1, h2⟩ := hc k _ (List.getElem?_eq_getElem hl)
  exact ⟨b, off, xs[k], l, e, hg, List.getElem?_eq_getElem hl, h1, h2⟩
theorem CnI.go {W w : World} {A : Option Addr} {n : Nat} {xs : List Cn} (h : CnI W W.heap.size A n xs) (hb : Below W.heap.size W w) : CnI w w.heap.size A n xs := (h.below hb).more hb.size
theorem CnI.alloc {W : World} {A : Option Addr} {n : Nat} {xs : List Cn} (h : CnI W W.heap.size A n xs) (o : Obj) : CnI (W.alloc o) (W.alloc o).heap.size A n xs := h.go (below_alloc W o)

section
variable {H : Type} {enc : TypeId × Value → H} {W : World} {base : Nat} {held : Bool}
set_option maxRecDepth 100000 in
/-- Its cells, each with its own reading. -/
theorem open_CnN {fuel : Nat} {cs : List Value} {x : DataW H × List MemPlace} (h : DataW.trod enc Tryz.prog W base (fun _ => true) held fuel 25 cs = some x) :
    ∃ x l, cs = Cn.vs x l ∧ CnV W W.heap.size x l := by
  obtain ⟨ys, m, hm, _, hlen, _, hf⟩ := DataW.trod_struct Tryz.underlying25 h
  have hlen' : cs.length = 5 := hlen.trans (by kernel_rfl)
  match cs, hlen' with
  | [c0, c1, c2, c3, c4], _ =>
    have hys : ∀ i, i < 5 → ∃ y, ys[i]? = some y := by
      intro i hi
      have : ys.length = 5 := by assumption
      exact ⟨_, List.getElem?_eq_getElem (by omega)⟩
    have f0 : DataW.trod enc Tryz.prog W base (fun _ => true) held m 22 [c0] = ys[0]? := field_at (i := 0) (o := 0) (k := 1) (T := 22) hf (by kernel_rfl) (by kernel_rfl)
    obtain ⟨y0, g0⟩ := hys 0 (by decide)
    rw [g0] at f0
    have f1 : DataW.trod enc Tryz.prog W base (fun _ => true) held m 2 [c1] = ys[1]? := field_at (i := 1) (o := 1) (k := 1) (T := 2) hf (by kernel_rfl) (by kernel_rfl)
    obtain ⟨y1, g1⟩ := hys 1 (by decide)
    rw [g1] at f1
    have f2 : DataW.trod enc Tryz.prog W base (fun _ => true) held m 22 [c2] = ys[2]? := field_at (i := 2) (o := 2) (k := 1) (T := 22) hf (by kernel_rfl) (by kernel_rfl)
    obtain ⟨y2, g2⟩ := hys 2 (by decide)
    rw [g2] at f2
    have f3 : DataW.trod enc Tryz.prog W base (fun _ => true) held m 23 [c3] = ys[3]? := field_at (i := 3) (o := 3) (k := 1) (T := 23) hf (by kernel_rfl) (by kernel_rfl)
    obtain ⟨y3, g3⟩ := hys 3 (by decide)
    rw [g3] at f3
    have f4 : DataW.trod enc Tryz.prog W base (fun _ => true) held m 22 [c4] = ys[4]? := field_at (i := 4) (o := 4) (k := 1) (T := 22) hf (by kernel_rfl) (by kernel_rfl)
    obtain ⟨y4, g4⟩ := hys 4 (by decide)
    rw [g4] at f4
    obtain ⟨A0, n0, q0, hc0, e0⟩ := open_slice1 Tryz.underlying22 f0
    rw [e0] at f0
    obtain ⟨z0, hz0⟩ := open_StF f0
    obtain ⟨z1, e1, _, _⟩ := DataW.trod_int Tryz.underlying2 f1
    obtain ⟨A2, n2, q2, hc2, e2⟩ := open_slice1 Tryz.underlying22 f2
    rw [e2] at f2
    obtain ⟨z2, hz2⟩ := open_StF f2
    obtain ⟨A3, n3, q3, hc3, e3⟩ := open_slice1 Tryz.underlying23 f3
    rw [e3] at f3
    obtain ⟨z3, hz3⟩ := open_FlF f3
    obtain ⟨A4, n4, q4, hc4, e4⟩ := open_slice1 Tryz.underlying22 f4
    rw [e4] at f4
    obtain ⟨z4, hz4⟩ := open_StF f4
    simp only [List.cons.injEq, and_true] at e0 e1 e2 e3 e4
    subst e0 e1 e2 e3 e4
    exact ⟨⟨z0, z1, z2, z3, z4⟩, ⟨A0, n0, q0, hc0, A2, n2, q2, hc2, A3, n3, q3, hc3, A4, n4, q4, hc4⟩, rfl, hz0, hz2, hz3, hz4⟩
end
set_option maxRecDepth 100000 in
/-- An argument. -/
theorem open_Cn {H : Type} {enc : TypeId × Value → H} {W : World} {v : Value} {d : DataW H} {p : List MemPlace} {r : Reach} {b0 : Nat} (hv : Value.okWide Tryz.prog W r b0 25 v) (h : DataW.Trod enc Tryz.prog W 0 (fun _ => true) true 25 v d p) :
    ∃ x l, v = Cn.ag x l ∧ CnV W W.heap.size x l := by
  obtain ⟨cs, rfl, hsz⟩ := Go.WideShapes.okWide_struct Tryz.underlying25 hv
  obtain ⟨fuel, hf⟩ := h
  obtain ⟨x, l, e, ho⟩ := open_CnN hf
  refine ⟨x, l, ?_, ho⟩
  have : cs.toList = Cn.vs x l := e
  rw [show cs = (Cn.vs x l).toArray from by rw [← this]]
  rfl
/-- What szConsole takes of the bound. -/
def szCn1 (x : Cn) : Nat := szSt x.input_ + szSt x.output_ + szFl x.files_ + szSt x.trace_

set_option maxHeartbeats 2000000 in
set_option maxRecDepth 100000 in
theorem szConsole_any (x : Cn) (l : CnLay) (L : Int) (W : World) (ho : CnV W W.heap.size x l) (hLL : 0 ≤ L) (hL : L ≤ 1048576) :
    Calls Tryz.prog 5 #[x.ag l, .int .i64 L] W (SzL (szCn1 x) L W) := by
  obtain ⟨s, hs⟩ : ∃ s, szCn1 x = s := ⟨_, rfl⟩
  rw [hs]
  unfold szCn1 at hs
  obtain ⟨x0, x1, x2, x3, x4⟩ := x
  obtain ⟨A0, n0, c0, h0, A2, n2, c2, h2, A3, n3, c3, h3, A4, n4, c4, h4⟩ := l
  obtain ⟨k0, k2, k3, k4⟩ := ho
  try unfold CnV at k0 k2 k3 k4
  dsimp only at hs k0 k2 k3 k4
  have HS := Lib.hid hs
  have HL0 := Lib.hid hLL
  have HL1 := Lib.hid hL
  have HK0 := Lib.hid k0
  have HK2 := Lib.hid k2
  have HK3 := Lib.hid k3
  have HK4 := Lib.hid k4
  have HC := Lib.hid (fun X (e : X = W.alloc (.cells #[.slice A0 n0 c0, .int .i64 x1, .slice A2 n2 c2, .slice A3 n3 c3, .slice A4 n4 c4] 25)) => (show RW 25 X W.heap.size #[.slice A0 n0 c0, .int .i64 x1, .slice A2 n2 c2, .slice A3 n3 c3, .slice A4 n4 c4] ∧ Below W.heap.size W X ∧ W.heap.size < X.heap.size from by rw [e]; exact ⟨RW.new _ _ _, below_alloc _ _, lt_alloc _ _⟩))
  clear hs k0 k2 k3 k4
  show Calls Tryz.prog 5 #[.agg #[.slice A0 n0 c0, .int .i64 x1, .slice A2 n2 c2, .slice A3 n3 c3, .slice A4 n4 c4], .int .i64 L] W _
  by_cases cc0 : (szSt x0 : Int) ≤ L
  · have C0 := Lib.hid cc0
    clear cc0
    by_cases cc1 : (szSt x0 : Int) + (szSt x2 : Int) ≤ L
    · have C1 := Lib.hid cc1
      clear cc1
      by_cases cc2 : (szSt x0 : Int) + (szSt x2 : Int) + (szFl x3 : Int) ≤ L
      · have C2 := Lib.hid cc2
        clear cc2
        by_cases cc3 : (szSt x0 : Int) + (szSt x2 : Int) + (szFl x3 : Int) + (szSt x4 : Int) ≤ L
        · have C3 := Lib.hid cc3
          clear cc3
          go_enter Tryz.func5, Tryz.ntmps5
          go_wp2_with (go_at_call 19; obtain ⟨g0, g1, g2⟩ := HC.out _ rfl; have HQ := szStringS_any A0 n0 c0 x0 (L) _ (HK0.out.go g1) HL0.out HL1.out; refine Calls.mono HQ ?_; clear HQ; intro e w1 h; obtain ⟨z0, rfl, hz0, l0, u0, hb⟩ := h.fits (by have := C0.out; omega) HL1.out; have Z0 := Lib.hid hz0; have d0 : decide (z0 < 0) = false := (by simp; omega); have HR1 := Lib.hid (g0.below hb g2); have HB1 := Lib.hid (g1.trans (hb.mono g1.size)); have HG1 := Lib.hid (Nat.lt_of_lt_of_le g2 hb.size); have q02 : w1.cell? ⟨W.heap.size, 2, none⟩ = some (.slice A2 n2 c2) := HR1.out.cell 2; clear hb hz0 g0 g1 g2 HK0)
          go_wp2_with (go_at_call 19; have HQ := szStringS_any A2 n2 c2 x2 (z0) _ (HK2.out.go HB1.out) (by have := C0.out; have := Z0.out; have := HL0.out; omega) (by have := C0.out; have := Z0.out; have := HL1.out; omega); refine Calls.mono HQ ?_; clear HQ; intro e w2 h; obtain ⟨z1, rfl, hz1, l1, u1, hb⟩ := h.fits (by have := C0.out; have := C1.out; have := Z0.out; omega) (by have := C0.out; have := Z0.out; have := HL1.out; omega); have Z1 := Lib.hid hz1; have d1 : decide (z1 < 0) = false := (by simp; omega); have HR2 := Lib.hid (HR1.out.below hb HG1.out); have HB2 := Lib.hid (HB1.out.trans (hb.mono HB1.out.size)); have HG2 := Lib.hid (Nat.lt_of_lt_of_le HG1.out hb.size); have q13 : w2.cell? ⟨W.heap.size, 3, none⟩ = some (.slice A3 n3 c3) := HR2.out.cell 3; clear hb hz1  HK2)
          go_wp2_with (go_at_call 20; have HQ := szFileS_any A3 n3 c3 x3 (z1) _ (HK3.out.go HB2.out) (by have := C0.out; have := C1.out; have := Z0.out; have := Z1.out; have := HL0.out; omega) (by have := C0.out; have := C1.out; have := Z0.out; have := Z1.out; have := HL1.out; omega); refine Calls.mono HQ ?_; clear HQ; intro e w3 h; obtain ⟨z2, rfl, hz2, l2, u2, hb⟩ := h.fits (by have := C0.out; have := C1.out; have := C2.out; have := Z0.out; have := Z1.out; omega) (by have := C0.out; have := C1.out; have := Z0.out; have := Z1.out; have := HL1.out; omega); have Z2 := Lib.hid hz2; have d2 : decide (z2 < 0) = false := (by simp; omega); have HR3 := Lib.hid (HR2.out.below hb HG2.out); have HB3 := Lib.hid (HB2.out.trans (hb.mono HB2.out.size)); have HG3 := Lib.hid (Nat.lt_of_lt_of_le HG2.out hb.size); have q24 : w3.cell? ⟨W.heap.size, 4, none⟩ = some (.slice A4 n4 c4) := HR3.out.cell 4; clear hb hz2  HK3)
          go_wp2_with (go_at_call 19; have HQ := szStringS_any A4 n4 c4 x4 (z2) _ (HK4.out.go HB3.out) (by have := C0.out; have := C1.out; have := C2.out; have := Z0.out; have := Z1.out; have := Z2.out; have := HL0.out; omega) (by have := C0.out; have := C1.out; have := C2.out; have := Z0.out; have := Z1.out; have := Z2.out; have := HL1.out; omega); refine Calls.mono HQ ?_; clear HQ; intro e w4 h; obtain ⟨z3, rfl, hz3, l3, u3, hb⟩ := h.fits (by have := C0.out; have := C1.out; have := C2.out; have := C3.out; have := Z0.out; have := Z1.out; have := Z2.out; omega) (by have := C0.out; have := C1.out; have := C2.out; have := Z0.out; have := Z1.out; have := Z2.out; have := HL1.out; omega); have Z3 := Lib.hid hz3; have d3 : decide (z3 < 0) = false := (by simp; omega); have HR4 := Lib.hid (HR3.out.below hb HG3.out); have HB4 := Lib.hid (HB3.out.trans (hb.mono HB3.out.size)); have HG4 := Lib.hid (Nat.lt_of_lt_of_le HG3.out hb.size); clear hb hz3  HK4)
          go_ret
          refine ⟨.inl ⟨by have := C0.out; have := C1.out; have := C2.out; have := C3.out; have := Z0.out; have := Z1.out; have := Z2.out; have := Z3.out; have := HS.out; omega, ?_⟩, HB4.out⟩
          have hx : z3 = L - (s : Int) := by have := C0.out; have := C1.out; have := C2.out; have := C3.out; have := Z0.out; have := Z1.out; have := Z2.out; have := Z3.out; have := HS.out; omega
          rw [← hx]
          rfl
        · have C3 := Lib.hid cc3
          clear cc3
          go_enter Tryz.func5, Tryz.ntmps5
          go_wp2_with (go_at_call 19; obtain ⟨g0, g1, g2⟩ := HC.out _ rfl; have HQ := szStringS_any A0 n0 c0 x0 (L) _ (HK0.out.go g1) HL0.out HL1.out; refine Calls.mono HQ ?_; clear HQ; intro e w1 h; obtain ⟨z0, rfl, hz0, l0, u0, hb⟩ := h.fits (by have := C0.out; omega) HL1.out; have Z0 := Lib.hid hz0; have d0 : decide (z0 < 0) = false := (by simp; omega); have HR1 := Lib.hid (g0.below hb g2); have HB1 := Lib.hid (g1.trans (hb.mono g1.size)); have HG1 := Lib.hid (Nat.lt_of_lt_of_le g2 hb.size); have q02 : w1.cell? ⟨W.heap.size, 2, none⟩ = some (.slice A2 n2 c2) := HR1.out.cell 2; clear hb hz0 g0 g1 g2 HK0)
          go_wp2_with (go_at_call 19; have HQ := szStringS_any A2 n2 c2 x2 (z0) _ (HK2.out.go HB1.out) (by have := C0.out; have := Z0.out; have := HL0.out; omega) (by have := C0.out; have := Z0.out; have := HL1.out; omega); refine Calls.mono HQ ?_; clear HQ; intro e w2 h; obtain ⟨z1, rfl, hz1, l1, u1, hb⟩ := h.fits (by have := C0.out; have := C1.out; have := Z0.out; omega) (by have := C0.out; have := Z0.out; have := HL1.out; omega); have Z1 := Lib.hid hz1; have d1 : decide (z1 < 0) = false := (by simp; omega); have HR2 := Lib.hid (HR1.out.below hb HG1.out); have HB2 := Lib.hid (HB1.out.trans (hb.mono HB1.out.size)); have HG2 := Lib.hid (Nat.lt_of_lt_of_le HG1.out hb.size); have q13 : w2.cell? ⟨W.heap.size, 3, none⟩ = some (.slice A3 n3 c3) := HR2.out.cell 3; clear hb hz1  HK2)
          go_wp2_with (go_at_call 20; have HQ := szFileS_any A3 n3 c3 x3 (z1) _ (HK3.out.go HB2.out) (by have := C0.out; have := C1.out; have := Z0.out; have := Z1.out; have := HL0.out; omega) (by have := C0.out; have := C1.out; have := Z0.out; have := Z1.out; have := HL1.out; omega); refine Calls.mono HQ ?_; clear HQ; intro e w3 h; obtain ⟨z2, rfl, hz2, l2, u2, hb⟩ := h.fits (by have := C0.out; have := C1.out; have := C2.out; have := Z0.out; have := Z1.out; omega) (by have := C0.out; have := C1.out; have := Z0.out; have := Z1.out; have := HL1.out; omega); have Z2 := Lib.hid hz2; have d2 : decide (z2 < 0) = false := (by simp; omega); have HR3 := Lib.hid (HR2.out.below hb HG2.out); have HB3 := Lib.hid (HB2.out.trans (hb.mono HB2.out.size)); have HG3 := Lib.hid (Nat.lt_of_lt_of_le HG2.out hb.size); have q24 : w3.cell? ⟨W.heap.size, 4, none⟩ = some (.slice A4 n4 c4) := HR3.out.cell 4; clear hb hz2  HK3)
          go_wp2_with (go_at_call 19; have HQ := szStringS_any A4 n4 c4 x4 (z2) _ (HK4.out.go HB3.out) (by have := C0.out; have := C1.out; have := C2.out; have := Z0.out; have := Z1.out; have := Z2.out; have := HL0.out; omega) (by have := C0.out; have := C1.out; have := C2.out; have := Z0.out; have := Z1.out; have := Z2.out; have := HL1.out; omega); refine Calls.mono HQ ?_; clear HQ; intro e w4 h; obtain ⟨rfl, hb⟩ := h.long (by have := C0.out; have := C1.out; have := C2.out; have := C3.out; have := Z0.out; have := Z1.out; have := Z2.out; omega); have HR4 := Lib.hid (HR3.out.below hb HG3.out); have HB4 := Lib.hid (HB3.out.trans (hb.mono HB3.out.size)); have HG4 := Lib.hid (Nat.lt_of_lt_of_le HG3.out hb.size); clear hb  HK4)
          go_ret
          exact ⟨.inr ⟨by have := C0.out; have := C1.out; have := C2.out; have := C3.out; have := Z0.out; have := Z1.out; have := Z2.out; have := HS.out; omega, rfl⟩, HB4.out⟩
      · have C2 := Lib.hid cc2
        clear cc2
        go_enter Tryz.func5, Tryz.ntmps5
        go_wp2_with (go_at_call 19; obtain ⟨g0, g1, g2⟩ := HC.out _ rfl; have HQ := szStringS_any A0 n0 c0 x0 (L) _ (HK0.out.go g1) HL0.out HL1.out; refine Calls.mono HQ ?_; clear HQ; intro e w1 h; obtain ⟨z0, rfl, hz0, l0, u0, hb⟩ := h.fits (by have := C0.out; omega) HL1.out; have Z0 := Lib.hid hz0; have d0 : decide (z0 < 0) = false := (by simp; omega); have HR1 := Lib.hid (g0.below hb g2); have HB1 := Lib.hid (g1.trans (hb.mono g1.size)); have HG1 := Lib.hid (Nat.lt_of_lt_of_le g2 hb.size); have q02 : w1.cell? ⟨W.heap.size, 2, none⟩ = some (.slice A2 n2 c2) := HR1.out.cell 2; clear hb hz0 g0 g1 g2 HK0)
        go_wp2_with (go_at_call 19; have HQ := szStringS_any A2 n2 c2 x2 (z0) _ (HK2.out.go HB1.out) (by have := C0.out; have := Z0.out; have := HL0.out; omega) (by have := C0.out; have := Z0.out; have := HL1.out; omega); refine Calls.mono HQ ?_; clear HQ; intro e w2 h; obtain ⟨z1, rfl, hz1, l1, u1, hb⟩ := h.fits (by have := C0.out; have := C1.out; have := Z0.out; omega) (by have := C0.out; have := Z0.out; have := HL1.out; omega); have Z1 := Lib.hid hz1; have d1 : decide (z1 < 0) = false := (by simp; omega); have HR2 := Lib.hid (HR1.out.below hb HG1.out); have HB2 := Lib.hid (HB1.out.trans (hb.mono HB1.out.size)); have HG2 := Lib.hid (Nat.lt_of_lt_of_le HG1.out hb.size); have q13 : w2.cell? ⟨W.heap.size, 3, none⟩ = some (.slice A3 n3 c3) := HR2.out.cell 3; clear hb hz1  HK2)
        go_wp2_with (go_at_call 20; have HQ := szFileS_any A3 n3 c3 x3 (z1) _ (HK3.out.go HB2.out) (by have := C0.out; have := C1.out; have := Z0.out; have := Z1.out; have := HL0.out; omega) (by have := C0.out; have := C1.out; have := Z0.out; have := Z1.out; have := HL1.out; omega); refine Calls.mono HQ ?_; clear HQ; intro e w3 h; obtain ⟨rfl, hb⟩ := h.long (by have := C0.out; have := C1.out; have := C2.out; have := Z0.out; have := Z1.out; omega); have HR3 := Lib.hid (HR2.out.below hb HG2.out); have HB3 := Lib.hid (HB2.out.trans (hb.mono HB2.out.size)); have HG3 := Lib.hid (Nat.lt_of_lt_of_le HG2.out hb.size); clear hb  HK3)
        go_ret
        exact ⟨.inr ⟨by have := C0.out; have := C1.out; have := C2.out; have := Z0.out; have := Z1.out; have := HS.out; omega, rfl⟩, HB3.out⟩
    · have C1 := Lib.hid cc1
      clear cc1
      go_enter Tryz.func5, Tryz.ntmps5
      go_wp2_with (go_at_call 19; obtain ⟨g0, g1, g2⟩ := HC.out _ rfl; have HQ := szStringS_any A0 n0 c0 x0 (L) _ (HK0.out.go g1) HL0.out HL1.out; refine Calls.mono HQ ?_; clear HQ; intro e w1 h; obtain ⟨z0, rfl, hz0, l0, u0, hb⟩ := h.fits (by have := C0.out; omega) HL1.out; have Z0 := Lib.hid hz0; have d0 : decide (z0 < 0) = false := (by simp; omega); have HR1 := Lib.hid (g0.below hb g2); have HB1 := Lib.hid (g1.trans (hb.mono g1.size)); have HG1 := Lib.hid (Nat.lt_of_lt_of_le g2 hb.size); have q02 : w1.cell? ⟨W.heap.size, 2, none⟩ = some (.slice A2 n2 c2) := HR1.out.cell 2; clear hb hz0 g0 g1 g2 HK0)
      go_wp2_with (go_at_call 19; have HQ := szStringS_any A2 n2 c2 x2 (z0) _ (HK2.out.go HB1.out) (by have := C0.out; have := Z0.out; have := HL0.out; omega) (by have := C0.out; have := Z0.out; have := HL1.out; omega); refine Calls.mono HQ ?_; clear HQ; intro e w2 h; obtain ⟨rfl, hb⟩ := h.long (by have := C0.out; have := C1.out; have := Z0.out; omega); have HR2 := Lib.hid (HR1.out.below hb HG1.out); have HB2 := Lib.hid (HB1.out.trans (hb.mono HB1.out.size)); have HG2 := Lib.hid (Nat.lt_of_lt_of_le HG1.out hb.size); clear hb  HK2)
      go_ret
      exact ⟨.inr ⟨by have := C0.out; have := C1.out; have := Z0.out; have := HS.out; omega, rfl⟩, HB2.out⟩
  · have C0 := Lib.hid cc0
    clear cc0
    go_enter Tryz.func5, Tryz.ntmps5
    go_wp2_with (go_at_call 19; obtain ⟨g0, g1, g2⟩ := HC.out _ rfl; have HQ := szStringS_any A0 n0 c0 x0 (L) _ (HK0.out.go g1) HL0.out HL1.out; refine Calls.mono HQ ?_; clear HQ; intro e w1 h; obtain ⟨rfl, hb⟩ := h.long (by have := C0.out; omega); have HR1 := Lib.hid (g0.below hb g2); have HB1 := Lib.hid (g1.trans (hb.mono g1.size)); have HG1 := Lib.hid (Nat.lt_of_lt_of_le g2 hb.size); clear hb g0 g1 g2 HK0)
    go_ret
    exact ⟨.inr ⟨by have := C0.out; have := HS.out; omega, rfl⟩, HB1.out⟩

/-- Those of the first k. -/
def sumCn (xs : List Cn) : Nat → Nat
  | 0 => 0
  | k + 1 => sumCn xs k + ((xs[k]?.map szCn1).getD 0)
theorem sumCn_next {xs : List Cn} {k : Nat} {x : Cn} (h : xs[k]? = some x) : sumCn xs (k + 1) = sumCn xs k + szCn1 x := by
  rw [sumCn, h]
  rfl
theorem sumCn_mono {xs : List Cn} {j : Nat} : ∀ {k : Nat}, j ≤ k → sumCn xs j ≤ sumCn xs k
  | 0, h => by obtain rfl : j = 0 := by omega
               exact Nat.le_refl _
  | k + 1, h => by
    by_cases e : j = k + 1
    · rw [e]; exact Nat.le_refl _
    · have := sumCn_mono (xs := xs) (show j ≤ k by omega)
      rw [sumCn]
      omega
def szCn (xs : List Cn) : Nat := xs.length + sumCn xs xs.length

/-- No list is too long. -/
def CnSmall (x : Cn) : Prop := x.input_.length ≤ 1048576 ∧ x.output_.length ≤ 1048576 ∧ ((∀ (j : Nat) (y : Fl), x.files_[j]? = some y → FlSmall y) ∧ x.files_.length ≤ 1048576) ∧ x.trace_.length ≤ 1048576
theorem small_Cn1 {x : Cn} (h : (szCn1 x : Int) ≤ 1048576) : CnSmall x := by
  unfold szCn1 at h
  unfold CnSmall
  exact ⟨(by unfold szSt at h; omega), (by unfold szSt at h; omega), (small_Fl (by omega)), (by unfold szSt at h; omega)⟩
theorem small_Cn {xs : List Cn} (h : (szCn xs : Int) ≤ 1048576) : (∀ (j : Nat) (x : Cn), xs[j]? = some x → CnSmall x) ∧ xs.length ≤ 1048576 := by
  unfold szCn at h
  refine ⟨fun j x hx => small_Cn1 ?_, by omega⟩
  have hl := (List.getElem?_eq_some_iff.1 hx).1
  have h1 := sumCn_mono (xs := xs) (j := j + 1) (k := xs.length) (by omega)
  rw [sumCn_next hx] at h1
  omega
end Go.Proofs.YtfcpdjfckeoniaaGreatDoor

namespace Go.Proofs.YtfcpdjfckeoniaaGreatDoor
open Go Go.RowKit

structure Me where
  x0 : Int
  x1 : List Ob
  x2 : List Bd
  x3 : List Fn
  x4 : List Rt
  x5 : List St
  x6 : Int
  x7 : List St
  x8 : List Fl
  x9 : List St
/-- Where its lists lie. -/
structure MeLay where
  A1 : Option Addr
  n1 : Nat
  c1 : Nat
  h1 : n1 ≤ c1
  A2 : Option Addr
  n2 : Nat
  c2 : Nat
  h2 : n2 ≤ c2
  A3 : Option Addr
  n3 : Nat
  c3 : Nat
  h3 : n3 ≤ c3
  A4 : Option Addr
  n4 : Nat
  c4 : Nat
  h4 : n4 ≤ c4
  A5 : Option Addr
  n5 : Nat
  c5 : Nat
  h5 : n5 ≤ c5
  A7 : Option Addr
  n7 : Nat
  c7 : Nat
  h7 : n7 ≤ c7
  A8 : Option Addr
  n8 : Nat
  c8 : Nat
  h8 : n8 ≤ c8
  A9 : Option Addr
  n9 : Nat
  c9 : Nat
  h9 : n9 ≤ c9
/-- As one value. -/
abbrev Me.ag (x : Me) (l : MeLay) : Value := .agg #[.int .i64 x.x0, .slice l.A1 l.n1 l.c1, .slice l.A2 l.n2 l.c2, .slice l.A3 l.n3 l.c3, .slice l.A4 l.n4 l.c4, .slice l.A5 l.n5 l.c5, .int .i64 x.x6, .slice l.A7 l.n7 l.c7, .slice l.A8 l.n8 l.c8, .slice l.A9 l.n9 l.c9]
def Me.vs (x : Me) (l : MeLay) : List Value := [.int .i64 x.x0, .slice l.A1 l.n1 l.c1, .slice l.A2 l.n2 l.c2, .slice l.A3 l.n3 l.c3, .slice l.A4 l.n4 l.c4, .slice l.A5 l.n5 l.c5, .int .i64 x.x6, .slice l.A7 l.n7 l.c7, .slice l.A8 l.n8 l.c8, .slice l.A9 l.n9 l.c9]
/-- Its lists lie below B. -/
def MeV (w : World) (B : Nat) (x : Me) (l : MeLay) : Prop := OI w B l.A1 l.n1 x.x1 ∧ ScV w B ⟨x.x2, x.x3, x.x4⟩ ⟨l.A2, l.n2, l.c2, l.h2, l.A3, l.n3, l.c3, l.h3, l.A4, l.n4, l.c4, l.h4⟩ ∧ CnV w B ⟨x.x5, x.x6, x.x7, x.x8, x.x9⟩ ⟨l.A5, l.n5, l.c5, l.h5, l.A7, l.n7, l.c7, l.h7, l.A8, l.n8, l.c8, l.h8, l.A9, l.n9, l.c9, l.h9⟩
theorem MeV.below {w w' : World} {B : Nat} {x : Me} {l : MeLay} (h : MeV w B x l) (hb : Below B w w') : MeV w' B x l := ⟨h.1.below hb, h.2.1.below hb, h.2.2.below hb⟩
theorem MeV.more {w : World} {B B' : Nat} {x : Me} {l : MeLay} (h : MeV w B x l) (hB : B ≤ B') : MeV w B' x l := ⟨h.1.more hB, h.2.1.more hB, h.2.2.more hB⟩
theorem MeV.go {W w : World} {x : Me} {l : MeLay} (h : MeV W W.heap.size x l) (hb : Below W.heap.size W w) : MeV w w.heap.size x l := (h.below hb).more hb.size
theorem MeV.alloc {W : World} {x : Me} {l : MeLay} (h : MeV W W.heap.size x l) (o : Obj) : MeV (W.alloc o) (W.alloc o).heap.size x l := h.go (below_alloc W o)

section
variable {H : Type} {enc : TypeId × Value → H} {W : World}
set_option maxRecDepth 100000 in
/-- A heap's cells. -/
theorem open_HpN {fuel : Nat} {cs : List Value} {x : DataW H × List MemPlace} (h : DataW.trod enc Tryz.prog W 0 (fun _ => true) true fuel 43 cs = some x) :
    ∃ nx A n c os, cs = [.int .i64 nx, .slice A n c] ∧ n ≤ c ∧ OI W W.heap.size A n os := by
  obtain ⟨ys, m, hm, _, hlen, _, hf⟩ := DataW.trod_struct Tryz.underlying43 h
  have hlen' : cs.length = 2 := hlen.trans (by kernel_rfl)
  match cs, hlen' with
  | [c0, c1], _ =>
    have hys : ∀ i, i < 2 → ∃ y, ys[i]? = some y := by
      intro i hi
      have : ys.length = 2 := by assumption
      exact ⟨_, List.getElem?_eq_getElem (by omega)⟩
    have f0 : DataW.trod enc Tryz.prog W 0 (fun _ => true) true m 2 [c0] = ys[0]? := field_at (i := 0) (o := 0) (k := 1) (T := 2) hf (by kernel_rfl) (by kernel_rfl)
    have f1 : DataW.trod enc Tryz.prog W 0 (fun _ => true) true m 41 [c1] = ys[1]? := field_at (i := 1) (o := 1) (k := 1) (T := 41) hf (by kernel_rfl) (by kernel_rfl)
    obtain ⟨y0, g0⟩ := hys 0 (by decide)
    obtain ⟨y1, g1⟩ := hys 1 (by decide)
    rw [g0] at f0
    rw [g1] at f1
    obtain ⟨nx, e0, _, _⟩ := DataW.trod_int Tryz.underlying2 f0
    obtain ⟨A, n, c, hc, e1⟩ := open_slice1 Tryz.underlying41 f1
    rw [e1] at f1
    obtain ⟨os, hos⟩ := open_objectsF f1
    simp only [List.cons.injEq, and_true] at e0 e1
    subst e0 e1
    exact ⟨nx, A, n, c, os, rfl, hc, hos⟩
set_option maxRecDepth 100000 in
theorem open_MeN {fuel : Nat} {cs : List Value} {x : DataW H × List MemPlace} (h : DataW.trod enc Tryz.prog W 0 (fun _ => true) true fuel 50 cs = some x) :
    ∃ x l, cs = Me.vs x l ∧ MeV W W.heap.size x l := by
  obtain ⟨ys, m, hm, _, hlen, _, hf⟩ := DataW.trod_struct Tryz.underlying50 h
  have hlen' : cs.length = 10 := hlen.trans (by kernel_rfl)
  match cs, hlen' with
  | [c0, c1, c2, c3, c4, c5, c6, c7, c8, c9], _ =>
    have hys : ∀ i, i < 3 → ∃ y, ys[i]? = some y := by
      intro i hi
      have : ys.length = 3 := by assumption
      exact ⟨_, List.getElem?_eq_getElem (by omega)⟩
    have K0 : Tryz.prog.cellsOf 43 = 2 := by kernel_rfl
    have K1 : Tryz.prog.cellsOf 48 = 3 := by kernel_rfl
    have K2 : Tryz.prog.cellsOf 25 = 5 := by kernel_rfl
    have f0 : DataW.trod enc Tryz.prog W 0 (fun _ => true) true m 43 [c0, c1] = ys[0]? := field_at (i := 0) (o := 0) (k := 2) (T := 43) hf (by kernel_rfl) K0
    have f1 : DataW.trod enc Tryz.prog W 0 (fun _ => true) true m 48 [c2, c3, c4] = ys[1]? := field_at (i := 1) (o := 2) (k := 3) (T := 48) hf (by kernel_rfl) K1
    have f2 : DataW.trod enc Tryz.prog W 0 (fun _ => true) true m 25 [c5, c6, c7, c8, c9] = ys[2]? := field_at (i := 2) (o := 5) (k := 5) (T := 25) hf (by kernel_rfl) K2
    obtain ⟨y0, g0⟩ := hys 0 (by decide)
    obtain ⟨y1, g1⟩ := hys 1 (by decide)
    obtain ⟨y2, g2⟩ := hys 2 (by decide)
    rw [g0] at f0
    rw [g1] at f1
    rw [g2] at f2
    obtain ⟨nx, A, n, c, os, e0, hc, hos⟩ := open_HpN f0
    obtain ⟨⟨z0, z1, z2⟩, ⟨A2, n2, q2, h2, A3, n3, q3, h3, A4, n4, q4, h4⟩, e1, hs⟩ := open_ScN f1
    obtain ⟨⟨z5, z6, z7, z8, z9⟩, ⟨A5, n5, q5, h5, A7, n7, q7, h7, A8, n8, q8, h8, A9, n9, q9, h9⟩, e2, hn⟩ := open_CnN f2
    unfold Sc.vs at e1
    unfold Cn.vs at e2
    dsimp only at e1 e2
    simp only [List.cons.injEq, and_true] at e0 e1 e2
    obtain ⟨rfl, rfl⟩ := e0
    obtain ⟨rfl, rfl, rfl⟩ := e1
    obtain ⟨rfl, rfl, rfl, rfl, rfl⟩ := e2
    exact ⟨⟨nx, os, z0, z1, z2, z5, z6, z7, z8, z9⟩, ⟨A, n, c, hc, A2, n2, q2, h2, A3, n3, q3, h3, A4, n4, q4, h4, A5, n5, q5, h5, A7, n7, q7, h7, A8, n8, q8, h8, A9, n9, q9, h9⟩, rfl, hos, hs, hn⟩
end
set_option maxRecDepth 100000 in
/-- An argument. -/
theorem open_Me {H : Type} {enc : TypeId × Value → H} {W : World} {v : Value} {d : DataW H} {p : List MemPlace} {r : Reach} {b0 : Nat} (hv : Value.okWide Tryz.prog W r b0 50 v) (h : DataW.Trod enc Tryz.prog W 0 (fun _ => true) true 50 v d p) :
    ∃ x l, v = Me.ag x l ∧ MeV W W.heap.size x l := by
  obtain ⟨cs, rfl, hsz⟩ := Go.WideShapes.okWide_struct Tryz.underlying50 hv
  obtain ⟨fuel, hf⟩ := h
  obtain ⟨x, l, e, ho⟩ := open_MeN hf
  refine ⟨x, l, ?_, ho⟩
  have : cs.toList = Me.vs x l := e
  rw [show cs = (Me.vs x l).toArray from by rw [← this]]
  rfl
/-- What szMemory takes of the bound. -/
def szMe1 (x : Me) : Nat := szH x.x1 + szSc1 ⟨x.x2, x.x3, x.x4⟩ + szCn1 ⟨x.x5, x.x6, x.x7, x.x8, x.x9⟩
def MeSmall (x : Me) : Prop := Small x.x1 ∧ x.x1.length ≤ 1048576 ∧ ScSmall ⟨x.x2, x.x3, x.x4⟩ ∧ CnSmall ⟨x.x5, x.x6, x.x7, x.x8, x.x9⟩
theorem small_Me1 {x : Me} (h : (szMe1 x : Int) ≤ 1048576) : MeSmall x := by
  unfold szMe1 at h
  have h1 := small_of_sz (os := x.x1) (by omega)
  exact ⟨h1.1, h1.2, small_Sc1 (by omega), small_Cn1 (by omega)⟩

set_option maxHeartbeats 2000000 in
set_option maxRecDepth 100000 in
theorem szMemory_any (x : Me) (l : MeLay) (L : Int) (W : World) (ho : MeV W W.heap.size x l) (hLL : 0 ≤ L) (hL : L ≤ 1048576) :
    Calls Tryz.prog 14 #[x.ag l, .int .i64 L] W (SzL (szMe1 x) L W) := by
  obtain ⟨s, hs⟩ : ∃ s, szMe1 x = s := ⟨_, rfl⟩
  rw [hs]
  unfold szMe1 at hs
  obtain ⟨x0, x1, x2, x3, x4, x5, x6, x7, x8, x9⟩ := x
  obtain ⟨A1, n1, c1, h1, A2, n2, c2, h2, A3, n3, c3, h3, A4, n4, c4, h4, A5, n5, c5, h5, A7, n7, c7, h7, A8, n8, c8, h8, A9, n9, c9, h9⟩ := l
  obtain ⟨k0, k1, k2⟩ := ho
  dsimp only at hs k0 k1 k2
  have HQ0 := Lib.hid (fun (w : World) (hb : Below W.heap.size W w) => szHeap_any x0 A1 n1 c1 x1 L w (k0.go hb) hLL hL)
  have HQ1 := Lib.hid (fun (z : Int) (w : World) (hb : Below W.heap.size W w) (h0 : 0 ≤ z) (h1 : z ≤ 1048576) => szScope_any ⟨x2, x3, x4⟩ ⟨A2, n2, c2, h2, A3, n3, c3, h3, A4, n4, c4, h4⟩ z w (k1.go hb) h0 h1)
  have HQ2 := Lib.hid (fun (z : Int) (w : World) (hb : Below W.heap.size W w) (h0 : 0 ≤ z) (h1 : z ≤ 1048576) => szConsole_any ⟨x5, x6, x7, x8, x9⟩ ⟨A5, n5, c5, h5, A7, n7, c7, h7, A8, n8, c8, h8, A9, n9, c9, h9⟩ z w (k2.go hb) h0 h1)
  generalize szH x1 = a at hs HQ0
  generalize szSc1 ⟨x2, x3, x4⟩ = b at hs HQ1
  generalize szCn1 ⟨x5, x6, x7, x8, x9⟩ = c at hs HQ2
  have HS := Lib.hid hs
  have HL0 := Lib.hid hLL
  have HL1 := Lib.hid hL
  have HC := Lib.hid (fun X (e : X = W.alloc (.cells #[.int .i64 x0, .slice A1 n1 c1, .slice A2 n2 c2, .slice A3 n3 c3, .slice A4 n4 c4, .slice A5 n5 c5, .int .i64 x6, .slice A7 n7 c7, .slice A8 n8 c8, .slice A9 n9 c9] 50)) => (show RW 50 X W.heap.size #[.int .i64 x0, .slice A1 n1 c1, .slice A2 n2 c2, .slice A3 n3 c3, .slice A4 n4 c4, .slice A5 n5 c5, .int .i64 x6, .slice A7 n7 c7, .slice A8 n8 c8, .slice A9 n9 c9] ∧ Below W.heap.size W X ∧ W.heap.size < X.heap.size from by rw [e]; exact ⟨RW.new _ _ _, below_alloc _ _, lt_alloc _ _⟩))
  clear hs k0 k1 k2
  show Calls Tryz.prog 14 #[.agg #[.int .i64 x0, .slice A1 n1 c1, .slice A2 n2 c2, .slice A3 n3 c3, .slice A4 n4 c4, .slice A5 n5 c5, .int .i64 x6, .slice A7 n7 c7, .slice A8 n8 c8, .slice A9 n9 c9], .int .i64 L] W _
  by_cases cc0 : (a : Int) ≤ L
  · have C0 := Lib.hid cc0
    clear cc0
    by_cases cc1 : (a : Int) + (b : Int) ≤ L
    · have C1 := Lib.hid cc1
      clear cc1
      by_cases cc2 : (a : Int) + (b : Int) + (c : Int) ≤ L
      · have C2 := Lib.hid cc2
        clear cc2
        go_enter Tryz.func14, Tryz.ntmps14
        go_wp2_with (go_at_call 35; obtain ⟨g0, g1, g2⟩ := HC.out _ rfl; have HQ := HQ0.out _ g1; refine Calls.mono HQ ?_; clear HQ; intro e w1 h; obtain ⟨z0, rfl, hz0, l0, u0, hb⟩ := h.fits C0.out HL1.out; have Z0 := Lib.hid hz0; have Y0 : Hid (0 ≤ z0 ∧ z0 ≤ 1048576) := ⟨l0, u0⟩; have d0 : decide (z0 < 0) = false := (by simp; omega); have HR1 := Lib.hid (g0.below hb g2); have HB1 := Lib.hid (g1.trans (hb.mono g1.size)); have q12 : w1.cell? ⟨W.heap.size, 2, none⟩ = some (.slice A2 n2 c2) := HR1.out.cell 2; have q13 : w1.cell? ⟨W.heap.size, 3, none⟩ = some (.slice A3 n3 c3) := HR1.out.cell 3; have q14 : w1.cell? ⟨W.heap.size, 4, none⟩ = some (.slice A4 n4 c4) := HR1.out.cell 4; clear hb hz0 g0 g1 g2 h HQ0)
        go_wp2_with (go_at_call 36; have HQ := HQ1.out z0 _ HB1.out Y0.out.1 Y0.out.2; refine Calls.mono HQ ?_; clear HQ; intro e w2 h; obtain ⟨z1, rfl, hz1, l1, u1, hb⟩ := h.fits (by have := C1.out; have := Z0.out; omega) Y0.out.2; have Z1 := Lib.hid hz1; have Y1 : Hid (0 ≤ z1 ∧ z1 ≤ 1048576) := ⟨l1, u1⟩; have d1 : decide (z1 < 0) = false := (by simp; omega); have HR2 := Lib.hid (HR1.out.below hb HR1.out.lt); have HB2 := Lib.hid (HB1.out.trans (hb.mono HB1.out.size)); have q25 : w2.cell? ⟨W.heap.size, 5, none⟩ = some (.slice A5 n5 c5) := HR2.out.cell 5; have q26 : w2.cell? ⟨W.heap.size, 6, none⟩ = some (.int .i64 x6) := HR2.out.cell 6; have q27 : w2.cell? ⟨W.heap.size, 7, none⟩ = some (.slice A7 n7 c7) := HR2.out.cell 7; have q28 : w2.cell? ⟨W.heap.size, 8, none⟩ = some (.slice A8 n8 c8) := HR2.out.cell 8; have q29 : w2.cell? ⟨W.heap.size, 9, none⟩ = some (.slice A9 n9 c9) := HR2.out.cell 9; clear hb hz1 h HQ1)
        go_wp2_with (go_at_call 5; have HQ := HQ2.out z1 _ HB2.out Y1.out.1 Y1.out.2; refine Calls.mono HQ ?_; clear HQ; intro e w3 h; obtain ⟨z2, rfl, hz2, l2, u2, hb⟩ := h.fits (by have := C2.out; have := Z0.out; have := Z1.out; omega) Y1.out.2; have Z2 := Lib.hid hz2; have d2 : decide (z2 < 0) = false := (by simp; omega); have HB3 := Lib.hid (HB2.out.trans (hb.mono HB2.out.size)); clear hb hz2 h HQ2)
        go_ret
        refine ⟨.inl ⟨by have := C2.out; have := HS.out; omega, ?_⟩, HB3.out⟩
        have hx : z2 = L - (s : Int) := by have := Z0.out; have := Z1.out; have := Z2.out; have := HS.out; omega
        rw [← hx]
        rfl
      · have C2 := Lib.hid cc2
        clear cc2
        go_enter Tryz.func14, Tryz.ntmps14
        go_wp2_with (go_at_call 35; obtain ⟨g0, g1, g2⟩ := HC.out _ rfl; have HQ := HQ0.out _ g1; refine Calls.mono HQ ?_; clear HQ; intro e w1 h; obtain ⟨z0, rfl, hz0, l0, u0, hb⟩ := h.fits C0.out HL1.out; have Z0 := Lib.hid hz0; have Y0 : Hid (0 ≤ z0 ∧ z0 ≤ 1048576) := ⟨l0, u0⟩; have d0 : decide (z0 < 0) = false := (by simp; omega); have HR1 := Lib.hid (g0.below hb g2); have HB1 := Lib.hid (g1.trans (hb.mono g1.size)); have q12 : w1.cell? ⟨W.heap.size, 2, none⟩ = some (.slice A2 n2 c2) := HR1.out.cell 2; have q13 : w1.cell? ⟨W.heap.size, 3, none⟩ = some (.slice A3 n3 c3) := HR1.out.cell 3; have q14 : w1.cell? ⟨W.heap.size, 4, none⟩ = some (.slice A4 n4 c4) := HR1.out.cell 4; clear hb hz0 g0 g1 g2 h HQ0)
        go_wp2_with (go_at_call 36; have HQ := HQ1.out z0 _ HB1.out Y0.out.1 Y0.out.2; refine Calls.mono HQ ?_; clear HQ; intro e w2 h; obtain ⟨z1, rfl, hz1, l1, u1, hb⟩ := h.fits (by have := C1.out; have := Z0.out; omega) Y0.out.2; have Z1 := Lib.hid hz1; have Y1 : Hid (0 ≤ z1 ∧ z1 ≤ 1048576) := ⟨l1, u1⟩; have d1 : decide (z1 < 0) = false := (by simp; omega); have HR2 := Lib.hid (HR1.out.below hb HR1.out.lt); have HB2 := Lib.hid (HB1.out.trans (hb.mono HB1.out.size)); have q25 : w2.cell? ⟨W.heap.size, 5, none⟩ = some (.slice A5 n5 c5) := HR2.out.cell 5; have q26 : w2.cell? ⟨W.heap.size, 6, none⟩ = some (.int .i64 x6) := HR2.out.cell 6; have q27 : w2.cell? ⟨W.heap.size, 7, none⟩ = some (.slice A7 n7 c7) := HR2.out.cell 7; have q28 : w2.cell? ⟨W.heap.size, 8, none⟩ = some (.slice A8 n8 c8) := HR2.out.cell 8; have q29 : w2.cell? ⟨W.heap.size, 9, none⟩ = some (.slice A9 n9 c9) := HR2.out.cell 9; clear hb hz1 h HQ1)
        go_wp2_with (go_at_call 5; have HQ := HQ2.out z1 _ HB2.out Y1.out.1 Y1.out.2; refine Calls.mono HQ ?_; clear HQ; intro e w3 h; obtain ⟨rfl, hb⟩ := h.long (by have := C2.out; have := Z0.out; have := Z1.out; omega); have HB3 := Lib.hid (HB2.out.trans (hb.mono HB2.out.size)); clear hb h HQ2)
        go_ret
        exact ⟨.inr ⟨by have := C2.out; have := HS.out; omega, rfl⟩, HB3.out⟩
    · have C1 := Lib.hid cc1
      clear cc1
      go_enter Tryz.func14, Tryz.ntmps14
      go_wp2_with (go_at_call 35; obtain ⟨g0, g1, g2⟩ := HC.out _ rfl; have HQ := HQ0.out _ g1; refine Calls.mono HQ ?_; clear HQ; intro e w1 h; obtain ⟨z0, rfl, hz0, l0, u0, hb⟩ := h.fits C0.out HL1.out; have Z0 := Lib.hid hz0; have Y0 : Hid (0 ≤ z0 ∧ z0 ≤ 1048576) := ⟨l0, u0⟩; have d0 : decide (z0 < 0) = false := (by simp; omega); have HR1 := Lib.hid (g0.below hb g2); have HB1 := Lib.hid (g1.trans (hb.mono g1.size)); have q12 : w1.cell? ⟨W.heap.size, 2, none⟩ = some (.slice A2 n2 c2) := HR1.out.cell 2; have q13 : w1.cell? ⟨W.heap.size, 3, none⟩ = some (.slice A3 n3 c3) := HR1.out.cell 3; have q14 : w1.cell? ⟨W.heap.size, 4, none⟩ = some (.slice A4 n4 c4) := HR1.out.cell 4; clear hb hz0 g0 g1 g2 h HQ0)
      go_wp2_with (go_at_call 36; have HQ := HQ1.out z0 _ HB1.out Y0.out.1 Y0.out.2; refine Calls.mono HQ ?_; clear HQ; intro e w2 h; obtain ⟨rfl, hb⟩ := h.long (by have := C1.out; have := Z0.out; omega); have HB2 := Lib.hid (HB1.out.trans (hb.mono HB1.out.size)); clear hb h HQ1)
      go_ret
      exact ⟨.inr ⟨by have := C1.out; have := HS.out; omega, rfl⟩, HB2.out⟩
  · have C0 := Lib.hid cc0
    clear cc0
    go_enter Tryz.func14, Tryz.ntmps14
    go_wp2_with (go_at_call 35; obtain ⟨g0, g1, g2⟩ := HC.out _ rfl; have HQ := HQ0.out _ g1; refine Calls.mono HQ ?_; clear HQ; intro e w1 h; obtain ⟨rfl, hb⟩ := h.long C0.out; have HB1 := Lib.hid (g1.trans (hb.mono g1.size)); clear hb g0 g1 g2 h HQ0)
    go_ret
    exact ⟨.inr ⟨by have := C0.out; have := HS.out; omega, rfl⟩, HB1.out⟩
end Go.Proofs.YtfcpdjfckeoniaaGreatDoor

namespace Go.Proofs.YtfcpdjfckeoniaaGreatDoor
open Go Go.RowKit

/-- What toHeap answers. -/
def ToHF (nx : Int) (os : List Ob) (n : Nat) (W : World) (e : Ending) (w' : World) : Prop :=
  ∃ g, e = .returned (.agg #[.int .i64 nx, .slice (some ⟨g, 0, none⟩) n n]) ∧ Hid (FilledO w' g n n os ∧ Below W.heap.size W w' ∧ W.heap.size ≤ g)
set_option maxRecDepth 100000 in
theorem toHeap_far (nx : Int) (A : Option Addr) (n c : Nat) (os : List Ob) (W : World) (hr : OI W W.heap.size A n os) (hs : Small os) (hn : n ≤ 1048576) :
    Calls Tryz.prog 42 #[.agg #[.int .i64 nx, .slice A n c]] W (ToHF nx os n W) := by
  have HR := Lib.hid hr
  have HS := Lib.hid hs
  have HN := Lib.hid hn
  have HA := Lib.hid (fun (X Y : World) (T T' : TypeId) (c1 c2 : Array Value) (eY : Y = W.alloc (.cells #[.int .i64 nx, .slice A n c] T)) (eX : X = (Y.alloc (.cells c1 T')).alloc (.cells c2 T')) => (show Below W.heap.size W X ∧ RW T' X (W.heap.size + 1 + 1) c2 ∧ RW T' X (W.heap.size + 1) c1 ∧ X.heap.size = W.heap.size + 3 from by
    subst eX; subst eY
    refine ⟨((below_alloc _ _).alloc (by simp) _).alloc (by simp; omega) _, ?_, ?_, by simp⟩
    · have := RW.new ((W.alloc (.cells #[.int .i64 nx, .slice A n c] T)).alloc (.cells c1 T')) c2 T'
      simpa using this
    · have := (RW.new (W.alloc (.cells #[.int .i64 nx, .slice A n c] T)) c1 T').alloc (.cells c2 T')
      simpa using this))
  clear hr hs hn
  go_enter Tryz.func42, Tryz.ntmps42
  go_wp2_with (go_at_call 79; obtain ⟨g2, g1, g0, g3⟩ := HA.out _ _ _ _ _ _ rfl rfl; have HQ := toObjectS_any A n c os _ (HR.out.go g2) HS.out HN.out; refine Calls.mono HQ ?_; clear HQ; rintro e w1 ⟨rfl, h⟩; obtain ⟨_, hb, hv⟩ := h.out; rw [g3] at hv; have HB1 := Lib.hid (g2.trans (hb.mono g2.size)); have HV1 := Lib.hid hv; have HR1 := Lib.hid (g1.below hb (by omega)); have HO1 := Lib.hid (g0.below hb (by omega)); have HG1 : Hid (W.heap.size + 3 ≤ w1.heap.size) := (by have := hb.size; show _ ≤ _; omega); have p1 : w1.cell? ⟨W.heap.size + 1 + 1, 1, none⟩ = some (.slice none 0 0) := HR1.out.cell 1; have p0 : w1.cell? ⟨W.heap.size + 1 + 1, 0, none⟩ = some (.int .i64 nx) := HR1.out.cell 0; have f1 := HR1.out.frozen 1; have r0 : w1.cell? ⟨W.heap.size + 1, 0, none⟩ = some (.int .i64 0) := HO1.out.cell 0; have r1 : w1.cell? ⟨W.heap.size + 1, 1, none⟩ = some (.slice none 0 0) := HO1.out.cell 1; have z0 := HO1.out.frozen 0; have z1 := HO1.out.frozen 1; clear g0 g1 g2 g3 h hv hb)
  have hs1 := HG1.out
  have hb1 : Below (W.heap.size + 1) w1 (((w1.setCell ⟨W.heap.size + 1 + 1, 1, none⟩ (.slice (some ⟨W.heap.size + 1 + 1 + 1, 0, none⟩) n n)).setCell ⟨W.heap.size + 1, 0, none⟩ (.int .i64 nx)).setCell ⟨W.heap.size + 1, 1, none⟩ (.slice (some ⟨W.heap.size + 1 + 1 + 1, 0, none⟩) n n)) := ((below_set w1 (p := ⟨W.heap.size + 1 + 1, 1, none⟩) (by simp) _).setCell (by simp) _).setCell (by simp) _
  refine bodyPost_ret (v := .agg #[.int .i64 nx, .slice (some ⟨W.heap.size + 1 + 1 + 1, 0, none⟩) n n]) (results_cell_row Tryz.results42 _ _ (W.heap.size + 1) 55 _ (0, 0) _ rfl (((HO1.out.other (p := ⟨W.heap.size + 1 + 1, 1, none⟩) (by simp) (.slice (some ⟨W.heap.size + 1 + 1 + 1, 0, none⟩) n n)).set_ 0 (.int .i64 nx)).set_ 1 (.slice (some ⟨W.heap.size + 1 + 1 + 1, 0, none⟩) n n)) Tryz.underlying55 rfl (by kernel_rfl)) rfl ⟨W.heap.size + 1 + 1 + 1, rfl, Lib.hid ⟨?_, HB1.out.trans (hb1.mono (by omega)), by omega⟩⟩
  exact (((HV1.out.far (by omega) _).far (by omega) _).far (by omega) _)
end Go.Proofs.YtfcpdjfckeoniaaGreatDoor

namespace Go.Proofs.YtfcpdjfckeoniaaGreatDoor
open Go Go.RowKit

/-- What toScope answers. -/
def ToScD (x : Sc) (W : World) (e : Ending) (w' : World) : Prop := ∃ l, e = .returned (x.ag l) ∧ Hid (Det W.heap.size w'.heap.size w' (fun w => ScV w w'.heap.size x l) ∧ Below W.heap.size W w')

set_option maxHeartbeats 2000000 in
set_option maxRecDepth 100000 in
theorem toScope_det (x : Sc) (l : ScLay) (W : World) (ho : ScV W W.heap.size x l) (hsm : ScSmall x) :
    Calls Tryz.prog 43 #[x.ag l] W (ToScD x W) := by
  obtain ⟨x0, x1, x2⟩ := x
  obtain ⟨A0, n0, c0, h0, A1, n1, c1, h1, A2, n2, c2, h2⟩ := l
  obtain ⟨k0, k1, k2⟩ := ho
  obtain ⟨s0, s1, s2⟩ := hsm
  try unfold ScV at k0 k1 k2
  try unfold ScSmall at s0 s1 s2
  dsimp only at k0 k1 k2 s0 s1 s2
  rw [k0.1] at s0
  have HK0 := Lib.hid k0
  have HS0 := Lib.hid s0
  rw [k1.1] at s1
  have HK1 := Lib.hid k1
  have HS1 := Lib.hid s1
  rw [k2.1] at s2
  have HK2 := Lib.hid k2
  have HS2 := Lib.hid s2
  clear k0 k1 k2 s0 s1 s2
  have HC := Lib.hid (fun (X Y : World) (T T' : TypeId) (c c' : Array Value) (eY : Y = W.alloc (.cells #[.slice A0 n0 c0, .slice A1 n1 c1, .slice A2 n2 c2] T)) (eX : X = (Y.alloc (.cells c T')).alloc (.cells c' T')) =>
    (show RW T X W.heap.size #[.slice A0 n0 c0, .slice A1 n1 c1, .slice A2 n2 c2] ∧ RW T' X (W.heap.size + 1 + 1) c' ∧ RW T' X (W.heap.size + 1) c ∧ Below W.heap.size W X ∧ X.heap.size = W.heap.size + 3 from by
      subst eX; subst eY
      refine ⟨((RW.new W _ T).alloc _).alloc _, ?_, ?_, ((below_alloc _ _).alloc (by simp) _).alloc (by simp; omega) _, by simp⟩
      · have := RW.new ((W.alloc (.cells #[.slice A0 n0 c0, .slice A1 n1 c1, .slice A2 n2 c2] T)).alloc (.cells c T')) c' T'
        simpa using this
      · have := (RW.new (W.alloc (.cells #[.slice A0 n0 c0, .slice A1 n1 c1, .slice A2 n2 c2] T)) c T').alloc (.cells c' T')
        simpa using this))
  show Calls Tryz.prog 43 #[.agg #[.slice A0 n0 c0, .slice A1 n1 c1, .slice A2 n2 c2]] W _
  go_enter Tryz.func43, Tryz.ntmps43
  go_wp2_with (go_at_call 80; obtain ⟨g0, g1, g4, g2, g3⟩ := HC.out _ _ _ _ _ _ rfl rfl; have HQ := toBindingS_any A0 n0 c0 x0 _ (HK0.out.go g2) HS0.out; refine Calls.mono HQ ?_; clear HQ; rintro e w1 ⟨rfl, h⟩; obtain ⟨hv, hb⟩ := h.out; have hd := hv.det; rw [g3] at hv hd; have HA1 := Lib.hid (g0.below hb (by omega)); have HR1 := Lib.hid (g1.below hb (by omega)); have HO1 := Lib.hid (g4.below hb (by omega)); have HB1 := Lib.hid (g2.trans (hb.mono g2.size)); have HV1_0 : Hid (Det (W.heap.size + 1 + 1 + 1) w1.heap.size w1 fun w => BdI w w1.heap.size (some ⟨W.heap.size + 1 + 1 + 1, 0, none⟩) n0 x0) := hd; have HG1 : Hid (W.heap.size + 3 ≤ w1.heap.size) := (by have := hb.size; show _ ≤ _; omega); clear g0 g1 g2 g3 g4 h hv hd hb HK0; have q11 : w1.cell? ⟨W.heap.size, 1, none⟩ = some (.slice A1 n1 c1) := HA1.out.cell 1; have p10 : w1.cell? ⟨W.heap.size + 1 + 1, 0, none⟩ = some (.slice none 0 0) := HR1.out.cell 0; have f10 := HR1.out.frozen 0)
  go_wp2_with (go_at_call 81; have hbs : Below (W.heap.size + 2) w1 (w1.setCell ⟨W.heap.size + 1 + 1, 0, none⟩ (.slice (some ⟨W.heap.size + 1 + 1 + 1, 0, none⟩) n0 n0)) := below_set w1 (p := ⟨W.heap.size + 1 + 1, 0, none⟩) (B := W.heap.size + 2) (Nat.le_refl _) (.slice (some ⟨W.heap.size + 1 + 1 + 1, 0, none⟩) n0 n0); have hzz : (w1.setCell ⟨W.heap.size + 1 + 1, 0, none⟩ (.slice (some ⟨W.heap.size + 1 + 1 + 1, 0, none⟩) n0 n0)).heap.size = w1.heap.size := (by simp [World.setCell]); have HQ := toFunctionS_any A1 n1 c1 x1 (w1.setCell ⟨W.heap.size + 1 + 1, 0, none⟩ (.slice (some ⟨W.heap.size + 1 + 1 + 1, 0, none⟩) n0 n0)) (HK1.out.go (HB1.out.trans (hbs.mono (by omega)))) HS1.out.1 HS1.out.2; refine Calls.mono HQ ?_; clear HQ; rintro e w2 ⟨rfl, h⟩; obtain ⟨hv, hb, hd⟩ := h.out; rw [hzz] at hb hv hd; have hsz := hb.size; rw [hzz] at hsz; have hs1 := HG1.out; have HA2 := Lib.hid ((HA1.out.below hbs (by omega)).below hb (by omega)); have HR2 := Lib.hid (((HR1.out).set_ 0 (.slice (some ⟨W.heap.size + 1 + 1 + 1, 0, none⟩) n0 n0)).below hb (by omega)); have HO2 := Lib.hid ((HO1.out.below hbs (by omega)).below hb (by omega)); have HB2 := Lib.hid ((HB1.out.trans (hbs.mono (by omega))).trans (hb.mono (by omega))); have HG2 : Hid (W.heap.size + 3 ≤ w2.heap.size) := (Nat.le_trans hs1 hsz); have HV2_1 : Hid (Det (w1.heap.size) w2.heap.size w2 fun w => FnI w w2.heap.size (some ⟨w1.heap.size, 0, none⟩) n1 x1) := hd; have HZ2 : Hid (w1.heap.size ≠ W.heap.size + 1 + 1) := (by show _ ≠ _; omega); have HV2_0 := Lib.hid (((((HV1_0.out).set (p := ⟨W.heap.size + 1 + 1, 0, none⟩) (by have := HG1.out; dsimp only; omega) (.slice (some ⟨W.heap.size + 1 + 1 + 1, 0, none⟩) n0 n0)).below hb (by omega)).wide (Nat.le_refl _) hsz).imp fun w h => h.more hsz); clear hbs hzz hb hv hd h hsz hs1 HK1; have q22 : w2.cell? ⟨W.heap.size, 2, none⟩ = some (.slice A2 n2 c2) := HA2.out.cell 2; have p21 : w2.cell? ⟨W.heap.size + 1 + 1, 1, none⟩ = some (.slice none 0 0) := HR2.out.cell 1; have f21 := HR2.out.frozen 1)
  go_wp2_with (go_at_call 82; have hbs : Below (W.heap.size + 2) w2 (w2.setCell ⟨W.heap.size + 1 + 1, 1, none⟩ (.slice (some ⟨w1.heap.size, 0, none⟩) n1 n1)) := below_set w2 (p := ⟨W.heap.size + 1 + 1, 1, none⟩) (B := W.heap.size + 2) (Nat.le_refl _) (.slice (some ⟨w1.heap.size, 0, none⟩) n1 n1); have hzz : (w2.setCell ⟨W.heap.size + 1 + 1, 1, none⟩ (.slice (some ⟨w1.heap.size, 0, none⟩) n1 n1)).heap.size = w2.heap.size := (by simp [World.setCell]); have HQ := toRecordTypeS_any A2 n2 c2 x2 (w2.setCell ⟨W.heap.size + 1 + 1, 1, none⟩ (.slice (some ⟨w1.heap.size, 0, none⟩) n1 n1)) (HK2.out.go (HB2.out.trans (hbs.mono (by omega)))) HS2.out.1 HS2.out.2; refine Calls.mono HQ ?_; clear HQ; rintro e w3 ⟨rfl, h⟩; obtain ⟨hv, hb, hd⟩ := h.out; rw [hzz] at hb hv hd; have hsz := hb.size; rw [hzz] at hsz; have hs1 := HG2.out; have HA3 := Lib.hid ((HA2.out.below hbs (by omega)).below hb (by omega)); have HR3 := Lib.hid (((HR2.out).set_ 1 (.slice (some ⟨w1.heap.size, 0, none⟩) n1 n1)).below hb (by omega)); have HO3 := Lib.hid ((HO2.out.below hbs (by omega)).below hb (by omega)); have HB3 := Lib.hid ((HB2.out.trans (hbs.mono (by omega))).trans (hb.mono (by omega))); have HG3 : Hid (W.heap.size + 3 ≤ w3.heap.size) := (Nat.le_trans hs1 hsz); have HV3_2 : Hid (Det (w2.heap.size) w3.heap.size w3 fun w => RtI w w3.heap.size (some ⟨w2.heap.size, 0, none⟩) n2 x2) := hd; have HZ3 : Hid (w2.heap.size ≠ W.heap.size + 1 + 1) := (by show _ ≠ _; omega); have HV3_0 := Lib.hid (((((HV2_0.out).set (p := ⟨W.heap.size + 1 + 1, 1, none⟩) (by have := HG2.out; dsimp only; omega) (.slice (some ⟨w1.heap.size, 0, none⟩) n1 n1)).below hb (by omega)).wide (Nat.le_refl _) hsz).imp fun w h => h.more hsz); have HV3_1 := Lib.hid (((((HV2_1.out).set (p := ⟨W.heap.size + 1 + 1, 1, none⟩) (by have := HG1.out; dsimp only; omega) (.slice (some ⟨w1.heap.size, 0, none⟩) n1 n1)).below hb (by omega)).wide (Nat.le_refl _) hsz).imp fun w h => h.more hsz); clear hbs hzz hb hv hd h hsz hs1 HK2; have p32 : w3.cell? ⟨W.heap.size + 1 + 1, 2, none⟩ = some (.slice none 0 0) := HR3.out.cell 2; have f32 := HR3.out.frozen 2; have p30 : w3.cell? ⟨W.heap.size + 1 + 1, 0, none⟩ = some (.slice (some ⟨W.heap.size + 1 + 1 + 1, 0, none⟩) n0 n0) := HR3.out.cell 0; have p31 : w3.cell? ⟨W.heap.size + 1 + 1, 1, none⟩ = some (.slice (some ⟨w1.heap.size, 0, none⟩) n1 n1) := HR3.out.cell 1; have r0 : w3.cell? ⟨W.heap.size + 1, 0, none⟩ = some (.slice none 0 0) := HO3.out.cell 0; have z0 := HO3.out.frozen 0; have r1 : w3.cell? ⟨W.heap.size + 1, 1, none⟩ = some (.slice none 0 0) := HO3.out.cell 1; have z1 := HO3.out.frozen 1; have r2 : w3.cell? ⟨W.heap.size + 1, 2, none⟩ = some (.slice none 0 0) := HO3.out.cell 2; have z2 := HO3.out.frozen 2)
  have hs1 := HG3.out
  have hb1 : Below (W.heap.size + 1) w3 ((((w3.setCell ⟨W.heap.size + 1 + 1, 2, none⟩ (.slice (some ⟨w2.heap.size, 0, none⟩) n2 n2)).setCell ⟨W.heap.size + 1, 0, none⟩ (.slice (some ⟨W.heap.size + 1 + 1 + 1, 0, none⟩) n0 n0)).setCell ⟨W.heap.size + 1, 1, none⟩ (.slice (some ⟨w1.heap.size, 0, none⟩) n1 n1)).setCell ⟨W.heap.size + 1, 2, none⟩ (.slice (some ⟨w2.heap.size, 0, none⟩) n2 n2)) := ((((below_set w3 (p := ⟨W.heap.size + 1 + 1, 2, none⟩) (by simp) _).setCell (by simp) _).setCell (by simp) _).setCell (by simp) _)
  have hzz : ((((w3.setCell ⟨W.heap.size + 1 + 1, 2, none⟩ (.slice (some ⟨w2.heap.size, 0, none⟩) n2 n2)).setCell ⟨W.heap.size + 1, 0, none⟩ (.slice (some ⟨W.heap.size + 1 + 1 + 1, 0, none⟩) n0 n0)).setCell ⟨W.heap.size + 1, 1, none⟩ (.slice (some ⟨w1.heap.size, 0, none⟩) n1 n1)).setCell ⟨W.heap.size + 1, 2, none⟩ (.slice (some ⟨w2.heap.size, 0, none⟩) n2 n2)).heap.size = w3.heap.size := by simp [World.setCell]
  refine bodyPost_ret (v := .agg #[.slice (some ⟨W.heap.size + 1 + 1 + 1, 0, none⟩) n0 n0, .slice (some ⟨w1.heap.size, 0, none⟩) n1 n1, .slice (some ⟨w2.heap.size, 0, none⟩) n2 n2]) (results_cell_row Tryz.results43 _ _ (W.heap.size + 1) 60 _ (0, 0) _ rfl ((((((((HO3.out).other (p := ⟨W.heap.size + 1 + 1, 2, none⟩) (by simp) (.slice (some ⟨w2.heap.size, 0, none⟩) n2 n2))).set_ 0 (.slice (some ⟨W.heap.size + 1 + 1 + 1, 0, none⟩) n0 n0))).set_ 1 (.slice (some ⟨w1.heap.size, 0, none⟩) n1 n1))).set_ 2 (.slice (some ⟨w2.heap.size, 0, none⟩) n2 n2)) Tryz.underlying60 rfl (by kernel_rfl)) rfl ⟨⟨some ⟨W.heap.size + 1 + 1 + 1, 0, none⟩, n0, n0, Nat.le_refl _, some ⟨w1.heap.size, 0, none⟩, n1, n1, Nat.le_refl _, some ⟨w2.heap.size, 0, none⟩, n2, n2, Nat.le_refl _⟩, rfl, Lib.hid ⟨?_, HB3.out.trans (hb1.mono (by omega))⟩⟩
  show Det W.heap.size ((((w3.setCell ⟨W.heap.size + 1 + 1, 2, none⟩ (.slice (some ⟨w2.heap.size, 0, none⟩) n2 n2)).setCell ⟨W.heap.size + 1, 0, none⟩ (.slice (some ⟨W.heap.size + 1 + 1 + 1, 0, none⟩) n0 n0)).setCell ⟨W.heap.size + 1, 1, none⟩ (.slice (some ⟨w1.heap.size, 0, none⟩) n1 n1)).setCell ⟨W.heap.size + 1, 2, none⟩ (.slice (some ⟨w2.heap.size, 0, none⟩) n2 n2)).heap.size ((((w3.setCell ⟨W.heap.size + 1 + 1, 2, none⟩ (.slice (some ⟨w2.heap.size, 0, none⟩) n2 n2)).setCell ⟨W.heap.size + 1, 0, none⟩ (.slice (some ⟨W.heap.size + 1 + 1 + 1, 0, none⟩) n0 n0)).setCell ⟨W.heap.size + 1, 1, none⟩ (.slice (some ⟨w1.heap.size, 0, none⟩) n1 n1)).setCell ⟨W.heap.size + 1, 2, none⟩ (.slice (some ⟨w2.heap.size, 0, none⟩) n2 n2)) (fun w => ScV w ((((w3.setCell ⟨W.heap.size + 1 + 1, 2, none⟩ (.slice (some ⟨w2.heap.size, 0, none⟩) n2 n2)).setCell ⟨W.heap.size + 1, 0, none⟩ (.slice (some ⟨W.heap.size + 1 + 1 + 1, 0, none⟩) n0 n0)).setCell ⟨W.heap.size + 1, 1, none⟩ (.slice (some ⟨w1.heap.size, 0, none⟩) n1 n1)).setCell ⟨W.heap.size + 1, 2, none⟩ (.slice (some ⟨w2.heap.size, 0, none⟩) n2 n2)).heap.size ⟨x0, x1, x2⟩ ⟨some ⟨W.heap.size + 1 + 1 + 1, 0, none⟩, n0, n0, Nat.le_refl _, some ⟨w1.heap.size, 0, none⟩, n1, n1, Nat.le_refl _, some ⟨w2.heap.size, 0, none⟩, n2, n2, Nat.le_refl _⟩)
  rw [hzz]
  exact fun w' k => ⟨((((((((HV3_0.out).set (p := ⟨W.heap.size + 1 + 1, 2, none⟩) (by first | (dsimp only; omega) | omega) _)).set (p := ⟨W.heap.size + 1, 0, none⟩) (by first | (dsimp only; omega) | omega) _)).set (p := ⟨W.heap.size + 1, 1, none⟩) (by first | (dsimp only; omega) | omega) _)).set (p := ⟨W.heap.size + 1, 2, none⟩) (by first | (dsimp only; omega) | omega) _) w' (fun g h1 h2 => k g (by have := HG1.out; have := HG2.out; have := HG3.out; omega) h2), ((((((((HV3_1.out).set (p := ⟨W.heap.size + 1 + 1, 2, none⟩) (by have := HG1.out; first | (dsimp only; omega) | omega) _)).set (p := ⟨W.heap.size + 1, 0, none⟩) (by have := HG1.out; first | (dsimp only; omega) | omega) _)).set (p := ⟨W.heap.size + 1, 1, none⟩) (by have := HG1.out; first | (dsimp only; omega) | omega) _)).set (p := ⟨W.heap.size + 1, 2, none⟩) (by have := HG1.out; first | (dsimp only; omega) | omega) _) w' (fun g h1 h2 => k g (by have := HG1.out; have := HG2.out; have := HG3.out; omega) h2), ((((((((HV3_2.out).set (p := ⟨W.heap.size + 1 + 1, 2, none⟩) (by have := HG2.out; first | (dsimp only; omega) | omega) _)).set (p := ⟨W.heap.size + 1, 0, none⟩) (by have := HG2.out; first | (dsimp only; omega) | omega) _)).set (p := ⟨W.heap.size + 1, 1, none⟩) (by have := HG2.out; first | (dsimp only; omega) | omega) _)).set (p := ⟨W.heap.size + 1, 2, none⟩) (by have := HG2.out; first | (dsimp only; omega) | omega) _) w' (fun g h1 h2 => k g (by have := HG1.out; have := HG2.out; have := HG3.out; omega) h2)⟩

end Go.Proofs.YtfcpdjfckeoniaaGreatDoor

namespace Go.Proofs.YtfcpdjfckeoniaaGreatDoor
open Go Go.RowKit

/-- What toConsole answers. -/
def ToCnD (x : Cn) (W : World) (e : Ending) (w' : World) : Prop := ∃ l, e = .returned (x.ag l) ∧ Hid (Det W.heap.size w'.heap.size w' (fun w => CnV w w'.heap.size x l) ∧ Below W.heap.size W w')

set_option maxHeartbeats 2000000 in
set_option maxRecDepth 100000 in
theorem toConsole_det (x : Cn) (l : CnLay) (W : World) (ho : CnV W W.heap.size x l) (hsm : CnSmall x) :
    Calls Tryz.prog 8 #[x.ag l] W (ToCnD x W) := by
  obtain ⟨x0, x1, x2, x3, x4⟩ := x
  obtain ⟨A0, n0, c0, h0, A2, n2, c2, h2, A3, n3, c3, h3, A4, n4, c4, h4⟩ := l
  obtain ⟨k0, k2, k3, k4⟩ := ho
  obtain ⟨s0, s2, s3, s4⟩ := hsm
  try unfold CnV at k0 k2 k3 k4
  try unfold CnSmall at s0 s2 s3 s4
  dsimp only at k0 k2 k3 k4 s0 s2 s3 s4
  rw [k0.1] at s0
  have HK0 := Lib.hid k0
  have HS0 := Lib.hid s0
  rw [k2.1] at s2
  have HK2 := Lib.hid k2
  have HS2 := Lib.hid s2
  rw [k3.1] at s3
  have HK3 := Lib.hid k3
  have HS3 := Lib.hid s3
  rw [k4.1] at s4
  have HK4 := Lib.hid k4
  have HS4 := Lib.hid s4
  clear k0 k2 k3 k4 s0 s2 s3 s4
  have HC := Lib.hid (fun (X Y : World) (T T' : TypeId) (c c' : Array Value) (eY : Y = W.alloc (.cells #[.slice A0 n0 c0, .int .i64 x1, .slice A2 n2 c2, .slice A3 n3 c3, .slice A4 n4 c4] T)) (eX : X = (Y.alloc (.cells c T')).alloc (.cells c' T')) =>
    (show RW T X W.heap.size #[.slice A0 n0 c0, .int .i64 x1, .slice A2 n2 c2, .slice A3 n3 c3, .slice A4 n4 c4] ∧ RW T' X (W.heap.size + 1 + 1) c' ∧ RW T' X (W.heap.size + 1) c ∧ Below W.heap.size W X ∧ X.heap.size = W.heap.size + 3 from by
      subst eX; subst eY
      refine ⟨((RW.new W _ T).alloc _).alloc _, ?_, ?_, ((below_alloc _ _).alloc (by simp) _).alloc (by simp; omega) _, by simp⟩
      · have := RW.new ((W.alloc (.cells #[.slice A0 n0 c0, .int .i64 x1, .slice A2 n2 c2, .slice A3 n3 c3, .slice A4 n4 c4] T)).alloc (.cells c T')) c' T'
        simpa using this
      · have := (RW.new (W.alloc (.cells #[.slice A0 n0 c0, .int .i64 x1, .slice A2 n2 c2, .slice A3 n3 c3, .slice A4 n4 c4] T)) c T').alloc (.cells c' T')
        simpa using this))
  show Calls Tryz.prog 8 #[.agg #[.slice A0 n0 c0, .int .i64 x1, .slice A2 n2 c2, .slice A3 n3 c3, .slice A4 n4 c4]] W _
  go_enter Tryz.func8, Tryz.ntmps8
  go_wp2_with (go_at_call 24; obtain ⟨g0, g1, g4, g2, g3⟩ := HC.out _ _ _ _ _ _ rfl rfl; have HQ := toStringS_any A0 n0 c0 x0 _ (HK0.out.go g2) HS0.out; refine Calls.mono HQ ?_; clear HQ; rintro e w1 ⟨rfl, h⟩; obtain ⟨hv, hb⟩ := h.out; have hd := hv.det; rw [g3] at hv hd; have HA1 := Lib.hid (g0.below hb (by omega)); have HR1 := Lib.hid (g1.below hb (by omega)); have HO1 := Lib.hid (g4.below hb (by omega)); have HB1 := Lib.hid (g2.trans (hb.mono g2.size)); have HV1_0 : Hid (Det (W.heap.size + 1 + 1 + 1) w1.heap.size w1 fun w => StI w w1.heap.size (some ⟨W.heap.size + 1 + 1 + 1, 0, none⟩) n0 x0) := hd; have HG1 : Hid (W.heap.size + 3 ≤ w1.heap.size) := (by have := hb.size; show _ ≤ _; omega); clear g0 g1 g2 g3 g4 h hv hd hb HK0; have q11 : w1.cell? ⟨W.heap.size, 1, none⟩ = some (.int .i64 x1) := HA1.out.cell 1; have q12 : w1.cell? ⟨W.heap.size, 2, none⟩ = some (.slice A2 n2 c2) := HA1.out.cell 2; have p10 : w1.cell? ⟨W.heap.size + 1 + 1, 0, none⟩ = some (.slice none 0 0) := HR1.out.cell 0; have f10 := HR1.out.frozen 0; have p11 : w1.cell? ⟨W.heap.size + 1 + 1, 1, none⟩ = some (.int .i64 0) := HR1.out.cell 1; have f11 := HR1.out.frozen 1)
  go_wp2_with (go_at_call 24; have hbs : Below (W.heap.size + 2) w1 ((w1.setCell ⟨W.heap.size + 1 + 1, 0, none⟩ (.slice (some ⟨W.heap.size + 1 + 1 + 1, 0, none⟩) n0 n0)).setCell ⟨W.heap.size + 1 + 1, 1, none⟩ (.int .i64 x1)) := (below_set w1 (p := ⟨W.heap.size + 1 + 1, 0, none⟩) (B := W.heap.size + 2) (Nat.le_refl _) (.slice (some ⟨W.heap.size + 1 + 1 + 1, 0, none⟩) n0 n0)).setCell (Nat.le_refl _) (.int .i64 x1); have hzz : ((w1.setCell ⟨W.heap.size + 1 + 1, 0, none⟩ (.slice (some ⟨W.heap.size + 1 + 1 + 1, 0, none⟩) n0 n0)).setCell ⟨W.heap.size + 1 + 1, 1, none⟩ (.int .i64 x1)).heap.size = w1.heap.size := (by simp [World.setCell]); have HQ := toStringS_any A2 n2 c2 x2 ((w1.setCell ⟨W.heap.size + 1 + 1, 0, none⟩ (.slice (some ⟨W.heap.size + 1 + 1 + 1, 0, none⟩) n0 n0)).setCell ⟨W.heap.size + 1 + 1, 1, none⟩ (.int .i64 x1)) (HK2.out.go (HB1.out.trans (hbs.mono (by omega)))) HS2.out; refine Calls.mono HQ ?_; clear HQ; rintro e w2 ⟨rfl, h⟩; obtain ⟨hv, hb⟩ := h.out; have hd := hv.det; rw [hzz] at hb hv hd; have hsz := hb.size; rw [hzz] at hsz; have hs1 := HG1.out; have HA2 := Lib.hid ((HA1.out.below hbs (by omega)).below hb (by omega)); have HR2 := Lib.hid ((((HR1.out).set_ 0 (.slice (some ⟨W.heap.size + 1 + 1 + 1, 0, none⟩) n0 n0)).set_ 1 (.int .i64 x1)).below hb (by omega)); have HO2 := Lib.hid ((HO1.out.below hbs (by omega)).below hb (by omega)); have HB2 := Lib.hid ((HB1.out.trans (hbs.mono (by omega))).trans (hb.mono (by omega))); have HG2 : Hid (W.heap.size + 3 ≤ w2.heap.size) := (Nat.le_trans hs1 hsz); have HV2_2 : Hid (Det (w1.heap.size) w2.heap.size w2 fun w => StI w w2.heap.size (some ⟨w1.heap.size, 0, none⟩) n2 x2) := hd; have HZ2 : Hid (w1.heap.size ≠ W.heap.size + 1 + 1) := (by show _ ≠ _; omega); have HV2_0 := Lib.hid ((((((HV1_0.out).set (p := ⟨W.heap.size + 1 + 1, 0, none⟩) (by have := HG1.out; dsimp only; omega) (.slice (some ⟨W.heap.size + 1 + 1 + 1, 0, none⟩) n0 n0)).set (p := ⟨W.heap.size + 1 + 1, 1, none⟩) (by have := HG1.out; dsimp only; omega) (.int .i64 x1)).below hb (by omega)).wide (Nat.le_refl _) hsz).imp fun w h => h.more hsz); clear hbs hzz hb hv hd h hsz hs1 HK2; have q23 : w2.cell? ⟨W.heap.size, 3, none⟩ = some (.slice A3 n3 c3) := HA2.out.cell 3; have p22 : w2.cell? ⟨W.heap.size + 1 + 1, 2, none⟩ = some (.slice none 0 0) := HR2.out.cell 2; have f22 := HR2.out.frozen 2)
  go_wp2_with (go_at_call 25; have hbs : Below (W.heap.size + 2) w2 (w2.setCell ⟨W.heap.size + 1 + 1, 2, none⟩ (.slice (some ⟨w1.heap.size, 0, none⟩) n2 n2)) := below_set w2 (p := ⟨W.heap.size + 1 + 1, 2, none⟩) (B := W.heap.size + 2) (Nat.le_refl _) (.slice (some ⟨w1.heap.size, 0, none⟩) n2 n2); have hzz : (w2.setCell ⟨W.heap.size + 1 + 1, 2, none⟩ (.slice (some ⟨w1.heap.size, 0, none⟩) n2 n2)).heap.size = w2.heap.size := (by simp [World.setCell]); have HQ := toFileS_any A3 n3 c3 x3 (w2.setCell ⟨W.heap.size + 1 + 1, 2, none⟩ (.slice (some ⟨w1.heap.size, 0, none⟩) n2 n2)) (HK3.out.go (HB2.out.trans (hbs.mono (by omega)))) HS3.out.1 HS3.out.2; refine Calls.mono HQ ?_; clear HQ; rintro e w3 ⟨rfl, h⟩; obtain ⟨hv, hb, hd⟩ := h.out; rw [hzz] at hb hv hd; have hsz := hb.size; rw [hzz] at hsz; have hs1 := HG2.out; have HA3 := Lib.hid ((HA2.out.below hbs (by omega)).below hb (by omega)); have HR3 := Lib.hid (((HR2.out).set_ 2 (.slice (some ⟨w1.heap.size, 0, none⟩) n2 n2)).below hb (by omega)); have HO3 := Lib.hid ((HO2.out.below hbs (by omega)).below hb (by omega)); have HB3 := Lib.hid ((HB2.out.trans (hbs.mono (by omega))).trans (hb.mono (by omega))); have HG3 : Hid (W.heap.size + 3 ≤ w3.heap.size) := (Nat.le_trans hs1 hsz); have HV3_3 : Hid (Det (w2.heap.size) w3.heap.size w3 fun w => FlI w w3.heap.size (some ⟨w2.heap.size, 0, none⟩) n3 x3) := hd; have HZ3 : Hid (w2.heap.size ≠ W.heap.size + 1 + 1) := (by show _ ≠ _; omega); have HV3_0 := Lib.hid (((((HV2_0.out).set (p := ⟨W.heap.size + 1 + 1, 2, none⟩) (by have := HG2.out; dsimp only; omega) (.slice (some ⟨w1.heap.size, 0, none⟩) n2 n2)).below hb (by omega)).wide (Nat.le_refl _) hsz).imp fun w h => h.more hsz); have HV3_2 := Lib.hid (((((HV2_2.out).set (p := ⟨W.heap.size + 1 + 1, 2, none⟩) (by have := HG1.out; dsimp only; omega) (.slice (some ⟨w1.heap.size, 0, none⟩) n2 n2)).below hb (by omega)).wide (Nat.le_refl _) hsz).imp fun w h => h.more hsz); clear hbs hzz hb hv hd h hsz hs1 HK3; have q34 : w3.cell? ⟨W.heap.size, 4, none⟩ = some (.slice A4 n4 c4) := HA3.out.cell 4; have p33 : w3.cell? ⟨W.heap.size + 1 + 1, 3, none⟩ = some (.slice none 0 0) := HR3.out.cell 3; have f33 := HR3.out.frozen 3)
  go_wp2_with (go_at_call 24; have hbs : Below (W.heap.size + 2) w3 (w3.setCell ⟨W.heap.size + 1 + 1, 3, none⟩ (.slice (some ⟨w2.heap.size, 0, none⟩) n3 n3)) := below_set w3 (p := ⟨W.heap.size + 1 + 1, 3, none⟩) (B := W.heap.size + 2) (Nat.le_refl _) (.slice (some ⟨w2.heap.size, 0, none⟩) n3 n3); have hzz : (w3.setCell ⟨W.heap.size + 1 + 1, 3, none⟩ (.slice (some ⟨w2.heap.size, 0, none⟩) n3 n3)).heap.size = w3.heap.size := (by simp [World.setCell]); have HQ := toStringS_any A4 n4 c4 x4 (w3.setCell ⟨W.heap.size + 1 + 1, 3, none⟩ (.slice (some ⟨w2.heap.size, 0, none⟩) n3 n3)) (HK4.out.go (HB3.out.trans (hbs.mono (by omega)))) HS4.out; refine Calls.mono HQ ?_; clear HQ; rintro e w4 ⟨rfl, h⟩; obtain ⟨hv, hb⟩ := h.out; have hd := hv.det; rw [hzz] at hb hv hd; have hsz := hb.size; rw [hzz] at hsz; have hs1 := HG3.out; have HA4 := Lib.hid ((HA3.out.below hbs (by omega)).below hb (by omega)); have HR4 := Lib.hid (((HR3.out).set_ 3 (.slice (some ⟨w2.heap.size, 0, none⟩) n3 n3)).below hb (by omega)); have HO4 := Lib.hid ((HO3.out.below hbs (by omega)).below hb (by omega)); have HB4 := Lib.hid ((HB3.out.trans (hbs.mono (by omega))).trans (hb.mono (by omega))); have HG4 : Hid (W.heap.size + 3 ≤ w4.heap.size) := (Nat.le_trans hs1 hsz); have HV4_4 : Hid (Det (w3.heap.size) w4.heap.size w4 fun w => StI w w4.heap.size (some ⟨w3.heap.size, 0, none⟩) n4 x4) := hd; have HZ4 : Hid (w3.heap.size ≠ W.heap.size + 1 + 1) := (by show _ ≠ _; omega); have HV4_0 := Lib.hid (((((HV3_0.out).set (p := ⟨W.heap.size + 1 + 1, 3, none⟩) (by have := HG3.out; dsimp only; omega) (.slice (some ⟨w2.heap.size, 0, none⟩) n3 n3)).below hb (by omega)).wide (Nat.le_refl _) hsz).imp fun w h => h.more hsz); have HV4_2 := Lib.hid (((((HV3_2.out).set (p := ⟨W.heap.size + 1 + 1, 3, none⟩) (by have := HG1.out; dsimp only; omega) (.slice (some ⟨w2.heap.size, 0, none⟩) n3 n3)).below hb (by omega)).wide (Nat.le_refl _) hsz).imp fun w h => h.more hsz); have HV4_3 := Lib.hid (((((HV3_3.out).set (p := ⟨W.heap.size + 1 + 1, 3, none⟩) (by have := HG2.out; dsimp only; omega) (.slice (some ⟨w2.heap.size, 0, none⟩) n3 n3)).below hb (by omega)).wide (Nat.le_refl _) hsz).imp fun w h => h.more hsz); clear hbs hzz hb hv hd h hsz hs1 HK4; have p44 : w4.cell? ⟨W.heap.size + 1 + 1, 4, none⟩ = some (.slice none 0 0) := HR4.out.cell 4; have f44 := HR4.out.frozen 4; have p40 : w4.cell? ⟨W.heap.size + 1 + 1, 0, none⟩ = some (.slice (some ⟨W.heap.size + 1 + 1 + 1, 0, none⟩) n0 n0) := HR4.out.cell 0; have p41 : w4.cell? ⟨W.heap.size + 1 + 1, 1, none⟩ = some (.int .i64 x1) := HR4.out.cell 1; have p42 : w4.cell? ⟨W.heap.size + 1 + 1, 2, none⟩ = some (.slice (some ⟨w1.heap.size, 0, none⟩) n2 n2) := HR4.out.cell 2; have p43 : w4.cell? ⟨W.heap.size + 1 + 1, 3, none⟩ = some (.slice (some ⟨w2.heap.size, 0, none⟩) n3 n3) := HR4.out.cell 3; have r0 : w4.cell? ⟨W.heap.size + 1, 0, none⟩ = some (.slice none 0 0) := HO4.out.cell 0; have z0 := HO4.out.frozen 0; have r1 : w4.cell? ⟨W.heap.size + 1, 1, none⟩ = some (.int .i64 0) := HO4.out.cell 1; have z1 := HO4.out.frozen 1; have r2 : w4.cell? ⟨W.heap.size + 1, 2, none⟩ = some (.slice none 0 0) := HO4.out.cell 2; have z2 := HO4.out.frozen 2; have r3 : w4.cell? ⟨W.heap.size + 1, 3, none⟩ = some (.slice none 0 0) := HO4.out.cell 3; have z3 := HO4.out.frozen 3; have r4 : w4.cell? ⟨W.heap.size + 1, 4, none⟩ = some (.slice none 0 0) := HO4.out.cell 4; have z4 := HO4.out.frozen 4)
  have hs1 := HG4.out
  have hb1 : Below (W.heap.size + 1) w4 ((((((w4.setCell ⟨W.heap.size + 1 + 1, 4, none⟩ (.slice (some ⟨w3.heap.size, 0, none⟩) n4 n4)).setCell ⟨W.heap.size + 1, 0, none⟩ (.slice (some ⟨W.heap.size + 1 + 1 + 1, 0, none⟩) n0 n0)).setCell ⟨W.heap.size + 1, 1, none⟩ (.int .i64 x1)).setCell ⟨W.heap.size + 1, 2, none⟩ (.slice (some ⟨w1.heap.size, 0, none⟩) n2 n2)).setCell ⟨W.heap.size + 1, 3, none⟩ (.slice (some ⟨w2.heap.size, 0, none⟩) n3 n3)).setCell ⟨W.heap.size + 1, 4, none⟩ (.slice (some ⟨w3.heap.size, 0, none⟩) n4 n4)) := ((((((below_set w4 (p := ⟨W.heap.size + 1 + 1, 4, none⟩) (by simp) _).setCell (by simp) _).setCell (by simp) _).setCell (by simp) _).setCell (by simp) _).setCell (by simp) _)
  have hzz : ((((((w4.setCell ⟨W.heap.size + 1 + 1, 4, none⟩ (.slice (some ⟨w3.heap.size, 0, none⟩) n4 n4)).setCell ⟨W.heap.size + 1, 0, none⟩ (.slice (some ⟨W.heap.size + 1 + 1 + 1, 0, none⟩) n0 n0)).setCell ⟨W.heap.size + 1, 1, none⟩ (.int .i64 x1)).setCell ⟨W.heap.size + 1, 2, none⟩ (.slice (some ⟨w1.heap.size, 0, none⟩) n2 n2)).setCell ⟨W.heap.size + 1, 3, none⟩ (.slice (some ⟨w2.heap.size, 0, none⟩) n3 n3)).setCell ⟨W.heap.size + 1, 4, none⟩ (.slice (some ⟨w3.heap.size, 0, none⟩) n4 n4)).heap.size = w4.heap.size := by simp [World.setCell]
  refine bodyPost_ret (v := .agg #[.slice (some ⟨W.heap.size + 1 + 1 + 1, 0, none⟩) n0 n0, .int .i64 x1, .slice (some ⟨w1.heap.size, 0, none⟩) n2 n2, .slice (some ⟨w2.heap.size, 0, none⟩) n3 n3, .slice (some ⟨w3.heap.size, 0, none⟩) n4 n4]) (results_cell_row Tryz.results8 _ _ (W.heap.size + 1) 32 _ (0, 0) _ rfl ((((((((((((HO4.out).other (p := ⟨W.heap.size + 1 + 1, 4, none⟩) (by simp) (.slice (some ⟨w3.heap.size, 0, none⟩) n4 n4))).set_ 0 (.slice (some ⟨W.heap.size + 1 + 1 + 1, 0, none⟩) n0 n0))).set_ 1 (.int .i64 x1))).set_ 2 (.slice (some ⟨w1.heap.size, 0, none⟩) n2 n2))).set_ 3 (.slice (some ⟨w2.heap.size, 0, none⟩) n3 n3))).set_ 4 (.slice (some ⟨w3.heap.size, 0, none⟩) n4 n4)) Tryz.underlying32 rfl (by kernel_rfl)) rfl ⟨⟨some ⟨W.heap.size + 1 + 1 + 1, 0, none⟩, n0, n0, Nat.le_refl _, some ⟨w1.heap.size, 0, none⟩, n2, n2, Nat.le_refl _, some ⟨w2.heap.size, 0, none⟩, n3, n3, Nat.le_refl _, some ⟨w3.heap.size, 0, none⟩, n4, n4, Nat.le_refl _⟩, rfl, Lib.hid ⟨?_, HB4.out.trans (hb1.mono (by omega))⟩⟩
  show Det W.heap.size ((((((w4.setCell ⟨W.heap.size + 1 + 1, 4, none⟩ (.slice (some ⟨w3.heap.size, 0, none⟩) n4 n4)).setCell ⟨W.heap.size + 1, 0, none⟩ (.slice (some ⟨W.heap.size + 1 + 1 + 1, 0, none⟩) n0 n0)).setCell ⟨W.heap.size + 1, 1, none⟩ (.int .i64 x1)).setCell ⟨W.heap.size + 1, 2, none⟩ (.slice (some ⟨w1.heap.size, 0, none⟩) n2 n2)).setCell ⟨W.heap.size + 1, 3, none⟩ (.slice (some ⟨w2.heap.size, 0, none⟩) n3 n3)).setCell ⟨W.heap.size + 1, 4, none⟩ (.slice (some ⟨w3.heap.size, 0, none⟩) n4 n4)).heap.size ((((((w4.setCell ⟨W.heap.size + 1 + 1, 4, none⟩ (.slice (some ⟨w3.heap.size, 0, none⟩) n4 n4)).setCell ⟨W.heap.size + 1, 0, none⟩ (.slice (some ⟨W.heap.size + 1 + 1 + 1, 0, none⟩) n0 n0)).setCell ⟨W.heap.size + 1, 1, none⟩ (.int .i64 x1)).setCell ⟨W.heap.size + 1, 2, none⟩ (.slice (some ⟨w1.heap.size, 0, none⟩) n2 n2)).setCell ⟨W.heap.size + 1, 3, none⟩ (.slice (some ⟨w2.heap.size, 0, none⟩) n3 n3)).setCell ⟨W.heap.size + 1, 4, none⟩ (.slice (some ⟨w3.heap.size, 0, none⟩) n4 n4)) (fun w => CnV w ((((((w4.setCell ⟨W.heap.size + 1 + 1, 4, none⟩ (.slice (some ⟨w3.heap.size, 0, none⟩) n4 n4)).setCell ⟨W.heap.size + 1, 0, none⟩ (.slice (some ⟨W.heap.size + 1 + 1 + 1, 0, none⟩) n0 n0)).setCell ⟨W.heap.size + 1, 1, none⟩ (.int .i64 x1)).setCell ⟨W.heap.size + 1, 2, none⟩ (.slice (some ⟨w1.heap.size, 0, none⟩) n2 n2)).setCell ⟨W.heap.size + 1, 3, none⟩ (.slice (some ⟨w2.heap.size, 0, none⟩) n3 n3)).setCell ⟨W.heap.size + 1, 4, none⟩ (.slice (some ⟨w3.heap.size, 0, none⟩) n4 n4)).heap.size ⟨x0, x1, x2, x3, x4⟩ ⟨some ⟨W.heap.size + 1 + 1 + 1, 0, none⟩, n0, n0, Nat.le_refl _, some ⟨w1.heap.size, 0, none⟩, n2, n2, Nat.le_refl _, some ⟨w2.heap.size, 0, none⟩, n3, n3, Nat.le_refl _, some ⟨w3.heap.size, 0, none⟩, n4, n4, Nat.le_refl _⟩)
  rw [hzz]
  exact fun w' k => ⟨((((((((((((HV4_0.out).set (p := ⟨W.heap.size + 1 + 1, 4, none⟩) (by first | (dsimp only; omega) | omega) _)).set (p := ⟨W.heap.size + 1, 0, none⟩) (by first | (dsimp only; omega) | omega) _)).set (p := ⟨W.heap.size + 1, 1, none⟩) (by first | (dsimp only; omega) | omega) _)).set (p := ⟨W.heap.size + 1, 2, none⟩) (by first | (dsimp only; omega) | omega) _)).set (p := ⟨W.heap.size + 1, 3, none⟩) (by first | (dsimp only; omega) | omega) _)).set (p := ⟨W.heap.size + 1, 4, none⟩) (by first | (dsimp only; omega) | omega) _) w' (fun g h1 h2 => k g (by have := HG1.out; have := HG2.out; have := HG3.out; have := HG4.out; omega) h2), ((((((((((((HV4_2.out).set (p := ⟨W.heap.size + 1 + 1, 4, none⟩) (by have := HG1.out; first | (dsimp only; omega) | omega) _)).set (p := ⟨W.heap.size + 1, 0, none⟩) (by have := HG1.out; first | (dsimp only; omega) | omega) _)).set (p := ⟨W.heap.size + 1, 1, none⟩) (by have := HG1.out; first | (dsimp only; omega) | omega) _)).set (p := ⟨W.heap.size + 1, 2, none⟩) (by have := HG1.out; first | (dsimp only; omega) | omega) _)).set (p := ⟨W.heap.size + 1, 3, none⟩) (by have := HG1.out; first | (dsimp only; omega) | omega) _)).set (p := ⟨W.heap.size + 1, 4, none⟩) (by have := HG1.out; first | (dsimp only; omega) | omega) _) w' (fun g h1 h2 => k g (by have := HG1.out; have := HG2.out; have := HG3.out; have := HG4.out; omega) h2), ((((((((((((HV4_3.out).set (p := ⟨W.heap.size + 1 + 1, 4, none⟩) (by have := HG2.out; first | (dsimp only; omega) | omega) _)).set (p := ⟨W.heap.size + 1, 0, none⟩) (by have := HG2.out; first | (dsimp only; omega) | omega) _)).set (p := ⟨W.heap.size + 1, 1, none⟩) (by have := HG2.out; first | (dsimp only; omega) | omega) _)).set (p := ⟨W.heap.size + 1, 2, none⟩) (by have := HG2.out; first | (dsimp only; omega) | omega) _)).set (p := ⟨W.heap.size + 1, 3, none⟩) (by have := HG2.out; first | (dsimp only; omega) | omega) _)).set (p := ⟨W.heap.size + 1, 4, none⟩) (by have := HG2.out; first | (dsimp only; omega) | omega) _) w' (fun g h1 h2 => k g (by have := HG1.out; have := HG2.out; have := HG3.out; have := HG4.out; omega) h2), ((((((((((((HV4_4.out).set (p := ⟨W.heap.size + 1 + 1, 4, none⟩) (by have := HG3.out; first | (dsimp only; omega) | omega) _)).set (p := ⟨W.heap.size + 1, 0, none⟩) (by have := HG3.out; first | (dsimp only; omega) | omega) _)).set (p := ⟨W.heap.size + 1, 1, none⟩) (by have := HG3.out; first | (dsimp only; omega) | omega) _)).set (p := ⟨W.heap.size + 1, 2, none⟩) (by have := HG3.out; first | (dsimp only; omega) | omega) _)).set (p := ⟨W.heap.size + 1, 3, none⟩) (by have := HG3.out; first | (dsimp only; omega) | omega) _)).set (p := ⟨W.heap.size + 1, 4, none⟩) (by have := HG3.out; first | (dsimp only; omega) | omega) _) w' (fun g h1 h2 => k g (by have := HG1.out; have := HG2.out; have := HG3.out; have := HG4.out; omega) h2)⟩


end Go.Proofs.YtfcpdjfckeoniaaGreatDoor

namespace Go.Proofs.YtfcpdjfckeoniaaGreatDoor
open Go Go.RowKit

theorem putL_mid : ∀ (vs b a c : List Value), b.length = vs.length → putL (a ++ (b ++ c)).toArray a.length vs = (a ++ (vs ++ c)).toArray
  | [], b, a, c, h => by rw [List.eq_nil_of_length_eq_zero h]; rfl
  | v :: r, [], a, c, h => by simp at h
  | v :: r, u :: b, a, c, h => by
    have e : ((a ++ (u :: b ++ c)).toArray).setIfInBounds a.length v = ((a ++ [v]) ++ (b ++ c)).toArray := by simp
    have := putL_mid r b (a ++ [v]) c (by simpa using h)
    rw [List.length_append, List.length_singleton] at this
    rw [putL, e, this]
    simp
end Go.Proofs.YtfcpdjfckeoniaaGreatDoor

namespace Go.Proofs.YtfcpdjfckeoniaaGreatDoor
open Go Go.RowKit

theorem FilledO.fars {g j n b : Nat} {os : List Ob} (hb : b < g) : ∀ (vs : List Value) (w : World) (i : Nat), FilledO w g j n os → FilledO (w.setCells b i vs) g j n os
  | [], _, _, h => h
  | v :: r, w, i, h => FilledO.fars hb r (w.setCell ⟨b, i, none⟩ v) (i + 1) (h.far hb v)
theorem Det.sets {a b g : Nat} {P : World → Prop} (hg : g < a) : ∀ (vs : List Value) (w : World) (i : Nat), Det a b w P → Det a b (w.setCells g i vs) P
  | [], _, _, h => h
  | v :: r, w, i, h => Det.sets hg r (w.setCell ⟨g, i, none⟩ v) (i + 1) (h.set (p := ⟨g, i, none⟩) hg v)
theorem size_setsMe (vs : List Value) (w : World) (g k : Nat) : (w.setCells g k vs).heap.size = w.heap.size := by
  induction vs generalizing w k with
  | nil => rfl
  | cons v r ih => exact (ih _ _).trans (size_set _ _ _)
theorem row_of {T : TypeId} {w : World} {g o : Nat} {cs cs' : Array Value} {vs : List Value} (h : RW T w g cs) (e : putL cs o vs = cs') : RW T (w.setCells g o vs) g cs' := by rw [← e]; exact h.cells
/-- What toMemory answers. -/
def ToMe (x : Me) (W : World) (e : Ending) (w' : World) : Prop := ∃ l, e = .returned (x.ag l) ∧ Hid (MeV w' w'.heap.size x l ∧ Below W.heap.size W w' ∧ ∃ g, l.A1 = some ⟨g, 0, none⟩)

set_option maxHeartbeats 1000000 in
set_option maxRecDepth 100000 in
theorem toMemory_any (x : Me) (l : MeLay) (W : World) (ho : MeV W W.heap.size x l) (hsm : MeSmall x) :
    Calls Tryz.prog 16 #[x.ag l] W (ToMe x W) := by
  obtain ⟨x0, x1, x2, x3, x4, x5, x6, x7, x8, x9⟩ := x
  obtain ⟨A1, n1, c1, h1, A2, n2, c2, h2, A3, n3, c3, h3, A4, n4, c4, h4, A5, n5, c5, h5, A7, n7, c7, h7, A8, n8, c8, h8, A9, n9, c9, h9⟩ := l
  obtain ⟨k0, k1, k2⟩ := ho
  obtain ⟨s0, s1, s2, s3⟩ := hsm
  dsimp only at k0 k1 k2 s0 s1 s2 s3
  have HN1 := Lib.hid k0.1
  have HM1 := Lib.hid k0.2.1
  have HQ0 := Lib.hid (fun (w : World) (hb : Below W.heap.size W w) => toHeap_far x0 A1 n1 c1 x1 w (k0.go hb) s0 (by rw [← k0.1]; exact s1))
  have HQ1 := Lib.hid (fun (w : World) (hb : Below W.heap.size W w) => toScope_det ⟨x2, x3, x4⟩ ⟨A2, n2, c2, h2, A3, n3, c3, h3, A4, n4, c4, h4⟩ w (k1.go hb) s2)
  have HQ2 := Lib.hid (fun (w : World) (hb : Below W.heap.size W w) => toConsole_det ⟨x5, x6, x7, x8, x9⟩ ⟨A5, n5, c5, h5, A7, n7, c7, h7, A8, n8, c8, h8, A9, n9, c9, h9⟩ w (k2.go hb) s3)
  clear k0 k1 k2 s0 s1 s2 s3
  have HC := Lib.hid (fun (X Y : World) (T T' : TypeId) (c c' : Array Value) (eY : Y = W.alloc (.cells #[.int .i64 x0, .slice A1 n1 c1, .slice A2 n2 c2, .slice A3 n3 c3, .slice A4 n4 c4, .slice A5 n5 c5, .int .i64 x6, .slice A7 n7 c7, .slice A8 n8 c8, .slice A9 n9 c9] T)) (eX : X = (Y.alloc (.cells c T')).alloc (.cells c' T')) =>
    (show RW T X W.heap.size #[.int .i64 x0, .slice A1 n1 c1, .slice A2 n2 c2, .slice A3 n3 c3, .slice A4 n4 c4, .slice A5 n5 c5, .int .i64 x6, .slice A7 n7 c7, .slice A8 n8 c8, .slice A9 n9 c9] ∧ RW T' X (W.heap.size + 1 + 1) c' ∧ RW T' X (W.heap.size + 1) c ∧ Below W.heap.size W X ∧ X.heap.size = W.heap.size + 3 from by
      subst eX; subst eY
      refine ⟨((RW.new W _ T).alloc _).alloc _, ?_, ?_, ((below_alloc _ _).alloc (by simp) _).alloc (by simp; omega) _, by simp⟩
      · have := RW.new ((W.alloc (.cells #[.int .i64 x0, .slice A1 n1 c1, .slice A2 n2 c2, .slice A3 n3 c3, .slice A4 n4 c4, .slice A5 n5 c5, .int .i64 x6, .slice A7 n7 c7, .slice A8 n8 c8, .slice A9 n9 c9] T)).alloc (.cells c T')) c' T'
        simpa using this
      · have := (RW.new (W.alloc (.cells #[.int .i64 x0, .slice A1 n1 c1, .slice A2 n2 c2, .slice A3 n3 c3, .slice A4 n4 c4, .slice A5 n5 c5, .int .i64 x6, .slice A7 n7 c7, .slice A8 n8 c8, .slice A9 n9 c9] T)) c T').alloc (.cells c' T')
        simpa using this))
  have tkS1 : True := trivial
  have HE1 := Lib.hid (fun gH : Nat => (show putL #[.int .i64 0, .slice none 0 0, .slice none 0 0, .slice none 0 0, .slice none 0 0, .slice none 0 0, .int .i64 0, .slice none 0 0, .slice none 0 0, .slice none 0 0] 0 [.int .i64 x0, .slice (some ⟨gH, 0, none⟩) n1 n1] = #[.int .i64 x0, .slice (some ⟨gH, 0, none⟩) n1 n1, .slice none 0 0, .slice none 0 0, .slice none 0 0, .slice none 0 0, .int .i64 0, .slice none 0 0, .slice none 0 0, .slice none 0 0] from putL_mid [.int .i64 x0, .slice (some ⟨gH, 0, none⟩) n1 n1] [.int .i64 0, .slice none 0 0] [] [.slice none 0 0, .slice none 0 0, .slice none 0 0, .slice none 0 0, .int .i64 0, .slice none 0 0, .slice none 0 0, .slice none 0 0] rfl))
  have HE2 := Lib.hid (fun (gH : Nat) (A2m A3m A4m : Option Addr) (n2m c2m n3m c3m n4m c4m : Nat) => (show putL #[.int .i64 x0, .slice (some ⟨gH, 0, none⟩) n1 n1, .slice none 0 0, .slice none 0 0, .slice none 0 0, .slice none 0 0, .int .i64 0, .slice none 0 0, .slice none 0 0, .slice none 0 0] 2 [.slice A2m n2m c2m, .slice A3m n3m c3m, .slice A4m n4m c4m] = #[.int .i64 x0, .slice (some ⟨gH, 0, none⟩) n1 n1, .slice A2m n2m c2m, .slice A3m n3m c3m, .slice A4m n4m c4m, .slice none 0 0, .int .i64 0, .slice none 0 0, .slice none 0 0, .slice none 0 0] from putL_mid [.slice A2m n2m c2m, .slice A3m n3m c3m, .slice A4m n4m c4m] [.slice none 0 0, .slice none 0 0, .slice none 0 0] [.int .i64 x0, .slice (some ⟨gH, 0, none⟩) n1 n1] [.slice none 0 0, .int .i64 0, .slice none 0 0, .slice none 0 0, .slice none 0 0] rfl))
  have HE3 := Lib.hid (fun (gH : Nat) (A2m A3m A4m A5m A7m A8m A9m : Option Addr) (n2m c2m n3m c3m n4m c4m n5m c5m n7m c7m n8m c8m n9m c9m : Nat) => (show putL #[.int .i64 x0, .slice (some ⟨gH, 0, none⟩) n1 n1, .slice A2m n2m c2m, .slice A3m n3m c3m, .slice A4m n4m c4m, .slice none 0 0, .int .i64 0, .slice none 0 0, .slice none 0 0, .slice none 0 0] 5 [.slice A5m n5m c5m, .int .i64 x6, .slice A7m n7m c7m, .slice A8m n8m c8m, .slice A9m n9m c9m] = #[.int .i64 x0, .slice (some ⟨gH, 0, none⟩) n1 n1, .slice A2m n2m c2m, .slice A3m n3m c3m, .slice A4m n4m c4m, .slice A5m n5m c5m, .int .i64 x6, .slice A7m n7m c7m, .slice A8m n8m c8m, .slice A9m n9m c9m] from putL_mid [.slice A5m n5m c5m, .int .i64 x6, .slice A7m n7m c7m, .slice A8m n8m c8m, .slice A9m n9m c9m] [.slice none 0 0, .int .i64 0, .slice none 0 0, .slice none 0 0, .slice none 0 0] [.int .i64 x0, .slice (some ⟨gH, 0, none⟩) n1 n1, .slice A2m n2m c2m, .slice A3m n3m c3m, .slice A4m n4m c4m] [] rfl))
  have HE4 := Lib.hid (fun (gH : Nat) (A2m A3m A4m A5m A7m A8m A9m : Option Addr) (n2m c2m n3m c3m n4m c4m n5m c5m n7m c7m n8m c8m n9m c9m : Nat) => (show putL #[.int .i64 0, .slice none 0 0, .slice none 0 0, .slice none 0 0, .slice none 0 0, .slice none 0 0, .int .i64 0, .slice none 0 0, .slice none 0 0, .slice none 0 0] 0 [.int .i64 x0, .slice (some ⟨gH, 0, none⟩) n1 n1, .slice A2m n2m c2m, .slice A3m n3m c3m, .slice A4m n4m c4m, .slice A5m n5m c5m, .int .i64 x6, .slice A7m n7m c7m, .slice A8m n8m c8m, .slice A9m n9m c9m] = #[.int .i64 x0, .slice (some ⟨gH, 0, none⟩) n1 n1, .slice A2m n2m c2m, .slice A3m n3m c3m, .slice A4m n4m c4m, .slice A5m n5m c5m, .int .i64 x6, .slice A7m n7m c7m, .slice A8m n8m c8m, .slice A9m n9m c9m] from putL_mid [.int .i64 x0, .slice (some ⟨gH, 0, none⟩) n1 n1, .slice A2m n2m c2m, .slice A3m n3m c3m, .slice A4m n4m c4m, .slice A5m n5m c5m, .int .i64 x6, .slice A7m n7m c7m, .slice A8m n8m c8m, .slice A9m n9m c9m] [.int .i64 0, .slice none 0 0, .slice none 0 0, .slice none 0 0, .slice none 0 0, .slice none 0 0, .int .i64 0, .slice none 0 0, .slice none 0 0, .slice none 0 0] [] [] rfl))
  show Calls Tryz.prog 16 #[.agg #[.int .i64 x0, .slice A1 n1 c1, .slice A2 n2 c2, .slice A3 n3 c3, .slice A4 n4 c4, .slice A5 n5 c5, .int .i64 x6, .slice A7 n7 c7, .slice A8 n8 c8, .slice A9 n9 c9]] W _
  go_enter Tryz.func16, Tryz.ntmps16
  go_wp2_with (first
    | (go_at_call 42; obtain ⟨g0, g1, g4, g2, g3⟩ := HC.out _ _ _ _ _ _ rfl rfl; have HQ := HQ0.out _ g2; refine Calls.mono HQ ?_; clear HQ; rintro e w1 ⟨gH, rfl, h⟩; obtain ⟨hv, hb, hg⟩ := h.out; rw [g3] at hg; have HGH : Hid (W.heap.size + 3 ≤ gH) := hg; have HA1 := Lib.hid (g0.below hb (by omega)); have HR1 : Hid (RW 62 w1 (W.heap.size + 1 + 1) #[.int .i64 0, .slice none 0 0, .slice none 0 0, .slice none 0 0, .slice none 0 0, .slice none 0 0, .int .i64 0, .slice none 0 0, .slice none 0 0, .slice none 0 0]) := g1.below hb (by omega); have HO1 := Lib.hid (g4.below hb (by omega)); have HB1 := Lib.hid (g2.trans (hb.mono g2.size)); have HG1 : Hid (W.heap.size + 3 ≤ w1.heap.size) := (by have := hb.size; show _ ≤ _; omega); have HF1 := Lib.hid (hv.fars (b := W.heap.size + 1 + 1) (by omega) [.int .i64 x0, .slice (some ⟨gH, 0, none⟩) n1 n1] _ 0); have HT1 := Lib.hid (HR1.out.there (o := 0) (n := 2) (by show 0 + 2 ≤ 10; omega)); have HR2 : Hid (RW 62 (w1.setCells (W.heap.size + 1 + 1) 0 [.int .i64 x0, .slice (some ⟨gH, 0, none⟩) n1 n1]) (W.heap.size + 1 + 1) #[.int .i64 x0, .slice (some ⟨gH, 0, none⟩) n1 n1, .slice none 0 0, .slice none 0 0, .slice none 0 0, .slice none 0 0, .int .i64 0, .slice none 0 0, .slice none 0 0, .slice none 0 0]) := row_of HR1.out (HE1.out gH); have HA2 : Hid (RW 50 (w1.setCells (W.heap.size + 1 + 1) 0 [.int .i64 x0, .slice (some ⟨gH, 0, none⟩) n1 n1]) W.heap.size #[.int .i64 x0, .slice A1 n1 c1, .slice A2 n2 c2, .slice A3 n3 c3, .slice A4 n4 c4, .slice A5 n5 c5, .int .i64 x6, .slice A7 n7 c7, .slice A8 n8 c8, .slice A9 n9 c9]) := HA1.out.others (by omega); have HO2 := Lib.hid (HO1.out.others (b := W.heap.size + 1 + 1) (vs := [.int .i64 x0, .slice (some ⟨gH, 0, none⟩) n1 n1]) (o := 0) (by omega)); have HB2 : Hid (Below W.heap.size W (w1.setCells (W.heap.size + 1 + 1) 0 [.int .i64 x0, .slice (some ⟨gH, 0, none⟩) n1 n1])) := HB1.out.trans (below_cells (by omega) _ _ _); have HG2 : Hid (W.heap.size + 3 ≤ (w1.setCells (W.heap.size + 1 + 1) 0 [.int .i64 x0, .slice (some ⟨gH, 0, none⟩) n1 n1]).heap.size) := (by show _ ≤ _; rw [size_setsMe]; exact HG1.out); have tkS2 : True := trivial; clear g0 g1 g2 g3 g4 h hv hb hg HC HQ0 HR1 HA1 HO1 HB1 HG1)
    | (clear tkS2; refine wpList_store_mid rfl 55 (.tmp 7) (.tmp 6) rfl (W.heap.size + 1 + 1) 0 #[.int .i64 x0, .slice (some ⟨gH, 0, none⟩) n1 n1] rfl rfl HT1.out (by kernel_rfl) (by kernel_rfl) ?_; go_frame; clear HT1; generalize w1.setCells (W.heap.size + 1 + 1) 0 [.int .i64 x0, .slice (some ⟨gH, 0, none⟩) n1 n1] = w2 at HF1 HR2 HA2 HO2 HB2 HG2 ⊢; have q2 : w2.cell? ⟨W.heap.size, 2, none⟩ = some (.slice A2 n2 c2) := HA2.out.cell 2; have q3 : w2.cell? ⟨W.heap.size, 3, none⟩ = some (.slice A3 n3 c3) := HA2.out.cell 3; have q4 : w2.cell? ⟨W.heap.size, 4, none⟩ = some (.slice A4 n4 c4) := HA2.out.cell 4)
    | (go_at_call 43; have HQ := HQ1.out _ HB2.out; refine Calls.mono HQ ?_; clear HQ; rintro e w3 ⟨⟨A2m, n2m, c2m, h2m, A3m, n3m, c3m, h3m, A4m, n4m, c4m, h4m⟩, he, h⟩; obtain rfl : e = .returned (.agg #[.slice A2m n2m c2m, .slice A3m n3m c3m, .slice A4m n4m c4m]) := he; obtain ⟨hv, hb⟩ := h.out; have hz := HG2.out; have hzz := hb.size; have HF3 := Lib.hid ((HF1.out.below hb).fars (b := W.heap.size + 1 + 1) (by have := HGH.out; omega) [.slice A2m n2m c2m, .slice A3m n3m c3m, .slice A4m n4m c4m] _ 2); have HD3 := Lib.hid (hv.sets (g := W.heap.size + 1 + 1) (by omega) [.slice A2m n2m c2m, .slice A3m n3m c3m, .slice A4m n4m c4m] _ 2); have HR3 : Hid (RW 62 w3 (W.heap.size + 1 + 1) #[.int .i64 x0, .slice (some ⟨gH, 0, none⟩) n1 n1, .slice none 0 0, .slice none 0 0, .slice none 0 0, .slice none 0 0, .int .i64 0, .slice none 0 0, .slice none 0 0, .slice none 0 0]) := HR2.out.below hb (by omega); have HT3 := Lib.hid (HR3.out.there (o := 2) (n := 3) (by show 2 + 3 ≤ 10; omega)); have HR4 : Hid (RW 62 (w3.setCells (W.heap.size + 1 + 1) 2 [.slice A2m n2m c2m, .slice A3m n3m c3m, .slice A4m n4m c4m]) (W.heap.size + 1 + 1) #[.int .i64 x0, .slice (some ⟨gH, 0, none⟩) n1 n1, .slice A2m n2m c2m, .slice A3m n3m c3m, .slice A4m n4m c4m, .slice none 0 0, .int .i64 0, .slice none 0 0, .slice none 0 0, .slice none 0 0]) := row_of HR3.out (HE2.out _ _ _ _ _ _ _ _ _ _); have HA4 : Hid (RW 50 (w3.setCells (W.heap.size + 1 + 1) 2 [.slice A2m n2m c2m, .slice A3m n3m c3m, .slice A4m n4m c4m]) W.heap.size #[.int .i64 x0, .slice A1 n1 c1, .slice A2 n2 c2, .slice A3 n3 c3, .slice A4 n4 c4, .slice A5 n5 c5, .int .i64 x6, .slice A7 n7 c7, .slice A8 n8 c8, .slice A9 n9 c9]) := (HA2.out.below hb (by omega)).others (by omega); have HO4 := Lib.hid ((HO2.out.below hb (by omega)).others (b := W.heap.size + 1 + 1) (vs := [.slice A2m n2m c2m, .slice A3m n3m c3m, .slice A4m n4m c4m]) (o := 2) (by omega)); have HB4 : Hid (Below W.heap.size W (w3.setCells (W.heap.size + 1 + 1) 2 [.slice A2m n2m c2m, .slice A3m n3m c3m, .slice A4m n4m c4m])) := (HB2.out.trans (hb.mono HB2.out.size)).trans (below_cells (by omega) _ _ _); have HS4 : Hid ((w3.setCells (W.heap.size + 1 + 1) 2 [.slice A2m n2m c2m, .slice A3m n3m c3m, .slice A4m n4m c4m]).heap.size = w3.heap.size) := size_setsMe _ _ _ _; have HG4 : Hid (W.heap.size + 3 ≤ w2.heap.size ∧ w2.heap.size ≤ w3.heap.size) := ⟨hz, hzz⟩; have tkS4 : True := trivial; clear h hv hb hz hzz HQ1 HR2 HA2 HO2 HB2 HG2 HF1 HR3 q2 q3 q4)
    | (clear tkS4; refine wpList_store_mid rfl 60 (.tmp 11) (.tmp 10) rfl (W.heap.size + 1 + 1) 2 #[.slice A2m n2m c2m, .slice A3m n3m c3m, .slice A4m n4m c4m] rfl rfl HT3.out (by kernel_rfl) (by kernel_rfl) ?_; go_frame; clear HT3; generalize w3.setCells (W.heap.size + 1 + 1) 2 [.slice A2m n2m c2m, .slice A3m n3m c3m, .slice A4m n4m c4m] = w4 at HF3 HD3 HR4 HA4 HO4 HB4 HS4 ⊢; have q5 : w4.cell? ⟨W.heap.size, 5, none⟩ = some (.slice A5 n5 c5) := HA4.out.cell 5; have q6 : w4.cell? ⟨W.heap.size, 6, none⟩ = some (.int .i64 x6) := HA4.out.cell 6; have q7 : w4.cell? ⟨W.heap.size, 7, none⟩ = some (.slice A7 n7 c7) := HA4.out.cell 7; have q8 : w4.cell? ⟨W.heap.size, 8, none⟩ = some (.slice A8 n8 c8) := HA4.out.cell 8; have q9 : w4.cell? ⟨W.heap.size, 9, none⟩ = some (.slice A9 n9 c9) := HA4.out.cell 9)
    | (go_at_call 8; have HQ := HQ2.out _ HB4.out; refine Calls.mono HQ ?_; clear HQ; rintro e w5 ⟨⟨A5m, n5m, c5m, h5m, A7m, n7m, c7m, h7m, A8m, n8m, c8m, h8m, A9m, n9m, c9m, h9m⟩, he, h⟩; obtain rfl : e = .returned (.agg #[.slice A5m n5m c5m, .int .i64 x6, .slice A7m n7m c7m, .slice A8m n8m c8m, .slice A9m n9m c9m]) := he; obtain ⟨hv, hb⟩ := h.out; have hz := HG4.out; have hs4 := HS4.out; have hzz := hb.size; have HF5 := Lib.hid ((HF3.out.below hb).fars (b := W.heap.size + 1 + 1) (by have := HGH.out; omega) [.slice A5m n5m c5m, .int .i64 x6, .slice A7m n7m c7m, .slice A8m n8m c8m, .slice A9m n9m c9m] _ 5); have HD5 := Lib.hid ((HD3.out.below hb (by omega)).sets (g := W.heap.size + 1 + 1) (by omega) [.slice A5m n5m c5m, .int .i64 x6, .slice A7m n7m c7m, .slice A8m n8m c8m, .slice A9m n9m c9m] _ 5); have HC5 := Lib.hid (hv.sets (g := W.heap.size + 1 + 1) (by omega) [.slice A5m n5m c5m, .int .i64 x6, .slice A7m n7m c7m, .slice A8m n8m c8m, .slice A9m n9m c9m] _ 5); have HR5 : Hid (RW 62 w5 (W.heap.size + 1 + 1) #[.int .i64 x0, .slice (some ⟨gH, 0, none⟩) n1 n1, .slice A2m n2m c2m, .slice A3m n3m c3m, .slice A4m n4m c4m, .slice none 0 0, .int .i64 0, .slice none 0 0, .slice none 0 0, .slice none 0 0]) := HR4.out.below hb (by omega); have HT5 := Lib.hid (HR5.out.there (o := 5) (n := 5) (by show 5 + 5 ≤ 10; omega)); have HR6 : Hid (RW 62 (w5.setCells (W.heap.size + 1 + 1) 5 [.slice A5m n5m c5m, .int .i64 x6, .slice A7m n7m c7m, .slice A8m n8m c8m, .slice A9m n9m c9m]) (W.heap.size + 1 + 1) #[.int .i64 x0, .slice (some ⟨gH, 0, none⟩) n1 n1, .slice A2m n2m c2m, .slice A3m n3m c3m, .slice A4m n4m c4m, .slice A5m n5m c5m, .int .i64 x6, .slice A7m n7m c7m, .slice A8m n8m c8m, .slice A9m n9m c9m]) := row_of HR5.out (HE3.out _ _ _ _ _ _ _ _ _ _ _ _ _ _ _ _ _ _ _ _ _ _); have HO6 := Lib.hid ((HO4.out.below hb (by omega)).others (b := W.heap.size + 1 + 1) (vs := [.slice A5m n5m c5m, .int .i64 x6, .slice A7m n7m c7m, .slice A8m n8m c8m, .slice A9m n9m c9m]) (o := 5) (by omega)); have HB6 : Hid (Below W.heap.size W (w5.setCells (W.heap.size + 1 + 1) 5 [.slice A5m n5m c5m, .int .i64 x6, .slice A7m n7m c7m, .slice A8m n8m c8m, .slice A9m n9m c9m])) := (HB4.out.trans (hb.mono HB4.out.size)).trans (below_cells (by omega) _ _ _); have HS6 : Hid ((w5.setCells (W.heap.size + 1 + 1) 5 [.slice A5m n5m c5m, .int .i64 x6, .slice A7m n7m c7m, .slice A8m n8m c8m, .slice A9m n9m c9m]).heap.size = w5.heap.size ∧ w3.heap.size ≤ w5.heap.size) := ⟨size_setsMe _ _ _ _, by omega⟩; have tkS6 : True := trivial; clear h hv hb hz hzz hs4 HQ2 HR4 HA4 HO4 HB4 HF3 HD3 HR5 q5 q6 q7 q8 q9)
    | (clear tkS6; refine wpList_store_mid rfl 32 (.tmp 15) (.tmp 14) rfl (W.heap.size + 1 + 1) 5 #[.slice A5m n5m c5m, .int .i64 x6, .slice A7m n7m c7m, .slice A8m n8m c8m, .slice A9m n9m c9m] rfl rfl HT5.out (by kernel_rfl) (by kernel_rfl) ?_; go_frame; clear HT5; have HS4' := HS4; clear HS4; generalize w5.setCells (W.heap.size + 1 + 1) 5 [.slice A5m n5m c5m, .int .i64 x6, .slice A7m n7m c7m, .slice A8m n8m c8m, .slice A9m n9m c9m] = w6 at HF5 HD5 HC5 HR6 HO6 HB6 HS6 ⊢; have hz := HG4.out; have HT7 := Lib.hid (HO6.out.there (o := 0) (n := 10) (by show 0 + 10 ≤ 10; omega)); have HR8 : Hid (RW 62 (w6.setCells (W.heap.size + 1) 0 [.int .i64 x0, .slice (some ⟨gH, 0, none⟩) n1 n1, .slice A2m n2m c2m, .slice A3m n3m c3m, .slice A4m n4m c4m, .slice A5m n5m c5m, .int .i64 x6, .slice A7m n7m c7m, .slice A8m n8m c8m, .slice A9m n9m c9m]) (W.heap.size + 1) #[.int .i64 x0, .slice (some ⟨gH, 0, none⟩) n1 n1, .slice A2m n2m c2m, .slice A3m n3m c3m, .slice A4m n4m c4m, .slice A5m n5m c5m, .int .i64 x6, .slice A7m n7m c7m, .slice A8m n8m c8m, .slice A9m n9m c9m]) := row_of HO6.out (HE4.out _ _ _ _ _ _ _ _ _ _ _ _ _ _ _ _ _ _ _ _ _ _); have HF8 := Lib.hid (HF5.out.fars (b := W.heap.size + 1) (by have := HGH.out; omega) [.int .i64 x0, .slice (some ⟨gH, 0, none⟩) n1 n1, .slice A2m n2m c2m, .slice A3m n3m c3m, .slice A4m n4m c4m, .slice A5m n5m c5m, .int .i64 x6, .slice A7m n7m c7m, .slice A8m n8m c8m, .slice A9m n9m c9m] _ 0); have HD8 := Lib.hid (HD5.out.sets (g := W.heap.size + 1) (by omega) [.int .i64 x0, .slice (some ⟨gH, 0, none⟩) n1 n1, .slice A2m n2m c2m, .slice A3m n3m c3m, .slice A4m n4m c4m, .slice A5m n5m c5m, .int .i64 x6, .slice A7m n7m c7m, .slice A8m n8m c8m, .slice A9m n9m c9m] _ 0); have HC8 := Lib.hid (HC5.out.sets (g := W.heap.size + 1) (by have := HS4'.out; omega) [.int .i64 x0, .slice (some ⟨gH, 0, none⟩) n1 n1, .slice A2m n2m c2m, .slice A3m n3m c3m, .slice A4m n4m c4m, .slice A5m n5m c5m, .int .i64 x6, .slice A7m n7m c7m, .slice A8m n8m c8m, .slice A9m n9m c9m] _ 0); have HB8 : Hid (Below W.heap.size W (w6.setCells (W.heap.size + 1) 0 [.int .i64 x0, .slice (some ⟨gH, 0, none⟩) n1 n1, .slice A2m n2m c2m, .slice A3m n3m c3m, .slice A4m n4m c4m, .slice A5m n5m c5m, .int .i64 x6, .slice A7m n7m c7m, .slice A8m n8m c8m, .slice A9m n9m c9m])) := HB6.out.trans (below_cells (by omega) _ _ _); have HS8 : Hid ((w6.setCells (W.heap.size + 1) 0 [.int .i64 x0, .slice (some ⟨gH, 0, none⟩) n1 n1, .slice A2m n2m c2m, .slice A3m n3m c3m, .slice A4m n4m c4m, .slice A5m n5m c5m, .int .i64 x6, .slice A7m n7m c7m, .slice A8m n8m c8m, .slice A9m n9m c9m]).heap.size = w5.heap.size ∧ w3.heap.size ≤ w5.heap.size) := ⟨(size_setsMe _ _ _ _).trans HS6.out.1, HS6.out.2⟩; have tkL : True := trivial; clear hz HF5 HD5 HC5 HB6 HS6)
    | (clear tkL; refine wpList_load_row rfl 62 (.tmp 3) rfl (W.heap.size + 1 + 1) rfl 62 #[.int .i64 x0, .slice (some ⟨gH, 0, none⟩) n1 n1, .slice A2m n2m c2m, .slice A3m n3m c3m, .slice A4m n4m c4m, .slice A5m n5m c5m, .int .i64 x6, .slice A7m n7m c7m, .slice A8m n8m c8m, .slice A9m n9m c9m] (0, 0) _ HR6.out Tryz.underlying62 rfl (by kernel_rfl) ?_; have tkS8 : True := trivial)
    | (clear tkS8; refine wpList_store_mid rfl 62 (.tmp 2) (.tmp 16) rfl (W.heap.size + 1) 0 #[.int .i64 x0, .slice (some ⟨gH, 0, none⟩) n1 n1, .slice A2m n2m c2m, .slice A3m n3m c3m, .slice A4m n4m c4m, .slice A5m n5m c5m, .int .i64 x6, .slice A7m n7m c7m, .slice A8m n8m c8m, .slice A9m n9m c9m] rfl rfl HT7.out (by kernel_rfl) (by kernel_rfl) ?_; go_frame; clear HT7 HR6 HO6; generalize w6.setCells (W.heap.size + 1) 0 [.int .i64 x0, .slice (some ⟨gH, 0, none⟩) n1 n1, .slice A2m n2m c2m, .slice A3m n3m c3m, .slice A4m n4m c4m, .slice A5m n5m c5m, .int .i64 x6, .slice A7m n7m c7m, .slice A8m n8m c8m, .slice A9m n9m c9m] = w8 at HR8 HF8 HD8 HC8 HB8 HS8 ⊢))
  have hs8 := HS8.out
  refine bodyPost_ret (v := .agg #[.int .i64 x0, .slice (some ⟨gH, 0, none⟩) n1 n1, .slice A2m n2m c2m, .slice A3m n3m c3m, .slice A4m n4m c4m, .slice A5m n5m c5m, .int .i64 x6, .slice A7m n7m c7m, .slice A8m n8m c8m, .slice A9m n9m c9m]) (results_cell_row Tryz.results16 _ _ (W.heap.size + 1) 62 _ (0, 0) _ rfl HR8.out Tryz.underlying62 rfl (by kernel_rfl)) rfl ⟨⟨some ⟨gH, 0, none⟩, n1, n1, Nat.le_refl _, A2m, n2m, c2m, h2m, A3m, n3m, c3m, h3m, A4m, n4m, c4m, h4m, A5m, n5m, c5m, h5m, A7m, n7m, c7m, h7m, A8m, n8m, c8m, h8m, A9m, n9m, c9m, h9m⟩, rfl, Lib.hid ⟨⟨?_, ?_, ?_⟩, HB8.out, ⟨gH, rfl⟩⟩⟩
  · exact HF8.out.all HN1.out HM1.out
  · exact HD8.out.self.more (by omega)
  · exact HC8.out.self.more (by omega)
end Go.Proofs.YtfcpdjfckeoniaaGreatDoor

namespace Go.Proofs.YtfcpdjfckeoniaaGreatDoor
open Go Go.RowKit Go.Sort

set_option maxRecDepth 100000 in
theorem eqHeap_same (nx : Int) (A A' : Option Addr) (n c c' : Nat) (os : List Ob) (W : World) (ha : OI W W.heap.size A n os) (hb : OI W W.heap.size A' n os) :
    Calls Tryz.prog 47 #[.agg #[.int .i64 nx, .slice A n c], .agg #[.int .i64 nx, .slice A' n c']] W fun e w' => e = .returned (.bool true) ∧ Below W.heap.size W w' := by
  have HA := Lib.hid ha
  have HB := Lib.hid hb
  have HC := Lib.hid (two_new W 55 #[.int .i64 nx, .slice A n c] #[.int .i64 nx, .slice A' n c'])
  clear ha hb
  go_enter Tryz.func47, Tryz.ntmps47
  go_wp2_with (go_at_call 91; obtain ⟨g0, g1, g2, g3⟩ := HC.out _ rfl; have HQ := eqObjectS_same A A' n c c' os _ (HA.out.go g2) (HB.out.go g2); refine Calls.mono HQ ?_; clear HQ; rintro e w1 ⟨rfl, hb⟩; have HB1 := Lib.hid (g2.trans (hb.mono g2.size)); clear g0 g1 g2 g3 hb HA)
  all_goals go_ret
  all_goals exact ⟨rfl, HB1.out⟩

end Go.Proofs.YtfcpdjfckeoniaaGreatDoor
