/- File: as plain data and in memory; szFile, szFileS of the laws. No condition. -/
import Derived.Test.YtjhemdgeafglhaaDoorStsEq
namespace Go.Proofs.YtjhemdgeafglhaaDoor
open Go Go.RowKit

structure Fl where
  name_ : ByteArray
  lines_ : List St
  mode_ : Int
  at_ : Int
/-- Where its lists lie. -/
structure FlLay where
  A1 : Option Addr
  n1 : Nat
  c1 : Nat
  h1 : n1 ≤ c1
/-- As one value. -/
abbrev Fl.ag (x : Fl) (l : FlLay) : Value := .agg #[.string x.name_, .slice l.A1 l.n1 l.c1, .int .i64 x.mode_, .int .i64 x.at_]
def Fl.vs (x : Fl) (l : FlLay) : List Value := [.string x.name_, .slice l.A1 l.n1 l.c1, .int .i64 x.mode_, .int .i64 x.at_]
/-- Its lists lie below B. -/
def FlV (w : World) (B : Nat) (x : Fl) (l : FlLay) : Prop := StI w B l.A1 l.n1 x.lines_ ∧ x.name_.size ≤ maxLen
theorem FlV.below {w w' : World} {B : Nat} {x : Fl} {l : FlLay} (h : FlV w B x l) (hb : Below B w w') : FlV w' B x l := by
  obtain ⟨h0, h1⟩ := h
  exact ⟨h0.below hb, h1⟩
theorem FlV.more {w : World} {B B' : Nat} {x : Fl} {l : FlLay} (h : FlV w B x l) (hB : B ≤ B') : FlV w B' x l := by
  obtain ⟨h0, h1⟩ := h
  exact ⟨h0.more hB, h1⟩
theorem FlV.go {W w : World} {x : Fl} {l : FlLay} (h : FlV W W.heap.size x l) (hb : Below W.heap.size W w) : FlV w w.heap.size x l := (h.below hb).more hb.size
theorem FlV.alloc {W : World} {x : Fl} {l : FlLay} (h : FlV W W.heap.size x l) (o : Obj) : FlV (W.alloc o) (W.alloc o).heap.size x l := h.go (below_alloc W o)
/-- Its cells from p on of block b. -/
def FlAt (w : World) (b p : Nat) (x : Fl) (l : FlLay) : Prop := w.cell? ⟨b, p, none⟩ = some (.string x.name_) ∧ w.cell? ⟨b, p + 1, none⟩ = some (.slice l.A1 l.n1 l.c1) ∧ w.cell? ⟨b, p + 2, none⟩ = some (.int .i64 x.mode_) ∧ w.cell? ⟨b, p + 3, none⟩ = some (.int .i64 x.at_)
theorem FlAt.below {w w' : World} {b p B : Nat} {x : Fl} {l : FlLay} (h : FlAt w b p x l) (hb : Below B w w') (hg : b < B) : FlAt w' b p x l := by
  obtain ⟨h0, h1, h2, h3⟩ := h
  exact ⟨(hb.cell (p := ⟨b, p, none⟩) hg).trans h0, (hb.cell (p := ⟨b, p + 1, none⟩) hg).trans h1, (hb.cell (p := ⟨b, p + 2, none⟩) hg).trans h2, (hb.cell (p := ⟨b, p + 3, none⟩) hg).trans h3⟩
theorem FlAt.range {w : World} {b p : Nat} {x : Fl} {l : FlLay} (h : FlAt w b p x l) : w.rangeAt b p (x.vs l) := by
  obtain ⟨h0, h1, h2, h3⟩ := h
  intro j v hj
  match j, hj with
  | 0, hj => cases hj; exact h0
  | 1, hj => cases hj; exact h1
  | 2, hj => cases hj; exact h2
  | 3, hj => cases hj; exact h3
  | j + 4, hj => simp [Fl.vs] at hj
/-- A slice of them that lies below B, with their lists. -/
def FlI (w : World) (B : Nat) (A : Option Addr) (n : Nat) (xs : List Fl) : Prop :=
  xs.length = n ∧ n ≤ maxLen ∧ (0 < n → ∃ b off, A = some ⟨b, off, none⟩ ∧ b < B ∧ ∀ (j : Nat) (x : Fl), xs[j]? = some x → ∃ l, FlAt w b (off + j * 4) x l ∧ FlV w B x l)
theorem FlI.below {w w' : World} {B n : Nat} {A : Option Addr} {xs : List Fl} (h : FlI w B A n xs) (hb : Below B w w') : FlI w' B A n xs :=
  ⟨h.1, h.2.1, fun hn => by
    obtain ⟨b, off, e, hg, hc⟩ := h.2.2 hn
    refine ⟨b, off, e, hg, fun j x hx => ?_⟩
    obtain ⟨l, h1, h2⟩ := hc j x hx
    exact ⟨l, h1.below hb hg, h2.below hb⟩⟩
theorem FlI.more {w : World} {B B' n : Nat} {A : Option Addr} {xs : List Fl} (h : FlI w B A n xs) (hB : B ≤ B') : FlI w B' A n xs :=
  ⟨h.1, h.2.1, fun hn => by
    obtain ⟨b, off, e, hg, hc⟩ := h.2.2 hn
    refine ⟨b, off, e, by omega, fun j x hx => ?_⟩
    obtain ⟨l, h1, h2⟩ := hc j x hx
    exact ⟨l, h1, h2.more hB⟩⟩
theorem FlI.at_ {w : World} {B n k : Nat} {A : Option Addr} {xs : List Fl} (h : FlI w B A n xs) (hk : k < n) : ∃ b off x l, A = some ⟨b, off, none⟩ ∧ b < B ∧ xs[k]? = some x ∧ FlAt w b (off + k * 4) x l ∧ FlV w B x l := by
  obtain ⟨b, off, e, hg, hc⟩ := h.2.2 (by omega)
  have hl : k < xs.length := by rw [h.1]; exact hk
  obtain ⟨l, h1, h2⟩ := hc k _ (List.getElem?_eq_getElem hl)
  exact ⟨b, off, xs[k], l, e, hg, List.getElem?_eq_getElem hl, h1, h2⟩
theorem FlI.go {W w : World} {A : Option Addr} {n : Nat} {xs : List Fl} (h : FlI W W.heap.size A n xs) (hb : Below W.heap.size W w) : FlI w w.heap.size A n xs := (h.below hb).more hb.size
theorem FlI.alloc {W : World} {A : Option Addr} {n : Nat} {xs : List Fl} (h : FlI W W.heap.size A n xs) (o : Obj) : FlI (W.alloc o) (W.alloc o).heap.size A n xs := h.go (below_alloc W o)

section
variable {H : Type} {enc : TypeId × Value → H} {W : World} {base : Nat} {held : Bool}
set_option maxRecDepth 100000 in
/-- Its cells, each with its own reading. -/
theorem open_FlN {fuel : Nat} {cs : List Value} {x : DataW H × List MemPlace} (h : DataW.trod enc Tryd.prog W base (fun _ => true) held fuel 86 cs = some x) :
    ∃ x l, cs = Fl.vs x l ∧ FlV W W.heap.size x l := by
  obtain ⟨ys, m, hm, _, hlen, _, hf⟩ := DataW.trod_struct Tryd.underlying86 h
  have hlen' : cs.length = 4 := hlen.trans (by kernel_rfl)
  match cs, hlen' with
  | [c0, c1, c2, c3], _ =>
    have hys : ∀ i, i < 4 → ∃ y, ys[i]? = some y := by
      intro i hi
      have : ys.length = 4 := by assumption
      exact ⟨_, List.getElem?_eq_getElem (by omega)⟩
    have f0 : DataW.trod enc Tryd.prog W base (fun _ => true) held m 9 [c0] = ys[0]? := field_at (i := 0) (o := 0) (k := 1) (T := 9) hf (by kernel_rfl) (by kernel_rfl)
    obtain ⟨y0, g0⟩ := hys 0 (by decide)
    rw [g0] at f0
    have f1 : DataW.trod enc Tryd.prog W base (fun _ => true) held m 32 [c1] = ys[1]? := field_at (i := 1) (o := 1) (k := 1) (T := 32) hf (by kernel_rfl) (by kernel_rfl)
    obtain ⟨y1, g1⟩ := hys 1 (by decide)
    rw [g1] at f1
    have f2 : DataW.trod enc Tryd.prog W base (fun _ => true) held m 2 [c2] = ys[2]? := field_at (i := 2) (o := 2) (k := 1) (T := 2) hf (by kernel_rfl) (by kernel_rfl)
    obtain ⟨y2, g2⟩ := hys 2 (by decide)
    rw [g2] at f2
    have f3 : DataW.trod enc Tryd.prog W base (fun _ => true) held m 2 [c3] = ys[3]? := field_at (i := 3) (o := 3) (k := 1) (T := 2) hf (by kernel_rfl) (by kernel_rfl)
    obtain ⟨y3, g3⟩ := hys 3 (by decide)
    rw [g3] at f3
    obtain ⟨z0, e0, _, hz0⟩ := DataW.trod_string Tryd.underlying9 f0
    obtain ⟨A1, n1, q1, hc1, e1⟩ := open_slice1 Tryd.underlying32 f1
    rw [e1] at f1
    obtain ⟨z1, hz1⟩ := open_StF f1
    obtain ⟨z2, e2, _, _⟩ := DataW.trod_int Tryd.underlying2 f2
    obtain ⟨z3, e3, _, _⟩ := DataW.trod_int Tryd.underlying2 f3
    simp only [List.cons.injEq, and_true] at e0 e1 e2 e3
    subst e0 e1 e2 e3
    exact ⟨⟨z0, z1, z2, z3⟩, ⟨A1, n1, q1, hc1⟩, rfl, hz1, hz0⟩
set_option maxRecDepth 100000 in
/-- An argument that is a slice. -/
theorem open_FlF {A : Option Addr} {n c fuel : Nat} {x : DataW H × List MemPlace} (hf : DataW.trod enc Tryd.prog W base (fun _ => true) held fuel 33 [.slice A n c] = some x) :
    ∃ xs, FlI W W.heap.size A n xs := by
  rcases Go.Deep.open_slice Tryd.underlying33 hf with ⟨h0, _⟩ | ⟨a, len, cap, m, k, D, Pl, hcs, hb, hl, hm, hmm, hx, hi⟩
  · simp at h0
    obtain ⟨rfl, rfl, rfl⟩ := h0
    exact ⟨[], rfl, Nat.zero_le _, fun h => absurd h (by omega)⟩
  · simp only [List.cons.injEq, Value.slice.injEq, and_true] at hcs
    obtain ⟨rfl, rfl, rfl⟩ := hcs
    simp only [if_true] at hmm
    have hC : Tryd.prog.cellsOf 86 = 4 := by kernel_rfl
    have key : ∀ i, i < n → ∃ o : Fl, ∃ l, (∀ j v, (Fl.vs o l)[j]? = some v → W.cell? (a.add (i * 4 + j)) = some v) ∧ FlV W W.heap.size o l := by
      intro i hin
      obtain ⟨cs', hc, ht'⟩ := hi i (by omega)
      rw [hC] at hc
      obtain ⟨o, l, e, ho⟩ := open_FlN ht'
      obtain ⟨_, hcl, hat⟩ := World.cells?_some hc
      refine ⟨o, l, fun j v hj => ?_, ho⟩
      rw [← e] at hj
      have hjl : j < 4 := by have := (List.getElem?_eq_some_iff.1 hj).1; omega
      rw [← Go.Deep.add_add, hat j hjl, hj]
    have hnm : n ≤ maxLen := Nat.le_trans hl hm
    by_cases hn : 0 < n
    · obtain ⟨ab, ao, spot⟩ := a
      obtain ⟨o0, l0, h0, _⟩ := key 0 hn
      have h00 := h0 0 _ rfl
      have hspot : spot = none := by simpa [Addr.add] using World.cell?_spot h00
      subst hspot
      rw [Addr.add_lit] at h00
      obtain ⟨os, hl', hx'⟩ := list_of (α := Fl) (P := fun j o => ∃ l, FlAt W ab (ao + j * 4) o l ∧ FlV W W.heap.size o l) (n := n) fun i hin => by
        obtain ⟨o, l, hc, ho⟩ := key i hin
        have hc' : ∀ j v, (Fl.vs o l)[j]? = some v → W.cell? ⟨ab, ao + i * 4 + j, none⟩ = some v := by
          intro j v hj
          have := hc j v hj
          rw [Addr.add_lit, ← Nat.add_assoc] at this
          exact this
        exact ⟨o, l, ⟨hc' 0 _ rfl, hc' 1 _ rfl, hc' 2 _ rfl, hc' 3 _ rfl⟩, ho⟩
      exact ⟨os, hl', hnm, fun _ => ⟨ab, ao, rfl, World.block_lt_of_cell? W ⟨ab, _, none⟩ h00, hx'⟩⟩
    · exact ⟨[], by simp; omega, hnm, fun h => absurd h hn⟩
end
set_option maxRecDepth 100000 in
/-- An argument. -/
theorem open_Fl {H : Type} {enc : TypeId × Value → H} {W : World} {v : Value} {d : DataW H} {p : List MemPlace} {r : Reach} {b0 : Nat} (hv : Value.okWide Tryd.prog W r b0 86 v) (h : DataW.Trod enc Tryd.prog W 0 (fun _ => true) true 86 v d p) :
    ∃ x l, v = Fl.ag x l ∧ FlV W W.heap.size x l := by
  obtain ⟨cs, rfl, hsz⟩ := Go.WideShapes.okWide_struct Tryd.underlying86 hv
  obtain ⟨fuel, hf⟩ := h
  obtain ⟨x, l, e, ho⟩ := open_FlN hf
  refine ⟨x, l, ?_, ho⟩
  have : cs.toList = Fl.vs x l := e
  rw [show cs = (Fl.vs x l).toArray from by rw [← this]]
  rfl
theorem open_FlS {H : Type} {enc : TypeId × Value → H} {W : World} {A : Option Addr} {n c : Nat} {d : DataW H} {p : List MemPlace} (h : DataW.Trod enc Tryd.prog W 0 (fun _ => true) true 33 (.slice A n c) d p) :
    ∃ xs, FlI W W.heap.size A n xs := by
  obtain ⟨fuel, hf⟩ := h
  exact open_FlF (by simpa [Value.cells] using hf)

/-- What szFile takes of the bound. -/
def szFl1 (x : Fl) : Nat := x.name_.size + szSt x.lines_

set_option maxHeartbeats 2000000 in
set_option maxRecDepth 100000 in
theorem szFile_any (x : Fl) (l : FlLay) (L : Int) (W : World) (ho : FlV W W.heap.size x l) (hLL : 0 ≤ L) (hL : L ≤ 1048576) :
    Calls Tryd.prog 63 #[x.ag l, .int .i64 L] W (SzL (szFl1 x) L W) := by
  obtain ⟨s, hs⟩ : ∃ s, szFl1 x = s := ⟨_, rfl⟩
  rw [hs]
  unfold szFl1 at hs
  obtain ⟨x0, x1, x2, x3⟩ := x
  obtain ⟨A1, n1, c1, h1⟩ := l
  obtain ⟨k1, k0⟩ := ho
  try unfold FlV at k1 k0
  dsimp only at hs k1 k0
  have HS := Lib.hid hs
  have HL0 := Lib.hid hLL
  have HL1 := Lib.hid hL
  have HK1 := Lib.hid k1
  unfold maxLen at k0
  have HC := Lib.hid (fun X (e : X = W.alloc (.cells #[.string x0, .slice A1 n1 c1, .int .i64 x2, .int .i64 x3] 86)) => (show RW 86 X W.heap.size #[.string x0, .slice A1 n1 c1, .int .i64 x2, .int .i64 x3] ∧ Below W.heap.size W X ∧ W.heap.size < X.heap.size from by rw [e]; exact ⟨RW.new _ _ _, below_alloc _ _, lt_alloc _ _⟩))
  clear hs k1
  show Calls Tryd.prog 63 #[.agg #[.string x0, .slice A1 n1 c1, .int .i64 x2, .int .i64 x3], .int .i64 L] W _
  by_cases cc0 : (x0.size : Int) ≤ L
  · have C0 := Lib.hid cc0
    clear cc0
    by_cases cc1 : (x0.size : Int) + (szSt x1 : Int) ≤ L
    · have C1 := Lib.hid cc1
      clear cc1
      have d0 : decide (L - (x0.size : Int) < 0) = false := (by have := C0.out; simp; omega)
      go_enter Tryd.func63, Tryd.ntmps63
      go_wp2_with (go_at_call 35; obtain ⟨g0, g1, g2⟩ := HC.out _ rfl; have HQ := szStringS_any A1 n1 c1 x1 (L - (x0.size : Int)) _ (HK1.out.go g1) (by have := C0.out; have := HL0.out; omega) (by have := C0.out; have := HL1.out; omega); refine Calls.mono HQ ?_; clear HQ; intro e w1 h; obtain ⟨z1, rfl, hz1, l1, u1, hb⟩ := h.fits (by have := C0.out; have := C1.out; omega) (by have := C0.out; have := HL1.out; omega); have Z1 := Lib.hid hz1; have d1 : decide (z1 < 0) = false := (by simp; omega); have HR1 := Lib.hid (g0.below hb g2); have HB1 := Lib.hid (g1.trans (hb.mono g1.size)); have HG1 := Lib.hid (Nat.lt_of_lt_of_le g2 hb.size); clear hb hz1 g0 g1 g2 HK1)
      go_ret
      refine ⟨.inl ⟨by have := C0.out; have := C1.out; have := Z1.out; have := HS.out; omega, ?_⟩, HB1.out⟩
      have hx : z1 = L - (s : Int) := by have := C0.out; have := C1.out; have := Z1.out; have := HS.out; omega
      rw [← hx]
      rfl
    · have C1 := Lib.hid cc1
      clear cc1
      have d0 : decide (L - (x0.size : Int) < 0) = false := (by have := C0.out; simp; omega)
      go_enter Tryd.func63, Tryd.ntmps63
      go_wp2_with (go_at_call 35; obtain ⟨g0, g1, g2⟩ := HC.out _ rfl; have HQ := szStringS_any A1 n1 c1 x1 (L - (x0.size : Int)) _ (HK1.out.go g1) (by have := C0.out; have := HL0.out; omega) (by have := C0.out; have := HL1.out; omega); refine Calls.mono HQ ?_; clear HQ; intro e w1 h; obtain ⟨rfl, hb⟩ := h.long (by have := C0.out; have := C1.out; omega); have HR1 := Lib.hid (g0.below hb g2); have HB1 := Lib.hid (g1.trans (hb.mono g1.size)); have HG1 := Lib.hid (Nat.lt_of_lt_of_le g2 hb.size); clear hb g0 g1 g2 HK1)
      go_ret
      exact ⟨.inr ⟨by have := C0.out; have := C1.out; have := HS.out; omega, rfl⟩, HB1.out⟩
  · have C0 := Lib.hid cc0
    clear cc0
    have d0 : decide (L - (x0.size : Int) < 0) = true := (by have := C0.out; simp; omega)
    go_enter Tryd.func63, Tryd.ntmps63
    go_wp2_with fail
    go_ret
    exact ⟨.inr ⟨by have := C0.out; have := HS.out; omega, rfl⟩, (below_alloc _ _)⟩

/-- Those of the first k. -/
def sumFl (xs : List Fl) : Nat → Nat
  | 0 => 0
  | k + 1 => sumFl xs k + ((xs[k]?.map szFl1).getD 0)
theorem sumFl_next {xs : List Fl} {k : Nat} {x : Fl} (h : xs[k]? = some x) : sumFl xs (k + 1) = sumFl xs k + szFl1 x := by
  rw [sumFl, h]
  rfl
theorem sumFl_mono {xs : List Fl} {j : Nat} : ∀ {k : Nat}, j ≤ k → sumFl xs j ≤ sumFl xs k
  | 0, h => by obtain rfl : j = 0 := by omega
               exact Nat.le_refl _
  | k + 1, h => by
    by_cases e : j = k + 1
    · rw [e]; exact Nat.le_refl _
    · have := sumFl_mono (xs := xs) (show j ≤ k by omega)
      rw [sumFl]
      omega
def szFl (xs : List Fl) : Nat := xs.length + sumFl xs xs.length

set_option maxHeartbeats 1000000 in
set_option maxRecDepth 100000 in
theorem szFileS_any (A : Option Addr) (n c : Nat) (xs : List Fl) (L : Int) (W : World) (hr : FlI W W.heap.size A n xs) (h0 : 0 ≤ L) (hL : L ≤ 1048576) :
    Calls Tryd.prog 36 #[.slice A n c, .int .i64 L] W (SzL (szFl xs) L W) := by
  have HR := Lib.hid hr
  have hn := hr.2.1
  have hxn := hr.1
  clear hr
  obtain ⟨s, hs⟩ : ∃ s, szFl xs = s := ⟨_, rfl⟩
  have HS : Hid (s = n + sumFl xs n) := by show _ = _; rw [← hs, szFl, hxn]
  rw [hs]
  clear hs hxn
  unfold maxLen at hn
  by_cases hbig : L < (n : Int)
  · have HB : Hid (L < (s : Int)) := by show _ < _; have := HS.out; omega
    have h2 : (n : Int) ≤ 9223372036854775807 := by omega
    have d0 : decide (L - n < 0) = true := by simp; omega
    go_enter Tryd.func36, Tryd.ntmps36
    go_wp2_with fail
    go_ret
    exact ⟨.inr ⟨HB.out, rfl⟩, Below.refl _ _⟩
  · have h1 : (n : Int) ≤ L := by omega
    have hn' : n ≤ 1048576 := by omega
    have d0 : decide (L - n < 0) = false := by simp; omega
    clear hbig
    go_enter Tryd.func36, Tryd.ntmps36
    go_wp2_with fail
    go_loopw [1, 5] (fun q i wr => ∃ k : Nat, ∃ z : Int, k ≤ n ∧ i = .int .i64 k ∧ q = .int .i64 z ∧ 0 ≤ z ∧ z ≤ 1048576 ∧ Hid (z = L - (n : Int) - (sumFl xs k : Int)) ∧ Hid (Below W.heap.size W wr)) (fun _ i _ => n - (intOf i).toNat)
    case atStart => exact ⟨0, _, Nat.zero_le _, rfl, rfl, by omega, by omega, by show _ = _; simp [sumFl], Below.refl _ _⟩
    case round =>
      obtain ⟨k, z, hk, rfl, rfl, hz0, hz1, HZ, HW⟩ := hrel
      by_cases hlt : k < n
      · obtain ⟨b, off, x, l, rfl, hg, hx, ⟨q0, q1, q2, q3⟩, hov⟩ := (HR.out.below HW.out).at_ hlt
        have HO := Lib.hid (hov.more HW.out.size)
        have HX := Lib.hid hx
        have b0 : (0 : Int) ≤ (k : Int) := by omega
        have b1 : (k : Int) < (n : Int) := by omega
        have HZ0 : Hid (0 ≤ z) := hz0
        have HZ1 : Hid (z ≤ 1048576) := hz1
        clear hx hov hg
        by_cases hf : (szFl1 x : Int) ≤ z
        · have HF := Lib.hid hf
          have HN : Hid (sumFl xs (k + 1) = sumFl xs k + szFl1 x) := sumFl_next HX.out
          clear hf
          go_wp2_with (go_at_call 63; refine (szFile_any x l _ _ HO.out HZ0.out HZ1.out).mono ?_; intro e w1 h; obtain ⟨z1, rfl, hz2, l1, u1, hb⟩ := h.fits HF.out HZ1.out; have Z1 := Lib.hid hz2; have dz : decide (z1 < 0) = false := (by simp; omega); have HW1 : Hid (Below W.heap.size W w1) := HW.out.trans (hb.mono HW.out.size); clear hb hz2)
          go_roundw
          case rel => exact ⟨k + 1, _, by omega, by go_num, rfl, by omega, by omega, by show _ = _; rw [HN.out, Z1.out, HZ.out]; omega, HW1⟩
          case measure => simp [intOf]; omega
        · have HF := Lib.hid hf
          have HBIG : Hid (L < (s : Int)) := by
            show _ < _
            have h1 := sumFl_mono (xs := xs) (j := k + 1) (k := n) (by omega)
            rw [sumFl_next HX.out] at h1
            have h2 := HZ.out
            have h3 := HS.out
            omega
          clear hf
          go_wp2_with (go_at_call 63; refine (szFile_any x l _ _ HO.out HZ0.out HZ1.out).mono ?_; intro e w1 h; obtain ⟨rfl, hb⟩ := h.long HF.out; have HW1 : Hid (Below W.heap.size W w1) := HW.out.trans (hb.mono HW.out.size); clear hb)
          go_ret
          exact ⟨.inr ⟨HBIG.out, rfl⟩, HW1.out⟩
      · have hkn : k = n := by omega
        have HE : Hid ((s : Int) ≤ L ∧ z = L - (s : Int)) := by
          have h := HZ.out
          have h3 := HS.out
          rw [hkn] at h
          exact ⟨by omega, by omega⟩
        go_wp2_with fail
        go_ret
        exact ⟨.inl ⟨HE.out.1, by rw [HE.out.2]; rfl⟩, HW.out⟩
/-- No list is too long. -/
def FlSmall (x : Fl) : Prop := x.lines_.length ≤ 1048576
theorem small_Fl1 {x : Fl} (h : (szFl1 x : Int) ≤ 1048576) : FlSmall x := by
  unfold szFl1 at h
  unfold FlSmall
  exact (by unfold szSt at h; omega)
theorem small_Fl {xs : List Fl} (h : (szFl xs : Int) ≤ 1048576) : (∀ (j : Nat) (x : Fl), xs[j]? = some x → FlSmall x) ∧ xs.length ≤ 1048576 := by
  unfold szFl at h
  refine ⟨fun j x hx => small_Fl1 ?_, by omega⟩
  have hl := (List.getElem?_eq_some_iff.1 hx).1
  have h1 := sumFl_mono (xs := xs) (j := j + 1) (k := xs.length) (by omega)
  rw [sumFl_next hx] at h1
  omega
end Go.Proofs.YtjhemdgeafglhaaDoor
