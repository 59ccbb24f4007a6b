/- PatternCode: as plain data and in memory; szPatternCode, szPatternCodeS of the laws. No condition. -/
import Derived.Test.YtpmbalodbjfjbaaPisEq
import Derived.Test.YtpmbalodbjfjbaaPesEq
namespace Go.Proofs.Ytpmbalodbjfjbaa
open Go Go.RowKit

structure Pc where
  code_ : List Pi
  entries_ : List Pe
/-- Where its lists lie. -/
structure PcLay where
  A0 : Option Addr
  n0 : Nat
  c0 : Nat
  h0 : n0 ≤ c0
  A1 : Option Addr
  n1 : Nat
  c1 : Nat
  h1 : n1 ≤ c1
/-- As one value. -/
abbrev Pc.ag (x : Pc) (l : PcLay) : Value := .agg #[.slice l.A0 l.n0 l.c0, .slice l.A1 l.n1 l.c1]
def Pc.vs (x : Pc) (l : PcLay) : List Value := [.slice l.A0 l.n0 l.c0, .slice l.A1 l.n1 l.c1]
/-- Its lists lie below B. -/
def PcV (w : World) (B : Nat) (x : Pc) (l : PcLay) : Prop := PiI w B l.A0 l.n0 x.code_ ∧ PeI w B l.A1 l.n1 x.entries_
theorem PcV.below {w w' : World} {B : Nat} {x : Pc} {l : PcLay} (h : PcV w B x l) (hb : Below B w w') : PcV w' B x l := by
  obtain ⟨h0, h1⟩ := h
  exact ⟨h0.below hb, h1.below hb⟩
theorem PcV.more {w : World} {B B' : Nat} {x : Pc} {l : PcLay} (h : PcV w B x l) (hB : B ≤ B') : PcV w B' x l := by
  obtain ⟨h0, h1⟩ := h
  exact ⟨h0.more hB, h1.more hB⟩
theorem PcV.go {W w : World} {x : Pc} {l : PcLay} (h : PcV W W.heap.size x l) (hb : Below W.heap.size W w) : PcV w w.heap.size x l := (h.below hb).more hb.size
theorem PcV.alloc {W : World} {x : Pc} {l : PcLay} (h : PcV W W.heap.size x l) (o : Obj) : PcV (W.alloc o) (W.alloc o).heap.size x l := h.go (below_alloc W o)
/-- Its cells from p on of block b. -/
def PcAt (w : World) (b p : Nat) (x : Pc) (l : PcLay) : Prop := w.cell? ⟨b, p, none⟩ = some (.slice l.A0 l.n0 l.c0) ∧ w.cell? ⟨b, p + 1, none⟩ = some (.slice l.A1 l.n1 l.c1)
theorem PcAt.below {w w' : World} {b p B : Nat} {x : Pc} {l : PcLay} (h : PcAt w b p x l) (hb : Below B w w') (hg : b < B) : PcAt w' b p x l := by
  obtain ⟨h0, h1⟩ := h
  exact ⟨(hb.cell (p := ⟨b, p, none⟩) hg).trans h0, (hb.cell (p := ⟨b, p + 1, none⟩) hg).trans h1⟩
theorem PcAt.range {w : World} {b p : Nat} {x : Pc} {l : PcLay} (h : PcAt w b p x l) : w.rangeAt b p (x.vs l) := by
  obtain ⟨h0, h1⟩ := h
  intro j v hj
  match j, hj with
  | 0, hj => cases hj; exact h0
  | 1, hj => cases hj; exact h1
  | j + 2, hj => simp [Pc.vs] at hj
/-- A slice of them that lies below B, with their lists. -/
def PcI (w : World) (B : Nat) (A : Option Addr) (n : Nat) (xs : List Pc) : Prop :=
  xs.length = n ∧ n ≤ maxLen ∧ (0 < n → ∃ b off, A = some ⟨b, off, none⟩ ∧ b < B ∧ ∀ (j : Nat) (x : Pc), xs[j]? = some x → ∃ l, PcAt w b (off + j * 2) x l ∧ PcV w B x l)
theorem PcI.below {w w' : World} {B n : Nat} {A : Option Addr} {xs : List Pc} (h : PcI w B A n xs) (hb : Below B w w') : PcI w' B A n xs :=
  ⟨h.1, h.2.1, fun hn => by
    obtain ⟨b, off, e, hg, hc⟩ := h.2.2 hn
    refine ⟨b, off, e, hg, fun j x hx => ?_⟩
    obtain ⟨l, h1, h2⟩ := hc j x hx
    exact ⟨l, h1.below hb hg, h2.below hb⟩⟩
theorem PcI.more {w : World} {B B' n : Nat} {A : Option Addr} {xs : List Pc} (h : PcI w B A n xs) (hB : B ≤ B') : PcI w B' A n xs :=
  ⟨h.1, h.2.1, fun hn => by
    obtain ⟨b, off, e, hg, hc⟩ := h.2.2 hn
    refine ⟨b, off, e, by omega, fun j x hx => ?_⟩
    obtain ⟨l, h1, h2⟩ := hc j x hx
    exact ⟨l, h1, h2.more hB⟩⟩
theorem PcI.at_ {w : World} {B n k : Nat} {A : Option Addr} {xs : List Pc} (h : PcI w B A n xs) (hk : k < n) : ∃ b off x l, A = some ⟨b, off, none⟩ ∧ b < B ∧ xs[k]? = some x ∧ PcAt w b (off + k * 2) x l ∧ PcV w B x l := by
  obtain ⟨b, off, e, hg, hc⟩ := h.2.2 (by omega)
  have hl : k < xs.length := by rw [h.1]; exact hk
  obtain ⟨l, h1, h2⟩ := hc k _ (List.getElem?_eq_getElem hl)
  exact ⟨b, off, xs[k], l, e, hg, List.getElem?_eq_getElem hl, h1, h2⟩
theorem PcI.go {W w : World} {A : Option Addr} {n : Nat} {xs : List Pc} (h : PcI W W.heap.size A n xs) (hb : Below W.heap.size W w) : PcI w w.heap.size A n xs := (h.below hb).more hb.size
theorem PcI.alloc {W : World} {A : Option Addr} {n : Nat} {xs : List Pc} (h : PcI W W.heap.size A n xs) (o : Obj) : PcI (W.alloc o) (W.alloc o).heap.size A n xs := h.go (below_alloc W o)

section
variable {H : Type} {enc : TypeId × Value → H} {W : World} {base : Nat} {held : Bool}
set_option maxRecDepth 100000 in
/-- Its cells, each with its own reading. -/
theorem open_PcN {fuel : Nat} {cs : List Value} {x : DataW H × List MemPlace} (h : DataW.trod enc Try.prog W base (fun _ => true) held fuel 25 cs = some x) :
    ∃ x l, cs = Pc.vs x l ∧ PcV W W.heap.size x l := by
  obtain ⟨ys, m, hm, _, hlen, _, hf⟩ := DataW.trod_struct Try.underlying25 h
  have hlen' : cs.length = 2 := hlen.trans (by kernel_rfl)
  match cs, hlen' with
  | [c0, c1], _ =>
    have hys : ∀ i, i < 2 → ∃ y, ys[i]? = some y := by
      intro i hi
      have : ys.length = 2 := by assumption
      exact ⟨_, List.getElem?_eq_getElem (by omega)⟩
    have f0 : DataW.trod enc Try.prog W base (fun _ => true) held m 22 [c0] = ys[0]? := field_at (i := 0) (o := 0) (k := 1) (T := 22) hf (by kernel_rfl) (by kernel_rfl)
    obtain ⟨y0, g0⟩ := hys 0 (by decide)
    rw [g0] at f0
    have f1 : DataW.trod enc Try.prog W base (fun _ => true) held m 23 [c1] = ys[1]? := field_at (i := 1) (o := 1) (k := 1) (T := 23) hf (by kernel_rfl) (by kernel_rfl)
    obtain ⟨y1, g1⟩ := hys 1 (by decide)
    rw [g1] at f1
    obtain ⟨A0, n0, q0, hc0, e0⟩ := open_slice1 Try.underlying22 f0
    rw [e0] at f0
    obtain ⟨z0, hz0⟩ := open_PiF f0
    obtain ⟨A1, n1, q1, hc1, e1⟩ := open_slice1 Try.underlying23 f1
    rw [e1] at f1
    obtain ⟨z1, hz1⟩ := open_PeF f1
    simp only [List.cons.injEq, and_true] at e0 e1
    subst e0 e1
    exact ⟨⟨z0, z1⟩, ⟨A0, n0, q0, hc0, A1, n1, q1, hc1⟩, rfl, hz0, hz1⟩
end
set_option maxRecDepth 100000 in
/-- An argument. -/
theorem open_Pc {H : Type} {enc : TypeId × Value → H} {W : World} {v : Value} {d : DataW H} {p : List MemPlace} {r : Reach} {b0 : Nat} (hv : Value.okWide Try.prog W r b0 25 v) (h : DataW.Trod enc Try.prog W 0 (fun _ => true) true 25 v d p) :
    ∃ x l, v = Pc.ag x l ∧ PcV W W.heap.size x l := by
  obtain ⟨cs, rfl, hsz⟩ := Go.WideShapes.okWide_struct Try.underlying25 hv
  obtain ⟨fuel, hf⟩ := h
  obtain ⟨x, l, e, ho⟩ := open_PcN hf
  refine ⟨x, l, ?_, ho⟩
  have : cs.toList = Pc.vs x l := e
  rw [show cs = (Pc.vs x l).toArray from by rw [← this]]
  rfl
/-- What szPatternCode takes of the bound. -/
def szPc1 (x : Pc) : Nat := szPi x.code_ + szPe x.entries_

set_option maxHeartbeats 2000000 in
set_option maxRecDepth 100000 in
theorem szPatternCode_any (x : Pc) (l : PcLay) (L : Int) (W : World) (ho : PcV W W.heap.size x l) (hLL : 0 ≤ L) (hL : L ≤ 1048576) :
    Calls Try.prog 7 #[x.ag l, .int .i64 L] W (SzL (szPc1 x) L W) := by
  obtain ⟨s, hs⟩ : ∃ s, szPc1 x = s := ⟨_, rfl⟩
  rw [hs]
  unfold szPc1 at hs
  obtain ⟨x0, x1⟩ := x
  obtain ⟨A0, n0, c0, h0, A1, n1, c1, h1⟩ := l
  obtain ⟨k0, k1⟩ := ho
  try unfold PcV at k0 k1
  dsimp only at hs k0 k1
  have HS := Lib.hid hs
  have HL0 := Lib.hid hLL
  have HL1 := Lib.hid hL
  have HK0 := Lib.hid k0
  have HK1 := Lib.hid k1
  have HC := Lib.hid (fun X (e : X = W.alloc (.cells #[.slice A0 n0 c0, .slice A1 n1 c1] 25)) => (show RW 25 X W.heap.size #[.slice A0 n0 c0, .slice A1 n1 c1] ∧ Below W.heap.size W X ∧ W.heap.size < X.heap.size from by rw [e]; exact ⟨RW.new _ _ _, below_alloc _ _, lt_alloc _ _⟩))
  clear hs k0 k1
  show Calls Try.prog 7 #[.agg #[.slice A0 n0 c0, .slice A1 n1 c1], .int .i64 L] W _
  by_cases cc0 : (szPi x0 : Int) ≤ L
  · have C0 := Lib.hid cc0
    clear cc0
    by_cases cc1 : (szPi x0 : Int) + (szPe x1 : Int) ≤ L
    · have C1 := Lib.hid cc1
      clear cc1
      go_enter Try.func7, Try.ntmps7
      go_wp2_with (go_at_call 24; obtain ⟨g0, g1, g2⟩ := HC.out _ rfl; have HQ := szPatternInsS_any A0 n0 c0 x0 (L) _ (HK0.out.go g1) HL0.out HL1.out; refine Calls.mono HQ ?_; clear HQ; intro e w1 h; obtain ⟨z0, rfl, hz0, l0, u0, hb⟩ := h.fits (by have := C0.out; omega) HL1.out; have Z0 := Lib.hid hz0; have d0 : decide (z0 < 0) = false := (by simp; omega); have HR1 := Lib.hid (g0.below hb g2); have HB1 := Lib.hid (g1.trans (hb.mono g1.size)); have HG1 := Lib.hid (Nat.lt_of_lt_of_le g2 hb.size); have q01 : w1.cell? ⟨W.heap.size, 1, none⟩ = some (.slice A1 n1 c1) := HR1.out.cell 1; clear hb hz0 g0 g1 g2 HK0)
      go_wp2_with (go_at_call 25; have HQ := szPatternEntryS_any A1 n1 c1 x1 (z0) _ (HK1.out.go HB1.out) (by have := C0.out; have := Z0.out; have := HL0.out; omega) (by have := C0.out; have := Z0.out; have := HL1.out; omega); refine Calls.mono HQ ?_; clear HQ; intro e w2 h; obtain ⟨z1, rfl, hz1, l1, u1, hb⟩ := h.fits (by have := C0.out; have := C1.out; have := Z0.out; omega) (by have := C0.out; have := Z0.out; have := HL1.out; omega); have Z1 := Lib.hid hz1; have d1 : decide (z1 < 0) = false := (by simp; omega); have HR2 := Lib.hid (HR1.out.below hb HG1.out); have HB2 := Lib.hid (HB1.out.trans (hb.mono HB1.out.size)); have HG2 := Lib.hid (Nat.lt_of_lt_of_le HG1.out hb.size); clear hb hz1  HK1)
      go_ret
      refine ⟨.inl ⟨by have := C0.out; have := C1.out; have := Z0.out; have := Z1.out; have := HS.out; omega, ?_⟩, HB2.out⟩
      have hx : z1 = L - (s : Int) := by have := C0.out; have := C1.out; have := Z0.out; have := Z1.out; have := HS.out; omega
      rw [← hx]
      rfl
    · have C1 := Lib.hid cc1
      clear cc1
      go_enter Try.func7, Try.ntmps7
      go_wp2_with (go_at_call 24; obtain ⟨g0, g1, g2⟩ := HC.out _ rfl; have HQ := szPatternInsS_any A0 n0 c0 x0 (L) _ (HK0.out.go g1) HL0.out HL1.out; refine Calls.mono HQ ?_; clear HQ; intro e w1 h; obtain ⟨z0, rfl, hz0, l0, u0, hb⟩ := h.fits (by have := C0.out; omega) HL1.out; have Z0 := Lib.hid hz0; have d0 : decide (z0 < 0) = false := (by simp; omega); have HR1 := Lib.hid (g0.below hb g2); have HB1 := Lib.hid (g1.trans (hb.mono g1.size)); have HG1 := Lib.hid (Nat.lt_of_lt_of_le g2 hb.size); have q01 : w1.cell? ⟨W.heap.size, 1, none⟩ = some (.slice A1 n1 c1) := HR1.out.cell 1; clear hb hz0 g0 g1 g2 HK0)
      go_wp2_with (go_at_call 25; have HQ := szPatternEntryS_any A1 n1 c1 x1 (z0) _ (HK1.out.go HB1.out) (by have := C0.out; have := Z0.out; have := HL0.out; omega) (by have := C0.out; have := Z0.out; have := HL1.out; omega); refine Calls.mono HQ ?_; clear HQ; intro e w2 h; obtain ⟨rfl, hb⟩ := h.long (by have := C0.out; have := C1.out; have := Z0.out; omega); have HR2 := Lib.hid (HR1.out.below hb HG1.out); have HB2 := Lib.hid (HB1.out.trans (hb.mono HB1.out.size)); have HG2 := Lib.hid (Nat.lt_of_lt_of_le HG1.out hb.size); clear hb  HK1)
      go_ret
      exact ⟨.inr ⟨by have := C0.out; have := C1.out; have := Z0.out; have := HS.out; omega, rfl⟩, HB2.out⟩
  · have C0 := Lib.hid cc0
    clear cc0
    go_enter Try.func7, Try.ntmps7
    go_wp2_with (go_at_call 24; obtain ⟨g0, g1, g2⟩ := HC.out _ rfl; have HQ := szPatternInsS_any A0 n0 c0 x0 (L) _ (HK0.out.go g1) HL0.out HL1.out; refine Calls.mono HQ ?_; clear HQ; intro e w1 h; obtain ⟨rfl, hb⟩ := h.long (by have := C0.out; omega); have HR1 := Lib.hid (g0.below hb g2); have HB1 := Lib.hid (g1.trans (hb.mono g1.size)); have HG1 := Lib.hid (Nat.lt_of_lt_of_le g2 hb.size); clear hb g0 g1 g2 HK0)
    go_ret
    exact ⟨.inr ⟨by have := C0.out; have := HS.out; omega, rfl⟩, HB1.out⟩

/-- Those of the first k. -/
def sumPc (xs : List Pc) : Nat → Nat
  | 0 => 0
  | k + 1 => sumPc xs k + ((xs[k]?.map szPc1).getD 0)
theorem sumPc_next {xs : List Pc} {k : Nat} {x : Pc} (h : xs[k]? = some x) : sumPc xs (k + 1) = sumPc xs k + szPc1 x := by
  rw [sumPc, h]
  rfl
theorem sumPc_mono {xs : List Pc} {j : Nat} : ∀ {k : Nat}, j ≤ k → sumPc xs j ≤ sumPc xs k
  | 0, h => by obtain rfl : j = 0 := by omega
               exact Nat.le_refl _
  | k + 1, h => by
    by_cases e : j = k + 1
    · rw [e]; exact Nat.le_refl _
    · have := sumPc_mono (xs := xs) (show j ≤ k by omega)
      rw [sumPc]
      omega
def szPc (xs : List Pc) : Nat := xs.length + sumPc xs xs.length

/-- No list is too long. -/
def PcSmall (x : Pc) : Prop := x.code_.length ≤ 1048576 ∧ x.entries_.length ≤ 1048576
theorem small_Pc1 {x : Pc} (h : (szPc1 x : Int) ≤ 1048576) : PcSmall x := by
  unfold szPc1 szPe szPi at h
  unfold PcSmall
  omega
theorem small_Pc {xs : List Pc} (h : (szPc xs : Int) ≤ 1048576) : (∀ (j : Nat) (x : Pc), xs[j]? = some x → PcSmall x) ∧ xs.length ≤ 1048576 := by
  unfold szPc at h
  refine ⟨fun j x hx => small_Pc1 ?_, by omega⟩
  have hl := (List.getElem?_eq_some_iff.1 hx).1
  have h1 := sumPc_mono (xs := xs) (j := j + 1) (k := xs.length) (by omega)
  rw [sumPc_next hx] at h1
  omega
end Go.Proofs.Ytpmbalodbjfjbaa
