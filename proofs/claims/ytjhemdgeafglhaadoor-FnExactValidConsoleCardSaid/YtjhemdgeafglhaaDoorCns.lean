/- Console: as plain data and in memory; szConsole, szConsoleS of the laws. No condition. -/
import Derived.Test.YtjhemdgeafglhaaDoorStsEq
import Derived.Test.YtjhemdgeafglhaaDoorFlsEq
namespace Go.Proofs.YtjhemdgeafglhaaDoor
open Go Go.RowKit

structure Cn where
  input_ : List St
  at_ : Int
  output_ : List St
  files_ : List Fl
  trace_ : List St
/-- Where its lists lie. -/
structure CnLay where
  A0 : Option Addr
  n0 : Nat
  c0 : Nat
  h0 : n0 ≤ c0
  A2 : Option Addr
  n2 : Nat
  c2 : Nat
  h2 : n2 ≤ c2
  A3 : Option Addr
  n3 : Nat
  c3 : Nat
  h3 : n3 ≤ c3
  A4 : Option Addr
  n4 : Nat
  c4 : Nat
  h4 : n4 ≤ c4
/-- As one value. -/
abbrev Cn.ag (x : Cn) (l : CnLay) : Value := .agg #[.slice l.A0 l.n0 l.c0, .int .i64 x.at_, .slice l.A2 l.n2 l.c2, .slice l.A3 l.n3 l.c3, .slice l.A4 l.n4 l.c4]
def Cn.vs (x : Cn) (l : CnLay) : List Value := [.slice l.A0 l.n0 l.c0, .int .i64 x.at_, .slice l.A2 l.n2 l.c2, .slice l.A3 l.n3 l.c3, .slice l.A4 l.n4 l.c4]
/-- Its lists lie below B. -/
def CnV (w : World) (B : Nat) (x : Cn) (l : CnLay) : Prop := StI w B l.A0 l.n0 x.input_ ∧ StI w B l.A2 l.n2 x.output_ ∧ FlI w B l.A3 l.n3 x.files_ ∧ StI w B l.A4 l.n4 x.trace_
theorem CnV.below {w w' : World} {B : Nat} {x : Cn} {l : CnLay} (h : CnV w B x l) (hb : Below B w w') : CnV w' B x l := by
  obtain ⟨h0, h1, h2, h3⟩ := h
  exact ⟨h0.below hb, h1.below hb, h2.below hb, h3.below hb⟩
theorem CnV.more {w : World} {B B' : Nat} {x : Cn} {l : CnLay} (h : CnV w B x l) (hB : B ≤ B') : CnV w B' x l := by
  obtain ⟨h0, h1, h2, h3⟩ := h
  exact ⟨h0.more hB, h1.more hB, h2.more hB, h3.more hB⟩
theorem CnV.go {W w : World} {x : Cn} {l : CnLay} (h : CnV W W.heap.size x l) (hb : Below W.heap.size W w) : CnV w w.heap.size x l := (h.below hb).more hb.size
theorem CnV.alloc {W : World} {x : Cn} {l : CnLay} (h : CnV W W.heap.size x l) (o : Obj) : CnV (W.alloc o) (W.alloc o).heap.size x l := h.go (below_alloc W o)
/-- Its cells from p on of block b. -/
def CnAt (w : World) (b p : Nat) (x : Cn) (l : CnLay) : Prop := w.cell? ⟨b, p, none⟩ = some (.slice l.A0 l.n0 l.c0) ∧ w.cell? ⟨b, p + 1, none⟩ = some (.int .i64 x.at_) ∧ w.cell? ⟨b, p + 2, none⟩ = some (.slice l.A2 l.n2 l.c2) ∧ w.cell? ⟨b, p + 3, none⟩ = some (.slice l.A3 l.n3 l.c3) ∧ w.cell? ⟨b, p + 4, none⟩ = some (.slice l.A4 l.n4 l.c4)
theorem CnAt.below {w w' : World} {b p B : Nat} {x : Cn} {l : CnLay} (h : CnAt w b p x l) (hb : Below B w w') (hg : b < B) : CnAt w' b p x l := by
  obtain ⟨h0, h1, h2, h3, h4⟩ := h
  exact ⟨(hb.cell (p := ⟨b, p, none⟩) hg).trans h0, (hb.cell (p := ⟨b, p + 1, none⟩) hg).trans h1, (hb.cell (p := ⟨b, p + 2, none⟩) hg).trans h2, (hb.cell (p := ⟨b, p + 3, none⟩) hg).trans h3, (hb.cell (p := ⟨b, p + 4, none⟩) hg).trans h4⟩
theorem CnAt.range {w : World} {b p : Nat} {x : Cn} {l : CnLay} (h : CnAt w b p x l) : w.rangeAt b p (x.vs l) := by
  obtain ⟨h0, h1, h2, h3, h4⟩ := h
  intro j v hj
  match j, hj with
  | 0, hj => cases hj; exact h0
  | 1, hj => cases hj; exact h1
  | 2, hj => cases hj; exact h2
  | 3, hj => cases hj; exact h3
  | 4, hj => cases hj; exact h4
  | j + 5, hj => simp [Cn.vs] at hj
/-- A slice of them that lies below B, with their lists. -/
def CnI (w : World) (B : Nat) (A : Option Addr) (n : Nat) (xs : List Cn) : Prop :=
  xs.length = n ∧ n ≤ maxLen ∧ (0 < n → ∃ b off, A = some ⟨b, off, none⟩ ∧ b < B ∧ ∀ (j : Nat) (x : Cn), xs[j]? = some x → ∃ l, CnAt w b (off + j * 5) x l ∧ CnV w B x l)
theorem CnI.below {w w' : World} {B n : Nat} {A : Option Addr} {xs : List Cn} (h : CnI w B A n xs) (hb : Below B w w') : CnI w' B A n xs :=
  ⟨h.1, h.2.1, fun hn => by
    obtain ⟨b, off, e, hg, hc⟩ := h.2.2 hn
    refine ⟨b, off, e, hg, fun j x hx => ?_⟩
    obtain ⟨l, h1, h2⟩ := hc j x hx
    exact ⟨l, h1.below hb hg, h2.below hb⟩⟩
theorem CnI.more {w : World} {B B' n : Nat} {A : Option Addr} {xs : List Cn} (h : CnI w B A n xs) (hB : B ≤ B') : CnI w B' A n xs :=
  ⟨h.1, h.2.1, fun hn => by
    obtain ⟨b, off, e, hg, hc⟩ := h.2.2 hn
    refine ⟨b, off, e, by omega, fun j x hx => ?_⟩
    obtain ⟨l, h1, h2⟩ := hc j x hx
    exact ⟨l, h1, h2.more hB⟩⟩
theorem CnI.at_ {w : World} {B n k : Nat} {A : Option Addr} {xs : List Cn} (h : CnI w B A n xs) (hk : k < n) : ∃ b off x l, A = some ⟨b, off, none⟩ ∧ b < B ∧ xs[k]? = some x ∧ CnAt w b (off + k * 5) x l ∧ CnV w B x l := by
  obtain ⟨b, off, e, hg, hc⟩ := h.2.2 (by omega)
  have hl : k < xs.length := by rw [h.1]; exact hk
  obtain ⟨l, h1, h2⟩ := hc k _ (List.getElem?_eq_getElem hl)
  exact ⟨b, off, xs[k], l, e, hg, List.getElem?_eq_getElem hl, h1, h2⟩
theorem CnI.go {W w : World} {A : Option Addr} {n : Nat} {xs : List Cn} (h : CnI W W.heap.size A n xs) (hb : Below W.heap.size W w) : CnI w w.heap.size A n xs := (h.below hb).more hb.size
theorem CnI.alloc {W : World} {A : Option Addr} {n : Nat} {xs : List Cn} (h : CnI W W.heap.size A n xs) (o : Obj) : CnI (W.alloc o) (W.alloc o).heap.size A n xs := h.go (below_alloc W o)

section
variable {H : Type} {enc : TypeId × Value → H} {W : World} {base : Nat} {held : Bool}
set_option maxRecDepth 100000 in
/-- Its cells, each with its own reading. -/
theorem open_CnN {fuel : Nat} {cs : List Value} {x : DataW H × List MemPlace} (h : DataW.trod enc Tryd.prog W base (fun _ => true) held fuel 35 cs = some x) :
    ∃ x l, cs = Cn.vs x l ∧ CnV W W.heap.size x l := by
  obtain ⟨ys, m, hm, _, hlen, _, hf⟩ := DataW.trod_struct Tryd.underlying35 h
  have hlen' : cs.length = 5 := hlen.trans (by kernel_rfl)
  match cs, hlen' with
  | [c0, c1, c2, c3, c4], _ =>
    have hys : ∀ i, i < 5 → ∃ y, ys[i]? = some y := by
      intro i hi
      have : ys.length = 5 := by assumption
      exact ⟨_, List.getElem?_eq_getElem (by omega)⟩
    have f0 : DataW.trod enc Tryd.prog W base (fun _ => true) held m 32 [c0] = ys[0]? := field_at (i := 0) (o := 0) (k := 1) (T := 32) hf (by kernel_rfl) (by kernel_rfl)
    obtain ⟨y0, g0⟩ := hys 0 (by decide)
    rw [g0] at f0
    have f1 : DataW.trod enc Tryd.prog W base (fun _ => true) held m 2 [c1] = ys[1]? := field_at (i := 1) (o := 1) (k := 1) (T := 2) hf (by kernel_rfl) (by kernel_rfl)
    obtain ⟨y1, g1⟩ := hys 1 (by decide)
    rw [g1] at f1
    have f2 : DataW.trod enc Tryd.prog W base (fun _ => true) held m 32 [c2] = ys[2]? := field_at (i := 2) (o := 2) (k := 1) (T := 32) hf (by kernel_rfl) (by kernel_rfl)
    obtain ⟨y2, g2⟩ := hys 2 (by decide)
    rw [g2] at f2
    have f3 : DataW.trod enc Tryd.prog W base (fun _ => true) held m 33 [c3] = ys[3]? := field_at (i := 3) (o := 3) (k := 1) (T := 33) hf (by kernel_rfl) (by kernel_rfl)
    obtain ⟨y3, g3⟩ := hys 3 (by decide)
    rw [g3] at f3
    have f4 : DataW.trod enc Tryd.prog W base (fun _ => true) held m 32 [c4] = ys[4]? := field_at (i := 4) (o := 4) (k := 1) (T := 32) hf (by kernel_rfl) (by kernel_rfl)
    obtain ⟨y4, g4⟩ := hys 4 (by decide)
    rw [g4] at f4
    obtain ⟨A0, n0, q0, hc0, e0⟩ := open_slice1 Tryd.underlying32 f0
    rw [e0] at f0
    obtain ⟨z0, hz0⟩ := open_StF f0
    obtain ⟨z1, e1, _, _⟩ := DataW.trod_int Tryd.underlying2 f1
    obtain ⟨A2, n2, q2, hc2, e2⟩ := open_slice1 Tryd.underlying32 f2
    rw [e2] at f2
    obtain ⟨z2, hz2⟩ := open_StF f2
    obtain ⟨A3, n3, q3, hc3, e3⟩ := open_slice1 Tryd.underlying33 f3
    rw [e3] at f3
    obtain ⟨z3, hz3⟩ := open_FlF f3
    obtain ⟨A4, n4, q4, hc4, e4⟩ := open_slice1 Tryd.underlying32 f4
    rw [e4] at f4
    obtain ⟨z4, hz4⟩ := open_StF f4
    simp only [List.cons.injEq, and_true] at e0 e1 e2 e3 e4
    subst e0 e1 e2 e3 e4
    exact ⟨⟨z0, z1, z2, z3, z4⟩, ⟨A0, n0, q0, hc0, A2, n2, q2, hc2, A3, n3, q3, hc3, A4, n4, q4, hc4⟩, rfl, hz0, hz2, hz3, hz4⟩
end
set_option maxRecDepth 100000 in
/-- An argument. -/
theorem open_Cn {H : Type} {enc : TypeId × Value → H} {W : World} {v : Value} {d : DataW H} {p : List MemPlace} {r : Reach} {b0 : Nat} (hv : Value.okWide Tryd.prog W r b0 35 v) (h : DataW.Trod enc Tryd.prog W 0 (fun _ => true) true 35 v d p) :
    ∃ x l, v = Cn.ag x l ∧ CnV W W.heap.size x l := by
  obtain ⟨cs, rfl, hsz⟩ := Go.WideShapes.okWide_struct Tryd.underlying35 hv
  obtain ⟨fuel, hf⟩ := h
  obtain ⟨x, l, e, ho⟩ := open_CnN hf
  refine ⟨x, l, ?_, ho⟩
  have : cs.toList = Cn.vs x l := e
  rw [show cs = (Cn.vs x l).toArray from by rw [← this]]
  rfl
/-- What szConsole takes of the bound. -/
def szCn1 (x : Cn) : Nat := szSt x.input_ + szSt x.output_ + szFl x.files_ + szSt x.trace_

set_option maxHeartbeats 2000000 in
set_option maxRecDepth 100000 in
theorem szConsole_any (x : Cn) (l : CnLay) (L : Int) (W : World) (ho : CnV W W.heap.size x l) (hLL : 0 ≤ L) (hL : L ≤ 1048576) :
    Calls Tryd.prog 14 #[x.ag l, .int .i64 L] W (SzL (szCn1 x) L W) := by
  obtain ⟨s, hs⟩ : ∃ s, szCn1 x = s := ⟨_, rfl⟩
  rw [hs]
  unfold szCn1 at hs
  obtain ⟨x0, x1, x2, x3, x4⟩ := x
  obtain ⟨A0, n0, c0, h0, A2, n2, c2, h2, A3, n3, c3, h3, A4, n4, c4, h4⟩ := l
  obtain ⟨k0, k2, k3, k4⟩ := ho
  try unfold CnV at k0 k2 k3 k4
  dsimp only at hs k0 k2 k3 k4
  have HS := Lib.hid hs
  have HL0 := Lib.hid hLL
  have HL1 := Lib.hid hL
  have HK0 := Lib.hid k0
  have HK2 := Lib.hid k2
  have HK3 := Lib.hid k3
  have HK4 := Lib.hid k4
  have HC := Lib.hid (fun X (e : X = W.alloc (.cells #[.slice A0 n0 c0, .int .i64 x1, .slice A2 n2 c2, .slice A3 n3 c3, .slice A4 n4 c4] 35)) => (show RW 35 X W.heap.size #[.slice A0 n0 c0, .int .i64 x1, .slice A2 n2 c2, .slice A3 n3 c3, .slice A4 n4 c4] ∧ Below W.heap.size W X ∧ W.heap.size < X.heap.size from by rw [e]; exact ⟨RW.new _ _ _, below_alloc _ _, lt_alloc _ _⟩))
  clear hs k0 k2 k3 k4
  show Calls Tryd.prog 14 #[.agg #[.slice A0 n0 c0, .int .i64 x1, .slice A2 n2 c2, .slice A3 n3 c3, .slice A4 n4 c4], .int .i64 L] W _
  by_cases cc0 : (szSt x0 : Int) ≤ L
  · have C0 := Lib.hid cc0
    clear cc0
    by_cases cc1 : (szSt x0 : Int) + (szSt x2 : Int) ≤ L
    · have C1 := Lib.hid cc1
      clear cc1
      by_cases cc2 : (szSt x0 : Int) + (szSt x2 : Int) + (szFl x3 : Int) ≤ L
      · have C2 := Lib.hid cc2
        clear cc2
        by_cases cc3 : (szSt x0 : Int) + (szSt x2 : Int) + (szFl x3 : Int) + (szSt x4 : Int) ≤ L
        · have C3 := Lib.hid cc3
          clear cc3
          go_enter Tryd.func14, Tryd.ntmps14
          go_wp2_with (go_at_call 35; obtain ⟨g0, g1, g2⟩ := HC.out _ rfl; have HQ := szStringS_any A0 n0 c0 x0 (L) _ (HK0.out.go g1) HL0.out HL1.out; refine Calls.mono HQ ?_; clear HQ; intro e w1 h; obtain ⟨z0, rfl, hz0, l0, u0, hb⟩ := h.fits (by have := C0.out; omega) HL1.out; have Z0 := Lib.hid hz0; have d0 : decide (z0 < 0) = false := (by simp; omega); have HR1 := Lib.hid (g0.below hb g2); have HB1 := Lib.hid (g1.trans (hb.mono g1.size)); have HG1 := Lib.hid (Nat.lt_of_lt_of_le g2 hb.size); have q02 : w1.cell? ⟨W.heap.size, 2, none⟩ = some (.slice A2 n2 c2) := HR1.out.cell 2; clear hb hz0 g0 g1 g2 HK0)
          go_wp2_with (go_at_call 35; have HQ := szStringS_any A2 n2 c2 x2 (z0) _ (HK2.out.go HB1.out) (by have := C0.out; have := Z0.out; have := HL0.out; omega) (by have := C0.out; have := Z0.out; have := HL1.out; omega); refine Calls.mono HQ ?_; clear HQ; intro e w2 h; obtain ⟨z1, rfl, hz1, l1, u1, hb⟩ := h.fits (by have := C0.out; have := C1.out; have := Z0.out; omega) (by have := C0.out; have := Z0.out; have := HL1.out; omega); have Z1 := Lib.hid hz1; have d1 : decide (z1 < 0) = false := (by simp; omega); have HR2 := Lib.hid (HR1.out.below hb HG1.out); have HB2 := Lib.hid (HB1.out.trans (hb.mono HB1.out.size)); have HG2 := Lib.hid (Nat.lt_of_lt_of_le HG1.out hb.size); have q13 : w2.cell? ⟨W.heap.size, 3, none⟩ = some (.slice A3 n3 c3) := HR2.out.cell 3; clear hb hz1  HK2)
          go_wp2_with (go_at_call 36; have HQ := szFileS_any A3 n3 c3 x3 (z1) _ (HK3.out.go HB2.out) (by have := C0.out; have := C1.out; have := Z0.out; have := Z1.out; have := HL0.out; omega) (by have := C0.out; have := C1.out; have := Z0.out; have := Z1.out; have := HL1.out; omega); refine Calls.mono HQ ?_; clear HQ; intro e w3 h; obtain ⟨z2, rfl, hz2, l2, u2, hb⟩ := h.fits (by have := C0.out; have := C1.out; have := C2.out; have := Z0.out; have := Z1.out; omega) (by have := C0.out; have := C1.out; have := Z0.out; have := Z1.out; have := HL1.out; omega); have Z2 := Lib.hid hz2; have d2 : decide (z2 < 0) = false := (by simp; omega); have HR3 := Lib.hid (HR2.out.below hb HG2.out); have HB3 := Lib.hid (HB2.out.trans (hb.mono HB2.out.size)); have HG3 := Lib.hid (Nat.lt_of_lt_of_le HG2.out hb.size); have q24 : w3.cell? ⟨W.heap.size, 4, none⟩ = some (.slice A4 n4 c4) := HR3.out.cell 4; clear hb hz2  HK3)
          go_wp2_with (go_at_call 35; have HQ := szStringS_any A4 n4 c4 x4 (z2) _ (HK4.out.go HB3.out) (by have := C0.out; have := C1.out; have := C2.out; have := Z0.out; have := Z1.out; have := Z2.out; have := HL0.out; omega) (by have := C0.out; have := C1.out; have := C2.out; have := Z0.out; have := Z1.out; have := Z2.out; have := HL1.out; omega); refine Calls.mono HQ ?_; clear HQ; intro e w4 h; obtain ⟨z3, rfl, hz3, l3, u3, hb⟩ := h.fits (by have := C0.out; have := C1.out; have := C2.out; have := C3.out; have := Z0.out; have := Z1.out; have := Z2.out; omega) (by have := C0.out; have := C1.out; have := C2.out; have := Z0.out; have := Z1.out; have := Z2.out; have := HL1.out; omega); have Z3 := Lib.hid hz3; have d3 : decide (z3 < 0) = false := (by simp; omega); have HR4 := Lib.hid (HR3.out.below hb HG3.out); have HB4 := Lib.hid (HB3.out.trans (hb.mono HB3.out.size)); have HG4 := Lib.hid (Nat.lt_of_lt_of_le HG3.out hb.size); clear hb hz3  HK4)
          go_ret
          refine ⟨.inl ⟨by have := C0.out; have := C1.out; have := C2.out; have := C3.out; have := Z0.out; have := Z1.out; have := Z2.out; have := Z3.out; have := HS.out; omega, ?_⟩, HB4.out⟩
          have hx : z3 = L - (s : Int) := by have := C0.out; have := C1.out; have := C2.out; have := C3.out; have := Z0.out; have := Z1.out; have := Z2.out; have := Z3.out; have := HS.out; omega
          rw [← hx]
          rfl
        · have C3 := Lib.hid cc3
          clear cc3
          go_enter Tryd.func14, Tryd.ntmps14
          go_wp2_with (go_at_call 35; obtain ⟨g0, g1, g2⟩ := HC.out _ rfl; have HQ := szStringS_any A0 n0 c0 x0 (L) _ (HK0.out.go g1) HL0.out HL1.out; refine Calls.mono HQ ?_; clear HQ; intro e w1 h; obtain ⟨z0, rfl, hz0, l0, u0, hb⟩ := h.fits (by have := C0.out; omega) HL1.out; have Z0 := Lib.hid hz0; have d0 : decide (z0 < 0) = false := (by simp; omega); have HR1 := Lib.hid (g0.below hb g2); have HB1 := Lib.hid (g1.trans (hb.mono g1.size)); have HG1 := Lib.hid (Nat.lt_of_lt_of_le g2 hb.size); have q02 : w1.cell? ⟨W.heap.size, 2, none⟩ = some (.slice A2 n2 c2) := HR1.out.cell 2; clear hb hz0 g0 g1 g2 HK0)
          go_wp2_with (go_at_call 35; have HQ := szStringS_any A2 n2 c2 x2 (z0) _ (HK2.out.go HB1.out) (by have := C0.out; have := Z0.out; have := HL0.out; omega) (by have := C0.out; have := Z0.out; have := HL1.out; omega); refine Calls.mono HQ ?_; clear HQ; intro e w2 h; obtain ⟨z1, rfl, hz1, l1, u1, hb⟩ := h.fits (by have := C0.out; have := C1.out; have := Z0.out; omega) (by have := C0.out; have := Z0.out; have := HL1.out; omega); have Z1 := Lib.hid hz1; have d1 : decide (z1 < 0) = false := (by simp; omega); have HR2 := Lib.hid (HR1.out.below hb HG1.out); have HB2 := Lib.hid (HB1.out.trans (hb.mono HB1.out.size)); have HG2 := Lib.hid (Nat.lt_of_lt_of_le HG1.out hb.size); have q13 : w2.cell? ⟨W.heap.size, 3, none⟩ = some (.slice A3 n3 c3) := HR2.out.cell 3; clear hb hz1  HK2)
          go_wp2_with (go_at_call 36; have HQ := szFileS_any A3 n3 c3 x3 (z1) _ (HK3.out.go HB2.out) (by have := C0.out; have := C1.out; have := Z0.out; have := Z1.out; have := HL0.out; omega) (by have := C0.out; have := C1.out; have := Z0.out; have := Z1.out; have := HL1.out; omega); refine Calls.mono HQ ?_; clear HQ; intro e w3 h; obtain ⟨z2, rfl, hz2, l2, u2, hb⟩ := h.fits (by have := C0.out; have := C1.out; have := C2.out; have := Z0.out; have := Z1.out; omega) (by have := C0.out; have := C1.out; have := Z0.out; have := Z1.out; have := HL1.out; omega); have Z2 := Lib.hid hz2; have d2 : decide (z2 < 0) = false := (by simp; omega); have HR3 := Lib.hid (HR2.out.below hb HG2.out); have HB3 := Lib.hid (HB2.out.trans (hb.mono HB2.out.size)); have HG3 := Lib.hid (Nat.lt_of_lt_of_le HG2.out hb.size); have q24 : w3.cell? ⟨W.heap.size, 4, none⟩ = some (.slice A4 n4 c4) := HR3.out.cell 4; clear hb hz2  HK3)
          go_wp2_with (go_at_call 35; have HQ := szStringS_any A4 n4 c4 x4 (z2) _ (HK4.out.go HB3.out) (by have := C0.out; have := C1.out; have := C2.out; have := Z0.out; have := Z1.out; have := Z2.out; have := HL0.out; omega) (by have := C0.out; have := C1.out; have := C2.out; have := Z0.out; have := Z1.out; have := Z2.out; have := HL1.out; omega); refine Calls.mono HQ ?_; clear HQ; intro e w4 h; obtain ⟨rfl, hb⟩ := h.long (by have := C0.out; have := C1.out; have := C2.out; have := C3.out; have := Z0.out; have := Z1.out; have := Z2.out; omega); have HR4 := Lib.hid (HR3.out.below hb HG3.out); have HB4 := Lib.hid (HB3.out.trans (hb.mono HB3.out.size)); have HG4 := Lib.hid (Nat.lt_of_lt_of_le HG3.out hb.size); clear hb  HK4)
          go_ret
          exact ⟨.inr ⟨by have := C0.out; have := C1.out; have := C2.out; have := C3.out; have := Z0.out; have := Z1.out; have := Z2.out; have := HS.out; omega, rfl⟩, HB4.out⟩
      · have C2 := Lib.hid cc2
        clear cc2
        go_enter Tryd.func14, Tryd.ntmps14
        go_wp2_with (go_at_call 35; obtain ⟨g0, g1, g2⟩ := HC.out _ rfl; have HQ := szStringS_any A0 n0 c0 x0 (L) _ (HK0.out.go g1) HL0.out HL1.out; refine Calls.mono HQ ?_; clear HQ; intro e w1 h; obtain ⟨z0, rfl, hz0, l0, u0, hb⟩ := h.fits (by have := C0.out; omega) HL1.out; have Z0 := Lib.hid hz0; have d0 : decide (z0 < 0) = false := (by simp; omega); have HR1 := Lib.hid (g0.below hb g2); have HB1 := Lib.hid (g1.trans (hb.mono g1.size)); have HG1 := Lib.hid (Nat.lt_of_lt_of_le g2 hb.size); have q02 : w1.cell? ⟨W.heap.size, 2, none⟩ = some (.slice A2 n2 c2) := HR1.out.cell 2; clear hb hz0 g0 g1 g2 HK0)
        go_wp2_with (go_at_call 35; have HQ := szStringS_any A2 n2 c2 x2 (z0) _ (HK2.out.go HB1.out) (by have := C0.out; have := Z0.out; have := HL0.out; omega) (by have := C0.out; have := Z0.out; have := HL1.out; omega); refine Calls.mono HQ ?_; clear HQ; intro e w2 h; obtain ⟨z1, rfl, hz1, l1, u1, hb⟩ := h.fits (by have := C0.out; have := C1.out; have := Z0.out; omega) (by have := C0.out; have := Z0.out; have := HL1.out; omega); have Z1 := Lib.hid hz1; have d1 : decide (z1 < 0) = false := (by simp; omega); have HR2 := Lib.hid (HR1.out.below hb HG1.out); have HB2 := Lib.hid (HB1.out.trans (hb.mono HB1.out.size)); have HG2 := Lib.hid (Nat.lt_of_lt_of_le HG1.out hb.size); have q13 : w2.cell? ⟨W.heap.size, 3, none⟩ = some (.slice A3 n3 c3) := HR2.out.cell 3; clear hb hz1  HK2)
        go_wp2_with (go_at_call 36; have HQ := szFileS_any A3 n3 c3 x3 (z1) _ (HK3.out.go HB2.out) (by have := C0.out; have := C1.out; have := Z0.out; have := Z1.out; have := HL0.out; omega) (by have := C0.out; have := C1.out; have := Z0.out; have := Z1.out; have := HL1.out; omega); refine Calls.mono HQ ?_; clear HQ; intro e w3 h; obtain ⟨rfl, hb⟩ := h.long (by have := C0.out; have := C1.out; have := C2.out; have := Z0.out; have := Z1.out; omega); have HR3 := Lib.hid (HR2.out.below hb HG2.out); have HB3 := Lib.hid (HB2.out.trans (hb.mono HB2.out.size)); have HG3 := Lib.hid (Nat.lt_of_lt_of_le HG2.out hb.size); clear hb  HK3)
        go_ret
        exact ⟨.inr ⟨by have := C0.out; have := C1.out; have := C2.out; have := Z0.out; have := Z1.out; have := HS.out; omega, rfl⟩, HB3.out⟩
    · have C1 := Lib.hid cc1
      clear cc1
      go_enter Tryd.func14, Tryd.ntmps14
      go_wp2_with (go_at_call 35; obtain ⟨g0, g1, g2⟩ := HC.out _ rfl; have HQ := szStringS_any A0 n0 c0 x0 (L) _ (HK0.out.go g1) HL0.out HL1.out; refine Calls.mono HQ ?_; clear HQ; intro e w1 h; obtain ⟨z0, rfl, hz0, l0, u0, hb⟩ := h.fits (by have := C0.out; omega) HL1.out; have Z0 := Lib.hid hz0; have d0 : decide (z0 < 0) = false := (by simp; omega); have HR1 := Lib.hid (g0.below hb g2); have HB1 := Lib.hid (g1.trans (hb.mono g1.size)); have HG1 := Lib.hid (Nat.lt_of_lt_of_le g2 hb.size); have q02 : w1.cell? ⟨W.heap.size, 2, none⟩ = some (.slice A2 n2 c2) := HR1.out.cell 2; clear hb hz0 g0 g1 g2 HK0)
      go_wp2_with (go_at_call 35; have HQ := szStringS_any A2 n2 c2 x2 (z0) _ (HK2.out.go HB1.out) (by have := C0.out; have := Z0.out; have := HL0.out; omega) (by have := C0.out; have := Z0.out; have := HL1.out; omega); refine Calls.mono HQ ?_; clear HQ; intro e w2 h; obtain ⟨rfl, hb⟩ := h.long (by have := C0.out; have := C1.out; have := Z0.out; omega); have HR2 := Lib.hid (HR1.out.below hb HG1.out); have HB2 := Lib.hid (HB1.out.trans (hb.mono HB1.out.size)); have HG2 := Lib.hid (Nat.lt_of_lt_of_le HG1.out hb.size); clear hb  HK2)
      go_ret
      exact ⟨.inr ⟨by have := C0.out; have := C1.out; have := Z0.out; have := HS.out; omega, rfl⟩, HB2.out⟩
  · have C0 := Lib.hid cc0
    clear cc0
    go_enter Tryd.func14, Tryd.ntmps14
    go_wp2_with (go_at_call 35; obtain ⟨g0, g1, g2⟩ := HC.out _ rfl; have HQ := szStringS_any A0 n0 c0 x0 (L) _ (HK0.out.go g1) HL0.out HL1.out; refine Calls.mono HQ ?_; clear HQ; intro e w1 h; obtain ⟨rfl, hb⟩ := h.long (by have := C0.out; omega); have HR1 := Lib.hid (g0.below hb g2); have HB1 := Lib.hid (g1.trans (hb.mono g1.size)); have HG1 := Lib.hid (Nat.lt_of_lt_of_le g2 hb.size); clear hb g0 g1 g2 HK0)
    go_ret
    exact ⟨.inr ⟨by have := C0.out; have := HS.out; omega, rfl⟩, HB1.out⟩

/-- Those of the first k. -/
def sumCn (xs : List Cn) : Nat → Nat
  | 0 => 0
  | k + 1 => sumCn xs k + ((xs[k]?.map szCn1).getD 0)
theorem sumCn_next {xs : List Cn} {k : Nat} {x : Cn} (h : xs[k]? = some x) : sumCn xs (k + 1) = sumCn xs k + szCn1 x := by
  rw [sumCn, h]
  rfl
theorem sumCn_mono {xs : List Cn} {j : Nat} : ∀ {k : Nat}, j ≤ k → sumCn xs j ≤ sumCn xs k
  | 0, h => by obtain rfl : j = 0 := by omega
               exact Nat.le_refl _
  | k + 1, h => by
    by_cases e : j = k + 1
    · rw [e]; exact Nat.le_refl _
    · have := sumCn_mono (xs := xs) (show j ≤ k by omega)
      rw [sumCn]
      omega
def szCn (xs : List Cn) : Nat := xs.length + sumCn xs xs.length

/-- No list is too long. -/
def CnSmall (x : Cn) : Prop := x.input_.length ≤ 1048576 ∧ x.output_.length ≤ 1048576 ∧ ((∀ (j : Nat) (y : Fl), x.files_[j]? = some y → FlSmall y) ∧ x.files_.length ≤ 1048576) ∧ x.trace_.length ≤ 1048576
theorem small_Cn1 {x : Cn} (h : (szCn1 x : Int) ≤ 1048576) : CnSmall x := by
  unfold szCn1 at h
  unfold CnSmall
  exact ⟨(by unfold szSt at h; omega), (by unfold szSt at h; omega), (small_Fl (by omega)), (by unfold szSt at h; omega)⟩
theorem small_Cn {xs : List Cn} (h : (szCn xs : Int) ≤ 1048576) : (∀ (j : Nat) (x : Cn), xs[j]? = some x → CnSmall x) ∧ xs.length ≤ 1048576 := by
  unfold szCn at h
  refine ⟨fun j x hx => small_Cn1 ?_, by omega⟩
  have hl := (List.getElem?_eq_some_iff.1 hx).1
  have h1 := sumCn_mono (xs := xs) (j := j + 1) (k := xs.length) (by omega)
  rw [sumCn_next hx] at h1
  omega
end Go.Proofs.YtjhemdgeafglhaaDoor
