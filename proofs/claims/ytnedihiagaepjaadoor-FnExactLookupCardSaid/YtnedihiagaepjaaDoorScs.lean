/- Scope: as plain data and in memory; szScope, szScopeS of the laws. No condition. -/
import Derived.Test.YtnedihiagaepjaaDoorBdsEq
import Derived.Test.YtnedihiagaepjaaDoorFnsEq
import Derived.Test.YtnedihiagaepjaaDoorRtsEq
namespace Go.Proofs.YtnedihiagaepjaaDoor
open Go Go.RowKit

structure Sc where
  vars_ : List Bd
  functions_ : List Fn
  types_ : List Rt
/-- Where its lists lie. -/
structure ScLay where
  A0 : Option Addr
  n0 : Nat
  c0 : Nat
  h0 : n0 ≤ c0
  A1 : Option Addr
  n1 : Nat
  c1 : Nat
  h1 : n1 ≤ c1
  A2 : Option Addr
  n2 : Nat
  c2 : Nat
  h2 : n2 ≤ c2
/-- As one value. -/
abbrev Sc.ag (x : Sc) (l : ScLay) : Value := .agg #[.slice l.A0 l.n0 l.c0, .slice l.A1 l.n1 l.c1, .slice l.A2 l.n2 l.c2]
def Sc.vs (x : Sc) (l : ScLay) : List Value := [.slice l.A0 l.n0 l.c0, .slice l.A1 l.n1 l.c1, .slice l.A2 l.n2 l.c2]
/-- Its lists lie below B. -/
def ScV (w : World) (B : Nat) (x : Sc) (l : ScLay) : Prop := BdI w B l.A0 l.n0 x.vars_ ∧ FnI w B l.A1 l.n1 x.functions_ ∧ RtI w B l.A2 l.n2 x.types_
theorem ScV.below {w w' : World} {B : Nat} {x : Sc} {l : ScLay} (h : ScV w B x l) (hb : Below B w w') : ScV w' B x l := by
  obtain ⟨h0, h1, h2⟩ := h
  exact ⟨h0.below hb, h1.below hb, h2.below hb⟩
theorem ScV.more {w : World} {B B' : Nat} {x : Sc} {l : ScLay} (h : ScV w B x l) (hB : B ≤ B') : ScV w B' x l := by
  obtain ⟨h0, h1, h2⟩ := h
  exact ⟨h0.more hB, h1.more hB, h2.more hB⟩
theorem ScV.go {W w : World} {x : Sc} {l : ScLay} (h : ScV W W.heap.size x l) (hb : Below W.heap.size W w) : ScV w w.heap.size x l := (h.below hb).more hb.size
theorem ScV.alloc {W : World} {x : Sc} {l : ScLay} (h : ScV W W.heap.size x l) (o : Obj) : ScV (W.alloc o) (W.alloc o).heap.size x l := h.go (below_alloc W o)
/-- Its cells from p on of block b. -/
def ScAt (w : World) (b p : Nat) (x : Sc) (l : ScLay) : Prop := w.cell? ⟨b, p, none⟩ = some (.slice l.A0 l.n0 l.c0) ∧ w.cell? ⟨b, p + 1, none⟩ = some (.slice l.A1 l.n1 l.c1) ∧ w.cell? ⟨b, p + 2, none⟩ = some (.slice l.A2 l.n2 l.c2)
theorem ScAt.below {w w' : World} {b p B : Nat} {x : Sc} {l : ScLay} (h : ScAt w b p x l) (hb : Below B w w') (hg : b < B) : ScAt w' b p x l := by
  obtain ⟨h0, h1, h2⟩ := h
  exact ⟨(hb.cell (p := ⟨b, p, none⟩) hg).trans h0, (hb.cell (p := ⟨b, p + 1, none⟩) hg).trans h1, (hb.cell (p := ⟨b, p + 2, none⟩) hg).trans h2⟩
theorem ScAt.range {w : World} {b p : Nat} {x : Sc} {l : ScLay} (h : ScAt w b p x l) : w.rangeAt b p (x.vs l) := by
  obtain ⟨h0, h1, h2⟩ := h
  intro j v hj
  match j, hj with
  | 0, hj => cases hj; exact h0
  | 1, hj => cases hj; exact h1
  | 2, hj => cases hj; exact h2
  | j + 3, hj => simp [Sc.vs] at hj
/-- A slice of them that lies below B, with their lists. -/
def ScI (w : World) (B : Nat) (A : Option Addr) (n : Nat) (xs : List Sc) : Prop :=
  xs.length = n ∧ n ≤ maxLen ∧ (0 < n → ∃ b off, A = some ⟨b, off, none⟩ ∧ b < B ∧ ∀ (j : Nat) (x : Sc), xs[j]? = some x → ∃ l, ScAt w b (off + j * 3) x l ∧ ScV w B x l)
theorem ScI.below {w w' : World} {B n : Nat} {A : Option Addr} {xs : List Sc} (h : ScI w B A n xs) (hb : Below B w w') : ScI w' B A n xs :=
  ⟨h.1, h.2.1, fun hn => by
    obtain ⟨b, off, e, hg, hc⟩ := h.2.2 hn
    refine ⟨b, off, e, hg, fun j x hx => ?_⟩
    obtain ⟨l, h1, h2⟩ := hc j x hx
    exact ⟨l, h1.below hb hg, h2.below hb⟩⟩
theorem ScI.more {w : World} {B B' n : Nat} {A : Option Addr} {xs : List Sc} (h : ScI w B A n xs) (hB : B ≤ B') : ScI w B' A n xs :=
  ⟨h.1, h.2.1, fun hn => by
    obtain ⟨b, off, e, hg, hc⟩ := h.2.2 hn
    refine ⟨b, off, e, by omega, fun j x hx => ?_⟩
    obtain ⟨l, h1, h2⟩ := hc j x hx
    exact ⟨l, h1, h2.more hB⟩⟩
theorem ScI.at_ {w : World} {B n k : Nat} {A : Option Addr} {xs : List Sc} (h : ScI w B A n xs) (hk : k < n) : ∃ b off x l, A = some ⟨b, off, none⟩ ∧ b < B ∧ xs[k]? = some x ∧ ScAt w b (off + k * 3) x l ∧ ScV w B x l := by
  obtain ⟨b, off, e, hg, hc⟩ := h.2.2 (by omega)
  have hl : k < xs.length := by rw [h.1]; exact hk
  obtain ⟨l, h1, h2⟩ := hc k _ (List.getElem?_eq_getElem hl)
  exact ⟨b, off, xs[k], l, e, hg, List.getElem?_eq_getElem hl, h1, h2⟩
theorem ScI.go {W w : World} {A : Option Addr} {n : Nat} {xs : List Sc} (h : ScI W W.heap.size A n xs) (hb : Below W.heap.size W w) : ScI w w.heap.size A n xs := (h.below hb).more hb.size
theorem ScI.alloc {W : World} {A : Option Addr} {n : Nat} {xs : List Sc} (h : ScI W W.heap.size A n xs) (o : Obj) : ScI (W.alloc o) (W.alloc o).heap.size A n xs := h.go (below_alloc W o)

section
variable {H : Type} {enc : TypeId × Value → H} {W : World} {base : Nat} {held : Bool}
set_option maxRecDepth 100000 in
/-- Its cells, each with its own reading. -/
theorem open_ScN {fuel : Nat} {cs : List Value} {x : DataW H × List MemPlace} (h : DataW.trod enc Tryd.prog W base (fun _ => true) held fuel 26 cs = some x) :
    ∃ x l, cs = Sc.vs x l ∧ ScV W W.heap.size x l := by
  obtain ⟨ys, m, hm, _, hlen, _, hf⟩ := DataW.trod_struct Tryd.underlying26 h
  have hlen' : cs.length = 3 := hlen.trans (by kernel_rfl)
  match cs, hlen' with
  | [c0, c1, c2], _ =>
    have hys : ∀ i, i < 3 → ∃ y, ys[i]? = some y := by
      intro i hi
      have : ys.length = 3 := by assumption
      exact ⟨_, List.getElem?_eq_getElem (by omega)⟩
    have f0 : DataW.trod enc Tryd.prog W base (fun _ => true) held m 22 [c0] = ys[0]? := field_at (i := 0) (o := 0) (k := 1) (T := 22) hf (by kernel_rfl) (by kernel_rfl)
    obtain ⟨y0, g0⟩ := hys 0 (by decide)
    rw [g0] at f0
    have f1 : DataW.trod enc Tryd.prog W base (fun _ => true) held m 23 [c1] = ys[1]? := field_at (i := 1) (o := 1) (k := 1) (T := 23) hf (by kernel_rfl) (by kernel_rfl)
    obtain ⟨y1, g1⟩ := hys 1 (by decide)
    rw [g1] at f1
    have f2 : DataW.trod enc Tryd.prog W base (fun _ => true) held m 24 [c2] = ys[2]? := field_at (i := 2) (o := 2) (k := 1) (T := 24) hf (by kernel_rfl) (by kernel_rfl)
    obtain ⟨y2, g2⟩ := hys 2 (by decide)
    rw [g2] at f2
    obtain ⟨A0, n0, q0, hc0, e0⟩ := open_slice1 Tryd.underlying22 f0
    rw [e0] at f0
    obtain ⟨z0, hz0⟩ := open_BdF f0
    obtain ⟨A1, n1, q1, hc1, e1⟩ := open_slice1 Tryd.underlying23 f1
    rw [e1] at f1
    obtain ⟨z1, hz1⟩ := open_FnF f1
    obtain ⟨A2, n2, q2, hc2, e2⟩ := open_slice1 Tryd.underlying24 f2
    rw [e2] at f2
    obtain ⟨z2, hz2⟩ := open_RtF f2
    simp only [List.cons.injEq, and_true] at e0 e1 e2
    subst e0 e1 e2
    exact ⟨⟨z0, z1, z2⟩, ⟨A0, n0, q0, hc0, A1, n1, q1, hc1, A2, n2, q2, hc2⟩, rfl, hz0, hz1, hz2⟩
end
set_option maxRecDepth 100000 in
/-- An argument. -/
theorem open_Sc {H : Type} {enc : TypeId × Value → H} {W : World} {v : Value} {d : DataW H} {p : List MemPlace} {r : Reach} {b0 : Nat} (hv : Value.okWide Tryd.prog W r b0 26 v) (h : DataW.Trod enc Tryd.prog W 0 (fun _ => true) true 26 v d p) :
    ∃ x l, v = Sc.ag x l ∧ ScV W W.heap.size x l := by
  obtain ⟨cs, rfl, hsz⟩ := Go.WideShapes.okWide_struct Tryd.underlying26 hv
  obtain ⟨fuel, hf⟩ := h
  obtain ⟨x, l, e, ho⟩ := open_ScN hf
  refine ⟨x, l, ?_, ho⟩
  have : cs.toList = Sc.vs x l := e
  rw [show cs = (Sc.vs x l).toArray from by rw [← this]]
  rfl
/-- What szScope takes of the bound. -/
def szSc1 (x : Sc) : Nat := szBd x.vars_ + szFn x.functions_ + szRt x.types_

set_option maxHeartbeats 2000000 in
set_option maxRecDepth 100000 in
theorem szScope_any (x : Sc) (l : ScLay) (L : Int) (W : World) (ho : ScV W W.heap.size x l) (hLL : 0 ≤ L) (hL : L ≤ 1048576) :
    Calls Tryd.prog 5 #[x.ag l, .int .i64 L] W (SzL (szSc1 x) L W) := by
  obtain ⟨s, hs⟩ : ∃ s, szSc1 x = s := ⟨_, rfl⟩
  rw [hs]
  unfold szSc1 at hs
  obtain ⟨x0, x1, x2⟩ := x
  obtain ⟨A0, n0, c0, h0, A1, n1, c1, h1, A2, n2, c2, h2⟩ := l
  obtain ⟨k0, k1, k2⟩ := ho
  try unfold ScV at k0 k1 k2
  dsimp only at hs k0 k1 k2
  have HS := Lib.hid hs
  have HL0 := Lib.hid hLL
  have HL1 := Lib.hid hL
  have HK0 := Lib.hid k0
  have HK1 := Lib.hid k1
  have HK2 := Lib.hid k2
  have HC := Lib.hid (fun X (e : X = W.alloc (.cells #[.slice A0 n0 c0, .slice A1 n1 c1, .slice A2 n2 c2] 26)) => (show RW 26 X W.heap.size #[.slice A0 n0 c0, .slice A1 n1 c1, .slice A2 n2 c2] ∧ Below W.heap.size W X ∧ W.heap.size < X.heap.size from by rw [e]; exact ⟨RW.new _ _ _, below_alloc _ _, lt_alloc _ _⟩))
  clear hs k0 k1 k2
  show Calls Tryd.prog 5 #[.agg #[.slice A0 n0 c0, .slice A1 n1 c1, .slice A2 n2 c2], .int .i64 L] W _
  by_cases cc0 : (szBd x0 : Int) ≤ L
  · have C0 := Lib.hid cc0
    clear cc0
    by_cases cc1 : (szBd x0 : Int) + (szFn x1 : Int) ≤ L
    · have C1 := Lib.hid cc1
      clear cc1
      by_cases cc2 : (szBd x0 : Int) + (szFn x1 : Int) + (szRt x2 : Int) ≤ L
      · have C2 := Lib.hid cc2
        clear cc2
        go_enter Tryd.func5, Tryd.ntmps5
        go_wp2_with (go_at_call 21; obtain ⟨g0, g1, g2⟩ := HC.out _ rfl; have HQ := szBindingS_any A0 n0 c0 x0 (L) _ (HK0.out.go g1) HL0.out HL1.out; refine Calls.mono HQ ?_; clear HQ; intro e w1 h; obtain ⟨z0, rfl, hz0, l0, u0, hb⟩ := h.fits (by have := C0.out; omega) HL1.out; have Z0 := Lib.hid hz0; have d0 : decide (z0 < 0) = false := (by simp; omega); have HR1 := Lib.hid (g0.below hb g2); have HB1 := Lib.hid (g1.trans (hb.mono g1.size)); have HG1 := Lib.hid (Nat.lt_of_lt_of_le g2 hb.size); have q01 : w1.cell? ⟨W.heap.size, 1, none⟩ = some (.slice A1 n1 c1) := HR1.out.cell 1; clear hb hz0 g0 g1 g2 HK0)
        go_wp2_with (go_at_call 22; have HQ := szFunctionS_any A1 n1 c1 x1 (z0) _ (HK1.out.go HB1.out) (by have := C0.out; have := Z0.out; have := HL0.out; omega) (by have := C0.out; have := Z0.out; have := HL1.out; omega); refine Calls.mono HQ ?_; clear HQ; intro e w2 h; obtain ⟨z1, rfl, hz1, l1, u1, hb⟩ := h.fits (by have := C0.out; have := C1.out; have := Z0.out; omega) (by have := C0.out; have := Z0.out; have := HL1.out; omega); have Z1 := Lib.hid hz1; have d1 : decide (z1 < 0) = false := (by simp; omega); have HR2 := Lib.hid (HR1.out.below hb HG1.out); have HB2 := Lib.hid (HB1.out.trans (hb.mono HB1.out.size)); have HG2 := Lib.hid (Nat.lt_of_lt_of_le HG1.out hb.size); have q12 : w2.cell? ⟨W.heap.size, 2, none⟩ = some (.slice A2 n2 c2) := HR2.out.cell 2; clear hb hz1  HK1)
        go_wp2_with (go_at_call 23; have HQ := szRecordTypeS_any A2 n2 c2 x2 (z1) _ (HK2.out.go HB2.out) (by have := C0.out; have := C1.out; have := Z0.out; have := Z1.out; have := HL0.out; omega) (by have := C0.out; have := C1.out; have := Z0.out; have := Z1.out; have := HL1.out; omega); refine Calls.mono HQ ?_; clear HQ; intro e w3 h; obtain ⟨z2, rfl, hz2, l2, u2, hb⟩ := h.fits (by have := C0.out; have := C1.out; have := C2.out; have := Z0.out; have := Z1.out; omega) (by have := C0.out; have := C1.out; have := Z0.out; have := Z1.out; have := HL1.out; omega); have Z2 := Lib.hid hz2; have d2 : decide (z2 < 0) = false := (by simp; omega); have HR3 := Lib.hid (HR2.out.below hb HG2.out); have HB3 := Lib.hid (HB2.out.trans (hb.mono HB2.out.size)); have HG3 := Lib.hid (Nat.lt_of_lt_of_le HG2.out hb.size); clear hb hz2  HK2)
        go_ret
        refine ⟨.inl ⟨by have := C0.out; have := C1.out; have := C2.out; have := Z0.out; have := Z1.out; have := Z2.out; have := HS.out; omega, ?_⟩, HB3.out⟩
        have hx : z2 = L - (s : Int) := by have := C0.out; have := C1.out; have := C2.out; have := Z0.out; have := Z1.out; have := Z2.out; have := HS.out; omega
        rw [← hx]
        rfl
      · have C2 := Lib.hid cc2
        clear cc2
        go_enter Tryd.func5, Tryd.ntmps5
        go_wp2_with (go_at_call 21; obtain ⟨g0, g1, g2⟩ := HC.out _ rfl; have HQ := szBindingS_any A0 n0 c0 x0 (L) _ (HK0.out.go g1) HL0.out HL1.out; refine Calls.mono HQ ?_; clear HQ; intro e w1 h; obtain ⟨z0, rfl, hz0, l0, u0, hb⟩ := h.fits (by have := C0.out; omega) HL1.out; have Z0 := Lib.hid hz0; have d0 : decide (z0 < 0) = false := (by simp; omega); have HR1 := Lib.hid (g0.below hb g2); have HB1 := Lib.hid (g1.trans (hb.mono g1.size)); have HG1 := Lib.hid (Nat.lt_of_lt_of_le g2 hb.size); have q01 : w1.cell? ⟨W.heap.size, 1, none⟩ = some (.slice A1 n1 c1) := HR1.out.cell 1; clear hb hz0 g0 g1 g2 HK0)
        go_wp2_with (go_at_call 22; have HQ := szFunctionS_any A1 n1 c1 x1 (z0) _ (HK1.out.go HB1.out) (by have := C0.out; have := Z0.out; have := HL0.out; omega) (by have := C0.out; have := Z0.out; have := HL1.out; omega); refine Calls.mono HQ ?_; clear HQ; intro e w2 h; obtain ⟨z1, rfl, hz1, l1, u1, hb⟩ := h.fits (by have := C0.out; have := C1.out; have := Z0.out; omega) (by have := C0.out; have := Z0.out; have := HL1.out; omega); have Z1 := Lib.hid hz1; have d1 : decide (z1 < 0) = false := (by simp; omega); have HR2 := Lib.hid (HR1.out.below hb HG1.out); have HB2 := Lib.hid (HB1.out.trans (hb.mono HB1.out.size)); have HG2 := Lib.hid (Nat.lt_of_lt_of_le HG1.out hb.size); have q12 : w2.cell? ⟨W.heap.size, 2, none⟩ = some (.slice A2 n2 c2) := HR2.out.cell 2; clear hb hz1  HK1)
        go_wp2_with (go_at_call 23; have HQ := szRecordTypeS_any A2 n2 c2 x2 (z1) _ (HK2.out.go HB2.out) (by have := C0.out; have := C1.out; have := Z0.out; have := Z1.out; have := HL0.out; omega) (by have := C0.out; have := C1.out; have := Z0.out; have := Z1.out; have := HL1.out; omega); refine Calls.mono HQ ?_; clear HQ; intro e w3 h; obtain ⟨rfl, hb⟩ := h.long (by have := C0.out; have := C1.out; have := C2.out; have := Z0.out; have := Z1.out; omega); have HR3 := Lib.hid (HR2.out.below hb HG2.out); have HB3 := Lib.hid (HB2.out.trans (hb.mono HB2.out.size)); have HG3 := Lib.hid (Nat.lt_of_lt_of_le HG2.out hb.size); clear hb  HK2)
        go_ret
        exact ⟨.inr ⟨by have := C0.out; have := C1.out; have := C2.out; have := Z0.out; have := Z1.out; have := HS.out; omega, rfl⟩, HB3.out⟩
    · have C1 := Lib.hid cc1
      clear cc1
      go_enter Tryd.func5, Tryd.ntmps5
      go_wp2_with (go_at_call 21; obtain ⟨g0, g1, g2⟩ := HC.out _ rfl; have HQ := szBindingS_any A0 n0 c0 x0 (L) _ (HK0.out.go g1) HL0.out HL1.out; refine Calls.mono HQ ?_; clear HQ; intro e w1 h; obtain ⟨z0, rfl, hz0, l0, u0, hb⟩ := h.fits (by have := C0.out; omega) HL1.out; have Z0 := Lib.hid hz0; have d0 : decide (z0 < 0) = false := (by simp; omega); have HR1 := Lib.hid (g0.below hb g2); have HB1 := Lib.hid (g1.trans (hb.mono g1.size)); have HG1 := Lib.hid (Nat.lt_of_lt_of_le g2 hb.size); have q01 : w1.cell? ⟨W.heap.size, 1, none⟩ = some (.slice A1 n1 c1) := HR1.out.cell 1; clear hb hz0 g0 g1 g2 HK0)
      go_wp2_with (go_at_call 22; have HQ := szFunctionS_any A1 n1 c1 x1 (z0) _ (HK1.out.go HB1.out) (by have := C0.out; have := Z0.out; have := HL0.out; omega) (by have := C0.out; have := Z0.out; have := HL1.out; omega); refine Calls.mono HQ ?_; clear HQ; intro e w2 h; obtain ⟨rfl, hb⟩ := h.long (by have := C0.out; have := C1.out; have := Z0.out; omega); have HR2 := Lib.hid (HR1.out.below hb HG1.out); have HB2 := Lib.hid (HB1.out.trans (hb.mono HB1.out.size)); have HG2 := Lib.hid (Nat.lt_of_lt_of_le HG1.out hb.size); clear hb  HK1)
      go_ret
      exact ⟨.inr ⟨by have := C0.out; have := C1.out; have := Z0.out; have := HS.out; omega, rfl⟩, HB2.out⟩
  · have C0 := Lib.hid cc0
    clear cc0
    go_enter Tryd.func5, Tryd.ntmps5
    go_wp2_with (go_at_call 21; obtain ⟨g0, g1, g2⟩ := HC.out _ rfl; have HQ := szBindingS_any A0 n0 c0 x0 (L) _ (HK0.out.go g1) HL0.out HL1.out; refine Calls.mono HQ ?_; clear HQ; intro e w1 h; obtain ⟨rfl, hb⟩ := h.long (by have := C0.out; omega); have HR1 := Lib.hid (g0.below hb g2); have HB1 := Lib.hid (g1.trans (hb.mono g1.size)); have HG1 := Lib.hid (Nat.lt_of_lt_of_le g2 hb.size); clear hb g0 g1 g2 HK0)
    go_ret
    exact ⟨.inr ⟨by have := C0.out; have := HS.out; omega, rfl⟩, HB1.out⟩

/-- Those of the first k. -/
def sumSc (xs : List Sc) : Nat → Nat
  | 0 => 0
  | k + 1 => sumSc xs k + ((xs[k]?.map szSc1).getD 0)
theorem sumSc_next {xs : List Sc} {k : Nat} {x : Sc} (h : xs[k]? = some x) : sumSc xs (k + 1) = sumSc xs k + szSc1 x := by
  rw [sumSc, h]
  rfl
theorem sumSc_mono {xs : List Sc} {j : Nat} : ∀ {k : Nat}, j ≤ k → sumSc xs j ≤ sumSc xs k
  | 0, h => by obtain rfl : j = 0 := by omega
               exact Nat.le_refl _
  | k + 1, h => by
    by_cases e : j = k + 1
    · rw [e]; exact Nat.le_refl _
    · have := sumSc_mono (xs := xs) (show j ≤ k by omega)
      rw [sumSc]
      omega
def szSc (xs : List Sc) : Nat := xs.length + sumSc xs xs.length

/-- No list is too long. -/
def ScSmall (x : Sc) : Prop := x.vars_.length ≤ 1048576 ∧ ((∀ (j : Nat) (y : Fn), x.functions_[j]? = some y → FnSmall y) ∧ x.functions_.length ≤ 1048576) ∧ ((∀ (j : Nat) (y : Rt), x.types_[j]? = some y → RtSmall y) ∧ x.types_.length ≤ 1048576)
theorem small_Sc1 {x : Sc} (h : (szSc1 x : Int) ≤ 1048576) : ScSmall x := by
  unfold szSc1 at h
  unfold ScSmall
  exact ⟨(by unfold szBd at h; omega), (small_Fn (by omega)), (small_Rt (by omega))⟩
theorem small_Sc {xs : List Sc} (h : (szSc xs : Int) ≤ 1048576) : (∀ (j : Nat) (x : Sc), xs[j]? = some x → ScSmall x) ∧ xs.length ≤ 1048576 := by
  unfold szSc at h
  refine ⟨fun j x hx => small_Sc1 ?_, by omega⟩
  have hl := (List.getElem?_eq_some_iff.1 hx).1
  have h1 := sumSc_mono (xs := xs) (j := j + 1) (k := xs.length) (by omega)
  rw [sumSc_next hx] at h1
  omega
end Go.Proofs.YtnedihiagaepjaaDoor
