/- Memory: as plain data and in memory; szMemory of the laws. No condition. Plain: when two values are the same. No condition. Plain: a proposition as a bool; two values are one. No condition. Contracts: l07SameValues of the model, slices.Equal at values. No condition. Contracts: l07SameObject of the model, sameObject of the program. No condition. Contract: eqHeap of the laws where both are the same. No condition. Contracts: eqHeap where both are the same; slices.EqualFunc at objects, SameHeap of the program. No condition. Contracts: l07Same, SameHeap of the model. No condition. toScope, toScopeS of the laws. No condition. laws.eqScope, laws.eqScopeS where both are the same. No condition. Contracts: loop.example/g00873/spec.l18SameBindings, slices.Equal[[]loop.example/g00873/impl.Binding,loop.example/g00873/impl.Binding]: two slices of Binding are the same. No condition. -/
import Derived.Test.YtjhemdgeafglhaaSameMemoryM1
import Derived.Test.YtjhemdgeafglhaaSameMemoryM3
import Derived.Deep.QuietTactic
import Derived.BigQuiet
import Derived.Lib.QuietBelow
import Derived.Test.YtjhemdgeafglhaaSameMemoryM2
namespace Go.Proofs.Ytjhemdgeafglhaa
open Go Go.RowKit

structure Me where
  x0 : Int
  x1 : List Ob
  x2 : List Bd
  x3 : List Fn
  x4 : List Rt
  x5 : List St
  x6 : Int
  x7 : List St
  x8 : List Fl
  x9 : List St
/-- Where its lists lie. -/
structure MeLay where
  A1 : Option Addr
  n1 : Nat
  c1 : Nat
  h1 : n1 ≤ c1
  A2 : Option Addr
  n2 : Nat
  c2 : Nat
  h2 : n2 ≤ c2
  A3 : Option Addr
  n3 : Nat
  c3 : Nat
  h3 : n3 ≤ c3
  A4 : Option Addr
  n4 : Nat
  c4 : Nat
  h4 : n4 ≤ c4
  A5 : Option Addr
  n5 : Nat
  c5 : Nat
  h5 : n5 ≤ c5
  A7 : Option Addr
  n7 : Nat
  c7 : Nat
  h7 : n7 ≤ c7
  A8 : Option Addr
  n8 : Nat
  c8 : Nat
  h8 : n8 ≤ c8
  A9 : Option Addr
  n9 : Nat
  c9 : Nat
  h9 : n9 ≤ c9
/-- As one value. -/
abbrev Me.ag (x : Me) (l : MeLay) : Value := .agg #[.int .i64 x.x0, .slice l.A1 l.n1 l.c1, .slice l.A2 l.n2 l.c2, .slice l.A3 l.n3 l.c3, .slice l.A4 l.n4 l.c4, .slice l.A5 l.n5 l.c5, .int .i64 x.x6, .slice l.A7 l.n7 l.c7, .slice l.A8 l.n8 l.c8, .slice l.A9 l.n9 l.c9]
def Me.vs (x : Me) (l : MeLay) : List Value := [.int .i64 x.x0, .slice l.A1 l.n1 l.c1, .slice l.A2 l.n2 l.c2, .slice l.A3 l.n3 l.c3, .slice l.A4 l.n4 l.c4, .slice l.A5 l.n5 l.c5, .int .i64 x.x6, .slice l.A7 l.n7 l.c7, .slice l.A8 l.n8 l.c8, .slice l.A9 l.n9 l.c9]
/-- Its lists lie below B. -/
def MeV (w : World) (B : Nat) (x : Me) (l : MeLay) : Prop := OI w B l.A1 l.n1 x.x1 ∧ ScV w B ⟨x.x2, x.x3, x.x4⟩ ⟨l.A2, l.n2, l.c2, l.h2, l.A3, l.n3, l.c3, l.h3, l.A4, l.n4, l.c4, l.h4⟩ ∧ CnV w B ⟨x.x5, x.x6, x.x7, x.x8, x.x9⟩ ⟨l.A5, l.n5, l.c5, l.h5, l.A7, l.n7, l.c7, l.h7, l.A8, l.n8, l.c8, l.h8, l.A9, l.n9, l.c9, l.h9⟩
theorem MeV.below {w w' : World} {B : Nat} {x : Me} {l : MeLay} (h : MeV w B x l) (hb : Below B w w') : MeV w' B x l := ⟨h.1.below hb, h.2.1.below hb, h.2.2.below hb⟩
theorem MeV.more {w : World} {B B' : Nat} {x : Me} {l : MeLay} (h : MeV w B x l) (hB : B ≤ B') : MeV w B' x l := ⟨h.1.more hB, h.2.1.more hB, h.2.2.more hB⟩
theorem MeV.go {W w : World} {x : Me} {l : MeLay} (h : MeV W W.heap.size x l) (hb : Below W.heap.size W w) : MeV w w.heap.size x l := (h.below hb).more hb.size
theorem MeV.alloc {W : World} {x : Me} {l : MeLay} (h : MeV W W.heap.size x l) (o : Obj) : MeV (W.alloc o) (W.alloc o).heap.size x l := h.go (below_alloc W o)

section
variable {H : Type} {enc : TypeId × Value → H} {W : World}
set_option maxRecDepth 100000 in
/-- A heap's cells. -/
theorem open_HpN {fuel : Nat} {cs : List Value} {x : DataW H × List MemPlace} (h : DataW.trod enc Try.prog W 0 (fun _ => true) true fuel 35 cs = some x) :
    ∃ nx A n c os, cs = [.int .i64 nx, .slice A n c] ∧ n ≤ c ∧ OI W W.heap.size A n os := by
  obtain ⟨ys, m, hm, _, hlen, _, hf⟩ := DataW.trod_struct Try.underlying35 h
  have hlen' : cs.length = 2 := hlen.trans (by kernel_rfl)
  match cs, hlen' with
  | [c0, c1], _ =>
    have hys : ∀ i, i < 2 → ∃ y, ys[i]? = some y := by
      intro i hi
      have : ys.length = 2 := by assumption
      exact ⟨_, List.getElem?_eq_getElem (by omega)⟩
    have f0 : DataW.trod enc Try.prog W 0 (fun _ => true) true m 2 [c0] = ys[0]? := field_at (i := 0) (o := 0) (k := 1) (T := 2) hf (by kernel_rfl) (by kernel_rfl)
    have f1 : DataW.trod enc Try.prog W 0 (fun _ => true) true m 33 [c1] = ys[1]? := field_at (i := 1) (o := 1) (k := 1) (T := 33) hf (by kernel_rfl) (by kernel_rfl)
    obtain ⟨y0, g0⟩ := hys 0 (by decide)
    obtain ⟨y1, g1⟩ := hys 1 (by decide)
    rw [g0] at f0
    rw [g1] at f1
    obtain ⟨nx, e0, _, _⟩ := DataW.trod_int Try.underlying2 f0
    obtain ⟨A, n, c, hc, e1⟩ := open_slice1 Try.underlying33 f1
    rw [e1] at f1
    obtain ⟨os, hos⟩ := open_objectsF f1
    simp only [List.cons.injEq, and_true] at e0 e1
    subst e0 e1
    exact ⟨nx, A, n, c, os, rfl, hc, hos⟩
set_option maxRecDepth 100000 in
theorem open_MeN {fuel : Nat} {cs : List Value} {x : DataW H × List MemPlace} (h : DataW.trod enc Try.prog W 0 (fun _ => true) true fuel 42 cs = some x) :
    ∃ x l, cs = Me.vs x l ∧ MeV W W.heap.size x l := by
  obtain ⟨ys, m, hm, _, hlen, _, hf⟩ := DataW.trod_struct Try.underlying42 h
  have hlen' : cs.length = 10 := hlen.trans (by kernel_rfl)
  match cs, hlen' with
  | [c0, c1, c2, c3, c4, c5, c6, c7, c8, c9], _ =>
    have hys : ∀ i, i < 3 → ∃ y, ys[i]? = some y := by
      intro i hi
      have : ys.length = 3 := by assumption
      exact ⟨_, List.getElem?_eq_getElem (by omega)⟩
    have K0 : Try.prog.cellsOf 35 = 2 := by kernel_rfl
    have K1 : Try.prog.cellsOf 40 = 3 := by kernel_rfl
    have K2 : Try.prog.cellsOf 25 = 5 := by kernel_rfl
    have f0 : DataW.trod enc Try.prog W 0 (fun _ => true) true m 35 [c0, c1] = ys[0]? := field_at (i := 0) (o := 0) (k := 2) (T := 35) hf (by kernel_rfl) K0
    have f1 : DataW.trod enc Try.prog W 0 (fun _ => true) true m 40 [c2, c3, c4] = ys[1]? := field_at (i := 1) (o := 2) (k := 3) (T := 40) hf (by kernel_rfl) K1
    have f2 : DataW.trod enc Try.prog W 0 (fun _ => true) true m 25 [c5, c6, c7, c8, c9] = ys[2]? := field_at (i := 2) (o := 5) (k := 5) (T := 25) hf (by kernel_rfl) K2
    obtain ⟨y0, g0⟩ := hys 0 (by decide)
    obtain ⟨y1, g1⟩ := hys 1 (by decide)
    obtain ⟨y2, g2⟩ := hys 2 (by decide)
    rw [g0] at f0
    rw [g1] at f1
    rw [g2] at f2
    obtain ⟨nx, A, n, c, os, e0, hc, hos⟩ := open_HpN f0
    obtain ⟨⟨z0, z1, z2⟩, ⟨A2, n2, q2, h2, A3, n3, q3, h3, A4, n4, q4, h4⟩, e1, hs⟩ := open_ScN f1
    obtain ⟨⟨z5, z6, z7, z8, z9⟩, ⟨A5, n5, q5, h5, A7, n7, q7, h7, A8, n8, q8, h8, A9, n9, q9, h9⟩, e2, hn⟩ := open_CnN f2
    unfold Sc.vs at e1
    unfold Cn.vs at e2
    dsimp only at e1 e2
    simp only [List.cons.injEq, and_true] at e0 e1 e2
    obtain ⟨rfl, rfl⟩ := e0
    obtain ⟨rfl, rfl, rfl⟩ := e1
    obtain ⟨rfl, rfl, rfl, rfl, rfl⟩ := e2
    exact ⟨⟨nx, os, z0, z1, z2, z5, z6, z7, z8, z9⟩, ⟨A, n, c, hc, A2, n2, q2, h2, A3, n3, q3, h3, A4, n4, q4, h4, A5, n5, q5, h5, A7, n7, q7, h7, A8, n8, q8, h8, A9, n9, q9, h9⟩, rfl, hos, hs, hn⟩
end
set_option maxRecDepth 100000 in
/-- An argument. -/
theorem open_Me {H : Type} {enc : TypeId × Value → H} {W : World} {v : Value} {d : DataW H} {p : List MemPlace} {r : Reach} {b0 : Nat} (hv : Value.okWide Try.prog W r b0 42 v) (h : DataW.Trod enc Try.prog W 0 (fun _ => true) true 42 v d p) :
    ∃ x l, v = Me.ag x l ∧ MeV W W.heap.size x l := by
  obtain ⟨cs, rfl, hsz⟩ := Go.WideShapes.okWide_struct Try.underlying42 hv
  obtain ⟨fuel, hf⟩ := h
  obtain ⟨x, l, e, ho⟩ := open_MeN hf
  refine ⟨x, l, ?_, ho⟩
  have : cs.toList = Me.vs x l := e
  rw [show cs = (Me.vs x l).toArray from by rw [← this]]
  rfl
/-- What szMemory takes of the bound. -/
def szMe1 (x : Me) : Nat := szH x.x1 + szSc1 ⟨x.x2, x.x3, x.x4⟩ + szCn1 ⟨x.x5, x.x6, x.x7, x.x8, x.x9⟩
def MeSmall (x : Me) : Prop := Small x.x1 ∧ x.x1.length ≤ 1048576 ∧ ScSmall ⟨x.x2, x.x3, x.x4⟩ ∧ CnSmall ⟨x.x5, x.x6, x.x7, x.x8, x.x9⟩
theorem small_Me1 {x : Me} (h : (szMe1 x : Int) ≤ 1048576) : MeSmall x := by
  unfold szMe1 at h
  have h1 := small_of_sz (os := x.x1) (by omega)
  exact ⟨h1.1, h1.2, small_Sc1 (by omega), small_Cn1 (by omega)⟩

set_option maxHeartbeats 2000000 in
set_option maxRecDepth 100000 in
theorem szMemory_any (x : Me) (l : MeLay) (L : Int) (W : World) (ho : MeV W W.heap.size x l) (hLL : 0 ≤ L) (hL : L ≤ 1048576) :
    Calls Try.prog 10 #[x.ag l, .int .i64 L] W (SzL (szMe1 x) L W) := by
  obtain ⟨s, hs⟩ : ∃ s, szMe1 x = s := ⟨_, rfl⟩
  rw [hs]
  unfold szMe1 at hs
  obtain ⟨x0, x1, x2, x3, x4, x5, x6, x7, x8, x9⟩ := x
  obtain ⟨A1, n1, c1, h1, A2, n2, c2, h2, A3, n3, c3, h3, A4, n4, c4, h4, A5, n5, c5, h5, A7, n7, c7, h7, A8, n8, c8, h8, A9, n9, c9, h9⟩ := l
  obtain ⟨k0, k1, k2⟩ := ho
  dsimp only at hs k0 k1 k2
  have HQ0 := Lib.hid (fun (w : World) (hb : Below W.heap.size W w) => szHeap_any x0 A1 n1 c1 x1 L w (k0.go hb) hLL hL)
  have HQ1 := Lib.hid (fun (z : Int) (w : World) (hb : Below W.heap.size W w) (h0 : 0 ≤ z) (h1 : z ≤ 1048576) => szScope_any ⟨x2, x3, x4⟩ ⟨A2, n2, c2, h2, A3, n3, c3, h3, A4, n4, c4, h4⟩ z w (k1.go hb) h0 h1)
  have HQ2 := Lib.hid (fun (z : Int) (w : World) (hb : Below W.heap.size W w) (h0 : 0 ≤ z) (h1 : z ≤ 1048576) => szConsole_any ⟨x5, x6, x7, x8, x9⟩ ⟨A5, n5, c5, h5, A7, n7, c7, h7, A8, n8, c8, h8, A9, n9, c9, h9⟩ z w (k2.go hb) h0 h1)
  generalize szH x1 = a at hs HQ0
  generalize szSc1 ⟨x2, x3, x4⟩ = b at hs HQ1
  generalize szCn1 ⟨x5, x6, x7, x8, x9⟩ = c at hs HQ2
  have HS := Lib.hid hs
  have HL0 := Lib.hid hLL
  have HL1 := Lib.hid hL
  have HC := Lib.hid (fun X (e : X = W.alloc (.cells #[.int .i64 x0, .slice A1 n1 c1, .slice A2 n2 c2, .slice A3 n3 c3, .slice A4 n4 c4, .slice A5 n5 c5, .int .i64 x6, .slice A7 n7 c7, .slice A8 n8 c8, .slice A9 n9 c9] 42)) => (show RW 42 X W.heap.size #[.int .i64 x0, .slice A1 n1 c1, .slice A2 n2 c2, .slice A3 n3 c3, .slice A4 n4 c4, .slice A5 n5 c5, .int .i64 x6, .slice A7 n7 c7, .slice A8 n8 c8, .slice A9 n9 c9] ∧ Below W.heap.size W X ∧ W.heap.size < X.heap.size from by rw [e]; exact ⟨RW.new _ _ _, below_alloc _ _, lt_alloc _ _⟩))
  clear hs k0 k1 k2
  show Calls Try.prog 10 #[.agg #[.int .i64 x0, .slice A1 n1 c1, .slice A2 n2 c2, .slice A3 n3 c3, .slice A4 n4 c4, .slice A5 n5 c5, .int .i64 x6, .slice A7 n7 c7, .slice A8 n8 c8, .slice A9 n9 c9], .int .i64 L] W _
  by_cases cc0 : (a : Int) ≤ L
  · have C0 := Lib.hid cc0
    clear cc0
    by_cases cc1 : (a : Int) + (b : Int) ≤ L
    · have C1 := Lib.hid cc1
      clear cc1
      by_cases cc2 : (a : Int) + (b : Int) + (c : Int) ≤ L
      · have C2 := Lib.hid cc2
        clear cc2
        go_enter Try.func10, Try.ntmps10
        go_wp2_with (go_at_call 26; obtain ⟨g0, g1, g2⟩ := HC.out _ rfl; have HQ := HQ0.out _ g1; refine Calls.mono HQ ?_; clear HQ; intro e w1 h; obtain ⟨z0, rfl, hz0, l0, u0, hb⟩ := h.fits C0.out HL1.out; have Z0 := Lib.hid hz0; have Y0 : Hid (0 ≤ z0 ∧ z0 ≤ 1048576) := ⟨l0, u0⟩; have d0 : decide (z0 < 0) = false := (by simp; omega); have HR1 := Lib.hid (g0.below hb g2); have HB1 := Lib.hid (g1.trans (hb.mono g1.size)); have q12 : w1.cell? ⟨W.heap.size, 2, none⟩ = some (.slice A2 n2 c2) := HR1.out.cell 2; have q13 : w1.cell? ⟨W.heap.size, 3, none⟩ = some (.slice A3 n3 c3) := HR1.out.cell 3; have q14 : w1.cell? ⟨W.heap.size, 4, none⟩ = some (.slice A4 n4 c4) := HR1.out.cell 4; clear hb hz0 g0 g1 g2 h HQ0)
        go_wp2_with (go_at_call 27; have HQ := HQ1.out z0 _ HB1.out Y0.out.1 Y0.out.2; refine Calls.mono HQ ?_; clear HQ; intro e w2 h; obtain ⟨z1, rfl, hz1, l1, u1, hb⟩ := h.fits (by have := C1.out; have := Z0.out; omega) Y0.out.2; have Z1 := Lib.hid hz1; have Y1 : Hid (0 ≤ z1 ∧ z1 ≤ 1048576) := ⟨l1, u1⟩; have d1 : decide (z1 < 0) = false := (by simp; omega); have HR2 := Lib.hid (HR1.out.below hb HR1.out.lt); have HB2 := Lib.hid (HB1.out.trans (hb.mono HB1.out.size)); have q25 : w2.cell? ⟨W.heap.size, 5, none⟩ = some (.slice A5 n5 c5) := HR2.out.cell 5; have q26 : w2.cell? ⟨W.heap.size, 6, none⟩ = some (.int .i64 x6) := HR2.out.cell 6; have q27 : w2.cell? ⟨W.heap.size, 7, none⟩ = some (.slice A7 n7 c7) := HR2.out.cell 7; have q28 : w2.cell? ⟨W.heap.size, 8, none⟩ = some (.slice A8 n8 c8) := HR2.out.cell 8; have q29 : w2.cell? ⟨W.heap.size, 9, none⟩ = some (.slice A9 n9 c9) := HR2.out.cell 9; clear hb hz1 h HQ1)
        go_wp2_with (go_at_call 5; have HQ := HQ2.out z1 _ HB2.out Y1.out.1 Y1.out.2; refine Calls.mono HQ ?_; clear HQ; intro e w3 h; obtain ⟨z2, rfl, hz2, l2, u2, hb⟩ := h.fits (by have := C2.out; have := Z0.out; have := Z1.out; omega) Y1.out.2; have Z2 := Lib.hid hz2; have d2 : decide (z2 < 0) = false := (by simp; omega); have HB3 := Lib.hid (HB2.out.trans (hb.mono HB2.out.size)); clear hb hz2 h HQ2)
        go_ret
        refine ⟨.inl ⟨by have := C2.out; have := HS.out; omega, ?_⟩, HB3.out⟩
        have hx : z2 = L - (s : Int) := by have := Z0.out; have := Z1.out; have := Z2.out; have := HS.out; omega
        rw [← hx]
        rfl
      · have C2 := Lib.hid cc2
        clear cc2
        go_enter Try.func10, Try.ntmps10
        go_wp2_with (go_at_call 26; obtain ⟨g0, g1, g2⟩ := HC.out _ rfl; have HQ := HQ0.out _ g1; refine Calls.mono HQ ?_; clear HQ; intro e w1 h; obtain ⟨z0, rfl, hz0, l0, u0, hb⟩ := h.fits C0.out HL1.out; have Z0 := Lib.hid hz0; have Y0 : Hid (0 ≤ z0 ∧ z0 ≤ 1048576) := ⟨l0, u0⟩; have d0 : decide (z0 < 0) = false := (by simp; omega); have HR1 := Lib.hid (g0.below hb g2); have HB1 := Lib.hid (g1.trans (hb.mono g1.size)); have q12 : w1.cell? ⟨W.heap.size, 2, none⟩ = some (.slice A2 n2 c2) := HR1.out.cell 2; have q13 : w1.cell? ⟨W.heap.size, 3, none⟩ = some (.slice A3 n3 c3) := HR1.out.cell 3; have q14 : w1.cell? ⟨W.heap.size, 4, none⟩ = some (.slice A4 n4 c4) := HR1.out.cell 4; clear hb hz0 g0 g1 g2 h HQ0)
        go_wp2_with (go_at_call 27; have HQ := HQ1.out z0 _ HB1.out Y0.out.1 Y0.out.2; refine Calls.mono HQ ?_; clear HQ; intro e w2 h; obtain ⟨z1, rfl, hz1, l1, u1, hb⟩ := h.fits (by have := C1.out; have := Z0.out; omega) Y0.out.2; have Z1 := Lib.hid hz1; have Y1 : Hid (0 ≤ z1 ∧ z1 ≤ 1048576) := ⟨l1, u1⟩; have d1 : decide (z1 < 0) = false := (by simp; omega); have HR2 := Lib.hid (HR1.out.below hb HR1.out.lt); have HB2 := Lib.hid (HB1.out.trans (hb.mono HB1.out.size)); have q25 : w2.cell? ⟨W.heap.size, 5, none⟩ = some (.slice A5 n5 c5) := HR2.out.cell 5; have q26 : w2.cell? ⟨W.heap.size, 6, none⟩ = some (.int .i64 x6) := HR2.out.cell 6; have q27 : w2.cell? ⟨W.heap.size, 7, none⟩ = some (.slice A7 n7 c7) := HR2.out.cell 7; have q28 : w2.cell? ⟨W.heap.size, 8, none⟩ = some (.slice A8 n8 c8) := HR2.out.cell 8; have q29 : w2.cell? ⟨W.heap.size, 9, none⟩ = some (.slice A9 n9 c9) := HR2.out.cell 9; clear hb hz1 h HQ1)
        go_wp2_with (go_at_call 5; have HQ := HQ2.out z1 _ HB2.out Y1.out.1 Y1.out.2; refine Calls.mono HQ ?_; clear HQ; intro e w3 h; obtain ⟨rfl, hb⟩ := h.long (by have := C2.out; have := Z0.out; have := Z1.out; omega); have HB3 := Lib.hid (HB2.out.trans (hb.mono HB2.out.size)); clear hb h HQ2)
        go_ret
        exact ⟨.inr ⟨by have := C2.out; have := HS.out; omega, rfl⟩, HB3.out⟩
    · have C1 := Lib.hid cc1
      clear cc1
      go_enter Try.func10, Try.ntmps10
      go_wp2_with (go_at_call 26; obtain ⟨g0, g1, g2⟩ := HC.out _ rfl; have HQ := HQ0.out _ g1; refine Calls.mono HQ ?_; clear HQ; intro e w1 h; obtain ⟨z0, rfl, hz0, l0, u0, hb⟩ := h.fits C0.out HL1.out; have Z0 := Lib.hid hz0; have Y0 : Hid (0 ≤ z0 ∧ z0 ≤ 1048576) := ⟨l0, u0⟩; have d0 : decide (z0 < 0) = false := (by simp; omega); have HR1 := Lib.hid (g0.below hb g2); have HB1 := Lib.hid (g1.trans (hb.mono g1.size)); have q12 : w1.cell? ⟨W.heap.size, 2, none⟩ = some (.slice A2 n2 c2) := HR1.out.cell 2; have q13 : w1.cell? ⟨W.heap.size, 3, none⟩ = some (.slice A3 n3 c3) := HR1.out.cell 3; have q14 : w1.cell? ⟨W.heap.size, 4, none⟩ = some (.slice A4 n4 c4) := HR1.out.cell 4; clear hb hz0 g0 g1 g2 h HQ0)
      go_wp2_with (go_at_call 27; have HQ := HQ1.out z0 _ HB1.out Y0.out.1 Y0.out.2; refine Calls.mono HQ ?_; clear HQ; intro e w2 h; obtain ⟨rfl, hb⟩ := h.long (by have := C1.out; have := Z0.out; omega); have HB2 := Lib.hid (HB1.out.trans (hb.mono HB1.out.size)); clear hb h HQ1)
      go_ret
      exact ⟨.inr ⟨by have := C1.out; have := HS.out; omega, rfl⟩, HB2.out⟩
  · have C0 := Lib.hid cc0
    clear cc0
    go_enter Try.func10, Try.ntmps10
    go_wp2_with (go_at_call 26; obtain ⟨g0, g1, g2⟩ := HC.out _ rfl; have HQ := HQ0.out _ g1; refine Calls.mono HQ ?_; clear HQ; intro e w1 h; obtain ⟨rfl, hb⟩ := h.long C0.out; have HB1 := Lib.hid (g1.trans (hb.mono g1.size)); clear hb g0 g1 g2 h HQ0)
    go_ret
    exact ⟨.inr ⟨by have := C0.out; have := HS.out; omega, rfl⟩, HB1.out⟩
end Go.Proofs.Ytjhemdgeafglhaa

namespace Go.Proofs.Ytjhemdgeafglhaa
open Go Go.RowKit

/-- What SameValue answers. -/
def sameV (k n : Int) (t : ByteArray) (r k' n' : Int) (t' : ByteArray) (r' : Int) : Bool := (k == k') && ((n == n') && ((t.toList == t'.toList) && (r == r')))
end Go.Proofs.Ytjhemdgeafglhaa

namespace Go.Proofs.Ytjhemdgeafglhaa
open Go Go.RowKit

theorem sameV_iff (x y : Vl) : sameV x.k x.n x.t x.r y.k y.n y.t y.r = true ↔ x = y := by
  obtain ⟨k, n, t, r⟩ := x
  obtain ⟨k', n', t', r'⟩ := y
  unfold sameV
  simp only [Bool.and_eq_true, beq_iff_eq, Vl.mk.injEq]
  constructor
  · rintro ⟨h1, h2, h3, h4⟩
    exact ⟨h1, h2, WideShapes.bytes_inj (by rw [← ByteArray.toList_eq, ← ByteArray.toList_eq]; exact h3), h4⟩
  · rintro ⟨h1, h2, h3, h4⟩
    exact ⟨h1, h2, by rw [h3], h4⟩
theorem sameV_false {x y : Vl} (h : sameV x.k x.n x.t x.r y.k y.n y.t y.r = false) : x ≠ y := fun e => by rw [(sameV_iff x y).2 e] at h; cases h
end Go.Proofs.Ytjhemdgeafglhaa

namespace Go.Proofs.Ytjhemdgeafglhaa
open Go Go.RowKit

set_option maxHeartbeats 2000000 in
set_option maxRecDepth 100000 in
theorem l07SameValues_any (A A' : Option Addr) (n n' c c' : Nat) (xs ys : List Vl) (W : World) (ha : VI W W.heap.size A n xs) (hb : VI W W.heap.size A' n' ys) :
    Calls Try.prog 77 #[.slice A n c, .slice A' n' c'] W fun e w' => e = .returned (.bool (tt (xs = ys))) ∧ Below W.heap.size W w' := by
  have HA := Lib.hid ha
  have HB := Lib.hid hb
  have hn := ha.2.1
  have hn' := hb.2.1
  have HN := Lib.hid ha.1
  have HN' := Lib.hid hb.1
  unfold maxLen at hn hn'
  clear ha hb
  obtain ⟨P, hP⟩ : ∃ P, tt (xs = ys) = P := ⟨_, rfl⟩
  have HP := Lib.hid hP
  rw [hP]
  clear hP
  by_cases hl : n = n'
  · subst hl
    go_enter Try.func77, Try.ntmps77
    go_wp2_with fail
    go_loopw [5] (fun i wr => ∃ k : Nat, k ≤ n ∧ i = .int .i64 k ∧ Hid (Below W.heap.size W wr) ∧ Hid (∀ (j : Nat), j < k → xs[j]? = ys[j]?)) (fun i _ => n - (intOf i).toNat)
    case atStart => exact ⟨0, Nat.zero_le _, rfl, Below.refl _ _, fun j hj => absurd hj (by omega)⟩
    case round =>
      obtain ⟨k, hk, rfl, HW, HV⟩ := hrel
      by_cases hlt : k < n
      · have b0 : (0 : Int) ≤ (k : Int) := by omega
        have b1 : (k : Int) < (n : Int) := by omega
        obtain ⟨b, off, x, rfl, hg, hx, h1, _⟩ := HA.out.at_ hlt
        obtain ⟨b', off', y, rfl, hg', hy, h2, _⟩ := HB.out.at_ hlt
        obtain ⟨p0, p1, p2, p3⟩ := h1.below HW.out hg
        obtain ⟨q0, q1, q2, q3⟩ := h2.below HW.out hg'
        have HX := Lib.hid hx
        have HY := Lib.hid hy
        obtain ⟨xk, xn, xt, xr⟩ := x
        obtain ⟨yk, yn, yt, yr⟩ := y
        dsimp only at p0 p1 p2 p3 q0 q1 q2 q3
        have HS := Lib.hid (sameV_iff ⟨xk, xn, xt, xr⟩ ⟨yk, yn, yt, yr⟩)
        have HG : Hid (b < wr.heap.size) := Nat.lt_of_lt_of_le hg HW.out.size
        have HG' : Hid (b' < wr.heap.size) := Nat.lt_of_lt_of_le hg' HW.out.size
        clear hx hy h1 h2 hg hg'
        have HF : Hid (sameV xk xn xt xr yk yn yt yr = false → P = false) := by
          show _ → _
          intro h
          rw [← HP.out]
          refine tt_false fun e => ?_
          have e2 : some (⟨xk, xn, xt, xr⟩ : Vl) = some ⟨yk, yn, yt, yr⟩ := by rw [← HX.out, ← HY.out, e]
          rw [HS.out.2 (Option.some.inj e2)] at h
          cases h
        have HT : Hid (sameV xk xn xt xr yk yn yt yr = true → ∀ (j : Nat), j < k + 1 → xs[j]? = ys[j]?) := by
          show _ → _
          intro h j hj
          by_cases e : j = k
          · rw [e, HX.out, HY.out, HS.out.1 h]
          · exact HV.out j (by omega)
        unfold sameV at HF HT
        clear HS HX HY
        obtain ⟨z1, h1⟩ : ∃ z, (xk == yk) = z := ⟨_, rfl⟩
        obtain ⟨z2, h2⟩ : ∃ z, (xn == yn) = z := ⟨_, rfl⟩
        obtain ⟨z3, h3⟩ : ∃ z, (xt.toList == yt.toList) = z := ⟨_, rfl⟩
        obtain ⟨z4, h4⟩ : ∃ z, (xr == yr) = z := ⟨_, rfl⟩
        rw [h1, h2, h3, h4] at HF HT
        cases z1
        · have HF1 := Lib.hid (HF.out (by simp))
          clear HF HT
          go_wp2_with fail
          go_region_held3 (fun w' => Two4 w' b b' (off + k * 4) (off' + k * 4) xk xn xt xr yk yn yt yr ∧ Below wr.heap.size wr w')
            (first | (exact ⟨⟨⟨p0, p1, p2, p3⟩, ⟨q0, q1, q2, q3⟩⟩, (Below.refl _ _).drew⟩) | (go_split_ands; exact two4_keep HG.out HG'.out ⟨⟨⟨by assumption, by assumption, by assumption, by assumption⟩, ⟨by assumption, by assumption, by assumption, by assumption⟩⟩, by assumption⟩ hb) | go_keep)
            (fail)
          go_wp2_with fail
          go_split_ands
          go_ret
          exact ⟨by rw [HF1.out]; rfl, HW.out.trans (Below.mono (by assumption) HW.out.size)⟩
        cases z2
        · have HF1 := Lib.hid (HF.out (by simp))
          clear HF HT
          go_wp2_with fail
          go_region_held3 (fun w' => Two4 w' b b' (off + k * 4) (off' + k * 4) xk xn xt xr yk yn yt yr ∧ Below wr.heap.size wr w')
            (first | (exact ⟨⟨⟨p0, p1, p2, p3⟩, ⟨q0, q1, q2, q3⟩⟩, (Below.refl _ _).drew⟩) | (go_split_ands; exact two4_keep HG.out HG'.out ⟨⟨⟨by assumption, by assumption, by assumption, by assumption⟩, ⟨by assumption, by assumption, by assumption, by assumption⟩⟩, by assumption⟩ hb) | go_keep)
            (fail)
          go_wp2_with fail
          go_split_ands
          go_ret
          exact ⟨by rw [HF1.out]; rfl, HW.out.trans (Below.mono (by assumption) HW.out.size)⟩
        cases z3
        · have HF1 := Lib.hid (HF.out (by simp))
          clear HF HT
          go_wp2_with fail
          go_region_held3 (fun w' => Two4 w' b b' (off + k * 4) (off' + k * 4) xk xn xt xr yk yn yt yr ∧ Below wr.heap.size wr w')
            (first | (exact ⟨⟨⟨p0, p1, p2, p3⟩, ⟨q0, q1, q2, q3⟩⟩, (Below.refl _ _).drew⟩) | (go_split_ands; exact two4_keep HG.out HG'.out ⟨⟨⟨by assumption, by assumption, by assumption, by assumption⟩, ⟨by assumption, by assumption, by assumption, by assumption⟩⟩, by assumption⟩ hb) | go_keep)
            (fail)
          go_wp2_with fail
          go_split_ands
          go_ret
          exact ⟨by rw [HF1.out]; rfl, HW.out.trans (Below.mono (by assumption) HW.out.size)⟩
        cases z4
        · have HF1 := Lib.hid (HF.out (by simp))
          clear HF HT
          go_wp2_with fail
          go_region_held3 (fun w' => Two4 w' b b' (off + k * 4) (off' + k * 4) xk xn xt xr yk yn yt yr ∧ Below wr.heap.size wr w')
            (first | (exact ⟨⟨⟨p0, p1, p2, p3⟩, ⟨q0, q1, q2, q3⟩⟩, (Below.refl _ _).drew⟩) | (go_split_ands; exact two4_keep HG.out HG'.out ⟨⟨⟨by assumption, by assumption, by assumption, by assumption⟩, ⟨by assumption, by assumption, by assumption, by assumption⟩⟩, by assumption⟩ hb) | go_keep)
            (fail)
          go_wp2_with fail
          go_split_ands
          go_ret
          exact ⟨by rw [HF1.out]; rfl, HW.out.trans (Below.mono (by assumption) HW.out.size)⟩
        have HT1 := Lib.hid (HT.out (by simp))
        clear HF HT
        go_wp2_with fail
        go_region_held3 (fun w' => Two4 w' b b' (off + k * 4) (off' + k * 4) xk xn xt xr yk yn yt yr ∧ Below wr.heap.size wr w')
          (first | (exact ⟨⟨⟨p0, p1, p2, p3⟩, ⟨q0, q1, q2, q3⟩⟩, (Below.refl _ _).drew⟩) | (go_split_ands; exact two4_keep HG.out HG'.out ⟨⟨⟨by assumption, by assumption, by assumption, by assumption⟩, ⟨by assumption, by assumption, by assumption, by assumption⟩⟩, by assumption⟩ hb) | go_keep)
          (fail)
        go_wp2_with fail
        go_split_ands
        go_roundw
        case rel => exact ⟨k + 1, by omega, by go_num, HW.out.trans (Below.mono (by assumption) HW.out.size), HT1⟩
        case measure => simp [intOf]; omega
      · have hkn : k = n := by omega
        have HT : Hid (P = true) := by
          show _ = _
          rw [← HP.out]
          refine tt_true (List.ext_getElem? fun j => ?_)
          by_cases e : j < n
          · exact HV.out j (by omega)
          · rw [List.getElem?_eq_none (by have := HN.out; omega), List.getElem?_eq_none (by have := HN'.out; omega)]
        go_wp2_with fail
        go_ret
        exact ⟨by rw [HT.out]; rfl, HW.out⟩
  · have HF : Hid (P = false) := by
      show _ = _
      rw [← HP.out]
      exact tt_false fun e => hl (by rw [← HN.out, ← HN'.out, e])
    have hne : ¬ (n : Int) = (n' : Int) := by omega
    go_enter Try.func77, Try.ntmps77
    go_wp2_with fail
    go_ret
    exact ⟨by rw [HF.out]; rfl, Below.refl _ _⟩

set_option maxHeartbeats 2000000 in
set_option maxRecDepth 100000 in
theorem slicesEqual_any (A A' : Option Addr) (n n' c c' : Nat) (xs ys : List Vl) (W : World) (ha : VI W W.heap.size A n xs) (hb : VI W W.heap.size A' n' ys) :
    Calls Try.prog 70 #[.slice A n c, .slice A' n' c'] W fun e w' => e = .returned (.bool (tt (xs = ys))) ∧ Below W.heap.size W w' := by
  have HA := Lib.hid ha
  have HB := Lib.hid hb
  have hn := ha.2.1
  have hn' := hb.2.1
  have HN := Lib.hid ha.1
  have HN' := Lib.hid hb.1
  unfold maxLen at hn hn'
  clear ha hb
  obtain ⟨P, hP⟩ : ∃ P, tt (xs = ys) = P := ⟨_, rfl⟩
  have HP := Lib.hid hP
  rw [hP]
  clear hP
  by_cases hl : n = n'
  · subst hl
    go_enter Try.func70, Try.ntmps70
    go_wp2_with fail
    go_loopw [13] (fun i wr => ∃ k : Nat, k ≤ n ∧ i = .int .i64 k ∧ Hid (Below W.heap.size W wr) ∧ Hid (∀ (j : Nat), j < k → xs[j]? = ys[j]?)) (fun i _ => n - (intOf i).toNat)
    case atStart => exact ⟨0, Nat.zero_le _, rfl, Below.refl _ _, fun j hj => absurd hj (by omega)⟩
    case round =>
      obtain ⟨k, hk, rfl, HW, HV⟩ := hrel
      by_cases hlt : k < n
      · have b0 : (0 : Int) ≤ (k : Int) := by omega
        have b1 : (k : Int) < (n : Int) := by omega
        obtain ⟨b, off, x, rfl, hg, hx, h1, _⟩ := HA.out.at_ hlt
        obtain ⟨b', off', y, rfl, hg', hy, h2, _⟩ := HB.out.at_ hlt
        obtain ⟨p0, p1, p2, p3⟩ := h1.below HW.out hg
        obtain ⟨q0, q1, q2, q3⟩ := h2.below HW.out hg'
        have HX := Lib.hid hx
        have HY := Lib.hid hy
        obtain ⟨xk, xn, xt, xr⟩ := x
        obtain ⟨yk, yn, yt, yr⟩ := y
        dsimp only at p0 p1 p2 p3 q0 q1 q2 q3
        have HS := Lib.hid (sameV_iff ⟨xk, xn, xt, xr⟩ ⟨yk, yn, yt, yr⟩)
        have HG : Hid (b < wr.heap.size) := Nat.lt_of_lt_of_le hg HW.out.size
        have HG' : Hid (b' < wr.heap.size) := Nat.lt_of_lt_of_le hg' HW.out.size
        clear hx hy h1 h2 hg hg'
        have HF : Hid (sameV xk xn xt xr yk yn yt yr = false → P = false) := by
          show _ → _
          intro h
          rw [← HP.out]
          refine tt_false fun e => ?_
          have e2 : some (⟨xk, xn, xt, xr⟩ : Vl) = some ⟨yk, yn, yt, yr⟩ := by rw [← HX.out, ← HY.out, e]
          rw [HS.out.2 (Option.some.inj e2)] at h
          cases h
        have HT : Hid (sameV xk xn xt xr yk yn yt yr = true → ∀ (j : Nat), j < k + 1 → xs[j]? = ys[j]?) := by
          show _ → _
          intro h j hj
          by_cases e : j = k
          · rw [e, HX.out, HY.out, HS.out.1 h]
          · exact HV.out j (by omega)
        unfold sameV at HF HT
        clear HS HX HY
        obtain ⟨z1, h1⟩ : ∃ z, (xk == yk) = z := ⟨_, rfl⟩
        obtain ⟨z2, h2⟩ : ∃ z, (xn == yn) = z := ⟨_, rfl⟩
        obtain ⟨z3, h3⟩ : ∃ z, (xt.toList == yt.toList) = z := ⟨_, rfl⟩
        obtain ⟨z4, h4⟩ : ∃ z, (xr == yr) = z := ⟨_, rfl⟩
        rw [h1, h2, h3, h4] at HF HT
        cases z1
        · have HF1 := Lib.hid (HF.out (by simp))
          clear HF HT
          go_wp2_with fail
          go_region_held3 (fun w' => Two4 w' b b' (off + k * 4) (off' + k * 4) xk xn xt xr yk yn yt yr ∧ Below wr.heap.size wr w')
            (first | (exact ⟨⟨⟨p0, p1, p2, p3⟩, ⟨q0, q1, q2, q3⟩⟩, (Below.refl _ _).drew⟩) | (go_split_ands; exact two4_keep HG.out HG'.out ⟨⟨⟨by assumption, by assumption, by assumption, by assumption⟩, ⟨by assumption, by assumption, by assumption, by assumption⟩⟩, by assumption⟩ hb) | go_keep)
            (fail)
          go_wp2_with fail
          go_split_ands
          go_ret
          exact ⟨by rw [HF1.out]; rfl, HW.out.trans (Below.mono (by assumption) HW.out.size)⟩
        cases z2
        · have HF1 := Lib.hid (HF.out (by simp))
          clear HF HT
          go_wp2_with fail
          go_region_held3 (fun w' => Two4 w' b b' (off + k * 4) (off' + k * 4) xk xn xt xr yk yn yt yr ∧ Below wr.heap.size wr w')
            (first | (exact ⟨⟨⟨p0, p1, p2, p3⟩, ⟨q0, q1, q2, q3⟩⟩, (Below.refl _ _).drew⟩) | (go_split_ands; exact two4_keep HG.out HG'.out ⟨⟨⟨by assumption, by assumption, by assumption, by assumption⟩, ⟨by assumption, by assumption, by assumption, by assumption⟩⟩, by assumption⟩ hb) | go_keep)
            (fail)
          go_wp2_with fail
          go_split_ands
          go_ret
          exact ⟨by rw [HF1.out]; rfl, HW.out.trans (Below.mono (by assumption) HW.out.size)⟩
        cases z3
        · have HF1 := Lib.hid (HF.out (by simp))
          clear HF HT
          go_wp2_with fail
          go_region_held3 (fun w' => Two4 w' b b' (off + k * 4) (off' + k * 4) xk xn xt xr yk yn yt yr ∧ Below wr.heap.size wr w')
            (first | (exact ⟨⟨⟨p0, p1, p2, p3⟩, ⟨q0, q1, q2, q3⟩⟩, (Below.refl _ _).drew⟩) | (go_split_ands; exact two4_keep HG.out HG'.out ⟨⟨⟨by assumption, by assumption, by assumption, by assumption⟩, ⟨by assumption, by assumption, by assumption, by assumption⟩⟩, by assumption⟩ hb) | go_keep)
            (fail)
          go_wp2_with fail
          go_split_ands
          go_ret
          exact ⟨by rw [HF1.out]; rfl, HW.out.trans (Below.mono (by assumption) HW.out.size)⟩
        cases z4
        · have HF1 := Lib.hid (HF.out (by simp))
          clear HF HT
          go_wp2_with fail
          go_region_held3 (fun w' => Two4 w' b b' (off + k * 4) (off' + k * 4) xk xn xt xr yk yn yt yr ∧ Below wr.heap.size wr w')
            (first | (exact ⟨⟨⟨p0, p1, p2, p3⟩, ⟨q0, q1, q2, q3⟩⟩, (Below.refl _ _).drew⟩) | (go_split_ands; exact two4_keep HG.out HG'.out ⟨⟨⟨by assumption, by assumption, by assumption, by assumption⟩, ⟨by assumption, by assumption, by assumption, by assumption⟩⟩, by assumption⟩ hb) | go_keep)
            (fail)
          go_wp2_with fail
          go_split_ands
          go_ret
          exact ⟨by rw [HF1.out]; rfl, HW.out.trans (Below.mono (by assumption) HW.out.size)⟩
        have HT1 := Lib.hid (HT.out (by simp))
        clear HF HT
        go_wp2_with fail
        go_region_held3 (fun w' => Two4 w' b b' (off + k * 4) (off' + k * 4) xk xn xt xr yk yn yt yr ∧ Below wr.heap.size wr w')
          (first | (exact ⟨⟨⟨p0, p1, p2, p3⟩, ⟨q0, q1, q2, q3⟩⟩, (Below.refl _ _).drew⟩) | (go_split_ands; exact two4_keep HG.out HG'.out ⟨⟨⟨by assumption, by assumption, by assumption, by assumption⟩, ⟨by assumption, by assumption, by assumption, by assumption⟩⟩, by assumption⟩ hb) | go_keep)
          (fail)
        go_wp2_with fail
        go_split_ands
        go_roundw
        case rel => exact ⟨k + 1, by omega, by go_num, HW.out.trans (Below.mono (by assumption) HW.out.size), HT1⟩
        case measure => simp [intOf]; omega
      · have hkn : k = n := by omega
        have HT : Hid (P = true) := by
          show _ = _
          rw [← HP.out]
          refine tt_true (List.ext_getElem? fun j => ?_)
          by_cases e : j < n
          · exact HV.out j (by omega)
          · rw [List.getElem?_eq_none (by have := HN.out; omega), List.getElem?_eq_none (by have := HN'.out; omega)]
        go_wp2_with fail
        go_ret
        exact ⟨by rw [HT.out]; rfl, HW.out⟩
  · have HF : Hid (P = false) := by
      show _ = _
      rw [← HP.out]
      exact tt_false fun e => hl (by rw [← HN.out, ← HN'.out, e])
    have hne : ¬ (n : Int) = (n' : Int) := by omega
    go_enter Try.func70, Try.ntmps70
    go_wp2_with fail
    go_ret
    exact ⟨by rw [HF.out]; rfl, Below.refl _ _⟩
end Go.Proofs.Ytjhemdgeafglhaa

namespace Go.Proofs.Ytjhemdgeafglhaa
open Go Go.RowKit Go.Sort

theorem sameOb_bool (o o' : Ob) : tt (o = o') = ((o.id == o'.id) && ((o.kind == o'.kind) && ((o.name.toList == o'.name.toList) && ((o.low == o'.low) && (tt (o.keys = o'.keys) && (tt (o.vals = o'.vals) && sameV o.d.k o.d.n o.d.t o.d.r o'.d.k o'.d.n o'.d.t o'.d.r)))))) := by
  rw [Bool.eq_iff_iff]
  simp only [Bool.and_eq_true, tt_iff, sameV_iff, beq_iff_eq]
  obtain ⟨id, kind, name, low, ks, vs, d⟩ := o
  obtain ⟨id', kind', name', low', ks', vs', d'⟩ := o'
  simp only [Ob.mk.injEq]
  constructor
  · rintro ⟨h1, h2, h3, h4, h5, h6, h7⟩
    exact ⟨h1, h2, by rw [h3], h4, h5, h6, h7⟩
  · rintro ⟨h1, h2, h3, h4, h5, h6, h7⟩
    exact ⟨h1, h2, WideShapes.bytes_inj (by rw [← ByteArray.toList_eq, ← ByteArray.toList_eq]; exact h3), h4, h5, h6, h7⟩

set_option maxHeartbeats 4000000 in
set_option maxRecDepth 100000 in
theorem l07SameObject_any (o o' : Ob) (l l' : Lay) (W : World) (ho : OV W W.heap.size o l) (ho' : OV W W.heap.size o' l') :
    Calls Try.prog 65 #[o.ag l, o'.ag l'] W fun e w' => e = .returned (.bool (tt (o = o'))) ∧ Below W.heap.size W w' := by
  rw [sameOb_bool]
  obtain ⟨id, kind, name, low, ks, vs, ⟨dk, dn, dt, dr⟩⟩ := o
  obtain ⟨Ak, nk, ck, Av, nv, cv, hck, hcv⟩ := l
  obtain ⟨id', kind', name', low', ks', vs', ⟨dk', dn', dt', dr'⟩⟩ := o'
  obtain ⟨Ak', nk', ck', Av', nv', cv', hck', hcv'⟩ := l'
  obtain ⟨hk, hv, _, _⟩ := ho
  obtain ⟨hk', hv', _, _⟩ := ho'
  dsimp only at hk hv hk' hv' ⊢
  have HK := Lib.hid hk
  have HV := Lib.hid hv
  have HK' := Lib.hid hk'
  have HV' := Lib.hid hv'
  clear hk hv hk' hv'
  have HC := Lib.hid (two_new W 96 #[.int .i64 id, .int .i64 kind, .string name, .int .i64 low, .slice Ak nk ck, .slice Av nv cv, .int .i64 dk, .int .i64 dn, .string dt, .int .i64 dr] #[.int .i64 id', .int .i64 kind', .string name', .int .i64 low', .slice Ak' nk' ck', .slice Av' nv' cv', .int .i64 dk', .int .i64 dn', .string dt', .int .i64 dr'])
  show Calls Try.prog 65 #[.agg #[.int .i64 id, .int .i64 kind, .string name, .int .i64 low, .slice Ak nk ck, .slice Av nv cv, .int .i64 dk, .int .i64 dn, .string dt, .int .i64 dr], .agg #[.int .i64 id', .int .i64 kind', .string name', .int .i64 low', .slice Ak' nk' ck', .slice Av' nv' cv', .int .i64 dk', .int .i64 dn', .string dt', .int .i64 dr']] W _
  unfold sameV
  obtain ⟨z5, h5⟩ : ∃ z, tt (ks = ks') = z := ⟨_, rfl⟩
  obtain ⟨z6, h6⟩ : ∃ z, tt (vs = vs') = z := ⟨_, rfl⟩
  have Z5 := Lib.hid h5
  have Z6 := Lib.hid h6
  rw [h5, h6]
  clear h5 h6
  obtain ⟨z1, h1⟩ : ∃ z, (id == id') = z := ⟨_, rfl⟩
  obtain ⟨z2, h2⟩ : ∃ z, (kind == kind') = z := ⟨_, rfl⟩
  obtain ⟨z3, h3⟩ : ∃ z, (name.toList == name'.toList) = z := ⟨_, rfl⟩
  obtain ⟨z4, h4⟩ : ∃ z, (low == low') = z := ⟨_, rfl⟩
  obtain ⟨z7, h7⟩ : ∃ z, (dk == dk') = z := ⟨_, rfl⟩
  obtain ⟨z8, h8⟩ : ∃ z, (dn == dn') = z := ⟨_, rfl⟩
  obtain ⟨z9, h9⟩ : ∃ z, (dt.toList == dt'.toList) = z := ⟨_, rfl⟩
  obtain ⟨za, ha⟩ : ∃ z, (dr == dr') = z := ⟨_, rfl⟩
  rw [h1, h2, h3, h4, h7, h8, h9, ha]
  cases z1
  · go_enter Try.func65, Try.ntmps65
    go_wp2_with fail
    all_goals go_ret
    all_goals exact ⟨rfl, (below_alloc _ _).alloc (by simp) _⟩
  cases z2
  · go_enter Try.func65, Try.ntmps65
    go_wp2_with fail
    all_goals go_ret
    all_goals exact ⟨rfl, (below_alloc _ _).alloc (by simp) _⟩
  cases z3
  · go_enter Try.func65, Try.ntmps65
    go_wp2_with fail
    all_goals go_ret
    all_goals exact ⟨rfl, (below_alloc _ _).alloc (by simp) _⟩
  cases z4
  · go_enter Try.func65, Try.ntmps65
    go_wp2_with fail
    all_goals go_ret
    all_goals exact ⟨rfl, (below_alloc _ _).alloc (by simp) _⟩
  cases z5
  · go_enter Try.func65, Try.ntmps65
    go_wp2_with (go_at_call 77; obtain ⟨g0, g1, g2, g3⟩ := HC.out _ rfl; have HQ := l07SameValues_any Ak Ak' nk nk' ck ck' ks ks' _ (HK.out.go g2) (HK'.out.go g2); refine Calls.mono HQ ?_; clear HQ; rintro e w1 ⟨rfl, hb⟩; rw [Z5.out]; have HA1 := Lib.hid (g0.below hb (by omega)); have HD1 := Lib.hid (g1.below hb (by omega)); have HB1 := Lib.hid (g2.trans (hb.mono g2.size)); have HG1 : Hid (W.heap.size + 2 ≤ w1.heap.size) := (by have := hb.size; show _ ≤ _; omega); have q5 : w1.cell? ⟨W.heap.size, 5, none⟩ = some (.slice Av nv cv) := HA1.out.cell 5; have p5 : w1.cell? ⟨W.heap.size + 1, 5, none⟩ = some (.slice Av' nv' cv') := HD1.out.cell 5; clear g0 g1 g2 g3 hb HK)
    all_goals go_ret
    all_goals exact ⟨rfl, HB1.out⟩
  cases z6
  · go_enter Try.func65, Try.ntmps65
    go_wp2_with (go_at_call 77; obtain ⟨g0, g1, g2, g3⟩ := HC.out _ rfl; have HQ := l07SameValues_any Ak Ak' nk nk' ck ck' ks ks' _ (HK.out.go g2) (HK'.out.go g2); refine Calls.mono HQ ?_; clear HQ; rintro e w1 ⟨rfl, hb⟩; rw [Z5.out]; have HA1 := Lib.hid (g0.below hb (by omega)); have HD1 := Lib.hid (g1.below hb (by omega)); have HB1 := Lib.hid (g2.trans (hb.mono g2.size)); have HG1 : Hid (W.heap.size + 2 ≤ w1.heap.size) := (by have := hb.size; show _ ≤ _; omega); have q5 : w1.cell? ⟨W.heap.size, 5, none⟩ = some (.slice Av nv cv) := HA1.out.cell 5; have p5 : w1.cell? ⟨W.heap.size + 1, 5, none⟩ = some (.slice Av' nv' cv') := HD1.out.cell 5; clear g0 g1 g2 g3 hb HK)
    go_wp2_with (go_at_call 77; have HQ := l07SameValues_any Av Av' nv nv' cv cv' vs vs' _ (HV.out.go HB1.out) (HV'.out.go HB1.out); refine Calls.mono HQ ?_; clear HQ; rintro e w2 ⟨rfl, hb⟩; rw [Z6.out]; have hg := HG1.out; have HA2 := Lib.hid (HA1.out.below hb (by omega)); have HD2 := Lib.hid (HD1.out.below hb (by omega)); have HB2 := Lib.hid (HB1.out.trans (hb.mono HB1.out.size)); have q6 : w2.cell? ⟨W.heap.size, 6, none⟩ = some (.int .i64 dk) := HA2.out.cell 6; have q7 : w2.cell? ⟨W.heap.size, 7, none⟩ = some (.int .i64 dn) := HA2.out.cell 7; have q8 : w2.cell? ⟨W.heap.size, 8, none⟩ = some (.string dt) := HA2.out.cell 8; have q9 : w2.cell? ⟨W.heap.size, 9, none⟩ = some (.int .i64 dr) := HA2.out.cell 9; have p6 : w2.cell? ⟨W.heap.size + 1, 6, none⟩ = some (.int .i64 dk') := HD2.out.cell 6; have p7 : w2.cell? ⟨W.heap.size + 1, 7, none⟩ = some (.int .i64 dn') := HD2.out.cell 7; have p8 : w2.cell? ⟨W.heap.size + 1, 8, none⟩ = some (.string dt') := HD2.out.cell 8; have p9 : w2.cell? ⟨W.heap.size + 1, 9, none⟩ = some (.int .i64 dr') := HD2.out.cell 9; clear hg hb q5 p5 HV)
    all_goals go_ret
    all_goals exact ⟨rfl, HB2.out⟩
  cases z7
  · go_enter Try.func65, Try.ntmps65
    go_wp2_with (go_at_call 77; obtain ⟨g0, g1, g2, g3⟩ := HC.out _ rfl; have HQ := l07SameValues_any Ak Ak' nk nk' ck ck' ks ks' _ (HK.out.go g2) (HK'.out.go g2); refine Calls.mono HQ ?_; clear HQ; rintro e w1 ⟨rfl, hb⟩; rw [Z5.out]; have HA1 := Lib.hid (g0.below hb (by omega)); have HD1 := Lib.hid (g1.below hb (by omega)); have HB1 := Lib.hid (g2.trans (hb.mono g2.size)); have HG1 : Hid (W.heap.size + 2 ≤ w1.heap.size) := (by have := hb.size; show _ ≤ _; omega); have q5 : w1.cell? ⟨W.heap.size, 5, none⟩ = some (.slice Av nv cv) := HA1.out.cell 5; have p5 : w1.cell? ⟨W.heap.size + 1, 5, none⟩ = some (.slice Av' nv' cv') := HD1.out.cell 5; clear g0 g1 g2 g3 hb HK)
    go_wp2_with (go_at_call 77; have HQ := l07SameValues_any Av Av' nv nv' cv cv' vs vs' _ (HV.out.go HB1.out) (HV'.out.go HB1.out); refine Calls.mono HQ ?_; clear HQ; rintro e w2 ⟨rfl, hb⟩; rw [Z6.out]; have hg := HG1.out; have HA2 := Lib.hid (HA1.out.below hb (by omega)); have HD2 := Lib.hid (HD1.out.below hb (by omega)); have HB2 := Lib.hid (HB1.out.trans (hb.mono HB1.out.size)); have q6 : w2.cell? ⟨W.heap.size, 6, none⟩ = some (.int .i64 dk) := HA2.out.cell 6; have q7 : w2.cell? ⟨W.heap.size, 7, none⟩ = some (.int .i64 dn) := HA2.out.cell 7; have q8 : w2.cell? ⟨W.heap.size, 8, none⟩ = some (.string dt) := HA2.out.cell 8; have q9 : w2.cell? ⟨W.heap.size, 9, none⟩ = some (.int .i64 dr) := HA2.out.cell 9; have p6 : w2.cell? ⟨W.heap.size + 1, 6, none⟩ = some (.int .i64 dk') := HD2.out.cell 6; have p7 : w2.cell? ⟨W.heap.size + 1, 7, none⟩ = some (.int .i64 dn') := HD2.out.cell 7; have p8 : w2.cell? ⟨W.heap.size + 1, 8, none⟩ = some (.string dt') := HD2.out.cell 8; have p9 : w2.cell? ⟨W.heap.size + 1, 9, none⟩ = some (.int .i64 dr') := HD2.out.cell 9; clear hg hb q5 p5 HV)
    all_goals go_ret
    all_goals exact ⟨rfl, HB2.out⟩
  cases z8
  · go_enter Try.func65, Try.ntmps65
    go_wp2_with (go_at_call 77; obtain ⟨g0, g1, g2, g3⟩ := HC.out _ rfl; have HQ := l07SameValues_any Ak Ak' nk nk' ck ck' ks ks' _ (HK.out.go g2) (HK'.out.go g2); refine Calls.mono HQ ?_; clear HQ; rintro e w1 ⟨rfl, hb⟩; rw [Z5.out]; have HA1 := Lib.hid (g0.below hb (by omega)); have HD1 := Lib.hid (g1.below hb (by omega)); have HB1 := Lib.hid (g2.trans (hb.mono g2.size)); have HG1 : Hid (W.heap.size + 2 ≤ w1.heap.size) := (by have := hb.size; show _ ≤ _; omega); have q5 : w1.cell? ⟨W.heap.size, 5, none⟩ = some (.slice Av nv cv) := HA1.out.cell 5; have p5 : w1.cell? ⟨W.heap.size + 1, 5, none⟩ = some (.slice Av' nv' cv') := HD1.out.cell 5; clear g0 g1 g2 g3 hb HK)
    go_wp2_with (go_at_call 77; have HQ := l07SameValues_any Av Av' nv nv' cv cv' vs vs' _ (HV.out.go HB1.out) (HV'.out.go HB1.out); refine Calls.mono HQ ?_; clear HQ; rintro e w2 ⟨rfl, hb⟩; rw [Z6.out]; have hg := HG1.out; have HA2 := Lib.hid (HA1.out.below hb (by omega)); have HD2 := Lib.hid (HD1.out.below hb (by omega)); have HB2 := Lib.hid (HB1.out.trans (hb.mono HB1.out.size)); have q6 : w2.cell? ⟨W.heap.size, 6, none⟩ = some (.int .i64 dk) := HA2.out.cell 6; have q7 : w2.cell? ⟨W.heap.size, 7, none⟩ = some (.int .i64 dn) := HA2.out.cell 7; have q8 : w2.cell? ⟨W.heap.size, 8, none⟩ = some (.string dt) := HA2.out.cell 8; have q9 : w2.cell? ⟨W.heap.size, 9, none⟩ = some (.int .i64 dr) := HA2.out.cell 9; have p6 : w2.cell? ⟨W.heap.size + 1, 6, none⟩ = some (.int .i64 dk') := HD2.out.cell 6; have p7 : w2.cell? ⟨W.heap.size + 1, 7, none⟩ = some (.int .i64 dn') := HD2.out.cell 7; have p8 : w2.cell? ⟨W.heap.size + 1, 8, none⟩ = some (.string dt') := HD2.out.cell 8; have p9 : w2.cell? ⟨W.heap.size + 1, 9, none⟩ = some (.int .i64 dr') := HD2.out.cell 9; clear hg hb q5 p5 HV)
    all_goals go_ret
    all_goals exact ⟨rfl, HB2.out⟩
  cases z9
  · go_enter Try.func65, Try.ntmps65
    go_wp2_with (go_at_call 77; obtain ⟨g0, g1, g2, g3⟩ := HC.out _ rfl; have HQ := l07SameValues_any Ak Ak' nk nk' ck ck' ks ks' _ (HK.out.go g2) (HK'.out.go g2); refine Calls.mono HQ ?_; clear HQ; rintro e w1 ⟨rfl, hb⟩; rw [Z5.out]; have HA1 := Lib.hid (g0.below hb (by omega)); have HD1 := Lib.hid (g1.below hb (by omega)); have HB1 := Lib.hid (g2.trans (hb.mono g2.size)); have HG1 : Hid (W.heap.size + 2 ≤ w1.heap.size) := (by have := hb.size; show _ ≤ _; omega); have q5 : w1.cell? ⟨W.heap.size, 5, none⟩ = some (.slice Av nv cv) := HA1.out.cell 5; have p5 : w1.cell? ⟨W.heap.size + 1, 5, none⟩ = some (.slice Av' nv' cv') := HD1.out.cell 5; clear g0 g1 g2 g3 hb HK)
    go_wp2_with (go_at_call 77; have HQ := l07SameValues_any Av Av' nv nv' cv cv' vs vs' _ (HV.out.go HB1.out) (HV'.out.go HB1.out); refine Calls.mono HQ ?_; clear HQ; rintro e w2 ⟨rfl, hb⟩; rw [Z6.out]; have hg := HG1.out; have HA2 := Lib.hid (HA1.out.below hb (by omega)); have HD2 := Lib.hid (HD1.out.below hb (by omega)); have HB2 := Lib.hid (HB1.out.trans (hb.mono HB1.out.size)); have q6 : w2.cell? ⟨W.heap.size, 6, none⟩ = some (.int .i64 dk) := HA2.out.cell 6; have q7 : w2.cell? ⟨W.heap.size, 7, none⟩ = some (.int .i64 dn) := HA2.out.cell 7; have q8 : w2.cell? ⟨W.heap.size, 8, none⟩ = some (.string dt) := HA2.out.cell 8; have q9 : w2.cell? ⟨W.heap.size, 9, none⟩ = some (.int .i64 dr) := HA2.out.cell 9; have p6 : w2.cell? ⟨W.heap.size + 1, 6, none⟩ = some (.int .i64 dk') := HD2.out.cell 6; have p7 : w2.cell? ⟨W.heap.size + 1, 7, none⟩ = some (.int .i64 dn') := HD2.out.cell 7; have p8 : w2.cell? ⟨W.heap.size + 1, 8, none⟩ = some (.string dt') := HD2.out.cell 8; have p9 : w2.cell? ⟨W.heap.size + 1, 9, none⟩ = some (.int .i64 dr') := HD2.out.cell 9; clear hg hb q5 p5 HV)
    all_goals go_ret
    all_goals exact ⟨rfl, HB2.out⟩
  cases za
  all_goals
    go_enter Try.func65, Try.ntmps65
    go_wp2_with (go_at_call 77; obtain ⟨g0, g1, g2, g3⟩ := HC.out _ rfl; have HQ := l07SameValues_any Ak Ak' nk nk' ck ck' ks ks' _ (HK.out.go g2) (HK'.out.go g2); refine Calls.mono HQ ?_; clear HQ; rintro e w1 ⟨rfl, hb⟩; rw [Z5.out]; have HA1 := Lib.hid (g0.below hb (by omega)); have HD1 := Lib.hid (g1.below hb (by omega)); have HB1 := Lib.hid (g2.trans (hb.mono g2.size)); have HG1 : Hid (W.heap.size + 2 ≤ w1.heap.size) := (by have := hb.size; show _ ≤ _; omega); have q5 : w1.cell? ⟨W.heap.size, 5, none⟩ = some (.slice Av nv cv) := HA1.out.cell 5; have p5 : w1.cell? ⟨W.heap.size + 1, 5, none⟩ = some (.slice Av' nv' cv') := HD1.out.cell 5; clear g0 g1 g2 g3 hb HK)
    go_wp2_with (go_at_call 77; have HQ := l07SameValues_any Av Av' nv nv' cv cv' vs vs' _ (HV.out.go HB1.out) (HV'.out.go HB1.out); refine Calls.mono HQ ?_; clear HQ; rintro e w2 ⟨rfl, hb⟩; rw [Z6.out]; have hg := HG1.out; have HA2 := Lib.hid (HA1.out.below hb (by omega)); have HD2 := Lib.hid (HD1.out.below hb (by omega)); have HB2 := Lib.hid (HB1.out.trans (hb.mono HB1.out.size)); have q6 : w2.cell? ⟨W.heap.size, 6, none⟩ = some (.int .i64 dk) := HA2.out.cell 6; have q7 : w2.cell? ⟨W.heap.size, 7, none⟩ = some (.int .i64 dn) := HA2.out.cell 7; have q8 : w2.cell? ⟨W.heap.size, 8, none⟩ = some (.string dt) := HA2.out.cell 8; have q9 : w2.cell? ⟨W.heap.size, 9, none⟩ = some (.int .i64 dr) := HA2.out.cell 9; have p6 : w2.cell? ⟨W.heap.size + 1, 6, none⟩ = some (.int .i64 dk') := HD2.out.cell 6; have p7 : w2.cell? ⟨W.heap.size + 1, 7, none⟩ = some (.int .i64 dn') := HD2.out.cell 7; have p8 : w2.cell? ⟨W.heap.size + 1, 8, none⟩ = some (.string dt') := HD2.out.cell 8; have p9 : w2.cell? ⟨W.heap.size + 1, 9, none⟩ = some (.int .i64 dr') := HD2.out.cell 9; clear hg hb q5 p5 HV)
    all_goals go_ret
    all_goals exact ⟨rfl, HB2.out⟩

set_option maxHeartbeats 4000000 in
set_option maxRecDepth 100000 in
theorem sameObject_any (o o' : Ob) (l l' : Lay) (W : World) (ho : OV W W.heap.size o l) (ho' : OV W W.heap.size o' l') :
    Calls Try.prog 51 #[o.ag l, o'.ag l'] W fun e w' => e = .returned (.bool (tt (o = o'))) ∧ Below W.heap.size W w' := by
  rw [sameOb_bool]
  obtain ⟨id, kind, name, low, ks, vs, ⟨dk, dn, dt, dr⟩⟩ := o
  obtain ⟨Ak, nk, ck, Av, nv, cv, hck, hcv⟩ := l
  obtain ⟨id', kind', name', low', ks', vs', ⟨dk', dn', dt', dr'⟩⟩ := o'
  obtain ⟨Ak', nk', ck', Av', nv', cv', hck', hcv'⟩ := l'
  obtain ⟨hk, hv, _, _⟩ := ho
  obtain ⟨hk', hv', _, _⟩ := ho'
  dsimp only at hk hv hk' hv' ⊢
  have HK := Lib.hid hk
  have HV := Lib.hid hv
  have HK' := Lib.hid hk'
  have HV' := Lib.hid hv'
  clear hk hv hk' hv'
  have HC := Lib.hid (two_new W 96 #[.int .i64 id, .int .i64 kind, .string name, .int .i64 low, .slice Ak nk ck, .slice Av nv cv, .int .i64 dk, .int .i64 dn, .string dt, .int .i64 dr] #[.int .i64 id', .int .i64 kind', .string name', .int .i64 low', .slice Ak' nk' ck', .slice Av' nv' cv', .int .i64 dk', .int .i64 dn', .string dt', .int .i64 dr'])
  show Calls Try.prog 51 #[.agg #[.int .i64 id, .int .i64 kind, .string name, .int .i64 low, .slice Ak nk ck, .slice Av nv cv, .int .i64 dk, .int .i64 dn, .string dt, .int .i64 dr], .agg #[.int .i64 id', .int .i64 kind', .string name', .int .i64 low', .slice Ak' nk' ck', .slice Av' nv' cv', .int .i64 dk', .int .i64 dn', .string dt', .int .i64 dr']] W _
  unfold sameV
  obtain ⟨z5, h5⟩ : ∃ z, tt (ks = ks') = z := ⟨_, rfl⟩
  obtain ⟨z6, h6⟩ : ∃ z, tt (vs = vs') = z := ⟨_, rfl⟩
  have Z5 := Lib.hid h5
  have Z6 := Lib.hid h6
  rw [h5, h6]
  clear h5 h6
  obtain ⟨z1, h1⟩ : ∃ z, (id == id') = z := ⟨_, rfl⟩
  obtain ⟨z2, h2⟩ : ∃ z, (kind == kind') = z := ⟨_, rfl⟩
  obtain ⟨z3, h3⟩ : ∃ z, (name.toList == name'.toList) = z := ⟨_, rfl⟩
  obtain ⟨z4, h4⟩ : ∃ z, (low == low') = z := ⟨_, rfl⟩
  obtain ⟨z7, h7⟩ : ∃ z, (dk == dk') = z := ⟨_, rfl⟩
  obtain ⟨z8, h8⟩ : ∃ z, (dn == dn') = z := ⟨_, rfl⟩
  obtain ⟨z9, h9⟩ : ∃ z, (dt.toList == dt'.toList) = z := ⟨_, rfl⟩
  obtain ⟨za, ha⟩ : ∃ z, (dr == dr') = z := ⟨_, rfl⟩
  rw [h1, h2, h3, h4, h7, h8, h9, ha]
  cases z1
  · go_enter Try.func51, Try.ntmps51
    go_wp2_with fail
    all_goals go_ret
    all_goals exact ⟨rfl, (below_alloc _ _).alloc (by simp) _⟩
  cases z2
  · go_enter Try.func51, Try.ntmps51
    go_wp2_with fail
    all_goals go_ret
    all_goals exact ⟨rfl, (below_alloc _ _).alloc (by simp) _⟩
  cases z3
  · go_enter Try.func51, Try.ntmps51
    go_wp2_with fail
    all_goals go_ret
    all_goals exact ⟨rfl, (below_alloc _ _).alloc (by simp) _⟩
  cases z4
  · go_enter Try.func51, Try.ntmps51
    go_wp2_with fail
    all_goals go_ret
    all_goals exact ⟨rfl, (below_alloc _ _).alloc (by simp) _⟩
  cases z5
  · go_enter Try.func51, Try.ntmps51
    go_wp2_with (go_at_call 70; obtain ⟨g0, g1, g2, g3⟩ := HC.out _ rfl; have HQ := slicesEqual_any Ak Ak' nk nk' ck ck' ks ks' _ (HK.out.go g2) (HK'.out.go g2); refine Calls.mono HQ ?_; clear HQ; rintro e w1 ⟨rfl, hb⟩; rw [Z5.out]; have HA1 := Lib.hid (g0.below hb (by omega)); have HD1 := Lib.hid (g1.below hb (by omega)); have HB1 := Lib.hid (g2.trans (hb.mono g2.size)); have HG1 : Hid (W.heap.size + 2 ≤ w1.heap.size) := (by have := hb.size; show _ ≤ _; omega); have q5 : w1.cell? ⟨W.heap.size, 5, none⟩ = some (.slice Av nv cv) := HA1.out.cell 5; have p5 : w1.cell? ⟨W.heap.size + 1, 5, none⟩ = some (.slice Av' nv' cv') := HD1.out.cell 5; clear g0 g1 g2 g3 hb HK)
    all_goals go_ret
    all_goals exact ⟨rfl, HB1.out⟩
  cases z6
  · go_enter Try.func51, Try.ntmps51
    go_wp2_with (go_at_call 70; obtain ⟨g0, g1, g2, g3⟩ := HC.out _ rfl; have HQ := slicesEqual_any Ak Ak' nk nk' ck ck' ks ks' _ (HK.out.go g2) (HK'.out.go g2); refine Calls.mono HQ ?_; clear HQ; rintro e w1 ⟨rfl, hb⟩; rw [Z5.out]; have HA1 := Lib.hid (g0.below hb (by omega)); have HD1 := Lib.hid (g1.below hb (by omega)); have HB1 := Lib.hid (g2.trans (hb.mono g2.size)); have HG1 : Hid (W.heap.size + 2 ≤ w1.heap.size) := (by have := hb.size; show _ ≤ _; omega); have q5 : w1.cell? ⟨W.heap.size, 5, none⟩ = some (.slice Av nv cv) := HA1.out.cell 5; have p5 : w1.cell? ⟨W.heap.size + 1, 5, none⟩ = some (.slice Av' nv' cv') := HD1.out.cell 5; clear g0 g1 g2 g3 hb HK)
    go_wp2_with (go_at_call 70; have HQ := slicesEqual_any Av Av' nv nv' cv cv' vs vs' _ (HV.out.go HB1.out) (HV'.out.go HB1.out); refine Calls.mono HQ ?_; clear HQ; rintro e w2 ⟨rfl, hb⟩; rw [Z6.out]; have hg := HG1.out; have HA2 := Lib.hid (HA1.out.below hb (by omega)); have HD2 := Lib.hid (HD1.out.below hb (by omega)); have HB2 := Lib.hid (HB1.out.trans (hb.mono HB1.out.size)); have q6 : w2.cell? ⟨W.heap.size, 6, none⟩ = some (.int .i64 dk) := HA2.out.cell 6; have q7 : w2.cell? ⟨W.heap.size, 7, none⟩ = some (.int .i64 dn) := HA2.out.cell 7; have q8 : w2.cell? ⟨W.heap.size, 8, none⟩ = some (.string dt) := HA2.out.cell 8; have q9 : w2.cell? ⟨W.heap.size, 9, none⟩ = some (.int .i64 dr) := HA2.out.cell 9; have p6 : w2.cell? ⟨W.heap.size + 1, 6, none⟩ = some (.int .i64 dk') := HD2.out.cell 6; have p7 : w2.cell? ⟨W.heap.size + 1, 7, none⟩ = some (.int .i64 dn') := HD2.out.cell 7; have p8 : w2.cell? ⟨W.heap.size + 1, 8, none⟩ = some (.string dt') := HD2.out.cell 8; have p9 : w2.cell? ⟨W.heap.size + 1, 9, none⟩ = some (.int .i64 dr') := HD2.out.cell 9; clear hg hb q5 p5 HV)
    all_goals go_ret
    all_goals exact ⟨rfl, HB2.out⟩
  cases z7
  · go_enter Try.func51, Try.ntmps51
    go_wp2_with (go_at_call 70; obtain ⟨g0, g1, g2, g3⟩ := HC.out _ rfl; have HQ := slicesEqual_any Ak Ak' nk nk' ck ck' ks ks' _ (HK.out.go g2) (HK'.out.go g2); refine Calls.mono HQ ?_; clear HQ; rintro e w1 ⟨rfl, hb⟩; rw [Z5.out]; have HA1 := Lib.hid (g0.below hb (by omega)); have HD1 := Lib.hid (g1.below hb (by omega)); have HB1 := Lib.hid (g2.trans (hb.mono g2.size)); have HG1 : Hid (W.heap.size + 2 ≤ w1.heap.size) := (by have := hb.size; show _ ≤ _; omega); have q5 : w1.cell? ⟨W.heap.size, 5, none⟩ = some (.slice Av nv cv) := HA1.out.cell 5; have p5 : w1.cell? ⟨W.heap.size + 1, 5, none⟩ = some (.slice Av' nv' cv') := HD1.out.cell 5; clear g0 g1 g2 g3 hb HK)
    go_wp2_with (go_at_call 70; have HQ := slicesEqual_any Av Av' nv nv' cv cv' vs vs' _ (HV.out.go HB1.out) (HV'.out.go HB1.out); refine Calls.mono HQ ?_; clear HQ; rintro e w2 ⟨rfl, hb⟩; rw [Z6.out]; have hg := HG1.out; have HA2 := Lib.hid (HA1.out.below hb (by omega)); have HD2 := Lib.hid (HD1.out.below hb (by omega)); have HB2 := Lib.hid (HB1.out.trans (hb.mono HB1.out.size)); have q6 : w2.cell? ⟨W.heap.size, 6, none⟩ = some (.int .i64 dk) := HA2.out.cell 6; have q7 : w2.cell? ⟨W.heap.size, 7, none⟩ = some (.int .i64 dn) := HA2.out.cell 7; have q8 : w2.cell? ⟨W.heap.size, 8, none⟩ = some (.string dt) := HA2.out.cell 8; have q9 : w2.cell? ⟨W.heap.size, 9, none⟩ = some (.int .i64 dr) := HA2.out.cell 9; have p6 : w2.cell? ⟨W.heap.size + 1, 6, none⟩ = some (.int .i64 dk') := HD2.out.cell 6; have p7 : w2.cell? ⟨W.heap.size + 1, 7, none⟩ = some (.int .i64 dn') := HD2.out.cell 7; have p8 : w2.cell? ⟨W.heap.size + 1, 8, none⟩ = some (.string dt') := HD2.out.cell 8; have p9 : w2.cell? ⟨W.heap.size + 1, 9, none⟩ = some (.int .i64 dr') := HD2.out.cell 9; clear hg hb q5 p5 HV)
    all_goals go_ret
    all_goals exact ⟨rfl, HB2.out⟩
  cases z8
  · go_enter Try.func51, Try.ntmps51
    go_wp2_with (go_at_call 70; obtain ⟨g0, g1, g2, g3⟩ := HC.out _ rfl; have HQ := slicesEqual_any Ak Ak' nk nk' ck ck' ks ks' _ (HK.out.go g2) (HK'.out.go g2); refine Calls.mono HQ ?_; clear HQ; rintro e w1 ⟨rfl, hb⟩; rw [Z5.out]; have HA1 := Lib.hid (g0.below hb (by omega)); have HD1 := Lib.hid (g1.below hb (by omega)); have HB1 := Lib.hid (g2.trans (hb.mono g2.size)); have HG1 : Hid (W.heap.size + 2 ≤ w1.heap.size) := (by have := hb.size; show _ ≤ _; omega); have q5 : w1.cell? ⟨W.heap.size, 5, none⟩ = some (.slice Av nv cv) := HA1.out.cell 5; have p5 : w1.cell? ⟨W.heap.size + 1, 5, none⟩ = some (.slice Av' nv' cv') := HD1.out.cell 5; clear g0 g1 g2 g3 hb HK)
    go_wp2_with (go_at_call 70; have HQ := slicesEqual_any Av Av' nv nv' cv cv' vs vs' _ (HV.out.go HB1.out) (HV'.out.go HB1.out); refine Calls.mono HQ ?_; clear HQ; rintro e w2 ⟨rfl, hb⟩; rw [Z6.out]; have hg := HG1.out; have HA2 := Lib.hid (HA1.out.below hb (by omega)); have HD2 := Lib.hid (HD1.out.below hb (by omega)); have HB2 := Lib.hid (HB1.out.trans (hb.mono HB1.out.size)); have q6 : w2.cell? ⟨W.heap.size, 6, none⟩ = some (.int .i64 dk) := HA2.out.cell 6; have q7 : w2.cell? ⟨W.heap.size, 7, none⟩ = some (.int .i64 dn) := HA2.out.cell 7; have q8 : w2.cell? ⟨W.heap.size, 8, none⟩ = some (.string dt) := HA2.out.cell 8; have q9 : w2.cell? ⟨W.heap.size, 9, none⟩ = some (.int .i64 dr) := HA2.out.cell 9; have p6 : w2.cell? ⟨W.heap.size + 1, 6, none⟩ = some (.int .i64 dk') := HD2.out.cell 6; have p7 : w2.cell? ⟨W.heap.size + 1, 7, none⟩ = some (.int .i64 dn') := HD2.out.cell 7; have p8 : w2.cell? ⟨W.heap.size + 1, 8, none⟩ = some (.string dt') := HD2.out.cell 8; have p9 : w2.cell? ⟨W.heap.size + 1, 9, none⟩ = some (.int .i64 dr') := HD2.out.cell 9; clear hg hb q5 p5 HV)
    all_goals go_ret
    all_goals exact ⟨rfl, HB2.out⟩
  cases z9
  · go_enter Try.func51, Try.ntmps51
    go_wp2_with (go_at_call 70; obtain ⟨g0, g1, g2, g3⟩ := HC.out _ rfl; have HQ := slicesEqual_any Ak Ak' nk nk' ck ck' ks ks' _ (HK.out.go g2) (HK'.out.go g2); refine Calls.mono HQ ?_; clear HQ; rintro e w1 ⟨rfl, hb⟩; rw [Z5.out]; have HA1 := Lib.hid (g0.below hb (by omega)); have HD1 := Lib.hid (g1.below hb (by omega)); have HB1 := Lib.hid (g2.trans (hb.mono g2.size)); have HG1 : Hid (W.heap.size + 2 ≤ w1.heap.size) := (by have := hb.size; show _ ≤ _; omega); have q5 : w1.cell? ⟨W.heap.size, 5, none⟩ = some (.slice Av nv cv) := HA1.out.cell 5; have p5 : w1.cell? ⟨W.heap.size + 1, 5, none⟩ = some (.slice Av' nv' cv') := HD1.out.cell 5; clear g0 g1 g2 g3 hb HK)
    go_wp2_with (go_at_call 70; have HQ := slicesEqual_any Av Av' nv nv' cv cv' vs vs' _ (HV.out.go HB1.out) (HV'.out.go HB1.out); refine Calls.mono HQ ?_; clear HQ; rintro e w2 ⟨rfl, hb⟩; rw [Z6.out]; have hg := HG1.out; have HA2 := Lib.hid (HA1.out.below hb (by omega)); have HD2 := Lib.hid (HD1.out.below hb (by omega)); have HB2 := Lib.hid (HB1.out.trans (hb.mono HB1.out.size)); have q6 : w2.cell? ⟨W.heap.size, 6, none⟩ = some (.int .i64 dk) := HA2.out.cell 6; have q7 : w2.cell? ⟨W.heap.size, 7, none⟩ = some (.int .i64 dn) := HA2.out.cell 7; have q8 : w2.cell? ⟨W.heap.size, 8, none⟩ = some (.string dt) := HA2.out.cell 8; have q9 : w2.cell? ⟨W.heap.size, 9, none⟩ = some (.int .i64 dr) := HA2.out.cell 9; have p6 : w2.cell? ⟨W.heap.size + 1, 6, none⟩ = some (.int .i64 dk') := HD2.out.cell 6; have p7 : w2.cell? ⟨W.heap.size + 1, 7, none⟩ = some (.int .i64 dn') := HD2.out.cell 7; have p8 : w2.cell? ⟨W.heap.size + 1, 8, none⟩ = some (.string dt') := HD2.out.cell 8; have p9 : w2.cell? ⟨W.heap.size + 1, 9, none⟩ = some (.int .i64 dr') := HD2.out.cell 9; clear hg hb q5 p5 HV)
    all_goals go_ret
    all_goals exact ⟨rfl, HB2.out⟩
  cases za
  all_goals
    go_enter Try.func51, Try.ntmps51
    go_wp2_with (go_at_call 70; obtain ⟨g0, g1, g2, g3⟩ := HC.out _ rfl; have HQ := slicesEqual_any Ak Ak' nk nk' ck ck' ks ks' _ (HK.out.go g2) (HK'.out.go g2); refine Calls.mono HQ ?_; clear HQ; rintro e w1 ⟨rfl, hb⟩; rw [Z5.out]; have HA1 := Lib.hid (g0.below hb (by omega)); have HD1 := Lib.hid (g1.below hb (by omega)); have HB1 := Lib.hid (g2.trans (hb.mono g2.size)); have HG1 : Hid (W.heap.size + 2 ≤ w1.heap.size) := (by have := hb.size; show _ ≤ _; omega); have q5 : w1.cell? ⟨W.heap.size, 5, none⟩ = some (.slice Av nv cv) := HA1.out.cell 5; have p5 : w1.cell? ⟨W.heap.size + 1, 5, none⟩ = some (.slice Av' nv' cv') := HD1.out.cell 5; clear g0 g1 g2 g3 hb HK)
    go_wp2_with (go_at_call 70; have HQ := slicesEqual_any Av Av' nv nv' cv cv' vs vs' _ (HV.out.go HB1.out) (HV'.out.go HB1.out); refine Calls.mono HQ ?_; clear HQ; rintro e w2 ⟨rfl, hb⟩; rw [Z6.out]; have hg := HG1.out; have HA2 := Lib.hid (HA1.out.below hb (by omega)); have HD2 := Lib.hid (HD1.out.below hb (by omega)); have HB2 := Lib.hid (HB1.out.trans (hb.mono HB1.out.size)); have q6 : w2.cell? ⟨W.heap.size, 6, none⟩ = some (.int .i64 dk) := HA2.out.cell 6; have q7 : w2.cell? ⟨W.heap.size, 7, none⟩ = some (.int .i64 dn) := HA2.out.cell 7; have q8 : w2.cell? ⟨W.heap.size, 8, none⟩ = some (.string dt) := HA2.out.cell 8; have q9 : w2.cell? ⟨W.heap.size, 9, none⟩ = some (.int .i64 dr) := HA2.out.cell 9; have p6 : w2.cell? ⟨W.heap.size + 1, 6, none⟩ = some (.int .i64 dk') := HD2.out.cell 6; have p7 : w2.cell? ⟨W.heap.size + 1, 7, none⟩ = some (.int .i64 dn') := HD2.out.cell 7; have p8 : w2.cell? ⟨W.heap.size + 1, 8, none⟩ = some (.string dt') := HD2.out.cell 8; have p9 : w2.cell? ⟨W.heap.size + 1, 9, none⟩ = some (.int .i64 dr') := HD2.out.cell 9; clear hg hb q5 p5 HV)
    all_goals go_ret
    all_goals exact ⟨rfl, HB2.out⟩
end Go.Proofs.Ytjhemdgeafglhaa

namespace Go.Proofs.Ytjhemdgeafglhaa
open Go Go.RowKit Go.Sort

set_option maxRecDepth 100000 in
theorem eqHeap_same (nx : Int) (A A' : Option Addr) (n c c' : Nat) (os : List Ob) (W : World) (ha : OI W W.heap.size A n os) (hb : OI W W.heap.size A' n os) :
    Calls Try.prog 34 #[.agg #[.int .i64 nx, .slice A n c], .agg #[.int .i64 nx, .slice A' n c']] W fun e w' => e = .returned (.bool true) ∧ Below W.heap.size W w' := by
  have HA := Lib.hid ha
  have HB := Lib.hid hb
  have HC := Lib.hid (two_new W 47 #[.int .i64 nx, .slice A n c] #[.int .i64 nx, .slice A' n c'])
  clear ha hb
  go_enter Try.func34, Try.ntmps34
  go_wp2_with (go_at_call 57; obtain ⟨g0, g1, g2, g3⟩ := HC.out _ rfl; have HQ := eqObjectS_same A A' n c c' os _ (HA.out.go g2) (HB.out.go g2); refine Calls.mono HQ ?_; clear HQ; rintro e w1 ⟨rfl, hb⟩; have HB1 := Lib.hid (g2.trans (hb.mono g2.size)); clear g0 g1 g2 g3 hb HA)
  all_goals go_ret
  all_goals exact ⟨rfl, HB1.out⟩

end Go.Proofs.Ytjhemdgeafglhaa

namespace Go.Proofs.Ytjhemdgeafglhaa
open Go Go.RowKit Go.Sort

set_option maxHeartbeats 4000000 in
set_option maxRecDepth 100000 in
theorem equalFunc_any (A A' : Option Addr) (n n' c c' : Nat) (os os' : List Ob) (W : World) (ha : OI W W.heap.size A n os) (hb : OI W W.heap.size A' n' os') :
    Calls Try.prog 50 #[.slice A n c, .slice A' n' c', .func (.func 51) #[] #[]] W fun e w' => e = .returned (.bool (tt (os = os'))) ∧ Below W.heap.size W w' := by
  have HA := Lib.hid ha
  have HB := Lib.hid hb
  have hn := ha.2.1
  have hn' := hb.2.1
  have HN := Lib.hid ha.1
  have HN' := Lib.hid hb.1
  unfold maxLen at hn hn'
  clear ha hb
  obtain ⟨P, hP⟩ : ∃ P, tt (os = os') = P := ⟨_, rfl⟩
  have HP := Lib.hid hP
  rw [hP]
  clear hP
  by_cases hl : n = n'
  · subst hl
    go_enter Try.func50, Try.ntmps50
    go_wp2_with fail
    go_loopw [17] (fun i wr => ∃ k : Nat, k ≤ n ∧ i = .int .i64 k ∧ Hid (Below W.heap.size W wr) ∧ Hid (∀ (j : Nat), j < k → os[j]? = os'[j]?)) (fun i _ => n - (intOf i).toNat)
    case atStart => exact ⟨0, Nat.zero_le _, rfl, Below.refl _ _, fun j hj => absurd hj (by omega)⟩
    case round =>
      obtain ⟨k, hk, rfl, HW, HV⟩ := hrel
      by_cases hlt : k < n
      · have b0 : (0 : Int) ≤ (k : Int) := by omega
        have b1 : (k : Int) < (n : Int) := by omega
        obtain ⟨b, off, o, l, rfl, hg, hx, h1, hv1⟩ := (HA.out.go HW.out).at_ hlt
        obtain ⟨b', off', o', l', rfl, hg', hx', h2, hv2⟩ := (HB.out.go HW.out).at_ hlt
        have HX := Lib.hid hx
        have HX' := Lib.hid hx'
        have HO := Lib.hid hv1
        have HO' := Lib.hid hv2
        have HG := Lib.hid hg
        have HG' := Lib.hid hg'
        obtain ⟨q0, q1, q2, q3, q4, q5, q6, q7, q8, q9⟩ := h1
        have H2 := Lib.hid h2
        have a1 := fun (o : Obj) => (O10.below h2 (below_alloc wr o) hg')
        have HT2 := Lib.hid (two_new wr 96 (o.vs l).toArray (o'.vs l').toArray)
        obtain ⟨z, hz⟩ : ∃ z, tt (o = o') = z := ⟨_, rfl⟩
        have HZ := Lib.hid hz
        clear hx hx' hv1 hv2 hg hg' h2 hz
        have HF : Hid (z = false → P = false) := by
          show _ → _
          intro h
          rw [← HP.out]
          refine tt_false fun e => ?_
          have e2 : some o = some o' := by rw [← HX.out, ← HX'.out, e]
          rw [h, Option.some.inj e2] at HZ
          have := HZ.out
          rw [tt_true rfl] at this
          cases this
        have HT : Hid (z = true → ∀ (j : Nat), j < k + 1 → os[j]? = os'[j]?) := by
          show _ → _
          intro h j hj
          by_cases e : j = k
          · rw [h] at HZ
            rw [e, HX.out, HX'.out, of_tt HZ.out]
          · exact HV.out j (by omega)
        obtain ⟨p0, p1, p2, p3, p4, p5, p6, p7, p8, p9⟩ := a1 (.cells (o.vs l).toArray 96)
        clear a1
        unfold Ob.vs at p0 p1 p2 p3 p4 p5 p6 p7 p8 p9 HT2
        cases z
        · have HF1 := Lib.hid (HF.out rfl)
          clear HF HT
          go_wp2_with (go_at_call 51; obtain ⟨_, _, g2, _⟩ := HT2.out _ rfl; have HQ := sameObject_any o o' l l' _ (HO.out.go g2) (HO'.out.go g2); refine Calls.mono HQ ?_; clear HQ; rintro e w1 ⟨rfl, hb⟩; rw [HZ.out]; have HW1 : Hid (Below W.heap.size W w1) := HW.out.trans ((g2.trans (hb.mono g2.size)).mono HW.out.size); clear g2 hb p0 p1 p2 p3 p4 p5 p6 p7 p8 p9 q0 q1 q2 q3 q4 q5 q6 q7 q8 q9)
          go_ret
          exact ⟨by rw [HF1.out]; rfl, HW1.out⟩
        · have HT1 := Lib.hid (HT.out rfl)
          clear HF HT
          go_wp2_with (go_at_call 51; obtain ⟨_, _, g2, _⟩ := HT2.out _ rfl; have HQ := sameObject_any o o' l l' _ (HO.out.go g2) (HO'.out.go g2); refine Calls.mono HQ ?_; clear HQ; rintro e w1 ⟨rfl, hb⟩; rw [HZ.out]; have HW1 : Hid (Below W.heap.size W w1) := HW.out.trans ((g2.trans (hb.mono g2.size)).mono HW.out.size); clear g2 hb p0 p1 p2 p3 p4 p5 p6 p7 p8 p9 q0 q1 q2 q3 q4 q5 q6 q7 q8 q9)
          go_roundw
          case rel => exact ⟨k + 1, by omega, by go_num, HW1, HT1⟩
          case measure => simp [intOf]; omega
      · have hkn : k = n := by omega
        have HT : Hid (P = true) := by
          show _ = _
          rw [← HP.out]
          refine tt_true (List.ext_getElem? fun j => ?_)
          by_cases e : j < n
          · exact HV.out j (by omega)
          · rw [List.getElem?_eq_none (by have := HN.out; omega), List.getElem?_eq_none (by have := HN'.out; omega)]
        go_wp2_with fail
        go_ret
        exact ⟨by rw [HT.out]; rfl, HW.out⟩
  · have HF : Hid (P = false) := by
      show _ = _
      rw [← HP.out]
      exact tt_false fun e => hl (by rw [← HN.out, ← HN'.out, e])
    have hne : ¬ (n : Int) = (n' : Int) := by omega
    go_enter Try.func50, Try.ntmps50
    go_wp2_with fail
    go_ret
    exact ⟨by rw [HF.out]; rfl, Below.refl _ _⟩

theorem sameH_bool (nx nx' : Int) (os os' : List Ob) : tt (nx = nx' ∧ os = os') = ((nx == nx') && tt (os = os')) := by
  rw [Bool.eq_iff_iff]
  simp only [Bool.and_eq_true, tt_iff, beq_iff_eq]
set_option maxRecDepth 100000 in
theorem impl_SameHeap_any (nx nx' : Int) (A A' : Option Addr) (n n' c c' : Nat) (os os' : List Ob) (W : World) (ha : OI W W.heap.size A n os) (hb : OI W W.heap.size A' n' os') :
    Calls Try.prog 32 #[.agg #[.int .i64 nx, .slice A n c], .agg #[.int .i64 nx', .slice A' n' c']] W fun e w' => e = .returned (.bool (tt (nx = nx' ∧ os = os'))) ∧ Below W.heap.size W w' := by
  rw [sameH_bool]
  have HA := Lib.hid ha
  have HB := Lib.hid hb
  have HC := Lib.hid (two_new W 47 #[.int .i64 nx, .slice A n c] #[.int .i64 nx', .slice A' n' c'])
  clear ha hb
  obtain ⟨z, hz⟩ : ∃ z, tt (os = os') = z := ⟨_, rfl⟩
  have HZ := Lib.hid hz
  rw [hz]
  clear hz
  obtain ⟨y, hy⟩ : ∃ y, (nx == nx') = y := ⟨_, rfl⟩
  rw [hy]
  cases y
  · go_enter Try.func32, Try.ntmps32
    go_wp2_with fail
    go_ret
    exact ⟨rfl, (below_alloc _ _).alloc (by simp) _⟩
  · cases z
    all_goals
      go_enter Try.func32, Try.ntmps32
      go_wp2_with (go_at_call 50; obtain ⟨g0, g1, g2, g3⟩ := HC.out _ rfl; have HQ := equalFunc_any A A' n n' c c' os os' _ (HA.out.go g2) (HB.out.go g2); refine Calls.mono HQ ?_; clear HQ; rintro e w1 ⟨rfl, hb⟩; rw [HZ.out]; have HB1 := Lib.hid (g2.trans (hb.mono g2.size)); clear g0 g1 g2 g3 hb HA)
      all_goals go_ret
      all_goals exact ⟨rfl, HB1.out⟩
end Go.Proofs.Ytjhemdgeafglhaa

namespace Go.Proofs.Ytjhemdgeafglhaa
open Go Go.RowKit Go.Sort

/-- Two objects in two blocks, their lists, and the heaps' slices. -/
def PairO (wr : World) (b b' p p' : Nat) (o o' : Ob) (l l' : Lay) (g g' : Nat) (S S' : Value) (w : World) : Prop :=
  O10 w b p o l ∧ O10 w b' p' o' l' ∧ OV w w.heap.size o l ∧ OV w w.heap.size o' l' ∧ Below wr.heap.size wr w ∧ b < w.heap.size ∧ b' < w.heap.size ∧ w.cell? ⟨g, 1, none⟩ = some S ∧ w.cell? ⟨g', 1, none⟩ = some S' ∧ g < w.heap.size ∧ g' < w.heap.size
theorem PairO.grow {wr w w' : World} {b b' p p' : Nat} {o o' : Ob} {l l' : Lay} {g g' : Nat} {S S' : Value} (h : PairO wr b b' p p' o o' l l' g g' S S' w) (hb : Below w.heap.size w w') : PairO wr b b' p p' o o' l l' g g' S S' w' := by
  obtain ⟨h1, h2, h3, h4, h5, h6, h7, h8, h9, ha, hc⟩ := h
  exact ⟨h1.below hb h6, h2.below hb h7, (h3.below hb).more hb.size, (h4.below hb).more hb.size, h5.trans (hb.mono h5.size), Nat.lt_of_lt_of_le h6 hb.size, Nat.lt_of_lt_of_le h7 hb.size, (hb.cell (p := ⟨g, 1, none⟩) ha).trans h8, (hb.cell (p := ⟨g', 1, none⟩) hc).trans h9, Nat.lt_of_lt_of_le ha hb.size, Nat.lt_of_lt_of_le hc hb.size⟩
theorem PairO.drew {wr : World} {b b' p p' : Nat} {o o' : Ob} {l l' : Lay} {g g' : Nat} {S S' : Value} (h : PairO wr b b' p p' o o' l l' g g' S S' wr) : PairO wr b b' p p' o o' l l' g g' S S' wr.drew := h.grow (Below.refl _ _).drew
abbrev FlatP (wr : World) (b b' p p' : Nat) (o o' : Ob) (l l' : Lay) (g g' : Nat) (S S' : Value) (w : World) : Prop := (w.cell? ⟨g, 1, none⟩ = some S ∧ w.cell? ⟨g', 1, none⟩ = some S') ∧ (w.cell? ⟨b, p, none⟩ = some (.int .i64 o.id) ∧ w.cell? ⟨b, p + 1, none⟩ = some (.int .i64 o.kind) ∧ w.cell? ⟨b, p + 2, none⟩ = some (.string o.name) ∧ w.cell? ⟨b, p + 3, none⟩ = some (.int .i64 o.low) ∧ w.cell? ⟨b, p + 4, none⟩ = some (.slice l.Ak l.nk l.ck) ∧ w.cell? ⟨b, p + 5, none⟩ = some (.slice l.Av l.nv l.cv) ∧ w.cell? ⟨b, p + 6, none⟩ = some (.int .i64 o.d.k) ∧ w.cell? ⟨b, p + 7, none⟩ = some (.int .i64 o.d.n) ∧ w.cell? ⟨b, p + 8, none⟩ = some (.string o.d.t) ∧ w.cell? ⟨b, p + 9, none⟩ = some (.int .i64 o.d.r)) ∧ (w.cell? ⟨b', p', none⟩ = some (.int .i64 o'.id) ∧ w.cell? ⟨b', p' + 1, none⟩ = some (.int .i64 o'.kind) ∧ w.cell? ⟨b', p' + 2, none⟩ = some (.string o'.name) ∧ w.cell? ⟨b', p' + 3, none⟩ = some (.int .i64 o'.low) ∧ w.cell? ⟨b', p' + 4, none⟩ = some (.slice l'.Ak l'.nk l'.ck) ∧ w.cell? ⟨b', p' + 5, none⟩ = some (.slice l'.Av l'.nv l'.cv) ∧ w.cell? ⟨b', p' + 6, none⟩ = some (.int .i64 o'.d.k) ∧ w.cell? ⟨b', p' + 7, none⟩ = some (.int .i64 o'.d.n) ∧ w.cell? ⟨b', p' + 8, none⟩ = some (.string o'.d.t) ∧ w.cell? ⟨b', p' + 9, none⟩ = some (.int .i64 o'.d.r)) ∧ PairO wr b b' p p' o o' l l' g g' S S' w
theorem PairO.flat {wr w : World} {b b' p p' : Nat} {o o' : Ob} {l l' : Lay} {g g' : Nat} {S S' : Value} (h : PairO wr b b' p p' o o' l l' g g' S S' w) : FlatP wr b b' p p' o o' l l' g g' S S' w := ⟨⟨h.2.2.2.2.2.2.2.1, h.2.2.2.2.2.2.2.2.1⟩, h.1, h.2.1, h⟩

set_option maxHeartbeats 4000000 in
set_option maxRecDepth 100000 in
theorem l07Same_any (g g' : Nat) (nx nx' : Int) (A A' : Option Addr) (n n' c c' : Nat) (os os' : List Ob) (W : World) (hg : g < W.heap.size) (hg' : g' < W.heap.size)
    (k0 : W.cell? ⟨g, 0, none⟩ = some (.int .i64 nx)) (k1 : W.cell? ⟨g, 1, none⟩ = some (.slice A n c)) (k0' : W.cell? ⟨g', 0, none⟩ = some (.int .i64 nx')) (k1' : W.cell? ⟨g', 1, none⟩ = some (.slice A' n' c'))
    (ha : OI W W.heap.size A n os) (hb : OI W W.heap.size A' n' os') :
    Calls Try.prog 43 #[.pointer (some ⟨g, 0, none⟩), .pointer (some ⟨g', 0, none⟩)] W fun e w' => e = .returned (.bool (tt (nx = nx' ∧ os = os'))) ∧ Below W.heap.size W w' := by
  rw [sameH_bool]
  have HA := Lib.hid ha
  have HB := Lib.hid hb
  have hn := ha.2.1
  have hn' := hb.2.1
  have HN := Lib.hid ha.1
  have HN' := Lib.hid hb.1
  have HK := Lib.hid k1
  have HK' := Lib.hid k1'
  have HG := Lib.hid hg
  have HG' := Lib.hid hg'
  unfold maxLen at hn hn'
  have x0 := cell_regrown k0
  have x1 := cell_regrown k1
  have y0 := cell_regrown k0'
  have y1 := cell_regrown k1'
  clear ha hb hg hg' k0 k1 k0' k1'
  obtain ⟨P, hP⟩ : ∃ P, tt (os = os') = P := ⟨_, rfl⟩
  have HP := Lib.hid hP
  rw [hP]
  clear hP
  obtain ⟨y, hy⟩ : ∃ y, (nx == nx') = y := ⟨_, rfl⟩
  rw [hy]
  cases y
  · have hne : ¬ nx = nx' := by simpa using hy
    go_enter Try.func43, Try.ntmps43
    go_wp2_with fail
    refine wp_region_quiet_below (by kernel_rfl) (by kernel_rfl) ?_
    repeat (first | go_big_quiet_step (fail) | quiet_step (fail))
    refine wpQuiet_nil ?_
    intro w1 hw'
    obtain ⟨⟨dq, osq⟩, hw''⟩ := hw'
    have HB1 : Hid (Below W.heap.size W w1) := by show Below _ _ _; rw [hw'']; exact below_regrown W dq osq
    clear hw'' x0 x1 y0 y1
    go_wp2_with fail
    go_ret
    exact ⟨rfl, HB1.out⟩
  obtain rfl : nx = nx' := by simpa using hy
  clear hy
  by_cases hl : n = n'
  · subst hl
    go_enter Try.func43, Try.ntmps43
    go_wp2_with fail
    refine wp_region_quiet_below (by kernel_rfl) (by kernel_rfl) ?_
    repeat (first | go_big_quiet_step (fail) | quiet_step (fail))
    refine wpQuiet_nil ?_
    intro w1 hw'
    obtain ⟨⟨dq, osq⟩, hw''⟩ := hw'
    have HB1 : Hid (Below W.heap.size W w1) := by show Below _ _ _; rw [hw'']; exact below_regrown W dq osq
    clear hw'' x0 x1 y0 y1
    go_wp2_with fail
    go_loopw [5] (fun i wr => ∃ k : Nat, k ≤ n ∧ i = .int .i64 k ∧ Hid (Below W.heap.size W wr) ∧ Hid (∀ (j : Nat), j < k → os[j]? = os'[j]?)) (fun i _ => n - (intOf i).toNat)
    case atStart => exact ⟨0, Nat.zero_le _, rfl, HB1, fun j hj => absurd hj (by omega)⟩
    case round =>
      obtain ⟨k, hk, rfl, HW, HV⟩ := hrel
      have s1 : wr.cell? ⟨g, 1, none⟩ = some (.slice A n c) := (HW.out.cell (p := ⟨g, 1, none⟩) HG.out).trans HK.out
      by_cases hlt : k < n
      · have b0 : (0 : Int) ≤ (k : Int) := by omega
        have b1 : (k : Int) < (n : Int) := by omega
        obtain ⟨b, off, o, l, rfl, hb, hx, h1, hv1⟩ := (HA.out.go HW.out).at_ hlt
        obtain ⟨b', off', o', l', rfl, hb', hx', h2, hv2⟩ := (HB.out.go HW.out).at_ hlt
        have HX := Lib.hid hx
        have HX' := Lib.hid hx'
        have H0 := Lib.hid (show PairO wr b b' (off + k * 10) (off' + k * 10) o o' l l' g g' (.slice (some ⟨b, off, none⟩) n c) (.slice (some ⟨b', off', none⟩) n c') wr from ⟨h1, h2, hv1, hv2, Below.refl _ _, hb, hb', s1, (HW.out.cell (p := ⟨g', 1, none⟩) HG'.out).trans HK'.out, Nat.lt_of_lt_of_le HG.out HW.out.size, Nat.lt_of_lt_of_le HG'.out HW.out.size⟩)
        obtain ⟨z, hz⟩ : ∃ z, tt (o = o') = z := ⟨_, rfl⟩
        have HZ := Lib.hid hz
        clear hx hx' h1 h2 hv1 hv2 hb hb' hz
        have HF : Hid (z = false → P = false) := by
          show _ → _
          intro h
          rw [← HP.out]
          refine tt_false fun e => ?_
          have e2 : some o = some o' := by rw [← HX.out, ← HX'.out, e]
          rw [h, Option.some.inj e2] at HZ
          have := HZ.out
          rw [tt_true rfl] at this
          cases this
        have HT : Hid (z = true → ∀ (j : Nat), j < k + 1 → os[j]? = os'[j]?) := by
          show _ → _
          intro h j hj
          by_cases e : j = k
          · rw [h] at HZ
            rw [e, HX.out, HX'.out, of_tt HZ.out]
          · exact HV.out j (by omega)
        cases z
        · have HF1 := Lib.hid (HF.out rfl)
          clear HF HT
          go_wp2_with fail
          go_region_held3 (fun w' => FlatP wr b b' (off + k * 10) (off' + k * 10) o o' l l' g g' (.slice (some ⟨b, off, none⟩) n c) (.slice (some ⟨b', off', none⟩) n c') w')
            (first | exact H0.out.drew.flat | exact (PairO.grow H0.out.drew hb).flat | go_keep)
            ((go_at_call 65; have HS := H0.out.drew; have HQ := l07SameObject_any o o' l l' _ HS.2.2.1 HS.2.2.2.1; refine Calls.mono HQ ?_; clear HQ; rintro e w1 ⟨rfl, hb⟩; rw [HZ.out]))
          go_wp2_with fail
          go_split_ands
          have h2 : PairO wr b b' (off + k * 10) (off' + k * 10) o o' l l' g g' (.slice (some ⟨b, off, none⟩) n c) (.slice (some ⟨b', off', none⟩) n c') _ := ‹_›
          go_ret
          exact ⟨by rw [HF1.out]; rfl, HW.out.trans (h2.2.2.2.2.1.mono HW.out.size)⟩
        · have HT1 := Lib.hid (HT.out rfl)
          clear HF HT
          go_wp2_with fail
          go_region_held3 (fun w' => FlatP wr b b' (off + k * 10) (off' + k * 10) o o' l l' g g' (.slice (some ⟨b, off, none⟩) n c) (.slice (some ⟨b', off', none⟩) n c') w')
            (first | exact H0.out.drew.flat | exact (PairO.grow H0.out.drew hb).flat | go_keep)
            ((go_at_call 65; have HS := H0.out.drew; have HQ := l07SameObject_any o o' l l' _ HS.2.2.1 HS.2.2.2.1; refine Calls.mono HQ ?_; clear HQ; rintro e w1 ⟨rfl, hb⟩; rw [HZ.out]))
          go_wp2_with fail
          go_split_ands
          have h2 : PairO wr b b' (off + k * 10) (off' + k * 10) o o' l l' g g' (.slice (some ⟨b, off, none⟩) n c) (.slice (some ⟨b', off', none⟩) n c') _ := ‹_›
          go_roundw
          case rel => exact ⟨k + 1, by omega, by go_num, HW.out.trans (h2.2.2.2.2.1.mono HW.out.size), HT1⟩
          case measure => simp [intOf]; omega
      · have hkn : k = n := by omega
        have HT : Hid (P = true) := by
          show _ = _
          rw [← HP.out]
          refine tt_true (List.ext_getElem? fun j => ?_)
          by_cases e : j < n
          · exact HV.out j (by omega)
          · rw [List.getElem?_eq_none (by have := HN.out; omega), List.getElem?_eq_none (by have := HN'.out; omega)]
        go_wp2_with fail
        go_ret
        exact ⟨by rw [HT.out]; rfl, HW.out⟩
  · have HF : Hid (P = false) := by
      show _ = _
      rw [← HP.out]
      exact tt_false fun e => hl (by rw [← HN.out, ← HN'.out, e])
    have hne : ¬ (n : Int) = (n' : Int) := by omega
    go_enter Try.func43, Try.ntmps43
    go_wp2_with fail
    refine wp_region_quiet_below (by kernel_rfl) (by kernel_rfl) ?_
    repeat (first | go_big_quiet_step (fail) | quiet_step (fail))
    refine wpQuiet_nil ?_
    intro w1 hw'
    obtain ⟨⟨dq, osq⟩, hw''⟩ := hw'
    have HB1 : Hid (Below W.heap.size W w1) := by show Below _ _ _; rw [hw'']; exact below_regrown W dq osq
    clear hw'' x0 x1 y0 y1
    go_wp2_with fail
    go_ret
    exact ⟨by rw [HF.out]; rfl, HB1.out⟩

set_option maxRecDepth 100000 in
theorem spec_SameHeap_any (nx nx' : Int) (A A' : Option Addr) (n n' c c' : Nat) (os os' : List Ob) (W : World) (ha : OI W W.heap.size A n os) (hb : OI W W.heap.size A' n' os') :
    Calls Try.prog 28 #[.agg #[.int .i64 nx, .slice A n c], .agg #[.int .i64 nx', .slice A' n' c']] W fun e w' => e = .returned (.bool (tt (nx = nx' ∧ os = os'))) ∧ Below W.heap.size W w' := by
  have HA := Lib.hid ha
  have HB := Lib.hid hb
  have HC := Lib.hid (two_new W 47 #[.int .i64 nx, .slice A n c] #[.int .i64 nx', .slice A' n' c'])
  clear ha hb
  go_enter Try.func28, Try.ntmps28
  go_wp2_with (go_at_call 43; obtain ⟨g0, g1, g2, g3⟩ := HC.out _ rfl; have HQ := l07Same_any W.heap.size (W.heap.size + 1) nx nx' A A' n n' c c' os os' _ (by omega) (by omega) (g0.cell 0) (g0.cell 1) (g1.cell 0) (g1.cell 1) (HA.out.go g2) (HB.out.go g2); refine Calls.mono HQ ?_; clear HQ; rintro e w1 ⟨rfl, hb⟩; have HB1 := Lib.hid (g2.trans (hb.mono g2.size)); clear g0 g1 g2 g3 hb HA)
  all_goals go_ret
  all_goals exact ⟨rfl, HB1.out⟩
end Go.Proofs.Ytjhemdgeafglhaa

namespace Go.Proofs.Ytjhemdgeafglhaa
open Go Go.RowKit

/-- What toScope answers. -/
def ToSc (x : Sc) (W : World) (e : Ending) (w' : World) : Prop := ∃ l, e = .returned (x.ag l) ∧ Hid (ScV w' w'.heap.size x l ∧ Below W.heap.size W w' ∧ l.n0 = x.vars_.length ∧ l.n1 = x.functions_.length ∧ l.n2 = x.types_.length ∧ ∃ b0 b1 b2, l.A0 = some ⟨b0, 0, none⟩ ∧ l.A1 = some ⟨b1, 0, none⟩ ∧ l.A2 = some ⟨b2, 0, none⟩ ∧ W.heap.size ≤ b0 ∧ W.heap.size ≤ b1 ∧ W.heap.size ≤ b2)

set_option maxHeartbeats 2000000 in
set_option maxRecDepth 100000 in
theorem toScope_any (x : Sc) (l : ScLay) (W : World) (ho : ScV W W.heap.size x l) (hsm : ScSmall x) :
    Calls Try.prog 31 #[x.ag l] W (ToSc x W) := by
  obtain ⟨x0, x1, x2⟩ := x
  obtain ⟨A0, n0, c0, h0, A1, n1, c1, h1, A2, n2, c2, h2⟩ := l
  obtain ⟨k0, k1, k2⟩ := ho
  obtain ⟨s0, s1, s2⟩ := hsm
  try unfold ScV at k0 k1 k2
  try unfold ScSmall at s0 s1 s2
  dsimp only at k0 k1 k2 s0 s1 s2
  rw [k0.1] at s0
  have HK0 := Lib.hid k0
  have HS0 := Lib.hid s0
  rw [k1.1] at s1
  have HK1 := Lib.hid k1
  have HS1 := Lib.hid s1
  rw [k2.1] at s2
  have HK2 := Lib.hid k2
  have HS2 := Lib.hid s2
  clear k0 k1 k2 s0 s1 s2
  have HC := Lib.hid (fun (X Y : World) (T T' : TypeId) (c c' : Array Value) (eY : Y = W.alloc (.cells #[.slice A0 n0 c0, .slice A1 n1 c1, .slice A2 n2 c2] T)) (eX : X = (Y.alloc (.cells c T')).alloc (.cells c' T')) =>
    (show RW T X W.heap.size #[.slice A0 n0 c0, .slice A1 n1 c1, .slice A2 n2 c2] ∧ RW T' X (W.heap.size + 1 + 1) c' ∧ RW T' X (W.heap.size + 1) c ∧ Below W.heap.size W X ∧ X.heap.size = W.heap.size + 3 from by
      subst eX; subst eY
      refine ⟨((RW.new W _ T).alloc _).alloc _, ?_, ?_, ((below_alloc _ _).alloc (by simp) _).alloc (by simp; omega) _, by simp⟩
      · have := RW.new ((W.alloc (.cells #[.slice A0 n0 c0, .slice A1 n1 c1, .slice A2 n2 c2] T)).alloc (.cells c T')) c' T'
        simpa using this
      · have := (RW.new (W.alloc (.cells #[.slice A0 n0 c0, .slice A1 n1 c1, .slice A2 n2 c2] T)) c T').alloc (.cells c' T')
        simpa using this))
  show Calls Try.prog 31 #[.agg #[.slice A0 n0 c0, .slice A1 n1 c1, .slice A2 n2 c2]] W _
  go_enter Try.func31, Try.ntmps31
  go_wp2_with (go_at_call 47; obtain ⟨g0, g1, g4, g2, g3⟩ := HC.out _ _ _ _ _ _ rfl rfl; have HQ := toBindingS_any A0 n0 c0 x0 _ (HK0.out.go g2) HS0.out; refine Calls.mono HQ ?_; clear HQ; rintro e w1 ⟨rfl, h⟩; obtain ⟨hv, hb⟩ := h.out; have hd := hv.det; rw [g3] at hv hd; have HA1 := Lib.hid (g0.below hb (by omega)); have HR1 := Lib.hid (g1.below hb (by omega)); have HO1 := Lib.hid (g4.below hb (by omega)); have HB1 := Lib.hid (g2.trans (hb.mono g2.size)); have HV1_0 : Hid (Det (W.heap.size + 1 + 1 + 1) w1.heap.size w1 fun w => BdI w w1.heap.size (some ⟨W.heap.size + 1 + 1 + 1, 0, none⟩) n0 x0) := hd; have HG1 : Hid (W.heap.size + 3 ≤ w1.heap.size) := (by have := hb.size; show _ ≤ _; omega); clear g0 g1 g2 g3 g4 h hv hd hb HK0; have q11 : w1.cell? ⟨W.heap.size, 1, none⟩ = some (.slice A1 n1 c1) := HA1.out.cell 1; have p10 : w1.cell? ⟨W.heap.size + 1 + 1, 0, none⟩ = some (.slice none 0 0) := HR1.out.cell 0; have f10 := HR1.out.frozen 0)
  go_wp2_with (go_at_call 48; have hbs : Below (W.heap.size + 2) w1 (w1.setCell ⟨W.heap.size + 1 + 1, 0, none⟩ (.slice (some ⟨W.heap.size + 1 + 1 + 1, 0, none⟩) n0 n0)) := below_set w1 (p := ⟨W.heap.size + 1 + 1, 0, none⟩) (B := W.heap.size + 2) (Nat.le_refl _) (.slice (some ⟨W.heap.size + 1 + 1 + 1, 0, none⟩) n0 n0); have hzz : (w1.setCell ⟨W.heap.size + 1 + 1, 0, none⟩ (.slice (some ⟨W.heap.size + 1 + 1 + 1, 0, none⟩) n0 n0)).heap.size = w1.heap.size := (by simp [World.setCell]); have HQ := toFunctionS_any A1 n1 c1 x1 (w1.setCell ⟨W.heap.size + 1 + 1, 0, none⟩ (.slice (some ⟨W.heap.size + 1 + 1 + 1, 0, none⟩) n0 n0)) (HK1.out.go (HB1.out.trans (hbs.mono (by omega)))) HS1.out.1 HS1.out.2; refine Calls.mono HQ ?_; clear HQ; rintro e w2 ⟨rfl, h⟩; obtain ⟨hv, hb, hd⟩ := h.out; rw [hzz] at hb hv hd; have hsz := hb.size; rw [hzz] at hsz; have hs1 := HG1.out; have HA2 := Lib.hid ((HA1.out.below hbs (by omega)).below hb (by omega)); have HR2 := Lib.hid (((HR1.out).set_ 0 (.slice (some ⟨W.heap.size + 1 + 1 + 1, 0, none⟩) n0 n0)).below hb (by omega)); have HO2 := Lib.hid ((HO1.out.below hbs (by omega)).below hb (by omega)); have HB2 := Lib.hid ((HB1.out.trans (hbs.mono (by omega))).trans (hb.mono (by omega))); have HG2 : Hid (W.heap.size + 3 ≤ w2.heap.size) := (Nat.le_trans hs1 hsz); have HV2_1 : Hid (Det (w1.heap.size) w2.heap.size w2 fun w => FnI w w2.heap.size (some ⟨w1.heap.size, 0, none⟩) n1 x1) := hd; have HZ2 : Hid (w1.heap.size ≠ W.heap.size + 1 + 1) := (by show _ ≠ _; omega); have HV2_0 := Lib.hid (((((HV1_0.out).set (p := ⟨W.heap.size + 1 + 1, 0, none⟩) (by have := HG1.out; dsimp only; omega) (.slice (some ⟨W.heap.size + 1 + 1 + 1, 0, none⟩) n0 n0)).below hb (by omega)).wide (Nat.le_refl _) hsz).imp fun w h => h.more hsz); clear hbs hzz hb hv hd h hsz hs1 HK1; have q22 : w2.cell? ⟨W.heap.size, 2, none⟩ = some (.slice A2 n2 c2) := HA2.out.cell 2; have p21 : w2.cell? ⟨W.heap.size + 1 + 1, 1, none⟩ = some (.slice none 0 0) := HR2.out.cell 1; have f21 := HR2.out.frozen 1)
  go_wp2_with (go_at_call 49; have hbs : Below (W.heap.size + 2) w2 (w2.setCell ⟨W.heap.size + 1 + 1, 1, none⟩ (.slice (some ⟨w1.heap.size, 0, none⟩) n1 n1)) := below_set w2 (p := ⟨W.heap.size + 1 + 1, 1, none⟩) (B := W.heap.size + 2) (Nat.le_refl _) (.slice (some ⟨w1.heap.size, 0, none⟩) n1 n1); have hzz : (w2.setCell ⟨W.heap.size + 1 + 1, 1, none⟩ (.slice (some ⟨w1.heap.size, 0, none⟩) n1 n1)).heap.size = w2.heap.size := (by simp [World.setCell]); have HQ := toRecordTypeS_any A2 n2 c2 x2 (w2.setCell ⟨W.heap.size + 1 + 1, 1, none⟩ (.slice (some ⟨w1.heap.size, 0, none⟩) n1 n1)) (HK2.out.go (HB2.out.trans (hbs.mono (by omega)))) HS2.out.1 HS2.out.2; refine Calls.mono HQ ?_; clear HQ; rintro e w3 ⟨rfl, h⟩; obtain ⟨hv, hb, hd⟩ := h.out; rw [hzz] at hb hv hd; have hsz := hb.size; rw [hzz] at hsz; have hs1 := HG2.out; have HA3 := Lib.hid ((HA2.out.below hbs (by omega)).below hb (by omega)); have HR3 := Lib.hid (((HR2.out).set_ 1 (.slice (some ⟨w1.heap.size, 0, none⟩) n1 n1)).below hb (by omega)); have HO3 := Lib.hid ((HO2.out.below hbs (by omega)).below hb (by omega)); have HB3 := Lib.hid ((HB2.out.trans (hbs.mono (by omega))).trans (hb.mono (by omega))); have HG3 : Hid (W.heap.size + 3 ≤ w3.heap.size) := (Nat.le_trans hs1 hsz); have HV3_2 : Hid (Det (w2.heap.size) w3.heap.size w3 fun w => RtI w w3.heap.size (some ⟨w2.heap.size, 0, none⟩) n2 x2) := hd; have HZ3 : Hid (w2.heap.size ≠ W.heap.size + 1 + 1) := (by show _ ≠ _; omega); have HV3_0 := Lib.hid (((((HV2_0.out).set (p := ⟨W.heap.size + 1 + 1, 1, none⟩) (by have := HG2.out; dsimp only; omega) (.slice (some ⟨w1.heap.size, 0, none⟩) n1 n1)).below hb (by omega)).wide (Nat.le_refl _) hsz).imp fun w h => h.more hsz); have HV3_1 := Lib.hid (((((HV2_1.out).set (p := ⟨W.heap.size + 1 + 1, 1, none⟩) (by have := HG1.out; dsimp only; omega) (.slice (some ⟨w1.heap.size, 0, none⟩) n1 n1)).below hb (by omega)).wide (Nat.le_refl _) hsz).imp fun w h => h.more hsz); clear hbs hzz hb hv hd h hsz hs1 HK2; have p32 : w3.cell? ⟨W.heap.size + 1 + 1, 2, none⟩ = some (.slice none 0 0) := HR3.out.cell 2; have f32 := HR3.out.frozen 2; have p30 : w3.cell? ⟨W.heap.size + 1 + 1, 0, none⟩ = some (.slice (some ⟨W.heap.size + 1 + 1 + 1, 0, none⟩) n0 n0) := HR3.out.cell 0; have p31 : w3.cell? ⟨W.heap.size + 1 + 1, 1, none⟩ = some (.slice (some ⟨w1.heap.size, 0, none⟩) n1 n1) := HR3.out.cell 1; have r0 : w3.cell? ⟨W.heap.size + 1, 0, none⟩ = some (.slice none 0 0) := HO3.out.cell 0; have z0 := HO3.out.frozen 0; have r1 : w3.cell? ⟨W.heap.size + 1, 1, none⟩ = some (.slice none 0 0) := HO3.out.cell 1; have z1 := HO3.out.frozen 1; have r2 : w3.cell? ⟨W.heap.size + 1, 2, none⟩ = some (.slice none 0 0) := HO3.out.cell 2; have z2 := HO3.out.frozen 2)
  have hs1 := HG3.out
  have hb1 : Below (W.heap.size + 1) w3 ((((w3.setCell ⟨W.heap.size + 1 + 1, 2, none⟩ (.slice (some ⟨w2.heap.size, 0, none⟩) n2 n2)).setCell ⟨W.heap.size + 1, 0, none⟩ (.slice (some ⟨W.heap.size + 1 + 1 + 1, 0, none⟩) n0 n0)).setCell ⟨W.heap.size + 1, 1, none⟩ (.slice (some ⟨w1.heap.size, 0, none⟩) n1 n1)).setCell ⟨W.heap.size + 1, 2, none⟩ (.slice (some ⟨w2.heap.size, 0, none⟩) n2 n2)) := ((((below_set w3 (p := ⟨W.heap.size + 1 + 1, 2, none⟩) (by simp) _).setCell (by simp) _).setCell (by simp) _).setCell (by simp) _)
  have hzz : ((((w3.setCell ⟨W.heap.size + 1 + 1, 2, none⟩ (.slice (some ⟨w2.heap.size, 0, none⟩) n2 n2)).setCell ⟨W.heap.size + 1, 0, none⟩ (.slice (some ⟨W.heap.size + 1 + 1 + 1, 0, none⟩) n0 n0)).setCell ⟨W.heap.size + 1, 1, none⟩ (.slice (some ⟨w1.heap.size, 0, none⟩) n1 n1)).setCell ⟨W.heap.size + 1, 2, none⟩ (.slice (some ⟨w2.heap.size, 0, none⟩) n2 n2)).heap.size = w3.heap.size := by simp [World.setCell]
  refine bodyPost_ret (v := .agg #[.slice (some ⟨W.heap.size + 1 + 1 + 1, 0, none⟩) n0 n0, .slice (some ⟨w1.heap.size, 0, none⟩) n1 n1, .slice (some ⟨w2.heap.size, 0, none⟩) n2 n2]) (results_cell_row Try.results31 _ _ (W.heap.size + 1) 52 _ (0, 0) _ rfl ((((((((HO3.out).other (p := ⟨W.heap.size + 1 + 1, 2, none⟩) (by simp) (.slice (some ⟨w2.heap.size, 0, none⟩) n2 n2))).set_ 0 (.slice (some ⟨W.heap.size + 1 + 1 + 1, 0, none⟩) n0 n0))).set_ 1 (.slice (some ⟨w1.heap.size, 0, none⟩) n1 n1))).set_ 2 (.slice (some ⟨w2.heap.size, 0, none⟩) n2 n2)) Try.underlying52 rfl (by kernel_rfl)) rfl ⟨⟨some ⟨W.heap.size + 1 + 1 + 1, 0, none⟩, n0, n0, Nat.le_refl _, some ⟨w1.heap.size, 0, none⟩, n1, n1, Nat.le_refl _, some ⟨w2.heap.size, 0, none⟩, n2, n2, Nat.le_refl _⟩, rfl, Lib.hid ⟨?_, HB3.out.trans (hb1.mono (by omega)), HV3_0.out.self.1.symm, HV3_1.out.self.1.symm, HV3_2.out.self.1.symm, _, _, _, rfl, rfl, rfl, by omega, by have := HG1.out; have := HG2.out; have := HG3.out; omega, by have := HG1.out; have := HG2.out; have := HG3.out; omega⟩⟩
  show ScV ((((w3.setCell ⟨W.heap.size + 1 + 1, 2, none⟩ (.slice (some ⟨w2.heap.size, 0, none⟩) n2 n2)).setCell ⟨W.heap.size + 1, 0, none⟩ (.slice (some ⟨W.heap.size + 1 + 1 + 1, 0, none⟩) n0 n0)).setCell ⟨W.heap.size + 1, 1, none⟩ (.slice (some ⟨w1.heap.size, 0, none⟩) n1 n1)).setCell ⟨W.heap.size + 1, 2, none⟩ (.slice (some ⟨w2.heap.size, 0, none⟩) n2 n2)) ((((w3.setCell ⟨W.heap.size + 1 + 1, 2, none⟩ (.slice (some ⟨w2.heap.size, 0, none⟩) n2 n2)).setCell ⟨W.heap.size + 1, 0, none⟩ (.slice (some ⟨W.heap.size + 1 + 1 + 1, 0, none⟩) n0 n0)).setCell ⟨W.heap.size + 1, 1, none⟩ (.slice (some ⟨w1.heap.size, 0, none⟩) n1 n1)).setCell ⟨W.heap.size + 1, 2, none⟩ (.slice (some ⟨w2.heap.size, 0, none⟩) n2 n2)).heap.size ⟨x0, x1, x2⟩ ⟨some ⟨W.heap.size + 1 + 1 + 1, 0, none⟩, n0, n0, Nat.le_refl _, some ⟨w1.heap.size, 0, none⟩, n1, n1, Nat.le_refl _, some ⟨w2.heap.size, 0, none⟩, n2, n2, Nat.le_refl _⟩
  rw [hzz]
  exact ⟨((((((((HV3_0.out).set (p := ⟨W.heap.size + 1 + 1, 2, none⟩) (by first | (dsimp only; omega) | omega) _)).set (p := ⟨W.heap.size + 1, 0, none⟩) (by first | (dsimp only; omega) | omega) _)).set (p := ⟨W.heap.size + 1, 1, none⟩) (by first | (dsimp only; omega) | omega) _)).set (p := ⟨W.heap.size + 1, 2, none⟩) (by first | (dsimp only; omega) | omega) _).self, ((((((((HV3_1.out).set (p := ⟨W.heap.size + 1 + 1, 2, none⟩) (by have := HG1.out; first | (dsimp only; omega) | omega) _)).set (p := ⟨W.heap.size + 1, 0, none⟩) (by have := HG1.out; first | (dsimp only; omega) | omega) _)).set (p := ⟨W.heap.size + 1, 1, none⟩) (by have := HG1.out; first | (dsimp only; omega) | omega) _)).set (p := ⟨W.heap.size + 1, 2, none⟩) (by have := HG1.out; first | (dsimp only; omega) | omega) _).self, ((((((((HV3_2.out).set (p := ⟨W.heap.size + 1 + 1, 2, none⟩) (by have := HG2.out; first | (dsimp only; omega) | omega) _)).set (p := ⟨W.heap.size + 1, 0, none⟩) (by have := HG2.out; first | (dsimp only; omega) | omega) _)).set (p := ⟨W.heap.size + 1, 1, none⟩) (by have := HG2.out; first | (dsimp only; omega) | omega) _)).set (p := ⟨W.heap.size + 1, 2, none⟩) (by have := HG2.out; first | (dsimp only; omega) | omega) _).self⟩

end Go.Proofs.Ytjhemdgeafglhaa

namespace Go.Proofs.Ytjhemdgeafglhaa
open Go Go.RowKit

set_option maxHeartbeats 1000000 in
set_option maxRecDepth 100000 in
theorem eqScope_same (x : Sc) (l l' : ScLay) (W : World) (ho : ScV W W.heap.size x l) (ho' : ScV W W.heap.size x l') :
    Calls Try.prog 35 #[x.ag l, x.ag l'] W fun e w' => e = .returned (.bool true) ∧ Below W.heap.size W w' := by
  obtain ⟨x0, x1, x2⟩ := x
  obtain ⟨A0, n0, c0, h0, A1, n1, c1, h1, A2, n2, c2, h2⟩ := l
  obtain ⟨A0', n0', c0', h0', A1', n1', c1', h1', A2', n2', c2', h2'⟩ := l'
  obtain ⟨k0, k1, k2⟩ := ho
  obtain ⟨j0, j1, j2⟩ := ho'
  try unfold ScV at k0 j0 k1 j1 k2 j2
  dsimp only at k0 j0 k1 j1 k2 j2
  obtain rfl : n0 = n0' := k0.1.symm.trans j0.1
  have HK0 := Lib.hid k0
  have HJ0 := Lib.hid j0
  obtain rfl : n1 = n1' := k1.1.symm.trans j1.1
  have HK1 := Lib.hid k1
  have HJ1 := Lib.hid j1
  obtain rfl : n2 = n2' := k2.1.symm.trans j2.1
  have HK2 := Lib.hid k2
  have HJ2 := Lib.hid j2
  clear k0 j0 k1 j1 k2 j2
  have HC := Lib.hid (two_new W 52 #[.slice A0 n0 c0, .slice A1 n1 c1, .slice A2 n2 c2] #[.slice A0' n0 c0', .slice A1' n1 c1', .slice A2' n2 c2'])
  show Calls Try.prog 35 #[.agg #[.slice A0 n0 c0, .slice A1 n1 c1, .slice A2 n2 c2], .agg #[.slice A0' n0 c0', .slice A1' n1 c1', .slice A2' n2 c2']] W _
  go_enter Try.func35, Try.ntmps35
  go_wp2_with (go_at_call 58; obtain ⟨g0, g1, g2, g3⟩ := HC.out _ rfl; have HQ := eqBindingS_same A0 A0' n0 c0 c0' x0 _ (HK0.out.go g2) (HJ0.out.go g2); refine Calls.mono HQ ?_; clear HQ; rintro e w1 ⟨rfl, hb⟩; have HA1 := Lib.hid (g0.below hb (by omega)); have HD1 := Lib.hid (g1.below hb (by omega)); have HB1 := Lib.hid (g2.trans (hb.mono g2.size)); have HG1 : Hid (W.heap.size + 2 ≤ w1.heap.size) := (by have := hb.size; show _ ≤ _; omega); have q11 : w1.cell? ⟨W.heap.size, 1, none⟩ = some (.slice A1 n1 c1) := HA1.out.cell 1; have p11 : w1.cell? ⟨W.heap.size + 1, 1, none⟩ = some (.slice A1' n1 c1') := HD1.out.cell 1; clear g0 g1 g2 g3 hb HK0)
  go_wp2_with (go_at_call 59; have HQ := eqFunctionS_same A1 A1' n1 c1 c1' x1 _ (HK1.out.go HB1.out) (HJ1.out.go HB1.out); refine Calls.mono HQ ?_; clear HQ; rintro e w2 ⟨rfl, hb⟩; have hg := HG1.out; have HA2 := Lib.hid (HA1.out.below hb (by omega)); have HD2 := Lib.hid (HD1.out.below hb (by omega)); have HB2 := Lib.hid (HB1.out.trans (hb.mono HB1.out.size)); have HG2 : Hid (W.heap.size + 2 ≤ w2.heap.size) := (Nat.le_trans hg hb.size); have q22 : w2.cell? ⟨W.heap.size, 2, none⟩ = some (.slice A2 n2 c2) := HA2.out.cell 2; have p22 : w2.cell? ⟨W.heap.size + 1, 2, none⟩ = some (.slice A2' n2 c2') := HD2.out.cell 2; clear hg hb HK1)
  go_wp2_with (go_at_call 60; have HQ := eqRecordTypeS_same A2 A2' n2 c2 c2' x2 _ (HK2.out.go HB2.out) (HJ2.out.go HB2.out); refine Calls.mono HQ ?_; clear HQ; rintro e w3 ⟨rfl, hb⟩; have hg := HG2.out; have HA3 := Lib.hid (HA2.out.below hb (by omega)); have HD3 := Lib.hid (HD2.out.below hb (by omega)); have HB3 := Lib.hid (HB2.out.trans (hb.mono HB2.out.size)); have HG3 : Hid (W.heap.size + 2 ≤ w3.heap.size) := (Nat.le_trans hg hb.size); clear hg hb HK2)
  all_goals go_ret
  all_goals exact ⟨rfl, HB3.out⟩

/-- Two in two blocks, and their lists. -/
def TwoSc (wr : World) (b b' p p' : Nat) (x y : Sc) (l l' : ScLay) (w : World) : Prop := ScAt w b p x l ∧ ScAt w b' p' y l' ∧ ScV w w.heap.size x l ∧ ScV w w.heap.size y l' ∧ Below wr.heap.size wr w ∧ b < w.heap.size ∧ b' < w.heap.size
theorem TwoSc.grow {wr w w' : World} {b b' p p' : Nat} {x y : Sc} {l l' : ScLay} (h : TwoSc wr b b' p p' x y l l' w) (hb : Below w.heap.size w w') : TwoSc wr b b' p p' x y l l' w' :=
  ⟨h.1.below hb h.2.2.2.2.2.1, h.2.1.below hb h.2.2.2.2.2.2, (h.2.2.1.below hb).more hb.size, (h.2.2.2.1.below hb).more hb.size, h.2.2.2.2.1.trans (hb.mono h.2.2.2.2.1.size), Nat.lt_of_lt_of_le h.2.2.2.2.2.1 hb.size, Nat.lt_of_lt_of_le h.2.2.2.2.2.2 hb.size⟩
/-- .. cell by cell, as the walk of a region asks it. -/
abbrev FlatSc (wr : World) (b b' p p' : Nat) (x y : Sc) (l l' : ScLay) (w : World) : Prop := (w.cell? ⟨b, p, none⟩ = some (.slice l.A0 l.n0 l.c0) ∧ w.cell? ⟨b, p + 1, none⟩ = some (.slice l.A1 l.n1 l.c1) ∧ w.cell? ⟨b, p + 2, none⟩ = some (.slice l.A2 l.n2 l.c2)) ∧ (w.cell? ⟨b', p', none⟩ = some (.slice l'.A0 l'.n0 l'.c0) ∧ w.cell? ⟨b', p' + 1, none⟩ = some (.slice l'.A1 l'.n1 l'.c1) ∧ w.cell? ⟨b', p' + 2, none⟩ = some (.slice l'.A2 l'.n2 l'.c2)) ∧ TwoSc wr b b' p p' x y l l' w
theorem TwoSc.flat {wr w : World} {b b' p p' : Nat} {x y : Sc} {l l' : ScLay} (h : TwoSc wr b b' p p' x y l l' w) : FlatSc wr b b' p p' x y l l' w := ⟨h.1, h.2.1, h⟩
theorem TwoSc.drew {wr : World} {b b' p p' : Nat} {x y : Sc} {l l' : ScLay} (h : TwoSc wr b b' p p' x y l l' wr) : TwoSc wr b b' p p' x y l l' wr.drew := h.grow (Below.refl _ _).drew

end Go.Proofs.Ytjhemdgeafglhaa

namespace Go.Proofs.Ytjhemdgeafglhaa
open Go Go.RowKit

/-- What '==' answers at two of them. -/
def sameBd (x0 : ByteArray) (x1 : Int) (x2 : Int) (x3 : ByteArray) (x4 : Int) (y0 : ByteArray) (y1 : Int) (y2 : Int) (y3 : ByteArray) (y4 : Int) : Bool := (x0.toList == y0.toList) && ((x1 == y1) && ((x2 == y2) && ((x3.toList == y3.toList) && ((x4 == y4)))))
theorem sameBd_iff (x y : Bd) : sameBd x.name_ x.kind_ x.num_ x.text_ x.ref_ y.name_ y.kind_ y.num_ y.text_ y.ref_ = true ↔ x = y := by
  obtain ⟨x0, x1, x2, x3, x4⟩ := x
  obtain ⟨y0, y1, y2, y3, y4⟩ := y
  unfold sameBd
  simp only [Bool.and_eq_true, beq_iff_eq, Bd.mk.injEq]
  constructor
  · rintro ⟨h0, h1, h2, h3, h4⟩
    exact ⟨WideShapes.bytes_inj (by rw [← ByteArray.toList_eq, ← ByteArray.toList_eq]; exact h0), h1, h2, WideShapes.bytes_inj (by rw [← ByteArray.toList_eq, ← ByteArray.toList_eq]; exact h3), h4⟩
  · rintro ⟨h0, h1, h2, h3, h4⟩
    exact ⟨by rw [h0], h1, h2, by rw [h3], h4⟩

set_option maxHeartbeats 2000000 in
set_option maxRecDepth 100000 in
theorem l18SameBindings_any (A A' : Option Addr) (n n' c c' : Nat) (xs ys : List Bd) (W : World) (ha : BdI W W.heap.size A n xs) (hb : BdI W W.heap.size A' n' ys) :
    Calls Try.prog 44 #[.slice A n c, .slice A' n' c'] W fun e w' => e = .returned (.bool (tt (xs = ys))) ∧ Below W.heap.size W w' := by
  have HA := Lib.hid ha
  have HB := Lib.hid hb
  have hn := ha.2.1
  have hn' := hb.2.1
  have HN := Lib.hid ha.1
  have HN' := Lib.hid hb.1
  unfold maxLen at hn hn'
  clear ha hb
  obtain ⟨P, hP⟩ : ∃ P, tt (xs = ys) = P := ⟨_, rfl⟩
  have HP := Lib.hid hP
  rw [hP]
  clear hP
  by_cases hl : n = n'
  · subst hl
    go_enter Try.func44, Try.ntmps44
    go_wp2_with fail
    go_loopw [5] (fun i wr => ∃ k : Nat, k ≤ n ∧ i = .int .i64 k ∧ Hid (Below W.heap.size W wr) ∧ Hid (∀ (j : Nat), j < k → xs[j]? = ys[j]?)) (fun i _ => n - (intOf i).toNat)
    case atStart => exact ⟨0, Nat.zero_le _, rfl, Below.refl _ _, fun j hj => absurd hj (by omega)⟩
    case round =>
      obtain ⟨k, hk, rfl, HW, HV⟩ := hrel
      by_cases hlt : k < n
      · have b0 : (0 : Int) ≤ (k : Int) := by omega
        have b1 : (k : Int) < (n : Int) := by omega
        obtain ⟨b, off, x, rfl, hg, hx, h1, _⟩ := HA.out.at_ hlt
        obtain ⟨b', off', y, rfl, hg', hy, h2, _⟩ := HB.out.at_ hlt
        obtain ⟨p0, p1, p2, p3, p4⟩ := h1.below HW.out hg
        obtain ⟨q0, q1, q2, q3, q4⟩ := h2.below HW.out hg'
        have HX := Lib.hid hx
        have HY := Lib.hid hy
        obtain ⟨x0, x1, x2, x3, x4⟩ := x
        obtain ⟨y0, y1, y2, y3, y4⟩ := y
        dsimp only at p0 p1 p2 p3 p4 q0 q1 q2 q3 q4
        have HS := Lib.hid (sameBd_iff ⟨x0, x1, x2, x3, x4⟩ ⟨y0, y1, y2, y3, y4⟩)
        have HG : Hid (b < wr.heap.size) := Nat.lt_of_lt_of_le hg HW.out.size
        have HG' : Hid (b' < wr.heap.size) := Nat.lt_of_lt_of_le hg' HW.out.size
        clear hx hy h1 h2 hg hg'
        have HF : Hid (sameBd x0 x1 x2 x3 x4 y0 y1 y2 y3 y4 = false → P = false) := by
          show _ → _
          intro h
          rw [← HP.out]
          refine tt_false fun e => ?_
          have e2 : some (⟨x0, x1, x2, x3, x4⟩ : Bd) = some ⟨y0, y1, y2, y3, y4⟩ := by rw [← HX.out, ← HY.out, e]
          rw [HS.out.2 (Option.some.inj e2)] at h
          cases h
        have HT : Hid (sameBd x0 x1 x2 x3 x4 y0 y1 y2 y3 y4 = true → ∀ (j : Nat), j < k + 1 → xs[j]? = ys[j]?) := by
          show _ → _
          intro h j hj
          by_cases e : j = k
          · rw [e, HX.out, HY.out, HS.out.1 h]
          · exact HV.out j (by omega)
        unfold sameBd at HF HT
        clear HS HX HY
        obtain ⟨z0, h0⟩ : ∃ z, (x0.toList == y0.toList) = z := ⟨_, rfl⟩
        obtain ⟨z1, h1⟩ : ∃ z, (x1 == y1) = z := ⟨_, rfl⟩
        obtain ⟨z2, h2⟩ : ∃ z, (x2 == y2) = z := ⟨_, rfl⟩
        obtain ⟨z3, h3⟩ : ∃ z, (x3.toList == y3.toList) = z := ⟨_, rfl⟩
        obtain ⟨z4, h4⟩ : ∃ z, (x4 == y4) = z := ⟨_, rfl⟩
        rw [h0, h1, h2, h3, h4] at HF HT
        cases z0
        · have HF1 := Lib.hid (HF.out (by simp))
          clear HF HT
          go_wp2_with fail
          go_region_held3 (fun w' => TwoBd w' b b' (off + k * 5) (off' + k * 5) x0 x1 x2 x3 x4 y0 y1 y2 y3 y4 ∧ Below wr.heap.size wr w')
            (first | (exact ⟨⟨⟨p0, p1, p2, p3, p4⟩, ⟨q0, q1, q2, q3, q4⟩⟩, (Below.refl _ _).drew⟩) | (go_split_ands; exact twoBd_keep HG.out HG'.out ⟨⟨⟨by assumption, by assumption, by assumption, by assumption, by assumption⟩, ⟨by assumption, by assumption, by assumption, by assumption, by assumption⟩⟩, by assumption⟩ hb) | go_keep)
            (fail)
          go_wp2_with fail
          go_split_ands
          go_ret
          exact ⟨by rw [HF1.out]; rfl, HW.out.trans (Below.mono (by assumption) HW.out.size)⟩
        cases z1
        · have HF1 := Lib.hid (HF.out (by simp))
          clear HF HT
          go_wp2_with fail
          go_region_held3 (fun w' => TwoBd w' b b' (off + k * 5) (off' + k * 5) x0 x1 x2 x3 x4 y0 y1 y2 y3 y4 ∧ Below wr.heap.size wr w')
            (first | (exact ⟨⟨⟨p0, p1, p2, p3, p4⟩, ⟨q0, q1, q2, q3, q4⟩⟩, (Below.refl _ _).drew⟩) | (go_split_ands; exact twoBd_keep HG.out HG'.out ⟨⟨⟨by assumption, by assumption, by assumption, by assumption, by assumption⟩, ⟨by assumption, by assumption, by assumption, by assumption, by assumption⟩⟩, by assumption⟩ hb) | go_keep)
            (fail)
          go_wp2_with fail
          go_split_ands
          go_ret
          exact ⟨by rw [HF1.out]; rfl, HW.out.trans (Below.mono (by assumption) HW.out.size)⟩
        cases z2
        · have HF1 := Lib.hid (HF.out (by simp))
          clear HF HT
          go_wp2_with fail
          go_region_held3 (fun w' => TwoBd w' b b' (off + k * 5) (off' + k * 5) x0 x1 x2 x3 x4 y0 y1 y2 y3 y4 ∧ Below wr.heap.size wr w')
            (first | (exact ⟨⟨⟨p0, p1, p2, p3, p4⟩, ⟨q0, q1, q2, q3, q4⟩⟩, (Below.refl _ _).drew⟩) | (go_split_ands; exact twoBd_keep HG.out HG'.out ⟨⟨⟨by assumption, by assumption, by assumption, by assumption, by assumption⟩, ⟨by assumption, by assumption, by assumption, by assumption, by assumption⟩⟩, by assumption⟩ hb) | go_keep)
            (fail)
          go_wp2_with fail
          go_split_ands
          go_ret
          exact ⟨by rw [HF1.out]; rfl, HW.out.trans (Below.mono (by assumption) HW.out.size)⟩
        cases z3
        · have HF1 := Lib.hid (HF.out (by simp))
          clear HF HT
          go_wp2_with fail
          go_region_held3 (fun w' => TwoBd w' b b' (off + k * 5) (off' + k * 5) x0 x1 x2 x3 x4 y0 y1 y2 y3 y4 ∧ Below wr.heap.size wr w')
            (first | (exact ⟨⟨⟨p0, p1, p2, p3, p4⟩, ⟨q0, q1, q2, q3, q4⟩⟩, (Below.refl _ _).drew⟩) | (go_split_ands; exact twoBd_keep HG.out HG'.out ⟨⟨⟨by assumption, by assumption, by assumption, by assumption, by assumption⟩, ⟨by assumption, by assumption, by assumption, by assumption, by assumption⟩⟩, by assumption⟩ hb) | go_keep)
            (fail)
          go_wp2_with fail
          go_split_ands
          go_ret
          exact ⟨by rw [HF1.out]; rfl, HW.out.trans (Below.mono (by assumption) HW.out.size)⟩
        cases z4
        · have HF1 := Lib.hid (HF.out (by simp))
          clear HF HT
          go_wp2_with fail
          go_region_held3 (fun w' => TwoBd w' b b' (off + k * 5) (off' + k * 5) x0 x1 x2 x3 x4 y0 y1 y2 y3 y4 ∧ Below wr.heap.size wr w')
            (first | (exact ⟨⟨⟨p0, p1, p2, p3, p4⟩, ⟨q0, q1, q2, q3, q4⟩⟩, (Below.refl _ _).drew⟩) | (go_split_ands; exact twoBd_keep HG.out HG'.out ⟨⟨⟨by assumption, by assumption, by assumption, by assumption, by assumption⟩, ⟨by assumption, by assumption, by assumption, by assumption, by assumption⟩⟩, by assumption⟩ hb) | go_keep)
            (fail)
          go_wp2_with fail
          go_split_ands
          go_ret
          exact ⟨by rw [HF1.out]; rfl, HW.out.trans (Below.mono (by assumption) HW.out.size)⟩
        have HT1 := Lib.hid (HT.out (by simp))
        clear HF HT
        go_wp2_with fail
        go_region_held3 (fun w' => TwoBd w' b b' (off + k * 5) (off' + k * 5) x0 x1 x2 x3 x4 y0 y1 y2 y3 y4 ∧ Below wr.heap.size wr w')
          (first | (exact ⟨⟨⟨p0, p1, p2, p3, p4⟩, ⟨q0, q1, q2, q3, q4⟩⟩, (Below.refl _ _).drew⟩) | (go_split_ands; exact twoBd_keep HG.out HG'.out ⟨⟨⟨by assumption, by assumption, by assumption, by assumption, by assumption⟩, ⟨by assumption, by assumption, by assumption, by assumption, by assumption⟩⟩, by assumption⟩ hb) | go_keep)
          (fail)
        go_wp2_with fail
        go_split_ands
        go_roundw
        case rel => exact ⟨k + 1, by omega, by go_num, HW.out.trans (Below.mono (by assumption) HW.out.size), HT1⟩
        case measure => simp [intOf]; omega
      · have hkn : k = n := by omega
        have HT : Hid (P = true) := by
          show _ = _
          rw [← HP.out]
          refine tt_true (List.ext_getElem? fun j => ?_)
          by_cases e : j < n
          · exact HV.out j (by omega)
          · rw [List.getElem?_eq_none (by have := HN.out; omega), List.getElem?_eq_none (by have := HN'.out; omega)]
        go_wp2_with fail
        go_ret
        exact ⟨by rw [HT.out]; rfl, HW.out⟩
  · have HF : Hid (P = false) := by
      show _ = _
      rw [← HP.out]
      exact tt_false fun e => hl (by rw [← HN.out, ← HN'.out, e])
    have hne : ¬ (n : Int) = (n' : Int) := by omega
    go_enter Try.func44, Try.ntmps44
    go_wp2_with fail
    go_ret
    exact ⟨by rw [HF.out]; rfl, Below.refl _ _⟩

set_option maxHeartbeats 2000000 in
set_option maxRecDepth 100000 in
theorem equalBindings_any (A A' : Option Addr) (n n' c c' : Nat) (xs ys : List Bd) (W : World) (ha : BdI W W.heap.size A n xs) (hb : BdI W W.heap.size A' n' ys) :
    Calls Try.prog 52 #[.slice A n c, .slice A' n' c'] W fun e w' => e = .returned (.bool (tt (xs = ys))) ∧ Below W.heap.size W w' := by
  have HA := Lib.hid ha
  have HB := Lib.hid hb
  have hn := ha.2.1
  have hn' := hb.2.1
  have HN := Lib.hid ha.1
  have HN' := Lib.hid hb.1
  unfold maxLen at hn hn'
  clear ha hb
  obtain ⟨P, hP⟩ : ∃ P, tt (xs = ys) = P := ⟨_, rfl⟩
  have HP := Lib.hid hP
  rw [hP]
  clear hP
  by_cases hl : n = n'
  · subst hl
    go_enter Try.func52, Try.ntmps52
    go_wp2_with fail
    go_loopw [13] (fun i wr => ∃ k : Nat, k ≤ n ∧ i = .int .i64 k ∧ Hid (Below W.heap.size W wr) ∧ Hid (∀ (j : Nat), j < k → xs[j]? = ys[j]?)) (fun i _ => n - (intOf i).toNat)
    case atStart => exact ⟨0, Nat.zero_le _, rfl, Below.refl _ _, fun j hj => absurd hj (by omega)⟩
    case round =>
      obtain ⟨k, hk, rfl, HW, HV⟩ := hrel
      by_cases hlt : k < n
      · have b0 : (0 : Int) ≤ (k : Int) := by omega
        have b1 : (k : Int) < (n : Int) := by omega
        obtain ⟨b, off, x, rfl, hg, hx, h1, _⟩ := HA.out.at_ hlt
        obtain ⟨b', off', y, rfl, hg', hy, h2, _⟩ := HB.out.at_ hlt
        obtain ⟨p0, p1, p2, p3, p4⟩ := h1.below HW.out hg
        obtain ⟨q0, q1, q2, q3, q4⟩ := h2.below HW.out hg'
        have HX := Lib.hid hx
        have HY := Lib.hid hy
        obtain ⟨x0, x1, x2, x3, x4⟩ := x
        obtain ⟨y0, y1, y2, y3, y4⟩ := y
        dsimp only at p0 p1 p2 p3 p4 q0 q1 q2 q3 q4
        have HS := Lib.hid (sameBd_iff ⟨x0, x1, x2, x3, x4⟩ ⟨y0, y1, y2, y3, y4⟩)
        have HG : Hid (b < wr.heap.size) := Nat.lt_of_lt_of_le hg HW.out.size
        have HG' : Hid (b' < wr.heap.size) := Nat.lt_of_lt_of_le hg' HW.out.size
        clear hx hy h1 h2 hg hg'
        have HF : Hid (sameBd x0 x1 x2 x3 x4 y0 y1 y2 y3 y4 = false → P = false) := by
          show _ → _
          intro h
          rw [← HP.out]
          refine tt_false fun e => ?_
          have e2 : some (⟨x0, x1, x2, x3, x4⟩ : Bd) = some ⟨y0, y1, y2, y3, y4⟩ := by rw [← HX.out, ← HY.out, e]
          rw [HS.out.2 (Option.some.inj e2)] at h
          cases h
        have HT : Hid (sameBd x0 x1 x2 x3 x4 y0 y1 y2 y3 y4 = true → ∀ (j : Nat), j < k + 1 → xs[j]? = ys[j]?) := by
          show _ → _
          intro h j hj
          by_cases e : j = k
          · rw [e, HX.out, HY.out, HS.out.1 h]
          · exact HV.out j (by omega)
        unfold sameBd at HF HT
        clear HS HX HY
        obtain ⟨z0, h0⟩ : ∃ z, (x0.toList == y0.toList) = z := ⟨_, rfl⟩
        obtain ⟨z1, h1⟩ : ∃ z, (x1 == y1) = z := ⟨_, rfl⟩
        obtain ⟨z2, h2⟩ : ∃ z, (x2 == y2) = z := ⟨_, rfl⟩
        obtain ⟨z3, h3⟩ : ∃ z, (x3.toList == y3.toList) = z := ⟨_, rfl⟩
        obtain ⟨z4, h4⟩ : ∃ z, (x4 == y4) = z := ⟨_, rfl⟩
        rw [h0, h1, h2, h3, h4] at HF HT
        cases z0
        · have HF1 := Lib.hid (HF.out (by simp))
          clear HF HT
          go_wp2_with fail
          go_region_held3 (fun w' => TwoBd w' b b' (off + k * 5) (off' + k * 5) x0 x1 x2 x3 x4 y0 y1 y2 y3 y4 ∧ Below wr.heap.size wr w')
            (first | (exact ⟨⟨⟨p0, p1, p2, p3, p4⟩, ⟨q0, q1, q2, q3, q4⟩⟩, (Below.refl _ _).drew⟩) | (go_split_ands; exact twoBd_keep HG.out HG'.out ⟨⟨⟨by assumption, by assumption, by assumption, by assumption, by assumption⟩, ⟨by assumption, by assumption, by assumption, by assumption, by assumption⟩⟩, by assumption⟩ hb) | go_keep)
            (fail)
          go_wp2_with fail
          go_split_ands
          go_ret
          exact ⟨by rw [HF1.out]; rfl, HW.out.trans (Below.mono (by assumption) HW.out.size)⟩
        cases z1
        · have HF1 := Lib.hid (HF.out (by simp))
          clear HF HT
          go_wp2_with fail
          go_region_held3 (fun w' => TwoBd w' b b' (off + k * 5) (off' + k * 5) x0 x1 x2 x3 x4 y0 y1 y2 y3 y4 ∧ Below wr.heap.size wr w')
            (first | (exact ⟨⟨⟨p0, p1, p2, p3, p4⟩, ⟨q0, q1, q2, q3, q4⟩⟩, (Below.refl _ _).drew⟩) | (go_split_ands; exact twoBd_keep HG.out HG'.out ⟨⟨⟨by assumption, by assumption, by assumption, by assumption, by assumption⟩, ⟨by assumption, by assumption, by assumption, by assumption, by assumption⟩⟩, by assumption⟩ hb) | go_keep)
            (fail)
          go_wp2_with fail
          go_split_ands
          go_ret
          exact ⟨by rw [HF1.out]; rfl, HW.out.trans (Below.mono (by assumption) HW.out.size)⟩
        cases z2
        · have HF1 := Lib.hid (HF.out (by simp))
          clear HF HT
          go_wp2_with fail
          go_region_held3 (fun w' => TwoBd w' b b' (off + k * 5) (off' + k * 5) x0 x1 x2 x3 x4 y0 y1 y2 y3 y4 ∧ Below wr.heap.size wr w')
            (first | (exact ⟨⟨⟨p0, p1, p2, p3, p4⟩, ⟨q0, q1, q2, q3, q4⟩⟩, (Below.refl _ _).drew⟩) | (go_split_ands; exact twoBd_keep HG.out HG'.out ⟨⟨⟨by assumption, by assumption, by assumption, by assumption, by assumption⟩, ⟨by assumption, by assumption, by assumption, by assumption, by assumption⟩⟩, by assumption⟩ hb) | go_keep)
            (fail)
          go_wp2_with fail
          go_split_ands
          go_ret
          exact ⟨by rw [HF1.out]; rfl, HW.out.trans (Below.mono (by assumption) HW.out.size)⟩
        cases z3
        · have HF1 := Lib.hid (HF.out (by simp))
          clear HF HT
          go_wp2_with fail
          go_region_held3 (fun w' => TwoBd w' b b' (off + k * 5) (off' + k * 5) x0 x1 x2 x3 x4 y0 y1 y2 y3 y4 ∧ Below wr.heap.size wr w')
            (first | (exact ⟨⟨⟨p0, p1, p2, p3, p4⟩, ⟨q0, q1, q2, q3, q4⟩⟩, (Below.refl _ _).drew⟩) | (go_split_ands; exact twoBd_keep HG.out HG'.out ⟨⟨⟨by assumption, by assumption, by assumption, by assumption, by assumption⟩, ⟨by assumption, by assumption, by assumption, by assumption, by assumption⟩⟩, by assumption⟩ hb) | go_keep)
            (fail)
          go_wp2_with fail
          go_split_ands
          go_ret
          exact ⟨by rw [HF1.out]; rfl, HW.out.trans (Below.mono (by assumption) HW.out.size)⟩
        cases z4
        · have HF1 := Lib.hid (HF.out (by simp))
          clear HF HT
          go_wp2_with fail
          go_region_held3 (fun w' => TwoBd w' b b' (off + k * 5) (off' + k * 5) x0 x1 x2 x3 x4 y0 y1 y2 y3 y4 ∧ Below wr.heap.size wr w')
            (first | (exact ⟨⟨⟨p0, p1, p2, p3, p4⟩, ⟨q0, q1, q2, q3, q4⟩⟩, (Below.refl _ _).drew⟩) | (go_split_ands; exact twoBd_keep HG.out HG'.out ⟨⟨⟨by assumption, by assumption, by assumption, by assumption, by assumption⟩, ⟨by assumption, by assumption, by assumption, by assumption, by assumption⟩⟩, by assumption⟩ hb) | go_keep)
            (fail)
          go_wp2_with fail
          go_split_ands
          go_ret
          exact ⟨by rw [HF1.out]; rfl, HW.out.trans (Below.mono (by assumption) HW.out.size)⟩
        have HT1 := Lib.hid (HT.out (by simp))
        clear HF HT
        go_wp2_with fail
        go_region_held3 (fun w' => TwoBd w' b b' (off + k * 5) (off' + k * 5) x0 x1 x2 x3 x4 y0 y1 y2 y3 y4 ∧ Below wr.heap.size wr w')
          (first | (exact ⟨⟨⟨p0, p1, p2, p3, p4⟩, ⟨q0, q1, q2, q3, q4⟩⟩, (Below.refl _ _).drew⟩) | (go_split_ands; exact twoBd_keep HG.out HG'.out ⟨⟨⟨by assumption, by assumption, by assumption, by assumption, by assumption⟩, ⟨by assumption, by assumption, by assumption, by assumption, by assumption⟩⟩, by assumption⟩ hb) | go_keep)
          (fail)
        go_wp2_with fail
        go_split_ands
        go_roundw
        case rel => exact ⟨k + 1, by omega, by go_num, HW.out.trans (Below.mono (by assumption) HW.out.size), HT1⟩
        case measure => simp [intOf]; omega
      · have hkn : k = n := by omega
        have HT : Hid (P = true) := by
          show _ = _
          rw [← HP.out]
          refine tt_true (List.ext_getElem? fun j => ?_)
          by_cases e : j < n
          · exact HV.out j (by omega)
          · rw [List.getElem?_eq_none (by have := HN.out; omega), List.getElem?_eq_none (by have := HN'.out; omega)]
        go_wp2_with fail
        go_ret
        exact ⟨by rw [HT.out]; rfl, HW.out⟩
  · have HF : Hid (P = false) := by
      show _ = _
      rw [← HP.out]
      exact tt_false fun e => hl (by rw [← HN.out, ← HN'.out, e])
    have hne : ¬ (n : Int) = (n' : Int) := by omega
    go_enter Try.func52, Try.ntmps52
    go_wp2_with fail
    go_ret
    exact ⟨by rw [HF.out]; rfl, Below.refl _ _⟩

end Go.Proofs.Ytjhemdgeafglhaa
