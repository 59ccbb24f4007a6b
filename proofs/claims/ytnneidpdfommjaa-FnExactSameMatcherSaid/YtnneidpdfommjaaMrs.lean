/- Matcher: as plain data and in memory; szMatcher, szMatcherS of the laws. No condition. -/
import Derived.Test.YtnneidpdfommjaaMfsEq
import Derived.Test.YtnneidpdfommjaaMcsEq
import Derived.Test.YtnneidpdfommjaaCpsEq
namespace Go.Proofs.Ytnneidpdfommjaa
open Go Go.RowKit

structure Mr where
  status_ : Int
  fault_ : Int
  subject_ : ByteArray
  anchored_ : Bool
  start_ : Int
  pC_ : Int
  cursor_ : Int
  top_ : Int
  resume_ : Bool
  last_ : Int
  steps_ : Int
  frames_ : List Mf
  choices_ : List Mc
  now_ : List Cp
  conds_ : List Cp
/-- Where its lists lie. -/
structure MrLay where
  A11 : Option Addr
  n11 : Nat
  c11 : Nat
  h11 : n11 ≤ c11
  A12 : Option Addr
  n12 : Nat
  c12 : Nat
  h12 : n12 ≤ c12
  A13 : Option Addr
  n13 : Nat
  c13 : Nat
  h13 : n13 ≤ c13
  A14 : Option Addr
  n14 : Nat
  c14 : Nat
  h14 : n14 ≤ c14
/-- As one value. -/
abbrev Mr.ag (x : Mr) (l : MrLay) : Value := .agg #[.int .i64 x.status_, .int .i64 x.fault_, .string x.subject_, .bool x.anchored_, .int .i64 x.start_, .int .i64 x.pC_, .int .i64 x.cursor_, .int .i64 x.top_, .bool x.resume_, .int .i64 x.last_, .int .i64 x.steps_, .slice l.A11 l.n11 l.c11, .slice l.A12 l.n12 l.c12, .slice l.A13 l.n13 l.c13, .slice l.A14 l.n14 l.c14]
def Mr.vs (x : Mr) (l : MrLay) : List Value := [.int .i64 x.status_, .int .i64 x.fault_, .string x.subject_, .bool x.anchored_, .int .i64 x.start_, .int .i64 x.pC_, .int .i64 x.cursor_, .int .i64 x.top_, .bool x.resume_, .int .i64 x.last_, .int .i64 x.steps_, .slice l.A11 l.n11 l.c11, .slice l.A12 l.n12 l.c12, .slice l.A13 l.n13 l.c13, .slice l.A14 l.n14 l.c14]
/-- Its lists lie below B. -/
def MrV (w : World) (B : Nat) (x : Mr) (l : MrLay) : Prop := MfI w B l.A11 l.n11 x.frames_ ∧ McI w B l.A12 l.n12 x.choices_ ∧ CpI w B l.A13 l.n13 x.now_ ∧ CpI w B l.A14 l.n14 x.conds_ ∧ x.subject_.size ≤ maxLen
theorem MrV.below {w w' : World} {B : Nat} {x : Mr} {l : MrLay} (h : MrV w B x l) (hb : Below B w w') : MrV w' B x l := by
  obtain ⟨h0, h1, h2, h3, h4⟩ := h
  exact ⟨h0.below hb, h1.below hb, h2.below hb, h3.below hb, h4⟩
theorem MrV.more {w : World} {B B' : Nat} {x : Mr} {l : MrLay} (h : MrV w B x l) (hB : B ≤ B') : MrV w B' x l := by
  obtain ⟨h0, h1, h2, h3, h4⟩ := h
  exact ⟨h0.more hB, h1.more hB, h2.more hB, h3.more hB, h4⟩
theorem MrV.go {W w : World} {x : Mr} {l : MrLay} (h : MrV W W.heap.size x l) (hb : Below W.heap.size W w) : MrV w w.heap.size x l := (h.below hb).more hb.size
theorem MrV.alloc {W : World} {x : Mr} {l : MrLay} (h : MrV W W.heap.size x l) (o : Obj) : MrV (W.alloc o) (W.alloc o).heap.size x l := h.go (below_alloc W o)
/-- Its cells from p on of block b. -/
def MrAt (w : World) (b p : Nat) (x : Mr) (l : MrLay) : Prop := w.cell? ⟨b, p, none⟩ = some (.int .i64 x.status_) ∧ w.cell? ⟨b, p + 1, none⟩ = some (.int .i64 x.fault_) ∧ w.cell? ⟨b, p + 2, none⟩ = some (.string x.subject_) ∧ w.cell? ⟨b, p + 3, none⟩ = some (.bool x.anchored_) ∧ w.cell? ⟨b, p + 4, none⟩ = some (.int .i64 x.start_) ∧ w.cell? ⟨b, p + 5, none⟩ = some (.int .i64 x.pC_) ∧ w.cell? ⟨b, p + 6, none⟩ = some (.int .i64 x.cursor_) ∧ w.cell? ⟨b, p + 7, none⟩ = some (.int .i64 x.top_) ∧ w.cell? ⟨b, p + 8, none⟩ = some (.bool x.resume_) ∧ w.cell? ⟨b, p + 9, none⟩ = some (.int .i64 x.last_) ∧ w.cell? ⟨b, p + 10, none⟩ = some (.int .i64 x.steps_) ∧ w.cell? ⟨b, p + 11, none⟩ = some (.slice l.A11 l.n11 l.c11) ∧ w.cell? ⟨b, p + 12, none⟩ = some (.slice l.A12 l.n12 l.c12) ∧ w.cell? ⟨b, p + 13, none⟩ = some (.slice l.A13 l.n13 l.c13) ∧ w.cell? ⟨b, p + 14, none⟩ = some (.slice l.A14 l.n14 l.c14)
theorem MrAt.below {w w' : World} {b p B : Nat} {x : Mr} {l : MrLay} (h : MrAt w b p x l) (hb : Below B w w') (hg : b < B) : MrAt w' b p x l := by
  obtain ⟨h0, h1, h2, h3, h4, h5, h6, h7, h8, h9, h10, h11, h12, h13, h14⟩ := h
  exact ⟨(hb.cell (p := ⟨b, p, none⟩) hg).trans h0, (hb.cell (p := ⟨b, p + 1, none⟩) hg).trans h1, (hb.cell (p := ⟨b, p + 2, none⟩) hg).trans h2, (hb.cell (p := ⟨b, p + 3, none⟩) hg).trans h3, (hb.cell (p := ⟨b, p + 4, none⟩) hg).trans h4, (hb.cell (p := ⟨b, p + 5, none⟩) hg).trans h5, (hb.cell (p := ⟨b, p + 6, none⟩) hg).trans h6, (hb.cell (p := ⟨b, p + 7, none⟩) hg).trans h7, (hb.cell (p := ⟨b, p + 8, none⟩) hg).trans h8, (hb.cell (p := ⟨b, p + 9, none⟩) hg).trans h9, (hb.cell (p := ⟨b, p + 10, none⟩) hg).trans h10, (hb.cell (p := ⟨b, p + 11, none⟩) hg).trans h11, (hb.cell (p := ⟨b, p + 12, none⟩) hg).trans h12, (hb.cell (p := ⟨b, p + 13, none⟩) hg).trans h13, (hb.cell (p := ⟨b, p + 14, none⟩) hg).trans h14⟩
theorem MrAt.range {w : World} {b p : Nat} {x : Mr} {l : MrLay} (h : MrAt w b p x l) : w.rangeAt b p (x.vs l) := by
  obtain ⟨h0, h1, h2, h3, h4, h5, h6, h7, h8, h9, h10, h11, h12, h13, h14⟩ := h
  intro j v hj
  match j, hj with
  | 0, hj => cases hj; exact h0
  | 1, hj => cases hj; exact h1
  | 2, hj => cases hj; exact h2
  | 3, hj => cases hj; exact h3
  | 4, hj => cases hj; exact h4
  | 5, hj => cases hj; exact h5
  | 6, hj => cases hj; exact h6
  | 7, hj => cases hj; exact h7
  | 8, hj => cases hj; exact h8
  | 9, hj => cases hj; exact h9
  | 10, hj => cases hj; exact h10
  | 11, hj => cases hj; exact h11
  | 12, hj => cases hj; exact h12
  | 13, hj => cases hj; exact h13
  | 14, hj => cases hj; exact h14
  | j + 15, hj => simp [Mr.vs] at hj
/-- A slice of them that lies below B, with their lists. -/
def MrI (w : World) (B : Nat) (A : Option Addr) (n : Nat) (xs : List Mr) : Prop :=
  xs.length = n ∧ n ≤ maxLen ∧ (0 < n → ∃ b off, A = some ⟨b, off, none⟩ ∧ b < B ∧ ∀ (j : Nat) (x : Mr), xs[j]? = some x → ∃ l, MrAt w b (off + j * 15) x l ∧ MrV w B x l)
theorem MrI.below {w w' : World} {B n : Nat} {A : Option Addr} {xs : List Mr} (h : MrI w B A n xs) (hb : Below B w w') : MrI w' B A n xs :=
  ⟨h.1, h.2.1, fun hn => by
    obtain ⟨b, off, e, hg, hc⟩ := h.2.2 hn
    refine ⟨b, off, e, hg, fun j x hx => ?_⟩
    obtain ⟨l, h1, h2⟩ := hc j x hx
    exact ⟨l, h1.below hb hg, h2.below hb⟩⟩
theorem MrI.more {w : World} {B B' n : Nat} {A : Option Addr} {xs : List Mr} (h : MrI w B A n xs) (hB : B ≤ B') : MrI w B' A n xs :=
  ⟨h.1, h.2.1, fun hn => by
    obtain ⟨b, off, e, hg, hc⟩ := h.2.2 hn
    refine ⟨b, off, e, by omega, fun j x hx => ?_⟩
    obtain ⟨l, h1, h2⟩ := hc j x hx
    exact ⟨l, h1, h2.more hB⟩⟩
theorem MrI.at_ {w : World} {B n k : Nat} {A : Option Addr} {xs : List Mr} (h : MrI w B A n xs) (hk : k < n) : ∃ b off x l, A = some ⟨b, off, none⟩ ∧ b < B ∧ xs[k]? = some x ∧ MrAt w b (off + k * 15) x l ∧ MrV w B x l := by
  obtain ⟨b, off, e, hg, hc⟩ := h.2.2 (by omega)
  have hl : k < xs.length := by rw [h.1]; exact hk
  obtain ⟨l, h1, h2⟩ := hc k _ (List.getElem?_eq_getElem hl)
  exact ⟨b, off, xs[k], l, e, hg, List.getElem?_eq_getElem hl, h1, h2⟩
theorem MrI.go {W w : World} {A : Option Addr} {n : Nat} {xs : List Mr} (h : MrI W W.heap.size A n xs) (hb : Below W.heap.size W w) : MrI w w.heap.size A n xs := (h.below hb).more hb.size
theorem MrI.alloc {W : World} {A : Option Addr} {n : Nat} {xs : List Mr} (h : MrI W W.heap.size A n xs) (o : Obj) : MrI (W.alloc o) (W.alloc o).heap.size A n xs := h.go (below_alloc W o)

section
variable {H : Type} {enc : TypeId × Value → H} {W : World} {base : Nat} {held : Bool}
set_option maxRecDepth 100000 in
/-- Its cells, each with its own reading. -/
theorem open_MrN {fuel : Nat} {cs : List Value} {x : DataW H × List MemPlace} (h : DataW.trod enc Try.prog W base (fun _ => true) held fuel 26 cs = some x) :
    ∃ x l, cs = Mr.vs x l ∧ MrV W W.heap.size x l := by
  obtain ⟨ys, m, hm, _, hlen, _, hf⟩ := DataW.trod_struct Try.underlying26 h
  have hlen' : cs.length = 15 := hlen.trans (by kernel_rfl)
  match cs, hlen' with
  | [c0, c1, c2, c3, c4, c5, c6, c7, c8, c9, c10, c11, c12, c13, c14], _ =>
    have hys : ∀ i, i < 15 → ∃ y, ys[i]? = some y := by
      intro i hi
      have : ys.length = 15 := by assumption
      exact ⟨_, List.getElem?_eq_getElem (by omega)⟩
    have f0 : DataW.trod enc Try.prog W base (fun _ => true) held m 2 [c0] = ys[0]? := field_at (i := 0) (o := 0) (k := 1) (T := 2) hf (by kernel_rfl) (by kernel_rfl)
    obtain ⟨y0, g0⟩ := hys 0 (by decide)
    rw [g0] at f0
    have f1 : DataW.trod enc Try.prog W base (fun _ => true) held m 2 [c1] = ys[1]? := field_at (i := 1) (o := 1) (k := 1) (T := 2) hf (by kernel_rfl) (by kernel_rfl)
    obtain ⟨y1, g1⟩ := hys 1 (by decide)
    rw [g1] at f1
    have f2 : DataW.trod enc Try.prog W base (fun _ => true) held m 9 [c2] = ys[2]? := field_at (i := 2) (o := 2) (k := 1) (T := 9) hf (by kernel_rfl) (by kernel_rfl)
    obtain ⟨y2, g2⟩ := hys 2 (by decide)
    rw [g2] at f2
    have f3 : DataW.trod enc Try.prog W base (fun _ => true) held m 4 [c3] = ys[3]? := field_at (i := 3) (o := 3) (k := 1) (T := 4) hf (by kernel_rfl) (by kernel_rfl)
    obtain ⟨y3, g3⟩ := hys 3 (by decide)
    rw [g3] at f3
    have f4 : DataW.trod enc Try.prog W base (fun _ => true) held m 2 [c4] = ys[4]? := field_at (i := 4) (o := 4) (k := 1) (T := 2) hf (by kernel_rfl) (by kernel_rfl)
    obtain ⟨y4, g4⟩ := hys 4 (by decide)
    rw [g4] at f4
    have f5 : DataW.trod enc Try.prog W base (fun _ => true) held m 2 [c5] = ys[5]? := field_at (i := 5) (o := 5) (k := 1) (T := 2) hf (by kernel_rfl) (by kernel_rfl)
    obtain ⟨y5, g5⟩ := hys 5 (by decide)
    rw [g5] at f5
    have f6 : DataW.trod enc Try.prog W base (fun _ => true) held m 2 [c6] = ys[6]? := field_at (i := 6) (o := 6) (k := 1) (T := 2) hf (by kernel_rfl) (by kernel_rfl)
    obtain ⟨y6, g6⟩ := hys 6 (by decide)
    rw [g6] at f6
    have f7 : DataW.trod enc Try.prog W base (fun _ => true) held m 2 [c7] = ys[7]? := field_at (i := 7) (o := 7) (k := 1) (T := 2) hf (by kernel_rfl) (by kernel_rfl)
    obtain ⟨y7, g7⟩ := hys 7 (by decide)
    rw [g7] at f7
    have f8 : DataW.trod enc Try.prog W base (fun _ => true) held m 4 [c8] = ys[8]? := field_at (i := 8) (o := 8) (k := 1) (T := 4) hf (by kernel_rfl) (by kernel_rfl)
    obtain ⟨y8, g8⟩ := hys 8 (by decide)
    rw [g8] at f8
    have f9 : DataW.trod enc Try.prog W base (fun _ => true) held m 2 [c9] = ys[9]? := field_at (i := 9) (o := 9) (k := 1) (T := 2) hf (by kernel_rfl) (by kernel_rfl)
    obtain ⟨y9, g9⟩ := hys 9 (by decide)
    rw [g9] at f9
    have f10 : DataW.trod enc Try.prog W base (fun _ => true) held m 2 [c10] = ys[10]? := field_at (i := 10) (o := 10) (k := 1) (T := 2) hf (by kernel_rfl) (by kernel_rfl)
    obtain ⟨y10, g10⟩ := hys 10 (by decide)
    rw [g10] at f10
    have f11 : DataW.trod enc Try.prog W base (fun _ => true) held m 22 [c11] = ys[11]? := field_at (i := 11) (o := 11) (k := 1) (T := 22) hf (by kernel_rfl) (by kernel_rfl)
    obtain ⟨y11, g11⟩ := hys 11 (by decide)
    rw [g11] at f11
    have f12 : DataW.trod enc Try.prog W base (fun _ => true) held m 23 [c12] = ys[12]? := field_at (i := 12) (o := 12) (k := 1) (T := 23) hf (by kernel_rfl) (by kernel_rfl)
    obtain ⟨y12, g12⟩ := hys 12 (by decide)
    rw [g12] at f12
    have f13 : DataW.trod enc Try.prog W base (fun _ => true) held m 24 [c13] = ys[13]? := field_at (i := 13) (o := 13) (k := 1) (T := 24) hf (by kernel_rfl) (by kernel_rfl)
    obtain ⟨y13, g13⟩ := hys 13 (by decide)
    rw [g13] at f13
    have f14 : DataW.trod enc Try.prog W base (fun _ => true) held m 24 [c14] = ys[14]? := field_at (i := 14) (o := 14) (k := 1) (T := 24) hf (by kernel_rfl) (by kernel_rfl)
    obtain ⟨y14, g14⟩ := hys 14 (by decide)
    rw [g14] at f14
    obtain ⟨z0, e0, _, _⟩ := DataW.trod_int Try.underlying2 f0
    obtain ⟨z1, e1, _, _⟩ := DataW.trod_int Try.underlying2 f1
    obtain ⟨z2, e2, _, hz2⟩ := DataW.trod_string Try.underlying9 f2
    obtain ⟨z3, e3, _⟩ := DataW.trod_bool Try.underlying4 f3
    obtain ⟨z4, e4, _, _⟩ := DataW.trod_int Try.underlying2 f4
    obtain ⟨z5, e5, _, _⟩ := DataW.trod_int Try.underlying2 f5
    obtain ⟨z6, e6, _, _⟩ := DataW.trod_int Try.underlying2 f6
    obtain ⟨z7, e7, _, _⟩ := DataW.trod_int Try.underlying2 f7
    obtain ⟨z8, e8, _⟩ := DataW.trod_bool Try.underlying4 f8
    obtain ⟨z9, e9, _, _⟩ := DataW.trod_int Try.underlying2 f9
    obtain ⟨z10, e10, _, _⟩ := DataW.trod_int Try.underlying2 f10
    obtain ⟨A11, n11, q11, hc11, e11⟩ := open_slice1 Try.underlying22 f11
    rw [e11] at f11
    obtain ⟨z11, hz11⟩ := open_MfF f11
    obtain ⟨A12, n12, q12, hc12, e12⟩ := open_slice1 Try.underlying23 f12
    rw [e12] at f12
    obtain ⟨z12, hz12⟩ := open_McF f12
    obtain ⟨A13, n13, q13, hc13, e13⟩ := open_slice1 Try.underlying24 f13
    rw [e13] at f13
    obtain ⟨z13, hz13⟩ := open_CpF f13
    obtain ⟨A14, n14, q14, hc14, e14⟩ := open_slice1 Try.underlying24 f14
    rw [e14] at f14
    obtain ⟨z14, hz14⟩ := open_CpF f14
    simp only [List.cons.injEq, and_true] at e0 e1 e2 e3 e4 e5 e6 e7 e8 e9 e10 e11 e12 e13 e14
    subst e0 e1 e2 e3 e4 e5 e6 e7 e8 e9 e10 e11 e12 e13 e14
    exact ⟨⟨z0, z1, z2, z3, z4, z5, z6, z7, z8, z9, z10, z11, z12, z13, z14⟩, ⟨A11, n11, q11, hc11, A12, n12, q12, hc12, A13, n13, q13, hc13, A14, n14, q14, hc14⟩, rfl, hz11, hz12, hz13, hz14, hz2⟩
end
set_option maxRecDepth 100000 in
/-- An argument. -/
theorem open_Mr {H : Type} {enc : TypeId × Value → H} {W : World} {v : Value} {d : DataW H} {p : List MemPlace} {r : Reach} {b0 : Nat} (hv : Value.okWide Try.prog W r b0 26 v) (h : DataW.Trod enc Try.prog W 0 (fun _ => true) true 26 v d p) :
    ∃ x l, v = Mr.ag x l ∧ MrV W W.heap.size x l := by
  obtain ⟨cs, rfl, hsz⟩ := Go.WideShapes.okWide_struct Try.underlying26 hv
  obtain ⟨fuel, hf⟩ := h
  obtain ⟨x, l, e, ho⟩ := open_MrN hf
  refine ⟨x, l, ?_, ho⟩
  have : cs.toList = Mr.vs x l := e
  rw [show cs = (Mr.vs x l).toArray from by rw [← this]]
  rfl
/-- What szMatcher takes of the bound. -/
def szMr1 (x : Mr) : Nat := x.subject_.size + szMf x.frames_ + szMc x.choices_ + szCp x.now_ + szCp x.conds_

set_option maxHeartbeats 2000000 in
set_option maxRecDepth 100000 in
theorem szMatcher_any (x : Mr) (l : MrLay) (L : Int) (W : World) (ho : MrV W W.heap.size x l) (hLL : 0 ≤ L) (hL : L ≤ 1048576) :
    Calls Try.prog 4 #[x.ag l, .int .i64 L] W (SzL (szMr1 x) L W) := by
  obtain ⟨s, hs⟩ : ∃ s, szMr1 x = s := ⟨_, rfl⟩
  rw [hs]
  unfold szMr1 at hs
  obtain ⟨x0, x1, x2, x3, x4, x5, x6, x7, x8, x9, x10, x11, x12, x13, x14⟩ := x
  obtain ⟨A11, n11, c11, h11, A12, n12, c12, h12, A13, n13, c13, h13, A14, n14, c14, h14⟩ := l
  obtain ⟨k11, k12, k13, k14, k2⟩ := ho
  try unfold MrV at k11 k12 k13 k14 k2
  dsimp only at hs k11 k12 k13 k14 k2
  have HS := Lib.hid hs
  have HL0 := Lib.hid hLL
  have HL1 := Lib.hid hL
  have HK11 := Lib.hid k11
  have HK12 := Lib.hid k12
  have HK13 := Lib.hid k13
  have HK14 := Lib.hid k14
  unfold maxLen at k2
  have HC := Lib.hid (fun X (e : X = W.alloc (.cells #[.int .i64 x0, .int .i64 x1, .string x2, .bool x3, .int .i64 x4, .int .i64 x5, .int .i64 x6, .int .i64 x7, .bool x8, .int .i64 x9, .int .i64 x10, .slice A11 n11 c11, .slice A12 n12 c12, .slice A13 n13 c13, .slice A14 n14 c14] 26)) => (show RW 26 X W.heap.size #[.int .i64 x0, .int .i64 x1, .string x2, .bool x3, .int .i64 x4, .int .i64 x5, .int .i64 x6, .int .i64 x7, .bool x8, .int .i64 x9, .int .i64 x10, .slice A11 n11 c11, .slice A12 n12 c12, .slice A13 n13 c13, .slice A14 n14 c14] ∧ Below W.heap.size W X ∧ W.heap.size < X.heap.size from by rw [e]; exact ⟨RW.new _ _ _, below_alloc _ _, lt_alloc _ _⟩))
  clear hs k11 k12 k13 k14
  show Calls Try.prog 4 #[.agg #[.int .i64 x0, .int .i64 x1, .string x2, .bool x3, .int .i64 x4, .int .i64 x5, .int .i64 x6, .int .i64 x7, .bool x8, .int .i64 x9, .int .i64 x10, .slice A11 n11 c11, .slice A12 n12 c12, .slice A13 n13 c13, .slice A14 n14 c14], .int .i64 L] W _
  by_cases cc0 : (x2.size : Int) ≤ L
  · have C0 := Lib.hid cc0
    clear cc0
    by_cases cc1 : (x2.size : Int) + (szMf x11 : Int) ≤ L
    · have C1 := Lib.hid cc1
      clear cc1
      by_cases cc2 : (x2.size : Int) + (szMf x11 : Int) + (szMc x12 : Int) ≤ L
      · have C2 := Lib.hid cc2
        clear cc2
        by_cases cc3 : (x2.size : Int) + (szMf x11 : Int) + (szMc x12 : Int) + (szCp x13 : Int) ≤ L
        · have C3 := Lib.hid cc3
          clear cc3
          by_cases cc4 : (x2.size : Int) + (szMf x11 : Int) + (szMc x12 : Int) + (szCp x13 : Int) + (szCp x14 : Int) ≤ L
          · have C4 := Lib.hid cc4
            clear cc4
            have d0 : decide (L - (x2.size : Int) < 0) = false := (by have := C0.out; simp; omega)
            go_enter Try.func4, Try.ntmps4
            go_wp2_with (go_at_call 9; obtain ⟨g0, g1, g2⟩ := HC.out _ rfl; have HQ := szMatchFrameS_any A11 n11 c11 x11 (L - (x2.size : Int)) _ (HK11.out.go g1) (by have := C0.out; have := HL0.out; omega) (by have := C0.out; have := HL1.out; omega); refine Calls.mono HQ ?_; clear HQ; intro e w1 h; obtain ⟨z1, rfl, hz1, l1, u1, hb⟩ := h.fits (by have := C0.out; have := C1.out; omega) (by have := C0.out; have := HL1.out; omega); have Z1 := Lib.hid hz1; have d1 : decide (z1 < 0) = false := (by simp; omega); have HR1 := Lib.hid (g0.below hb g2); have HB1 := Lib.hid (g1.trans (hb.mono g1.size)); have HG1 := Lib.hid (Nat.lt_of_lt_of_le g2 hb.size); have q112 : w1.cell? ⟨W.heap.size, 12, none⟩ = some (.slice A12 n12 c12) := HR1.out.cell 12; clear hb hz1 g0 g1 g2 HK11)
            go_wp2_with (go_at_call 10; have HQ := szMatchChoiceS_any A12 n12 c12 x12 (z1) _ (HK12.out.go HB1.out) (by have := C0.out; have := C1.out; have := Z1.out; have := HL0.out; omega) (by have := C0.out; have := C1.out; have := Z1.out; have := HL1.out; omega); refine Calls.mono HQ ?_; clear HQ; intro e w2 h; obtain ⟨z2, rfl, hz2, l2, u2, hb⟩ := h.fits (by have := C0.out; have := C1.out; have := C2.out; have := Z1.out; omega) (by have := C0.out; have := C1.out; have := Z1.out; have := HL1.out; omega); have Z2 := Lib.hid hz2; have d2 : decide (z2 < 0) = false := (by simp; omega); have HR2 := Lib.hid (HR1.out.below hb HG1.out); have HB2 := Lib.hid (HB1.out.trans (hb.mono HB1.out.size)); have HG2 := Lib.hid (Nat.lt_of_lt_of_le HG1.out hb.size); have q213 : w2.cell? ⟨W.heap.size, 13, none⟩ = some (.slice A13 n13 c13) := HR2.out.cell 13; clear hb hz2  HK12)
            go_wp2_with (go_at_call 11; have HQ := szCaptureS_any A13 n13 c13 x13 (z2) _ (HK13.out.go HB2.out) (by have := C0.out; have := C1.out; have := C2.out; have := Z1.out; have := Z2.out; have := HL0.out; omega) (by have := C0.out; have := C1.out; have := C2.out; have := Z1.out; have := Z2.out; have := HL1.out; omega); refine Calls.mono HQ ?_; clear HQ; intro e w3 h; obtain ⟨z3, rfl, hz3, l3, u3, hb⟩ := h.fits (by have := C0.out; have := C1.out; have := C2.out; have := C3.out; have := Z1.out; have := Z2.out; omega) (by have := C0.out; have := C1.out; have := C2.out; have := Z1.out; have := Z2.out; have := HL1.out; omega); have Z3 := Lib.hid hz3; have d3 : decide (z3 < 0) = false := (by simp; omega); have HR3 := Lib.hid (HR2.out.below hb HG2.out); have HB3 := Lib.hid (HB2.out.trans (hb.mono HB2.out.size)); have HG3 := Lib.hid (Nat.lt_of_lt_of_le HG2.out hb.size); have q314 : w3.cell? ⟨W.heap.size, 14, none⟩ = some (.slice A14 n14 c14) := HR3.out.cell 14; clear hb hz3  HK13)
            go_wp2_with (go_at_call 11; have HQ := szCaptureS_any A14 n14 c14 x14 (z3) _ (HK14.out.go HB3.out) (by have := C0.out; have := C1.out; have := C2.out; have := C3.out; have := Z1.out; have := Z2.out; have := Z3.out; have := HL0.out; omega) (by have := C0.out; have := C1.out; have := C2.out; have := C3.out; have := Z1.out; have := Z2.out; have := Z3.out; have := HL1.out; omega); refine Calls.mono HQ ?_; clear HQ; intro e w4 h; obtain ⟨z4, rfl, hz4, l4, u4, hb⟩ := h.fits (by have := C0.out; have := C1.out; have := C2.out; have := C3.out; have := C4.out; have := Z1.out; have := Z2.out; have := Z3.out; omega) (by have := C0.out; have := C1.out; have := C2.out; have := C3.out; have := Z1.out; have := Z2.out; have := Z3.out; have := HL1.out; omega); have Z4 := Lib.hid hz4; have d4 : decide (z4 < 0) = false := (by simp; omega); have HR4 := Lib.hid (HR3.out.below hb HG3.out); have HB4 := Lib.hid (HB3.out.trans (hb.mono HB3.out.size)); have HG4 := Lib.hid (Nat.lt_of_lt_of_le HG3.out hb.size); clear hb hz4  HK14)
            go_ret
            refine ⟨.inl ⟨by have := C0.out; have := C1.out; have := C2.out; have := C3.out; have := C4.out; have := Z1.out; have := Z2.out; have := Z3.out; have := Z4.out; have := HS.out; omega, ?_⟩, HB4.out⟩
            have hx : z4 = L - (s : Int) := by have := C0.out; have := C1.out; have := C2.out; have := C3.out; have := C4.out; have := Z1.out; have := Z2.out; have := Z3.out; have := Z4.out; have := HS.out; omega
            rw [← hx]
            rfl
          · have C4 := Lib.hid cc4
            clear cc4
            have d0 : decide (L - (x2.size : Int) < 0) = false := (by have := C0.out; simp; omega)
            go_enter Try.func4, Try.ntmps4
            go_wp2_with (go_at_call 9; obtain ⟨g0, g1, g2⟩ := HC.out _ rfl; have HQ := szMatchFrameS_any A11 n11 c11 x11 (L - (x2.size : Int)) _ (HK11.out.go g1) (by have := C0.out; have := HL0.out; omega) (by have := C0.out; have := HL1.out; omega); refine Calls.mono HQ ?_; clear HQ; intro e w1 h; obtain ⟨z1, rfl, hz1, l1, u1, hb⟩ := h.fits (by have := C0.out; have := C1.out; omega) (by have := C0.out; have := HL1.out; omega); have Z1 := Lib.hid hz1; have d1 : decide (z1 < 0) = false := (by simp; omega); have HR1 := Lib.hid (g0.below hb g2); have HB1 := Lib.hid (g1.trans (hb.mono g1.size)); have HG1 := Lib.hid (Nat.lt_of_lt_of_le g2 hb.size); have q112 : w1.cell? ⟨W.heap.size, 12, none⟩ = some (.slice A12 n12 c12) := HR1.out.cell 12; clear hb hz1 g0 g1 g2 HK11)
            go_wp2_with (go_at_call 10; have HQ := szMatchChoiceS_any A12 n12 c12 x12 (z1) _ (HK12.out.go HB1.out) (by have := C0.out; have := C1.out; have := Z1.out; have := HL0.out; omega) (by have := C0.out; have := C1.out; have := Z1.out; have := HL1.out; omega); refine Calls.mono HQ ?_; clear HQ; intro e w2 h; obtain ⟨z2, rfl, hz2, l2, u2, hb⟩ := h.fits (by have := C0.out; have := C1.out; have := C2.out; have := Z1.out; omega) (by have := C0.out; have := C1.out; have := Z1.out; have := HL1.out; omega); have Z2 := Lib.hid hz2; have d2 : decide (z2 < 0) = false := (by simp; omega); have HR2 := Lib.hid (HR1.out.below hb HG1.out); have HB2 := Lib.hid (HB1.out.trans (hb.mono HB1.out.size)); have HG2 := Lib.hid (Nat.lt_of_lt_of_le HG1.out hb.size); have q213 : w2.cell? ⟨W.heap.size, 13, none⟩ = some (.slice A13 n13 c13) := HR2.out.cell 13; clear hb hz2  HK12)
            go_wp2_with (go_at_call 11; have HQ := szCaptureS_any A13 n13 c13 x13 (z2) _ (HK13.out.go HB2.out) (by have := C0.out; have := C1.out; have := C2.out; have := Z1.out; have := Z2.out; have := HL0.out; omega) (by have := C0.out; have := C1.out; have := C2.out; have := Z1.out; have := Z2.out; have := HL1.out; omega); refine Calls.mono HQ ?_; clear HQ; intro e w3 h; obtain ⟨z3, rfl, hz3, l3, u3, hb⟩ := h.fits (by have := C0.out; have := C1.out; have := C2.out; have := C3.out; have := Z1.out; have := Z2.out; omega) (by have := C0.out; have := C1.out; have := C2.out; have := Z1.out; have := Z2.out; have := HL1.out; omega); have Z3 := Lib.hid hz3; have d3 : decide (z3 < 0) = false := (by simp; omega); have HR3 := Lib.hid (HR2.out.below hb HG2.out); have HB3 := Lib.hid (HB2.out.trans (hb.mono HB2.out.size)); have HG3 := Lib.hid (Nat.lt_of_lt_of_le HG2.out hb.size); have q314 : w3.cell? ⟨W.heap.size, 14, none⟩ = some (.slice A14 n14 c14) := HR3.out.cell 14; clear hb hz3  HK13)
            go_wp2_with (go_at_call 11; have HQ := szCaptureS_any A14 n14 c14 x14 (z3) _ (HK14.out.go HB3.out) (by have := C0.out; have := C1.out; have := C2.out; have := C3.out; have := Z1.out; have := Z2.out; have := Z3.out; have := HL0.out; omega) (by have := C0.out; have := C1.out; have := C2.out; have := C3.out; have := Z1.out; have := Z2.out; have := Z3.out; have := HL1.out; omega); refine Calls.mono HQ ?_; clear HQ; intro e w4 h; obtain ⟨rfl, hb⟩ := h.long (by have := C0.out; have := C1.out; have := C2.out; have := C3.out; have := C4.out; have := Z1.out; have := Z2.out; have := Z3.out; omega); have HR4 := Lib.hid (HR3.out.below hb HG3.out); have HB4 := Lib.hid (HB3.out.trans (hb.mono HB3.out.size)); have HG4 := Lib.hid (Nat.lt_of_lt_of_le HG3.out hb.size); clear hb  HK14)
            go_ret
            exact ⟨.inr ⟨by have := C0.out; have := C1.out; have := C2.out; have := C3.out; have := C4.out; have := Z1.out; have := Z2.out; have := Z3.out; have := HS.out; omega, rfl⟩, HB4.out⟩
        · have C3 := Lib.hid cc3
          clear cc3
          have d0 : decide (L - (x2.size : Int) < 0) = false := (by have := C0.out; simp; omega)
          go_enter Try.func4, Try.ntmps4
          go_wp2_with (go_at_call 9; obtain ⟨g0, g1, g2⟩ := HC.out _ rfl; have HQ := szMatchFrameS_any A11 n11 c11 x11 (L - (x2.size : Int)) _ (HK11.out.go g1) (by have := C0.out; have := HL0.out; omega) (by have := C0.out; have := HL1.out; omega); refine Calls.mono HQ ?_; clear HQ; intro e w1 h; obtain ⟨z1, rfl, hz1, l1, u1, hb⟩ := h.fits (by have := C0.out; have := C1.out; omega) (by have := C0.out; have := HL1.out; omega); have Z1 := Lib.hid hz1; have d1 : decide (z1 < 0) = false := (by simp; omega); have HR1 := Lib.hid (g0.below hb g2); have HB1 := Lib.hid (g1.trans (hb.mono g1.size)); have HG1 := Lib.hid (Nat.lt_of_lt_of_le g2 hb.size); have q112 : w1.cell? ⟨W.heap.size, 12, none⟩ = some (.slice A12 n12 c12) := HR1.out.cell 12; clear hb hz1 g0 g1 g2 HK11)
          go_wp2_with (go_at_call 10; have HQ := szMatchChoiceS_any A12 n12 c12 x12 (z1) _ (HK12.out.go HB1.out) (by have := C0.out; have := C1.out; have := Z1.out; have := HL0.out; omega) (by have := C0.out; have := C1.out; have := Z1.out; have := HL1.out; omega); refine Calls.mono HQ ?_; clear HQ; intro e w2 h; obtain ⟨z2, rfl, hz2, l2, u2, hb⟩ := h.fits (by have := C0.out; have := C1.out; have := C2.out; have := Z1.out; omega) (by have := C0.out; have := C1.out; have := Z1.out; have := HL1.out; omega); have Z2 := Lib.hid hz2; have d2 : decide (z2 < 0) = false := (by simp; omega); have HR2 := Lib.hid (HR1.out.below hb HG1.out); have HB2 := Lib.hid (HB1.out.trans (hb.mono HB1.out.size)); have HG2 := Lib.hid (Nat.lt_of_lt_of_le HG1.out hb.size); have q213 : w2.cell? ⟨W.heap.size, 13, none⟩ = some (.slice A13 n13 c13) := HR2.out.cell 13; clear hb hz2  HK12)
          go_wp2_with (go_at_call 11; have HQ := szCaptureS_any A13 n13 c13 x13 (z2) _ (HK13.out.go HB2.out) (by have := C0.out; have := C1.out; have := C2.out; have := Z1.out; have := Z2.out; have := HL0.out; omega) (by have := C0.out; have := C1.out; have := C2.out; have := Z1.out; have := Z2.out; have := HL1.out; omega); refine Calls.mono HQ ?_; clear HQ; intro e w3 h; obtain ⟨rfl, hb⟩ := h.long (by have := C0.out; have := C1.out; have := C2.out; have := C3.out; have := Z1.out; have := Z2.out; omega); have HR3 := Lib.hid (HR2.out.below hb HG2.out); have HB3 := Lib.hid (HB2.out.trans (hb.mono HB2.out.size)); have HG3 := Lib.hid (Nat.lt_of_lt_of_le HG2.out hb.size); clear hb  HK13)
          go_ret
          exact ⟨.inr ⟨by have := C0.out; have := C1.out; have := C2.out; have := C3.out; have := Z1.out; have := Z2.out; have := HS.out; omega, rfl⟩, HB3.out⟩
      · have C2 := Lib.hid cc2
        clear cc2
        have d0 : decide (L - (x2.size : Int) < 0) = false := (by have := C0.out; simp; omega)
        go_enter Try.func4, Try.ntmps4
        go_wp2_with (go_at_call 9; obtain ⟨g0, g1, g2⟩ := HC.out _ rfl; have HQ := szMatchFrameS_any A11 n11 c11 x11 (L - (x2.size : Int)) _ (HK11.out.go g1) (by have := C0.out; have := HL0.out; omega) (by have := C0.out; have := HL1.out; omega); refine Calls.mono HQ ?_; clear HQ; intro e w1 h; obtain ⟨z1, rfl, hz1, l1, u1, hb⟩ := h.fits (by have := C0.out; have := C1.out; omega) (by have := C0.out; have := HL1.out; omega); have Z1 := Lib.hid hz1; have d1 : decide (z1 < 0) = false := (by simp; omega); have HR1 := Lib.hid (g0.below hb g2); have HB1 := Lib.hid (g1.trans (hb.mono g1.size)); have HG1 := Lib.hid (Nat.lt_of_lt_of_le g2 hb.size); have q112 : w1.cell? ⟨W.heap.size, 12, none⟩ = some (.slice A12 n12 c12) := HR1.out.cell 12; clear hb hz1 g0 g1 g2 HK11)
        go_wp2_with (go_at_call 10; have HQ := szMatchChoiceS_any A12 n12 c12 x12 (z1) _ (HK12.out.go HB1.out) (by have := C0.out; have := C1.out; have := Z1.out; have := HL0.out; omega) (by have := C0.out; have := C1.out; have := Z1.out; have := HL1.out; omega); refine Calls.mono HQ ?_; clear HQ; intro e w2 h; obtain ⟨rfl, hb⟩ := h.long (by have := C0.out; have := C1.out; have := C2.out; have := Z1.out; omega); have HR2 := Lib.hid (HR1.out.below hb HG1.out); have HB2 := Lib.hid (HB1.out.trans (hb.mono HB1.out.size)); have HG2 := Lib.hid (Nat.lt_of_lt_of_le HG1.out hb.size); clear hb  HK12)
        go_ret
        exact ⟨.inr ⟨by have := C0.out; have := C1.out; have := C2.out; have := Z1.out; have := HS.out; omega, rfl⟩, HB2.out⟩
    · have C1 := Lib.hid cc1
      clear cc1
      have d0 : decide (L - (x2.size : Int) < 0) = false := (by have := C0.out; simp; omega)
      go_enter Try.func4, Try.ntmps4
      go_wp2_with (go_at_call 9; obtain ⟨g0, g1, g2⟩ := HC.out _ rfl; have HQ := szMatchFrameS_any A11 n11 c11 x11 (L - (x2.size : Int)) _ (HK11.out.go g1) (by have := C0.out; have := HL0.out; omega) (by have := C0.out; have := HL1.out; omega); refine Calls.mono HQ ?_; clear HQ; intro e w1 h; obtain ⟨rfl, hb⟩ := h.long (by have := C0.out; have := C1.out; omega); have HR1 := Lib.hid (g0.below hb g2); have HB1 := Lib.hid (g1.trans (hb.mono g1.size)); have HG1 := Lib.hid (Nat.lt_of_lt_of_le g2 hb.size); clear hb g0 g1 g2 HK11)
      go_ret
      exact ⟨.inr ⟨by have := C0.out; have := C1.out; have := HS.out; omega, rfl⟩, HB1.out⟩
  · have C0 := Lib.hid cc0
    clear cc0
    have d0 : decide (L - (x2.size : Int) < 0) = true := (by have := C0.out; simp; omega)
    go_enter Try.func4, Try.ntmps4
    go_wp2_with fail
    go_ret
    exact ⟨.inr ⟨by have := C0.out; have := HS.out; omega, rfl⟩, (below_alloc _ _)⟩

/-- Those of the first k. -/
def sumMr (xs : List Mr) : Nat → Nat
  | 0 => 0
  | k + 1 => sumMr xs k + ((xs[k]?.map szMr1).getD 0)
theorem sumMr_next {xs : List Mr} {k : Nat} {x : Mr} (h : xs[k]? = some x) : sumMr xs (k + 1) = sumMr xs k + szMr1 x := by
  rw [sumMr, h]
  rfl
theorem sumMr_mono {xs : List Mr} {j : Nat} : ∀ {k : Nat}, j ≤ k → sumMr xs j ≤ sumMr xs k
  | 0, h => by obtain rfl : j = 0 := by omega
               exact Nat.le_refl _
  | k + 1, h => by
    by_cases e : j = k + 1
    · rw [e]; exact Nat.le_refl _
    · have := sumMr_mono (xs := xs) (show j ≤ k by omega)
      rw [sumMr]
      omega
def szMr (xs : List Mr) : Nat := xs.length + sumMr xs xs.length

/-- No list is too long. -/
def MrSmall (x : Mr) : Prop := x.frames_.length ≤ 1048576 ∧ x.choices_.length ≤ 1048576 ∧ x.now_.length ≤ 1048576 ∧ x.conds_.length ≤ 1048576
theorem small_Mr1 {x : Mr} (h : (szMr1 x : Int) ≤ 1048576) : MrSmall x := by
  unfold szMr1 szCp szMc szMf at h
  unfold MrSmall
  omega
theorem small_Mr {xs : List Mr} (h : (szMr xs : Int) ≤ 1048576) : (∀ (j : Nat) (x : Mr), xs[j]? = some x → MrSmall x) ∧ xs.length ≤ 1048576 := by
  unfold szMr at h
  refine ⟨fun j x hx => small_Mr1 ?_, by omega⟩
  have hl := (List.getElem?_eq_some_iff.1 hx).1
  have h1 := sumMr_mono (xs := xs) (j := j + 1) (k := xs.length) (by omega)
  rw [sumMr_next hx] at h1
  omega
end Go.Proofs.Ytnneidpdfommjaa
