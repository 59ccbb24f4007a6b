/- Objects and slices of objects, as plain data and in memory. No condition. -/
import Derived.Test.YtbdmanadmckjjaaDoorVls
namespace Go.Proofs.YtbdmanadmckjjaaDoor
open Go Go.RowKit

/-- An object. -/
structure Ob where
  id : Int
  kind : Int
  name : ByteArray
  low : Int
  keys : List Vl
  vals : List Vl
  d : Vl
/-- Where an object's lists lie. -/
structure Lay where
  Ak : Option Addr
  nk : Nat
  ck : Nat
  Av : Option Addr
  nv : Nat
  cv : Nat
  hk : nk ≤ ck
  hv : nv ≤ cv
/-- An object as one value. -/
abbrev Ob.ag (o : Ob) (l : Lay) : Value := .agg #[.int .i64 o.id, .int .i64 o.kind, .string o.name, .int .i64 o.low, .slice l.Ak l.nk l.ck, .slice l.Av l.nv l.cv, .int .i64 o.d.k, .int .i64 o.d.n, .string o.d.t, .int .i64 o.d.r]
def Ob.vs (o : Ob) (l : Lay) : List Value := [.int .i64 o.id, .int .i64 o.kind, .string o.name, .int .i64 o.low, .slice l.Ak l.nk l.ck, .slice l.Av l.nv l.cv, .int .i64 o.d.k, .int .i64 o.d.n, .string o.d.t, .int .i64 o.d.r]
/-- The lists of an object lie below B. -/
def OV (w : World) (B : Nat) (o : Ob) (l : Lay) : Prop := VI w B l.Ak l.nk o.keys ∧ VI w B l.Av l.nv o.vals ∧ o.name.size ≤ maxLen ∧ o.d.t.size ≤ maxLen
theorem OV.below {w w' : World} {B : Nat} {o : Ob} {l : Lay} (h : OV w B o l) (hb : Below B w w') : OV w' B o l := ⟨h.1.below hb, h.2.1.below hb, h.2.2⟩
theorem OV.more {w : World} {B B' : Nat} {o : Ob} {l : Lay} (h : OV w B o l) (hB : B ≤ B') : OV w B' o l := ⟨h.1.more hB, h.2.1.more hB, h.2.2⟩
/-- The ten cells from p on of block b. -/
def O10 (w : World) (b p : Nat) (o : Ob) (l : Lay) : Prop :=
  w.cell? ⟨b, p, none⟩ = some (.int .i64 o.id) ∧ w.cell? ⟨b, p + 1, none⟩ = some (.int .i64 o.kind) ∧ w.cell? ⟨b, p + 2, none⟩ = some (.string o.name) ∧ w.cell? ⟨b, p + 3, none⟩ = some (.int .i64 o.low) ∧
  w.cell? ⟨b, p + 4, none⟩ = some (.slice l.Ak l.nk l.ck) ∧ w.cell? ⟨b, p + 5, none⟩ = some (.slice l.Av l.nv l.cv) ∧
  w.cell? ⟨b, p + 6, none⟩ = some (.int .i64 o.d.k) ∧ w.cell? ⟨b, p + 7, none⟩ = some (.int .i64 o.d.n) ∧ w.cell? ⟨b, p + 8, none⟩ = some (.string o.d.t) ∧ w.cell? ⟨b, p + 9, none⟩ = some (.int .i64 o.d.r)
theorem O10.below {w w' : World} {b p B : Nat} {o : Ob} {l : Lay} (h : O10 w b p o l) (hb : Below B w w') (hg : b < B) : O10 w' b p o l := by
  obtain ⟨h0, h1, h2, h3, h4, h5, h6, h7, h8, h9⟩ := h
  exact ⟨(hb.cell (p := ⟨b, p, none⟩) hg).trans h0, (hb.cell (p := ⟨b, p + 1, none⟩) hg).trans h1, (hb.cell (p := ⟨b, p + 2, none⟩) hg).trans h2, (hb.cell (p := ⟨b, p + 3, none⟩) hg).trans h3, (hb.cell (p := ⟨b, p + 4, none⟩) hg).trans h4,
    (hb.cell (p := ⟨b, p + 5, none⟩) hg).trans h5, (hb.cell (p := ⟨b, p + 6, none⟩) hg).trans h6, (hb.cell (p := ⟨b, p + 7, none⟩) hg).trans h7, (hb.cell (p := ⟨b, p + 8, none⟩) hg).trans h8, (hb.cell (p := ⟨b, p + 9, none⟩) hg).trans h9⟩
/-- A slice of objects that lies below B, with its objects' lists. -/
def OI (w : World) (B : Nat) (A : Option Addr) (n : Nat) (os : List Ob) : Prop :=
  os.length = n ∧ n ≤ maxLen ∧ (0 < n → ∃ b off, A = some ⟨b, off, none⟩ ∧ b < B ∧ ∀ (j : Nat) (o : Ob), os[j]? = some o → ∃ l, O10 w b (off + j * 10) o l ∧ OV w B o l)
theorem OI.below {w w' : World} {B n : Nat} {A : Option Addr} {os : List Ob} (h : OI w B A n os) (hb : Below B w w') : OI w' B A n os :=
  ⟨h.1, h.2.1, fun hn => by
    obtain ⟨b, off, e, hg, hc⟩ := h.2.2 hn
    refine ⟨b, off, e, hg, fun j o ho => ?_⟩
    obtain ⟨l, h1, h2⟩ := hc j o ho
    exact ⟨l, h1.below hb hg, h2.below hb⟩⟩
theorem OI.more {w : World} {B B' n : Nat} {A : Option Addr} {os : List Ob} (h : OI w B A n os) (hB : B ≤ B') : OI w B' A n os :=
  ⟨h.1, h.2.1, fun hn => by
    obtain ⟨b, off, e, hg, hc⟩ := h.2.2 hn
    refine ⟨b, off, e, by omega, fun j o ho => ?_⟩
    obtain ⟨l, h1, h2⟩ := hc j o ho
    exact ⟨l, h1, h2.more hB⟩⟩
theorem OI.at_ {w : World} {B n k : Nat} {A : Option Addr} {os : List Ob} (h : OI w B A n os) (hk : k < n) : ∃ b off o l, A = some ⟨b, off, none⟩ ∧ b < B ∧ os[k]? = some o ∧ O10 w b (off + k * 10) o l ∧ OV w B o l := by
  obtain ⟨b, off, e, hg, hc⟩ := h.2.2 (by omega)
  have hl : k < os.length := by rw [h.1]; exact hk
  obtain ⟨l, h1, h2⟩ := hc k _ (List.getElem?_eq_getElem hl)
  exact ⟨b, off, os[k], l, e, hg, List.getElem?_eq_getElem hl, h1, h2⟩

section
variable {H : Type} {enc : TypeId × Value → H} {W : World} {base : Nat} {held : Bool}
set_option maxRecDepth 100000 in
/-- The ten cells of an object, each with its own reading. -/
theorem open_object10 {fuel : Nat} {cs : List Value} {x : DataW H × List MemPlace} (h : DataW.trod enc Tryd.prog W base (fun _ => true) held fuel 57 cs = some x) :
    ∃ o l, cs = Ob.vs o l ∧ OV W W.heap.size o l := by
  obtain ⟨ys, m, hm, _, hlen, _, hf⟩ := DataW.trod_struct Tryd.underlying57 h
  have hlen' : cs.length = 10 := hlen.trans (by kernel_rfl)
  match cs, hlen' with
  | [c0, c1, c2, c3, c4, c5, c6, c7, c8, c9], _ =>
    have C1 : Tryd.prog.cellsOf 2 = 1 := by kernel_rfl
    have C2 : Tryd.prog.cellsOf 9 = 1 := by kernel_rfl
    have C3 : Tryd.prog.cellsOf 41 = 1 := by kernel_rfl
    have C4 : Tryd.prog.cellsOf 34 = 4 := by kernel_rfl
    have f0 : DataW.trod enc Tryd.prog W base (fun _ => true) held m 2 [c0] = ys[0]? := field_at (i := 0) (o := 0) hf (by kernel_rfl) C1
    have f1 : DataW.trod enc Tryd.prog W base (fun _ => true) held m 2 [c1] = ys[1]? := field_at (i := 1) (o := 1) hf (by kernel_rfl) C1
    have f2 : DataW.trod enc Tryd.prog W base (fun _ => true) held m 9 [c2] = ys[2]? := field_at (i := 2) (o := 2) hf (by kernel_rfl) C2
    have f3 : DataW.trod enc Tryd.prog W base (fun _ => true) held m 2 [c3] = ys[3]? := field_at (i := 3) (o := 3) hf (by kernel_rfl) C1
    have f4 : DataW.trod enc Tryd.prog W base (fun _ => true) held m 41 [c4] = ys[4]? := field_at (i := 4) (o := 4) hf (by kernel_rfl) C3
    have f5 : DataW.trod enc Tryd.prog W base (fun _ => true) held m 41 [c5] = ys[5]? := field_at (i := 5) (o := 5) hf (by kernel_rfl) C3
    have f6 : DataW.trod enc Tryd.prog W base (fun _ => true) held m 34 [c6, c7, c8, c9] = ys[6]? := field_at (i := 6) (o := 6) hf (by kernel_rfl) C4
    have hys : ∀ i, i < 7 → ∃ y, ys[i]? = some y := by
      intro i hi
      have : ys.length = 7 := by assumption
      exact ⟨_, List.getElem?_eq_getElem (by omega)⟩
    obtain ⟨y0, g0⟩ := hys 0 (by decide)
    obtain ⟨y1, g1⟩ := hys 1 (by decide)
    obtain ⟨y2, g2⟩ := hys 2 (by decide)
    obtain ⟨y3, g3⟩ := hys 3 (by decide)
    obtain ⟨y4, g4⟩ := hys 4 (by decide)
    obtain ⟨y5, g5⟩ := hys 5 (by decide)
    obtain ⟨y6, g6⟩ := hys 6 (by decide)
    rw [g0] at f0
    rw [g1] at f1
    rw [g2] at f2
    rw [g3] at f3
    rw [g4] at f4
    rw [g5] at f5
    rw [g6] at f6
    obtain ⟨z0, e0, _, _⟩ := DataW.trod_int Tryd.underlying2 f0
    obtain ⟨z1, e1, _, _⟩ := DataW.trod_int Tryd.underlying2 f1
    obtain ⟨z2, e2, _, hz2⟩ := DataW.trod_string Tryd.underlying9 f2
    obtain ⟨z3, e3, _, _⟩ := DataW.trod_int Tryd.underlying2 f3
    obtain ⟨Ak, nk, ck, hck, e4⟩ : ∃ A n c, n ≤ c ∧ [c4] = [Value.slice A n c] := by
      rcases Go.Deep.open_slice Tryd.underlying41 f4 with ⟨h0, _⟩ | ⟨a, len, cap, _, _, _, _, hcs, _, hlc, _⟩
      · exact ⟨_, _, _, Nat.le_refl _, h0⟩
      · exact ⟨_, _, _, hlc, hcs⟩
    obtain ⟨Av, nv, cv, hcv, e5⟩ : ∃ A n c, n ≤ c ∧ [c5] = [Value.slice A n c] := by
      rcases Go.Deep.open_slice Tryd.underlying41 f5 with ⟨h0, _⟩ | ⟨a, len, cap, _, _, _, _, hcs, _, hlc, _⟩
      · exact ⟨_, _, _, Nat.le_refl _, h0⟩
      · exact ⟨_, _, _, hlc, hcs⟩
    rw [e4] at f4
    rw [e5] at f5
    obtain ⟨ks, hks⟩ := open_valuesF f4
    obtain ⟨vs, hvs⟩ := open_valuesF f5
    obtain ⟨ys', m', _, _, _, hl', hf'⟩ := DataW.trod_struct Tryd.underlying34 f6
    have d0 : DataW.trod enc Tryd.prog W base (fun _ => true) held m' 2 [c6] = ys'[0]? := field_at (i := 0) (o := 0) hf' (by kernel_rfl) C1
    have d1 : DataW.trod enc Tryd.prog W base (fun _ => true) held m' 2 [c7] = ys'[1]? := field_at (i := 1) (o := 1) hf' (by kernel_rfl) C1
    have d2 : DataW.trod enc Tryd.prog W base (fun _ => true) held m' 9 [c8] = ys'[2]? := field_at (i := 2) (o := 2) hf' (by kernel_rfl) C2
    have d3 : DataW.trod enc Tryd.prog W base (fun _ => true) held m' 2 [c9] = ys'[3]? := field_at (i := 3) (o := 3) hf' (by kernel_rfl) C1
    have hys' : ∀ i, i < 4 → ∃ y, ys'[i]? = some y := by
      intro i hi
      have : ys'.length = 4 := by assumption
      exact ⟨_, List.getElem?_eq_getElem (by omega)⟩
    obtain ⟨x0, j0⟩ := hys' 0 (by decide)
    obtain ⟨x1, j1⟩ := hys' 1 (by decide)
    obtain ⟨x2, j2⟩ := hys' 2 (by decide)
    obtain ⟨x3, j3⟩ := hys' 3 (by decide)
    rw [j0] at d0
    rw [j1] at d1
    rw [j2] at d2
    rw [j3] at d3
    obtain ⟨z6, e6, _, _⟩ := DataW.trod_int Tryd.underlying2 d0
    obtain ⟨z7, e7, _, _⟩ := DataW.trod_int Tryd.underlying2 d1
    obtain ⟨z8, e8, _, hz8⟩ := DataW.trod_string Tryd.underlying9 d2
    obtain ⟨z9, e9, _, _⟩ := DataW.trod_int Tryd.underlying2 d3
    simp only [List.cons.injEq, and_true] at e0 e1 e2 e3 e4 e5 e6 e7 e8 e9
    subst e0 e1 e2 e3 e4 e5 e6 e7 e8 e9
    exact ⟨⟨z0, z1, z2, z3, ks, vs, ⟨z6, z7, z8, z9⟩⟩, ⟨Ak, nk, ck, Av, nv, cv, hck, hcv⟩, rfl, hks, hvs, hz2, hz8⟩
end
set_option maxRecDepth 100000 in
/-- An argument that is an object. -/
theorem open_object {H : Type} {enc : TypeId × Value → H} {W : World} {v : Value} {d : DataW H} {p : List MemPlace} {r : Reach} {b0 : Nat} (hv : Value.okWide Tryd.prog W r b0 57 v) (h : DataW.Trod enc Tryd.prog W 0 (fun _ => true) true 57 v d p) :
    ∃ o l, v = Ob.ag o l ∧ OV W W.heap.size o l := by
  obtain ⟨cs, rfl, hsz⟩ := Go.WideShapes.okWide_struct Tryd.underlying57 hv
  obtain ⟨fuel, hf⟩ := h
  obtain ⟨o, l, e, ho⟩ := open_object10 hf
  refine ⟨o, l, ?_, ho⟩
  have : cs.toList = Ob.vs o l := e
  rw [show cs = (Ob.vs o l).toArray from by rw [← this]]
  rfl
set_option maxRecDepth 100000 in
/-- An argument that is a slice of objects. -/
theorem open_objectsF {H : Type} {enc : TypeId × Value → H} {W : World} {A : Option Addr} {n c fuel : Nat} {x : DataW H × List MemPlace} (hf : DataW.trod enc Tryd.prog W 0 (fun _ => true) true fuel 22 [.slice A n c] = some x) :
    ∃ os, OI W W.heap.size A n os := by
  rcases Go.Deep.open_slice Tryd.underlying22 hf with ⟨h0, _⟩ | ⟨a, len, cap, m, k, D, Pl, hcs, hb, hl, hm, hmm, hx, hi⟩
  · simp at h0
    obtain ⟨rfl, rfl, rfl⟩ := h0
    exact ⟨[], rfl, Nat.zero_le _, fun h => absurd h (by omega)⟩
  · simp only [List.cons.injEq, Value.slice.injEq, and_true] at hcs
    obtain ⟨rfl, rfl, rfl⟩ := hcs
    simp only [if_true] at hmm
    have hC : Tryd.prog.cellsOf 57 = 10 := by kernel_rfl
    have key : ∀ i, i < n → ∃ o : Ob, ∃ l, (∀ j v, (Ob.vs o l)[j]? = some v → W.cell? (a.add (i * 10 + j)) = some v) ∧ OV W W.heap.size o l := by
      intro i hin
      obtain ⟨cs', hc, ht'⟩ := hi i (by omega)
      rw [hC] at hc
      obtain ⟨o, l, e, ho⟩ := open_object10 ht'
      obtain ⟨_, hcl, hat⟩ := World.cells?_some hc
      refine ⟨o, l, fun j v hj => ?_, ho⟩
      rw [← e] at hj
      have hjl : j < 10 := by have := (List.getElem?_eq_some_iff.1 hj).1; omega
      rw [← Go.Deep.add_add, hat j hjl, hj]
    have hnm : n ≤ maxLen := Nat.le_trans hl hm
    by_cases hn : 0 < n
    · obtain ⟨ab, ao, spot⟩ := a
      obtain ⟨o0, l0, h0, _⟩ := key 0 hn
      have h00 := h0 0 _ rfl
      have hspot : spot = none := by simpa [Addr.add] using World.cell?_spot h00
      subst hspot
      rw [Addr.add_lit] at h00
      obtain ⟨os, hl', hx'⟩ := list_of (α := Ob) (P := fun j o => ∃ l, O10 W ab (ao + j * 10) o l ∧ OV W W.heap.size o l) (n := n) fun i hin => by
        obtain ⟨o, l, hc, ho⟩ := key i hin
        have hc' : ∀ j v, (Ob.vs o l)[j]? = some v → W.cell? ⟨ab, ao + i * 10 + j, none⟩ = some v := by
          intro j v hj
          have := hc j v hj
          rw [Addr.add_lit, ← Nat.add_assoc] at this
          exact this
        exact ⟨o, l, ⟨hc' 0 _ rfl, hc' 1 _ rfl, hc' 2 _ rfl, hc' 3 _ rfl, hc' 4 _ rfl, hc' 5 _ rfl, hc' 6 _ rfl, hc' 7 _ rfl, hc' 8 _ rfl, hc' 9 _ rfl⟩, ho⟩
      exact ⟨os, hl', hnm, fun _ => ⟨ab, ao, rfl, World.block_lt_of_cell? W ⟨ab, _, none⟩ h00, hx'⟩⟩
    · exact ⟨[], by simp; omega, hnm, fun h => absurd h hn⟩
set_option maxRecDepth 100000 in
/-- An argument that is a heap. -/
theorem open_heap {H : Type} {enc : TypeId × Value → H} {W : World} {v : Value} {d : DataW H} {p : List MemPlace} {r : Reach} {b0 : Nat} (hv : Value.okWide Tryd.prog W r b0 24 v) (h : DataW.Trod enc Tryd.prog W 0 (fun _ => true) true 24 v d p) :
    ∃ nx A n c os, v = .agg #[.int .i64 nx, .slice A n c] ∧ (Lit.int .i64 nx).wf = true ∧ OI W W.heap.size A n os := by
  obtain ⟨c0, c1, y0, y1, fu, rfl, _, _, t0, t1⟩ := Go.Joins.open_agg2 Tryd.underlying24 (by kernel_rfl) (by kernel_rfl) hv h
  obtain ⟨nx, e0, _, hwf⟩ := DataW.trod_int Tryd.underlying2 t0
  obtain ⟨A, n, c, e1⟩ : ∃ A n c, [c1] = [Value.slice A n c] := by
    rcases Go.Deep.open_slice Tryd.underlying22 t1 with ⟨h0, _⟩ | ⟨a, len, cap, _, _, _, _, hcs, _⟩
    · exact ⟨_, _, _, h0⟩
    · exact ⟨_, _, _, hcs⟩
  rw [e1] at t1
  obtain ⟨os, hos⟩ := open_objectsF t1
  simp only [List.cons.injEq, and_true] at e0 e1
  subst e0 e1
  exact ⟨nx, A, n, c, os, rfl, hwf, hos⟩
end Go.Proofs.YtbdmanadmckjjaaDoor
