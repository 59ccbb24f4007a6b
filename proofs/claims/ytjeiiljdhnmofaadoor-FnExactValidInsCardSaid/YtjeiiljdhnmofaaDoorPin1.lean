/- PatternIns: as plain data, one as an argument; szPatternIns, toPatternIns of the laws. No condition. -/
import Derived.Test.YtjeiiljdhnmofaaDoorRw
namespace Go.Proofs.YtjeiiljdhnmofaaDoor
open Go Go.RowKit

/-- A PatternIns. -/
structure Pi where
  op_ : Int
  num_ : Int
  text_ : ByteArray
/-- Its cells. -/
def Pi.vs (x : Pi) : List Value := [.int .i64 x.op_, .int .i64 x.num_, .string x.text_]
/-- As one value. -/
abbrev Pi.ag (x : Pi) : Value := .agg #[.int .i64 x.op_, .int .i64 x.num_, .string x.text_]
/-- The cells from o on of block b. -/
def PiAt (w : World) (b o : Nat) (x : Pi) : Prop :=
  w.cell? ⟨b, o, none⟩ = some (.int .i64 x.op_) ∧ w.cell? ⟨b, o + 1, none⟩ = some (.int .i64 x.num_) ∧ w.cell? ⟨b, o + 2, none⟩ = some (.string x.text_)
theorem PiAt.below {w w' : World} {b o B : Nat} {x : Pi} (h : PiAt w b o x) (hb : Below B w w') (hg : b < B) : PiAt w' b o x := by
  obtain ⟨h0, h1, h2⟩ := h
  exact ⟨(hb.cell (p := ⟨b, o, none⟩) hg).trans h0, (hb.cell (p := ⟨b, o + 1, none⟩) hg).trans h1, (hb.cell (p := ⟨b, o + 2, none⟩) hg).trans h2⟩
theorem PiAt.other {w : World} {b o : Nat} {x : Pi} (h : PiAt w b o x) {p : Addr} (hp : b ≠ p.block) (u : Value) : PiAt (w.setCell p u) b o x := by
  have k : ∀ i, (w.setCell p u).cell? ⟨b, i, none⟩ = w.cell? ⟨b, i, none⟩ := fun i => World.cell?_setCell_other w p ⟨b, i, none⟩ u (fun e => hp (by rw [e]))
  obtain ⟨h0, h1, h2⟩ := h
  exact ⟨(k _).trans h0, (k _).trans h1, (k _).trans h2⟩
theorem PiAt.range {w : World} {b o : Nat} {x : Pi} (h : PiAt w b o x) : w.rangeAt b o x.vs := by
  obtain ⟨h0, h1, h2⟩ := h
  intro j v hj
  match j, hj with
  | 0, hj => cases hj; exact h0
  | 1, hj => cases hj; exact h1
  | 2, hj => cases hj; exact h2
  | j + 3, hj => simp [Pi.vs] at hj
/-- A PatternIns's texts' bytes. -/
def szPi1 (x : Pi) : Nat := x.text_.size
set_option maxRecDepth 100000 in
theorem szPatternIns_any (x : Pi) (L : Int) (W : World) (h0 : 0 ≤ L) (hL : L ≤ 1048576) (hm2 : x.text_.size ≤ maxLen) :
    Calls Tryd.prog 15 #[x.ag, .int .i64 L] W (SzL (szPi1 x) L W) := by
  obtain ⟨s, hs⟩ : ∃ s, szPi1 x = s := ⟨_, rfl⟩
  rw [hs]
  unfold szPi1 at hs
  obtain ⟨x0, x1, x2⟩ := x
  dsimp only at hs hm2
  have HS := Lib.hid hs
  unfold maxLen at hm2
  clear hs
  show Calls Tryd.prog 15 #[.agg #[.int .i64 x0, .int .i64 x1, .string x2], .int .i64 L] W _
  by_cases c0 : (x2.size : Int) ≤ L
  · have d0 : decide (L - (x2.size : Int) < 0) = false := by simp; omega
    have HX : Hid ((s : Int) ≤ L) := by have := HS.out; show _ ≤ _; omega
    have HE : Hid (L - (x2.size : Int) = L - (s : Int)) := by have := HS.out; show _ = _; omega
    go_enter Tryd.func15, Tryd.ntmps15
    go_wp2_with fail
    go_ret
    exact ⟨.inl ⟨HX.out, by rw [HE.out]; rfl⟩, below_alloc _ _⟩
  · have d0 : decide (L - (x2.size : Int) < 0) = true := by simp; omega
    have HX : Hid (L < (s : Int)) := by have := HS.out; show _ < _; omega
    go_enter Tryd.func15, Tryd.ntmps15
    go_wp2_with fail
    go_ret
    exact ⟨.inr ⟨HX.out, rfl⟩, below_alloc _ _⟩
theorem toPatternIns_any (x : Pi) (W : World) :
    Calls Tryd.prog 17 #[x.ag] W fun e w' => e = .returned x.ag ∧ Below W.heap.size W w' := by
  obtain ⟨x0, x1, x2⟩ := x
  show Calls Tryd.prog 17 #[.agg #[.int .i64 x0, .int .i64 x1, .string x2]] W _
  go_enter Tryd.func17, Tryd.ntmps17
  go_wp2
  exact bodyPost_ret (v := .agg #[.int .i64 x0, .int .i64 x1, .string x2]) (by simp [results, Tryd.results17, go_sem]) rfl
    ⟨rfl, by repeat (first | exact Below.refl _ _ | refine Below.setCell ?_ (by first | (simp; done) | (simp; omega)) _ | refine Below.alloc ?_ (by first | (simp; done) | (simp; omega)) _)⟩
set_option maxRecDepth 100000 in
theorem open_PiN {H : Type} {enc : TypeId × Value → H} {W : World} {fuel : Nat} {cs : List Value} {x : DataW H × List MemPlace} (h : DataW.trod enc Tryd.prog W 0 (fun _ => true) true fuel 34 cs = some x) :
    ∃ x : Pi, cs = x.vs ∧ x.text_.size ≤ maxLen := by
  obtain ⟨ys, m, hm, _, hlen, _, hf⟩ := DataW.trod_struct Tryd.underlying34 h
  have hlen' : cs.length = 3 := hlen.trans (by kernel_rfl)
  match cs, hlen' with
  | [c0, c1, c2], _ =>
    have hys : ∀ i, i < 3 → ∃ y, ys[i]? = some y := by
      intro i hi
      have : ys.length = 3 := by assumption
      exact ⟨_, List.getElem?_eq_getElem (by omega)⟩
    have f0 : DataW.trod enc Tryd.prog W 0 (fun _ => true) true m 2 [c0] = ys[0]? := field_at (i := 0) (o := 0) (k := 1) (T := 2) hf (by kernel_rfl) (by kernel_rfl)
    have f1 : DataW.trod enc Tryd.prog W 0 (fun _ => true) true m 2 [c1] = ys[1]? := field_at (i := 1) (o := 1) (k := 1) (T := 2) hf (by kernel_rfl) (by kernel_rfl)
    have f2 : DataW.trod enc Tryd.prog W 0 (fun _ => true) true m 9 [c2] = ys[2]? := field_at (i := 2) (o := 2) (k := 1) (T := 9) hf (by kernel_rfl) (by kernel_rfl)
    obtain ⟨y0, g0⟩ := hys 0 (by decide)
    rw [g0] at f0
    obtain ⟨y1, g1⟩ := hys 1 (by decide)
    rw [g1] at f1
    obtain ⟨y2, g2⟩ := hys 2 (by decide)
    rw [g2] at f2
    obtain ⟨z0, e0, _, hz0⟩ := DataW.trod_int Tryd.underlying2 f0
    obtain ⟨z1, e1, _, hz1⟩ := DataW.trod_int Tryd.underlying2 f1
    obtain ⟨z2, e2, _, hz2⟩ := DataW.trod_string Tryd.underlying9 f2
    simp only [List.cons.injEq, and_true] at e0 e1 e2
    subst e0 e1 e2
    exact ⟨⟨z0, z1, z2⟩, rfl, hz2⟩
set_option maxRecDepth 100000 in
/-- An argument that is one. -/
theorem open_Pi1 {H : Type} {enc : TypeId × Value → H} {W : World} {v : Value} {d : DataW H} {p : List MemPlace} {r : Reach} {b0 : Nat} (hv : Value.okWide Tryd.prog W r b0 34 v) (h : DataW.Trod enc Tryd.prog W 0 (fun _ => true) true 34 v d p) :
    ∃ x : Pi, v = x.ag ∧ x.text_.size ≤ maxLen := by
  obtain ⟨cs, rfl, hsz⟩ := Go.WideShapes.okWide_struct Tryd.underlying34 hv
  obtain ⟨fuel, hf⟩ := h
  obtain ⟨x, e, hx⟩ := open_PiN (cs := cs.toList) hf
  refine ⟨x, ?_, hx⟩
  have : cs.toList = x.vs := e
  rw [show cs = x.vs.toArray from by rw [← this]]
  rfl
end Go.Proofs.YtjeiiljdhnmofaaDoor
