/- Capture: as plain data, one as an argument; szCapture, toCapture of the laws. No condition. -/
import Derived.Test.YtdlhoakcpdaboaaDoorRw
namespace Go.Proofs.YtdlhoakcpdaboaaDoor
open Go Go.RowKit

/-- A Capture. -/
structure Cp where
  name_ : ByteArray
  text_ : ByteArray
  cursor_ : Int
  kind_ : Int
/-- Its cells. -/
def Cp.vs (x : Cp) : List Value := [.string x.name_, .string x.text_, .int .i64 x.cursor_, .int .i64 x.kind_]
/-- As one value. -/
abbrev Cp.ag (x : Cp) : Value := .agg #[.string x.name_, .string x.text_, .int .i64 x.cursor_, .int .i64 x.kind_]
/-- The cells from o on of block b. -/
def CpAt (w : World) (b o : Nat) (x : Cp) : Prop :=
  w.cell? ⟨b, o, none⟩ = some (.string x.name_) ∧ w.cell? ⟨b, o + 1, none⟩ = some (.string x.text_) ∧ w.cell? ⟨b, o + 2, none⟩ = some (.int .i64 x.cursor_) ∧ w.cell? ⟨b, o + 3, none⟩ = some (.int .i64 x.kind_)
theorem CpAt.below {w w' : World} {b o B : Nat} {x : Cp} (h : CpAt w b o x) (hb : Below B w w') (hg : b < B) : CpAt w' b o x := by
  obtain ⟨h0, h1, h2, h3⟩ := h
  exact ⟨(hb.cell (p := ⟨b, o, none⟩) hg).trans h0, (hb.cell (p := ⟨b, o + 1, none⟩) hg).trans h1, (hb.cell (p := ⟨b, o + 2, none⟩) hg).trans h2, (hb.cell (p := ⟨b, o + 3, none⟩) hg).trans h3⟩
theorem CpAt.other {w : World} {b o : Nat} {x : Cp} (h : CpAt w b o x) {p : Addr} (hp : b ≠ p.block) (u : Value) : CpAt (w.setCell p u) b o x := by
  have k : ∀ i, (w.setCell p u).cell? ⟨b, i, none⟩ = w.cell? ⟨b, i, none⟩ := fun i => World.cell?_setCell_other w p ⟨b, i, none⟩ u (fun e => hp (by rw [e]))
  obtain ⟨h0, h1, h2, h3⟩ := h
  exact ⟨(k _).trans h0, (k _).trans h1, (k _).trans h2, (k _).trans h3⟩
theorem CpAt.range {w : World} {b o : Nat} {x : Cp} (h : CpAt w b o x) : w.rangeAt b o x.vs := by
  obtain ⟨h0, h1, h2, h3⟩ := h
  intro j v hj
  match j, hj with
  | 0, hj => cases hj; exact h0
  | 1, hj => cases hj; exact h1
  | 2, hj => cases hj; exact h2
  | 3, hj => cases hj; exact h3
  | j + 4, hj => simp [Cp.vs] at hj
/-- A Capture's texts' bytes. -/
def szCp1 (x : Cp) : Nat := x.name_.size + x.text_.size
set_option maxRecDepth 100000 in
theorem szCapture_any (x : Cp) (L : Int) (W : World) (h0 : 0 ≤ L) (hL : L ≤ 1048576) (hm0 : x.name_.size ≤ maxLen) (hm1 : x.text_.size ≤ maxLen) :
    Calls Tryd.prog 4 #[x.ag, .int .i64 L] W (SzL (szCp1 x) L W) := by
  obtain ⟨s, hs⟩ : ∃ s, szCp1 x = s := ⟨_, rfl⟩
  rw [hs]
  unfold szCp1 at hs
  obtain ⟨x0, x1, x2, x3⟩ := x
  dsimp only at hs hm0 hm1
  have HS := Lib.hid hs
  unfold maxLen at hm0 hm1
  clear hs
  show Calls Tryd.prog 4 #[.agg #[.string x0, .string x1, .int .i64 x2, .int .i64 x3], .int .i64 L] W _
  by_cases c0 : (x0.size : Int) ≤ L
  · have d0 : decide (L - (x0.size : Int) < 0) = false := by simp; omega
    by_cases c1 : (x0.size : Int) + (x1.size : Int) ≤ L
    · have d1 : decide (L - (x0.size : Int) - (x1.size : Int) < 0) = false := by simp; omega
      have HX : Hid ((s : Int) ≤ L) := by have := HS.out; show _ ≤ _; omega
      have HE : Hid (L - (x0.size : Int) - (x1.size : Int) = L - (s : Int)) := by have := HS.out; show _ = _; omega
      go_enter Tryd.func4, Tryd.ntmps4
      go_wp2_with fail
      go_ret
      exact ⟨.inl ⟨HX.out, by rw [HE.out]; rfl⟩, below_alloc _ _⟩
    · have d1 : decide (L - (x0.size : Int) - (x1.size : Int) < 0) = true := by simp; omega
      have HX : Hid (L < (s : Int)) := by have := HS.out; show _ < _; omega
      go_enter Tryd.func4, Tryd.ntmps4
      go_wp2_with fail
      go_ret
      exact ⟨.inr ⟨HX.out, rfl⟩, below_alloc _ _⟩
  · have d0 : decide (L - (x0.size : Int) < 0) = true := by simp; omega
    have HX : Hid (L < (s : Int)) := by have := HS.out; show _ < _; omega
    go_enter Tryd.func4, Tryd.ntmps4
    go_wp2_with fail
    go_ret
    exact ⟨.inr ⟨HX.out, rfl⟩, below_alloc _ _⟩
theorem toCapture_any (x : Cp) (W : World) :
    Calls Tryd.prog 6 #[x.ag] W fun e w' => e = .returned x.ag ∧ Below W.heap.size W w' := by
  obtain ⟨x0, x1, x2, x3⟩ := x
  show Calls Tryd.prog 6 #[.agg #[.string x0, .string x1, .int .i64 x2, .int .i64 x3]] W _
  go_enter Tryd.func6, Tryd.ntmps6
  go_wp2
  exact bodyPost_ret (v := .agg #[.string x0, .string x1, .int .i64 x2, .int .i64 x3]) (by simp [results, Tryd.results6, go_sem]) rfl
    ⟨rfl, by repeat (first | exact Below.refl _ _ | refine Below.setCell ?_ (by first | (simp; done) | (simp; omega)) _ | refine Below.alloc ?_ (by first | (simp; done) | (simp; omega)) _)⟩
set_option maxRecDepth 100000 in
theorem open_CpN {H : Type} {enc : TypeId × Value → H} {W : World} {fuel : Nat} {cs : List Value} {x : DataW H × List MemPlace} (h : DataW.trod enc Tryd.prog W 0 (fun _ => true) true fuel 23 cs = some x) :
    ∃ x : Cp, cs = x.vs ∧ x.name_.size ≤ maxLen ∧ x.text_.size ≤ maxLen ∧ (Lit.int .i64 x.cursor_).wf = true ∧ (Lit.int .i64 x.kind_).wf = true := by
  obtain ⟨ys, m, hm, _, hlen, _, hf⟩ := DataW.trod_struct Tryd.underlying23 h
  have hlen' : cs.length = 4 := hlen.trans (by kernel_rfl)
  match cs, hlen' with
  | [c0, c1, c2, c3], _ =>
    have hys : ∀ i, i < 4 → ∃ y, ys[i]? = some y := by
      intro i hi
      have : ys.length = 4 := by assumption
      exact ⟨_, List.getElem?_eq_getElem (by omega)⟩
    have f0 : DataW.trod enc Tryd.prog W 0 (fun _ => true) true m 9 [c0] = ys[0]? := field_at (i := 0) (o := 0) (k := 1) (T := 9) hf (by kernel_rfl) (by kernel_rfl)
    have f1 : DataW.trod enc Tryd.prog W 0 (fun _ => true) true m 9 [c1] = ys[1]? := field_at (i := 1) (o := 1) (k := 1) (T := 9) hf (by kernel_rfl) (by kernel_rfl)
    have f2 : DataW.trod enc Tryd.prog W 0 (fun _ => true) true m 2 [c2] = ys[2]? := field_at (i := 2) (o := 2) (k := 1) (T := 2) hf (by kernel_rfl) (by kernel_rfl)
    have f3 : DataW.trod enc Tryd.prog W 0 (fun _ => true) true m 2 [c3] = ys[3]? := field_at (i := 3) (o := 3) (k := 1) (T := 2) hf (by kernel_rfl) (by kernel_rfl)
    obtain ⟨y0, g0⟩ := hys 0 (by decide)
    rw [g0] at f0
    obtain ⟨y1, g1⟩ := hys 1 (by decide)
    rw [g1] at f1
    obtain ⟨y2, g2⟩ := hys 2 (by decide)
    rw [g2] at f2
    obtain ⟨y3, g3⟩ := hys 3 (by decide)
    rw [g3] at f3
    obtain ⟨z0, e0, _, hz0⟩ := DataW.trod_string Tryd.underlying9 f0
    obtain ⟨z1, e1, _, hz1⟩ := DataW.trod_string Tryd.underlying9 f1
    obtain ⟨z2, e2, _, hz2⟩ := DataW.trod_int Tryd.underlying2 f2
    obtain ⟨z3, e3, _, hz3⟩ := DataW.trod_int Tryd.underlying2 f3
    simp only [List.cons.injEq, and_true] at e0 e1 e2 e3
    subst e0 e1 e2 e3
    exact ⟨⟨z0, z1, z2, z3⟩, rfl, hz0, hz1, hz2, hz3⟩
set_option maxRecDepth 100000 in
/-- An argument that is one. -/
theorem open_Cp1 {H : Type} {enc : TypeId × Value → H} {W : World} {v : Value} {d : DataW H} {p : List MemPlace} {r : Reach} {b0 : Nat} (hv : Value.okWide Tryd.prog W r b0 23 v) (h : DataW.Trod enc Tryd.prog W 0 (fun _ => true) true 23 v d p) :
    ∃ x : Cp, v = x.ag ∧ x.name_.size ≤ maxLen ∧ x.text_.size ≤ maxLen ∧ (Lit.int .i64 x.cursor_).wf = true ∧ (Lit.int .i64 x.kind_).wf = true := by
  obtain ⟨cs, rfl, hsz⟩ := Go.WideShapes.okWide_struct Tryd.underlying23 hv
  obtain ⟨fuel, hf⟩ := h
  obtain ⟨x, e, hx⟩ := open_CpN (cs := cs.toList) hf
  refine ⟨x, ?_, hx⟩
  have : cs.toList = x.vs := e
  rw [show cs = x.vs.toArray from by rw [← this]]
  rfl
end Go.Proofs.YtdlhoakcpdaboaaDoor
