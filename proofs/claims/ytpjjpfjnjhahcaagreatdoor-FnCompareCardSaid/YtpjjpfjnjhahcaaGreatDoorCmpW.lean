/- Contract: convertBoth at values. No condition. -/
import Derived.Test.YtpjjpfjnjhahcaaGreatDoorCmpV
namespace Go.Proofs.YtpjjpfjnjhahcaaGreatDoor
open Go Go.RowKit

def zV : Va := ⟨0, 0, ⟨#[]⟩, 0⟩
theorem zV_ag : zV.ag = .agg #[.int .i64 0, .int .i64 0, .string ⟨#[]⟩, .int .i64 0] := rfl
/-- A new block's cells, none of them frozen. -/
theorem frz_newV (W : World) (T : TypeId) (cs : Array Value) : ∀ i, (W.alloc (.cells cs T)).frozen? ⟨W.heap.size, i, none⟩ = false := fun i => by
  have : (W.alloc (.cells cs T)).heap[W.heap.size]? = some (.cells cs T (0, 0)) := (MapKept.heap_alloc W _).1
  unfold World.frozen?
  rw [this]
  simp
theorem T4.new (W : World) (a b x y : Va) (T : TypeId) : ∀ X, X = (((W.alloc (.cells #[.int .i64 a.k, .int .i64 a.n, .string a.t, .int .i64 a.r] T)).alloc (.cells #[.int .i64 b.k, .int .i64 b.n, .string b.t, .int .i64 b.r] T)).alloc (.cells #[.int .i64 x.k, .int .i64 x.n, .string x.t, .int .i64 x.r] T)).alloc (.cells #[.int .i64 y.k, .int .i64 y.n, .string y.t, .int .i64 y.r] T) → T4 W X a b x y := fun X e => by
  obtain ⟨X2, h2⟩ : ∃ X2, (W.alloc (.cells #[.int .i64 a.k, .int .i64 a.n, .string a.t, .int .i64 a.r] T)).alloc (.cells #[.int .i64 b.k, .int .i64 b.n, .string b.t, .int .i64 b.r] T) = X2 := ⟨_, rfl⟩
  obtain ⟨a1, a2, a3, a4⟩ := two_newV W T a b X2 h2.symm
  rw [h2] at e
  obtain ⟨b1, b2, b3, b4⟩ := two_newV X2 T x y X e
  have f1 := frz_newV X2 T #[.int .i64 x.k, .int .i64 x.n, .string x.t, .int .i64 x.r]
  have f2 := frz_newV (X2.alloc (.cells #[.int .i64 x.k, .int .i64 x.n, .string x.t, .int .i64 x.r] T)) T #[.int .i64 y.k, .int .i64 y.n, .string y.t, .int .i64 y.r]
  have hs : (X2.alloc (.cells #[.int .i64 x.k, .int .i64 x.n, .string x.t, .int .i64 x.r] T)).heap.size = X2.heap.size + 1 := by simp
  rw [hs, ← e] at f2
  have f1' : ∀ i, X.frozen? ⟨X2.heap.size, i, none⟩ = false := fun i => by
    rw [e]
    exact ((Below.alloc (Below.refl _ _) (Nat.le_refl _) _).frozen (p := ⟨X2.heap.size, i, none⟩) (by rw [hs]; show X2.heap.size < _; omega)).trans (f1 i)
  rw [a4] at b1 b2 f1' f2
  exact ⟨a1.below b3 (by omega), a2.below b3 (by omega), b1, b2, f1', f2, a3.trans (b3.mono (by omega)), by omega⟩
theorem T4.set1 {W w : World} {a b x y : Va} (h : T4 W w a b x y) (z : Va) : T4 W ((((w.setCell ⟨W.heap.size + 1 + 1, 0, none⟩ (.int .i64 z.k)).setCell ⟨W.heap.size + 1 + 1, 1, none⟩ (.int .i64 z.n)).setCell ⟨W.heap.size + 1 + 1, 2, none⟩ (.string z.t)).setCell ⟨W.heap.size + 1 + 1, 3, none⟩ (.int .i64 z.r)) a b z y := by
  obtain ⟨⟨a0, a1, a2, a3⟩, ⟨b0, b1, b2, b3⟩, ⟨x0, x1, x2, x3⟩, ⟨y0, y1, y2, y3⟩, h5, h6, h7, h8⟩ := h
  exact ⟨by refine ⟨?_, ?_, ?_, ?_⟩ <;> go_simp, by refine ⟨?_, ?_, ?_, ?_⟩ <;> go_simp, by refine ⟨?_, ?_, ?_, ?_⟩ <;> go_simp, by refine ⟨?_, ?_, ?_, ?_⟩ <;> go_simp, fun i => by have := h5 i; simp [this], fun i => by have := h6 i; simp [this], (((h7.setCell (by simp; omega) _).setCell (by simp; omega) _).setCell (by simp; omega) _).setCell (by simp; omega) _, by simp; omega⟩
theorem T4.set2 {W w : World} {a b x y : Va} (h : T4 W w a b x y) (z : Va) : T4 W ((((w.setCell ⟨W.heap.size + 1 + 1 + 1, 0, none⟩ (.int .i64 z.k)).setCell ⟨W.heap.size + 1 + 1 + 1, 1, none⟩ (.int .i64 z.n)).setCell ⟨W.heap.size + 1 + 1 + 1, 2, none⟩ (.string z.t)).setCell ⟨W.heap.size + 1 + 1 + 1, 3, none⟩ (.int .i64 z.r)) a b x z := by
  obtain ⟨⟨a0, a1, a2, a3⟩, ⟨b0, b1, b2, b3⟩, ⟨x0, x1, x2, x3⟩, ⟨y0, y1, y2, y3⟩, h5, h6, h7, h8⟩ := h
  exact ⟨by refine ⟨?_, ?_, ?_, ?_⟩ <;> go_simp, by refine ⟨?_, ?_, ?_, ?_⟩ <;> go_simp, by refine ⟨?_, ?_, ?_, ?_⟩ <;> go_simp, by refine ⟨?_, ?_, ?_, ?_⟩ <;> go_simp, fun i => by have := h5 i; simp [this], fun i => by have := h6 i; simp [this], (((h7.setCell (by simp; omega) _).setCell (by simp; omega) _).setCell (by simp; omega) _).setCell (by simp; omega) _, by simp; omega⟩
theorem results_cell2_tmp {fn : Func} {p q u : Tmp} {ty tz : TypeId} (h : fn.results = #[.cell p ty, .cell q tz, .tmp u]) (tmps : Array Value) (P : Program) (w : World) :
    (results fn tmps).run P w =
      ((asAddr (tmps.getD p undef)).run P w).andThen fun a w₁ => ((loadVar ty a).run P w₁).andThen fun v w₂ => ((asAddr (tmps.getD q undef)).run P w₂).andThen fun b w₃ => ((loadVar tz b).run P w₃).andThen fun y w₄ => .ok (.tuple #[v, y, tmps.getD u undef]) w₄ := by
  simp only [results, h]
  simp [Sem.run_bind, Result.andThen]
set_option maxHeartbeats 800000 in
theorem convV_any (a b : Va) (W : World) :
    Calls Tryz.prog 60 #[.func (.func 35) #[] #[], a.ag, b.ag] W fun e w' => e = .returned (.tuple #[a.ag, b.ag, .bool true]) ∧ Below W.heap.size W w' := by
  have HC := Lib.hid (T4.new W a b zV zV 25)
  have T1 : True := trivial
  unfold Va.ag
  go_enter Tryz.func60, Tryz.ntmps60
  go_wp2_with (first
    | (go_at_call 35; have tk := T1; clear tk T1; have HH := Lib.hid (HC.out _ rfl); refine Calls.mono (asItself_any a _) ?_; rintro e w1 ⟨he, hb⟩; unfold Va.ag at he; subst he; replace HH := Lib.hid (HH.out.go hb); clear hb; obtain ⟨⟨x0, x1, x2, x3⟩, ⟨y0, y1, y2, y3⟩, ⟨z0, z1, z2, z3⟩, ⟨u0, u1, u2, u3⟩, fz, fu, _, lz⟩ := HH.out)
    | (go_at_call 35; refine Calls.mono (asItself_any b _) ?_; rintro e w2 ⟨he, hb⟩; unfold Va.ag at he; subst he; have HH2 := Lib.hid ((HH.out.set1 a).go hb); clear hb HH x0 x1 x2 x3 y0 y1 y2 y3 z0 z1 z2 z3 u0 u1 u2 u3 fz fu lz; obtain ⟨⟨x0, x1, x2, x3⟩, ⟨y0, y1, y2, y3⟩, ⟨z0, z1, z2, z3⟩, ⟨u0, u1, u2, u3⟩, fz, fu, _, lz⟩ := HH2.out))
  have hh3 := HH2.out.set2 b
  clear HH2 x0 x1 x2 x3 y0 y1 y2 y3 z0 z1 z2 z3 u0 u1 u2 u3 fz fu lz
  obtain ⟨w3, hw3⟩ : ∃ w3, ((((w2.setCell ⟨W.heap.size + 1 + 1 + 1, 0, none⟩ (.int .i64 b.k)).setCell ⟨W.heap.size + 1 + 1 + 1, 1, none⟩ (.int .i64 b.n)).setCell ⟨W.heap.size + 1 + 1 + 1, 2, none⟩ (.string b.t)).setCell ⟨W.heap.size + 1 + 1 + 1, 3, none⟩ (.int .i64 b.r)) = w3 := ⟨_, rfl⟩
  rw [hw3] at hh3 ⊢
  clear hw3
  have H4 := Lib.hid ((hh3.set1 a).set2 b)
  obtain ⟨-, -, ⟨z0, z1, z2, z3⟩, ⟨u0, u1, u2, u3⟩, fz, fu, -, lz⟩ := hh3
  go_region
  go_wp2_with fail
  replace H4 := H4.out
  clear z0 z1 z2 z3 u0 u1 u2 u3 fz fu lz
  obtain ⟨w4, hw4⟩ : ∃ w4, ((((((((((w3).setCell ⟨W.heap.size + 1 + 1, 0, none⟩ (.int .i64 a.k)).setCell ⟨W.heap.size + 1 + 1, 1, none⟩ (.int .i64 a.n)).setCell ⟨W.heap.size + 1 + 1, 2, none⟩ (.string a.t)).setCell ⟨W.heap.size + 1 + 1, 3, none⟩ (.int .i64 a.r))).setCell ⟨W.heap.size + 1 + 1 + 1, 0, none⟩ (.int .i64 b.k)).setCell ⟨W.heap.size + 1 + 1 + 1, 1, none⟩ (.int .i64 b.n)).setCell ⟨W.heap.size + 1 + 1 + 1, 2, none⟩ (.string b.t)).setCell ⟨W.heap.size + 1 + 1 + 1, 3, none⟩ (.int .i64 b.r)) = w4 := ⟨_, rfl⟩
  rw [hw4] at H4 ⊢
  clear hw4
  obtain ⟨-, -, ⟨z0, z1, z2, z3⟩, ⟨u0, u1, u2, u3⟩, -, -, hb4, lz⟩ := H4
  have HB2 : Hid (Below W.heap.size W w4) := hb4
  clear hb4
  exact bodyPost_ret (v := .tuple #[.agg #[.int .i64 a.k, .int .i64 a.n, .string a.t, .int .i64 a.r], .agg #[.int .i64 b.k, .int .i64 b.n, .string b.t, .int .i64 b.r], .bool true]) (by rw [results_cell2_tmp rfl]; go_simp) rfl ⟨rfl, by repeat (first | exact HB2.out | exact HB2.out.drew)⟩
end Go.Proofs.YtpjjpfjnjhahcaaGreatDoor
