/- Contract: comparisonTable. No condition. -/
import Derived.Test.YtpjjpfjnjhahcaaGreatDoorCmpC
import Derived.Laws.Rows
import Derived.Laws.Tables
import Derived.Laws.CopyOwn
namespace Go.Proofs.YtpjjpfjnjhahcaaGreatDoor
open Go Go.RowKit

/-- The closures of a table. -/
def FnL (B : Nat) (w : World) (l : List (Value × Nat × Nat × Nat)) : Prop := ∀ x ∈ l, FnAt B w x.1 x.2.1 x.2.2.1 x.2.2.2
theorem FnL.nil (B : Nat) (w : World) : FnL B w [] := fun _ h => by cases h
theorem FnL.add {B : Nat} {w w' : World} {l : List (Value × Nat × Nat × Nat)} (h : FnL B w l) (hb : Below w.heap.size w w') {v : Value} {c F H B' : Nat} (hv : FnAt B' w' v c F H) (hB : B ≤ B') : FnL B w' (l ++ [(v, c, F, H)]) := fun x hx => by
  rw [List.mem_append] at hx
  rcases hx with hx | hx
  · exact (h x hx).go hb
  · rw [List.mem_singleton] at hx
    subst hx
    obtain ⟨g, h1, h2, h3, h4, h5⟩ := hv
    exact ⟨g, h1, h2, h3, h4, Nat.le_trans hB h5⟩
theorem FnL.set {B : Nat} {w : World} {l : List (Value × Nat × Nat × Nat)} (h : FnL B w l) {p : Addr} (hp : p.block < B) (u : Value) : FnL B (w.setCell p u) l := fun x hx => (h x hx).set hp u
theorem FnL.row {B : Nat} {w : World} {l : List (Value × Nat × Nat × Nat)} (h : FnL B w l) {g : Nat} (hp : g < B) (cs : Array Value) : FnL B (w.setRow g cs) l := fun x hx => by
  obtain ⟨q, h1, h2, h3, h4, h5⟩ := h x hx
  exact ⟨q, h1, (cell_setRow_other w g cs ⟨q, 0, none⟩ (by show q ≠ g; omega)).trans h2, (cell_setRow_other w g cs ⟨q + 1, 0, none⟩ (by show q + 1 ≠ g; omega)).trans h3, by simpa using h4, h5⟩
/-- The result's block. -/
def R9 (W w : World) : Prop := w.heap[W.heap.size]? = some (.cells #[.nilFunc, .nilFunc, .nilFunc, .nilFunc, .nilFunc, .nilFunc, .nilFunc, .nilFunc, .nilFunc] 44 (0, 0)) ∧ Below W.heap.size W w ∧ W.heap.size < w.heap.size
theorem R9.go {W w w' : World} (h : R9 W w) (hb : Below w.heap.size w w') : R9 W w' := ⟨(hb.block _ h.2.2).trans h.1, h.2.1.trans (hb.mono h.2.1.size), Nat.lt_of_lt_of_le h.2.2 hb.size⟩
theorem R9.new (W : World) : ∀ X, X = W.alloc (.cells #[.nilFunc, .nilFunc, .nilFunc, .nilFunc, .nilFunc, .nilFunc, .nilFunc, .nilFunc, .nilFunc] 44) → R9 W X := fun X e => by
  subst e
  exact ⟨(MapKept.heap_alloc W _).1, (Below.refl _ _).alloc (Nat.le_refl _) _, by simp⟩
theorem R9.cell {W w : World} (h : R9 W w) : w.cell? ⟨W.heap.size, 0, none⟩ = some .nilFunc ∧ w.cell? ⟨W.heap.size, 1, none⟩ = some .nilFunc ∧ w.cell? ⟨W.heap.size, 2, none⟩ = some .nilFunc ∧ w.cell? ⟨W.heap.size, 3, none⟩ = some .nilFunc ∧ w.cell? ⟨W.heap.size, 4, none⟩ = some .nilFunc ∧ w.cell? ⟨W.heap.size, 5, none⟩ = some .nilFunc ∧ w.cell? ⟨W.heap.size, 6, none⟩ = some .nilFunc ∧ w.cell? ⟨W.heap.size, 7, none⟩ = some .nilFunc ∧ w.cell? ⟨W.heap.size, 8, none⟩ = some .nilFunc := by
  have h1 := h.1
  refine ⟨?_, ?_, ?_, ?_, ?_, ?_, ?_, ?_, ?_⟩ <;> simp [World.cell?, h1]
theorem R9.frz {W w : World} (h : R9 W w) : ∀ i, w.frozen? ⟨W.heap.size, i, none⟩ = false := fun i => by
  have h1 := h.1
  unfold World.frozen?
  rw [h1]
  simp
theorem wpList_build' {P : Program} {ops : Array Oper} {rest : List Oper} {o : Oper} {a : Act} {w : World} {Q : Exit → Act → World → Prop} (hg : o.guard = none) (t : TypeId) (parts : Array (Nat × Operand)) (ho : o.op = .build t parts) (cells : Array Value)
    (hb : P.built t (parts.map fun (i, x) => (i, a.eval x)).toList = some cells) (h : wpList P ops Q rest (a.put o.dst (.agg cells)) w) : wpList P ops Q (o :: rest) a w :=
  wpList_build hg t parts ho (by rw [hb]; rfl) (by rw [hb]; exact h)
set_option maxHeartbeats 2000000 in
set_option maxRecDepth 100000 in
theorem table_any (W : World) :
    Calls Tryz.prog 15 #[] W fun e w' => (∃ v1 v2 v3 v4 v5 v6 v7 v8 v9, e = .returned (.agg #[v1, v2, v3, v4, v5, v6, v7, v8, v9]) ∧ FnL (W.heap.size + 1) w' [(v1, 53, 27, 28), (v2, 53, 27, 29), (v3, 53, 27, 30), (v4, 53, 27, 31), (v5, 53, 27, 32), (v6, 53, 27, 33), (v7, 59, 35, 36), (v8, 59, 35, 37), (v9, 61, 39, 40)]) ∧ Below W.heap.size W w' := by
  have H0 := Lib.hid (R9.new W)
  have hi : (Tryz.prog.info? 44).map (·.size) = some 9 := by kernel_rfl
  have K1 : True := trivial
  have K2 : True := trivial
  have K3 : True := trivial
  have K4 : True := trivial
  have K5 : True := trivial
  have K6 : True := trivial
  have K7 : True := trivial
  have K8 : True := trivial
  have K9 : True := trivial
  go_enter Tryz.func15, Tryz.ntmps15
  go_wp2_with (first
    | (go_at_call 26; have tk1 := K1; clear tk1 K1; have HR := Lib.hid (H0.out _ rfl); have HF := Lib.hid (FnL.nil (W.heap.size + 1) (W.alloc (.cells #[.nilFunc, .nilFunc, .nilFunc, .nilFunc, .nilFunc, .nilFunc, .nilFunc, .nilFunc, .nilFunc] 44))); have ls := HR.out.2.2; refine Calls.mono (mkI_any _ _ _) ?_; rintro e w1 ⟨⟨v, rfl, ⟨g1, rfl, hr⟩⟩, hb⟩; have hv : FnAt _ w1 _ 53 27 28 := ⟨g1, rfl, hr⟩; replace HF := Lib.hid (HF.out.add hb hv (by first | exact ls | (simp; done))); replace HR := Lib.hid (HR.out.go hb); clear hb hv hr ls)
    | (go_at_call 26; have tk2 := K2; clear tk2 K2; have ls := HR.out.2.2; refine Calls.mono (mkI_any _ _ _) ?_; rintro e w1 ⟨⟨v, rfl, ⟨g2, rfl, hr⟩⟩, hb⟩; have hv : FnAt _ w1 _ 53 27 29 := ⟨g2, rfl, hr⟩; replace HF := Lib.hid (HF.out.add hb hv (by first | exact ls | (simp; done))); replace HR := Lib.hid (HR.out.go hb); clear hb hv hr ls)
    | (go_at_call 26; have tk3 := K3; clear tk3 K3; have ls := HR.out.2.2; refine Calls.mono (mkI_any _ _ _) ?_; rintro e w1 ⟨⟨v, rfl, ⟨g3, rfl, hr⟩⟩, hb⟩; have hv : FnAt _ w1 _ 53 27 30 := ⟨g3, rfl, hr⟩; replace HF := Lib.hid (HF.out.add hb hv (by first | exact ls | (simp; done))); replace HR := Lib.hid (HR.out.go hb); clear hb hv hr ls)
    | (go_at_call 26; have tk4 := K4; clear tk4 K4; have ls := HR.out.2.2; refine Calls.mono (mkI_any _ _ _) ?_; rintro e w1 ⟨⟨v, rfl, ⟨g4, rfl, hr⟩⟩, hb⟩; have hv : FnAt _ w1 _ 53 27 31 := ⟨g4, rfl, hr⟩; replace HF := Lib.hid (HF.out.add hb hv (by first | exact ls | (simp; done))); replace HR := Lib.hid (HR.out.go hb); clear hb hv hr ls)
    | (go_at_call 26; have tk5 := K5; clear tk5 K5; have ls := HR.out.2.2; refine Calls.mono (mkI_any _ _ _) ?_; rintro e w1 ⟨⟨v, rfl, ⟨g5, rfl, hr⟩⟩, hb⟩; have hv : FnAt _ w1 _ 53 27 32 := ⟨g5, rfl, hr⟩; replace HF := Lib.hid (HF.out.add hb hv (by first | exact ls | (simp; done))); replace HR := Lib.hid (HR.out.go hb); clear hb hv hr ls)
    | (go_at_call 26; have tk6 := K6; clear tk6 K6; have ls := HR.out.2.2; refine Calls.mono (mkI_any _ _ _) ?_; rintro e w1 ⟨⟨v, rfl, ⟨g6, rfl, hr⟩⟩, hb⟩; have hv : FnAt _ w1 _ 53 27 33 := ⟨g6, rfl, hr⟩; replace HF := Lib.hid (HF.out.add hb hv (by first | exact ls | (simp; done))); replace HR := Lib.hid (HR.out.go hb); clear hb hv hr ls)
    | (go_at_call 34; have tk7 := K7; clear tk7 K7; have ls := HR.out.2.2; refine Calls.mono (mkV_any _ _ _) ?_; rintro e w1 ⟨⟨v, rfl, ⟨g7, rfl, hr⟩⟩, hb⟩; have hv : FnAt _ w1 _ 59 35 36 := ⟨g7, rfl, hr⟩; replace HF := Lib.hid (HF.out.add hb hv (by first | exact ls | (simp; done))); replace HR := Lib.hid (HR.out.go hb); clear hb hv hr ls)
    | (go_at_call 34; have tk8 := K8; clear tk8 K8; have ls := HR.out.2.2; refine Calls.mono (mkV_any _ _ _) ?_; rintro e w1 ⟨⟨v, rfl, ⟨g8, rfl, hr⟩⟩, hb⟩; have hv : FnAt _ w1 _ 59 35 37 := ⟨g8, rfl, hr⟩; replace HF := Lib.hid (HF.out.add hb hv (by first | exact ls | (simp; done))); replace HR := Lib.hid (HR.out.go hb); clear hb hv hr ls))
  go_at_call 38
  rename_i hK9
  have tk9 := K9
  clear tk9 K9
  have ls := HR.out.2.2
  refine Calls.mono (mkS_any _ _ _) ?_
  rintro e w1 ⟨⟨v, rfl, ⟨g9, rfl, hr⟩⟩, hb⟩
  have hv : FnAt _ w1 _ 61 39 40 := ⟨g9, rfl, hr⟩
  replace HF := Lib.hid (HF.out.add hb hv (by exact ls))
  replace HR := Lib.hid (HR.out.go hb)
  clear hb hv hr ls
  refine hK9 _ _ ?_
  clear hK9
  refine wpList_build' rfl 44 _ rfl #[.func (.func 53) #[] #[.pointer (some ⟨g1, 0, none⟩), .pointer (some ⟨g1 + 1, 0, none⟩)], .func (.func 53) #[] #[.pointer (some ⟨g2, 0, none⟩), .pointer (some ⟨g2 + 1, 0, none⟩)], .func (.func 53) #[] #[.pointer (some ⟨g3, 0, none⟩), .pointer (some ⟨g3 + 1, 0, none⟩)], .func (.func 53) #[] #[.pointer (some ⟨g4, 0, none⟩), .pointer (some ⟨g4 + 1, 0, none⟩)], .func (.func 53) #[] #[.pointer (some ⟨g5, 0, none⟩), .pointer (some ⟨g5 + 1, 0, none⟩)], .func (.func 53) #[] #[.pointer (some ⟨g6, 0, none⟩), .pointer (some ⟨g6 + 1, 0, none⟩)], .func (.func 59) #[] #[.pointer (some ⟨g7, 0, none⟩), .pointer (some ⟨g7 + 1, 0, none⟩)], .func (.func 59) #[] #[.pointer (some ⟨g8, 0, none⟩), .pointer (some ⟨g8 + 1, 0, none⟩)], .func (.func 61) #[] #[.pointer (some ⟨g9, 0, none⟩), .pointer (some ⟨g9 + 1, 0, none⟩)]] (by kernel_rfl) ?_
  refine wpList_store_row rfl 44 _ _ rfl W.heap.size #[.func (.func 53) #[] #[.pointer (some ⟨g1, 0, none⟩), .pointer (some ⟨g1 + 1, 0, none⟩)], .func (.func 53) #[] #[.pointer (some ⟨g2, 0, none⟩), .pointer (some ⟨g2 + 1, 0, none⟩)], .func (.func 53) #[] #[.pointer (some ⟨g3, 0, none⟩), .pointer (some ⟨g3 + 1, 0, none⟩)], .func (.func 53) #[] #[.pointer (some ⟨g4, 0, none⟩), .pointer (some ⟨g4 + 1, 0, none⟩)], .func (.func 53) #[] #[.pointer (some ⟨g5, 0, none⟩), .pointer (some ⟨g5 + 1, 0, none⟩)], .func (.func 53) #[] #[.pointer (some ⟨g6, 0, none⟩), .pointer (some ⟨g6 + 1, 0, none⟩)], .func (.func 59) #[] #[.pointer (some ⟨g7, 0, none⟩), .pointer (some ⟨g7 + 1, 0, none⟩)], .func (.func 59) #[] #[.pointer (some ⟨g8, 0, none⟩), .pointer (some ⟨g8 + 1, 0, none⟩)], .func (.func 61) #[] #[.pointer (some ⟨g9, 0, none⟩), .pointer (some ⟨g9 + 1, 0, none⟩)]] rfl rfl 44 _ HR.out.1 hi rfl (by first | (simp [Value.oneCell']; done) | (simp [Value.oneCell', Value.cells]; done) | kernel_rfl) ?_
  go_wp2_with fail
  exact bodyPost_ret (results_cell_row Tryz.results15 _ _ W.heap.size 44 _ (0, 0) _ rfl (setRow_heap _ _ _ _ _ _ HR.out.1) Tryz.underlying44 rfl (by exact hi)) rfl
    ⟨⟨_, _, _, _, _, _, _, _, _, rfl, HF.out.row (Nat.lt_succ_self _) _⟩, below_setRow HR.out.2.1 (Nat.le_refl _) _⟩
end Go.Proofs.YtpjjpfjnjhahcaaGreatDoor
