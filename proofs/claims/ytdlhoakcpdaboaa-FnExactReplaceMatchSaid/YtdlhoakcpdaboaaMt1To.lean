/- toMatch, toMatchS of the laws. No condition. -/
import Derived.Test.YtdlhoakcpdaboaaMt1
namespace Go.Proofs.Ytdlhoakcpdaboaa
open Go Go.RowKit

/-- What toMatch answers. -/
def ToMt (x : Mt) (W : World) (e : Ending) (w' : World) : Prop := ∃ l, e = .returned (x.ag l) ∧ Hid (MtV w' w'.heap.size x l ∧ Below W.heap.size W w' ∧ l.n2 = x.captures_.length ∧ ∃ b2, l.A2 = some ⟨b2, 0, none⟩ ∧ W.heap.size ≤ b2)

set_option maxHeartbeats 2000000 in
set_option maxRecDepth 100000 in
theorem toMatch_any (x : Mt) (l : MtLay) (W : World) (ho : MtV W W.heap.size x l) (hsm : MtSmall x) :
    Calls Try.prog 12 #[x.ag l] W (ToMt x W) := by
  obtain ⟨x0, x1, x2⟩ := x
  obtain ⟨A2, n2, c2, h2⟩ := l
  have k2 := ho
  have s2 := hsm
  try unfold MtV at k2
  try unfold MtSmall at s2
  dsimp only at k2 s2
  rw [k2.1] at s2
  have HK2 := Lib.hid k2
  have HS2 := Lib.hid s2
  clear k2 s2
  have HC := Lib.hid (fun (X Y : World) (T T' : TypeId) (c c' : Array Value) (eY : Y = W.alloc (.cells #[.int .i64 x0, .int .i64 x1, .slice A2 n2 c2] T)) (eX : X = (Y.alloc (.cells c T')).alloc (.cells c' T')) =>
    (show RW T X W.heap.size #[.int .i64 x0, .int .i64 x1, .slice A2 n2 c2] ∧ RW T' X (W.heap.size + 1 + 1) c' ∧ RW T' X (W.heap.size + 1) c ∧ Below W.heap.size W X ∧ X.heap.size = W.heap.size + 3 from by
      subst eX; subst eY
      refine ⟨((RW.new W _ T).alloc _).alloc _, ?_, ?_, ((below_alloc _ _).alloc (by simp) _).alloc (by simp; omega) _, by simp⟩
      · have := RW.new ((W.alloc (.cells #[.int .i64 x0, .int .i64 x1, .slice A2 n2 c2] T)).alloc (.cells c T')) c' T'
        simpa using this
      · have := (RW.new (W.alloc (.cells #[.int .i64 x0, .int .i64 x1, .slice A2 n2 c2] T)) c T').alloc (.cells c' T')
        simpa using this))
  show Calls Try.prog 12 #[.agg #[.int .i64 x0, .int .i64 x1, .slice A2 n2 c2]] W _
  go_enter Try.func12, Try.ntmps12
  go_wp2_with (go_at_call 34; obtain ⟨g0, g1, g4, g2, g3⟩ := HC.out _ _ _ _ _ _ rfl rfl; have HQ := toCaptureS_any A2 n2 c2 x2 _ (HK2.out.go g2) HS2.out; refine Calls.mono HQ ?_; clear HQ; rintro e w1 ⟨rfl, h⟩; obtain ⟨hv, hb⟩ := h.out; rw [g3] at hv; have HA1 := Lib.hid (g0.below hb (by omega)); have HR1 := Lib.hid (g1.below hb (by omega)); have HO1 := Lib.hid (g4.below hb (by omega)); have HB1 := Lib.hid (g2.trans (hb.mono g2.size)); have HV1_2 : Hid (CpI w1 w1.heap.size (some ⟨W.heap.size + 1 + 1 + 1, 0, none⟩) n2 x2) := hv; have HG1 : Hid (W.heap.size + 3 ≤ w1.heap.size) := (by have := hb.size; show _ ≤ _; omega); clear g0 g1 g2 g3 g4 h hv hb HK2; have p12 : w1.cell? ⟨W.heap.size + 1 + 1, 2, none⟩ = some (.slice none 0 0) := HR1.out.cell 2; have f12 := HR1.out.frozen 2; have p10 : w1.cell? ⟨W.heap.size + 1 + 1, 0, none⟩ = some (.int .i64 x0) := HR1.out.cell 0; have p11 : w1.cell? ⟨W.heap.size + 1 + 1, 1, none⟩ = some (.int .i64 x1) := HR1.out.cell 1; have r0 : w1.cell? ⟨W.heap.size + 1, 0, none⟩ = some (.int .i64 0) := HO1.out.cell 0; have z0 := HO1.out.frozen 0; have r1 : w1.cell? ⟨W.heap.size + 1, 1, none⟩ = some (.int .i64 0) := HO1.out.cell 1; have z1 := HO1.out.frozen 1; have r2 : w1.cell? ⟨W.heap.size + 1, 2, none⟩ = some (.slice none 0 0) := HO1.out.cell 2; have z2 := HO1.out.frozen 2)
  have hs1 := HG1.out
  have hb1 : Below (W.heap.size + 1) w1 ((((w1.setCell ⟨W.heap.size + 1 + 1, 2, none⟩ (.slice (some ⟨W.heap.size + 1 + 1 + 1, 0, none⟩) n2 n2)).setCell ⟨W.heap.size + 1, 0, none⟩ (.int .i64 x0)).setCell ⟨W.heap.size + 1, 1, none⟩ (.int .i64 x1)).setCell ⟨W.heap.size + 1, 2, none⟩ (.slice (some ⟨W.heap.size + 1 + 1 + 1, 0, none⟩) n2 n2)) := ((((below_set w1 (p := ⟨W.heap.size + 1 + 1, 2, none⟩) (by simp) _).setCell (by simp) _).setCell (by simp) _).setCell (by simp) _)
  have hzz : ((((w1.setCell ⟨W.heap.size + 1 + 1, 2, none⟩ (.slice (some ⟨W.heap.size + 1 + 1 + 1, 0, none⟩) n2 n2)).setCell ⟨W.heap.size + 1, 0, none⟩ (.int .i64 x0)).setCell ⟨W.heap.size + 1, 1, none⟩ (.int .i64 x1)).setCell ⟨W.heap.size + 1, 2, none⟩ (.slice (some ⟨W.heap.size + 1 + 1 + 1, 0, none⟩) n2 n2)).heap.size = w1.heap.size := by simp [World.setCell]
  refine bodyPost_ret (v := .agg #[.int .i64 x0, .int .i64 x1, .slice (some ⟨W.heap.size + 1 + 1 + 1, 0, none⟩) n2 n2]) (results_cell_row Try.results12 _ _ (W.heap.size + 1) 29 _ (0, 0) _ rfl ((((((((HO1.out).other (p := ⟨W.heap.size + 1 + 1, 2, none⟩) (by simp) (.slice (some ⟨W.heap.size + 1 + 1 + 1, 0, none⟩) n2 n2))).set_ 0 (.int .i64 x0))).set_ 1 (.int .i64 x1))).set_ 2 (.slice (some ⟨W.heap.size + 1 + 1 + 1, 0, none⟩) n2 n2)) Try.underlying29 rfl (by kernel_rfl)) rfl ⟨⟨some ⟨W.heap.size + 1 + 1 + 1, 0, none⟩, n2, n2, Nat.le_refl _⟩, rfl, Lib.hid ⟨?_, HB1.out.trans (hb1.mono (by omega)), HV1_2.out.1.symm, _, rfl, by omega⟩⟩
  show MtV ((((w1.setCell ⟨W.heap.size + 1 + 1, 2, none⟩ (.slice (some ⟨W.heap.size + 1 + 1 + 1, 0, none⟩) n2 n2)).setCell ⟨W.heap.size + 1, 0, none⟩ (.int .i64 x0)).setCell ⟨W.heap.size + 1, 1, none⟩ (.int .i64 x1)).setCell ⟨W.heap.size + 1, 2, none⟩ (.slice (some ⟨W.heap.size + 1 + 1 + 1, 0, none⟩) n2 n2)) ((((w1.setCell ⟨W.heap.size + 1 + 1, 2, none⟩ (.slice (some ⟨W.heap.size + 1 + 1 + 1, 0, none⟩) n2 n2)).setCell ⟨W.heap.size + 1, 0, none⟩ (.int .i64 x0)).setCell ⟨W.heap.size + 1, 1, none⟩ (.int .i64 x1)).setCell ⟨W.heap.size + 1, 2, none⟩ (.slice (some ⟨W.heap.size + 1 + 1 + 1, 0, none⟩) n2 n2)).heap.size ⟨x0, x1, x2⟩ ⟨some ⟨W.heap.size + 1 + 1 + 1, 0, none⟩, n2, n2, Nat.le_refl _⟩
  rw [hzz]
  exact ((((((((HV1_2.out).other (p := ⟨W.heap.size + 1 + 1, 2, none⟩) (by first | (dsimp only; omega) | omega) _)).other (p := ⟨W.heap.size + 1, 0, none⟩) (by first | (dsimp only; omega) | omega) _)).other (p := ⟨W.heap.size + 1, 1, none⟩) (by first | (dsimp only; omega) | omega) _)).other (p := ⟨W.heap.size + 1, 2, none⟩) (by first | (dsimp only; omega) | omega) _)

/-- The elements of block g ahead of j are filled; their lists lie elsewhere. -/
def FilledMt (w : World) (g j n : Nat) (xs : List Mt) : Prop :=
  ∃ cs, RW 29 w g cs ∧ n * 3 ≤ cs.size ∧ ∀ (i : Nat) (x : Mt), i < j → xs[i]? = some x → ∃ l b2, l.A2 = some ⟨b2, 0, none⟩ ∧ g < b2 ∧ MtV w w.heap.size x l ∧ ∀ (q : Nat) (v : Value), (x.vs l)[q]? = some v → cs[i * 3 + q]? = some v
theorem FilledMt.below {w w' : World} {g j n : Nat} {xs : List Mt} (h : FilledMt w g j n xs) (hb : Below w.heap.size w w') : FilledMt w' g j n xs := by
  obtain ⟨cs, hr, hn, hm⟩ := h
  refine ⟨cs, hr.below hb hr.lt, hn, fun i x hi hx => ?_⟩
  obtain ⟨l, b2, h2, u2, h5, h6⟩ := hm i x hi hx
  exact ⟨l, b2, h2, u2, (h5.below hb).more hb.size, h6⟩
theorem MtV.others {w : World} {B g o : Nat} {x : Mt} {l : MtLay} {b2 : Nat} (h : MtV w B x l) (h2 : l.A2 = some ⟨b2, 0, none⟩) (u2 : b2 ≠ g) (vs : List Value) : MtV (w.setCells g o vs) B x l := by
  have a0 := h
  try unfold MtV at a0 ⊢
  rw [h2] at a0
  refine ?_
  · rw [h2]; exact a0.others u2
theorem size_sets (vs : List Value) (w : World) (g k : Nat) : (w.setCells g k vs).heap.size = w.heap.size := by
  induction vs generalizing w k with
  | nil => rfl
  | cons v r ih => exact (ih _ _).trans (size_set _ _ _)
theorem FilledMt.store {w : World} {g j n : Nat} {xs : List Mt} {x : Mt} {l : MtLay} {b2 : Nat} (h : FilledMt w g j n xs) (hx : xs[j]? = some x) (hj : j < n) (h2 : l.A2 = some ⟨b2, 0, none⟩) (u2 : g < b2) (h5 : MtV w w.heap.size x l) :
    FilledMt (w.setCells g (j * 3) (x.vs l)) g (j + 1) n xs := by
  obtain ⟨cs, hr, hn, hm⟩ := h
  have hs : (w.setCells g (j * 3) (x.vs l)).heap.size = w.heap.size := size_sets _ _ _ _
  have hlK : (x.vs l).length = 3 := rfl
  refine ⟨_, hr.cells, by rw [putL_size]; exact hn, fun i y hi hy => ?_⟩
  by_cases e : i = j
  · subst e
    rw [hx, Option.some.injEq] at hy
    subst hy
    refine ⟨l, b2, h2, u2, ?_, fun q v hq => putL_new _ _ _ _ _ (by rw [hlK]; omega) hq⟩
    rw [hs]
    exact h5.others h2 (by omega) _
  · obtain ⟨l', b2', j2, v2, k5, k6⟩ := hm i y (by omega) hy
    refine ⟨l', b2', j2, v2, ?_, fun q v hq => ?_⟩
    · rw [hs]
      exact k5.others j2 (by omega) _
    · have hqK : q < 3 := (List.getElem?_eq_some_iff.1 hq).1
      rw [putL_old _ _ _ _ (by omega)]
      exact k6 q v hq
theorem FilledMt.all {w : World} {g n : Nat} {xs : List Mt} (h : FilledMt w g n n xs) (hl : xs.length = n) (hn : n ≤ maxLen) : MtI w w.heap.size (some ⟨g, 0, none⟩) n xs := by
  obtain ⟨cs, hr, hc, hm⟩ := h
  refine ⟨hl, hn, fun _ => ⟨g, 0, rfl, hr.lt, fun j x hx => ?_⟩⟩
  obtain ⟨l, _, _, _, h5, h6⟩ := hm j x (by rw [← hl]; exact (List.getElem?_eq_some_iff.1 hx).1) hx
  rw [Nat.zero_add]
  have k : ∀ q v, (x.vs l)[q]? = some v → w.cell? ⟨g, j * 3 + q, none⟩ = some v := fun q v hq => (hr.cell _).trans (h6 q v hq)
  exact ⟨l, ⟨k 0 _ rfl, k 1 _ rfl, k 2 _ rfl⟩, h5⟩
theorem infoMt : (Try.prog.info? 29).map (fun i => (i.zero, i.size, i.bytes)) = some (some (Value.agg #[.int .i64 0, .int .i64 0, .slice none 0 0]), 3, 40) := by kernel_rfl
theorem ownMt {w : World} {B g n : Nat} {xs : List Value} (h : w.ownsRow B 29 3 (.slice (some ⟨g, 0, none⟩) n n) n xs) : ∃ cs, RW 29 w g cs ∧ n * 3 ≤ cs.size := by
  rcases h.2 with ⟨h', _⟩ | ⟨g', cap', cur, h', _, hg, _, _, hsz, _⟩
  · simp at h'
  · simp only [Value.slice.injEq, Option.some.injEq, Addr.mk.injEq, and_true, true_and] at h'
    obtain ⟨rfl, rfl⟩ := h'
    exact ⟨cur, hg, by omega⟩
/-- What toMatchS answers. -/
def ToMtS (xs : List Mt) (n : Nat) (W : World) (e : Ending) (w' : World) : Prop :=
  e = .returned (.slice (some ⟨W.heap.size, 0, none⟩) n n) ∧ Hid (MtI w' w'.heap.size (some ⟨W.heap.size, 0, none⟩) n xs ∧ Below W.heap.size W w')

end Go.Proofs.Ytdlhoakcpdaboaa
