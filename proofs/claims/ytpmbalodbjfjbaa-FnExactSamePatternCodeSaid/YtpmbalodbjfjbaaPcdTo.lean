/- toPatternCode, toPatternCodeS of the laws. No condition. -/
import Derived.Test.YtpmbalodbjfjbaaPcd
namespace Go.Proofs.Ytpmbalodbjfjbaa
open Go Go.RowKit

/-- What toPatternCode answers. -/
def ToPc (x : Pc) (W : World) (e : Ending) (w' : World) : Prop := ∃ l, e = .returned (x.ag l) ∧ Hid (PcV w' w'.heap.size x l ∧ Below W.heap.size W w' ∧ l.n0 = x.code_.length ∧ l.n1 = x.entries_.length ∧ ∃ b0 b1, l.A0 = some ⟨b0, 0, none⟩ ∧ l.A1 = some ⟨b1, 0, none⟩ ∧ W.heap.size ≤ b0 ∧ W.heap.size ≤ b1)

set_option maxHeartbeats 2000000 in
set_option maxRecDepth 100000 in
theorem toPatternCode_any (x : Pc) (l : PcLay) (W : World) (ho : PcV W W.heap.size x l) (hsm : PcSmall x) :
    Calls Try.prog 9 #[x.ag l] W (ToPc x W) := by
  obtain ⟨x0, x1⟩ := x
  obtain ⟨A0, n0, c0, h0, A1, n1, c1, h1⟩ := l
  obtain ⟨k0, k1⟩ := ho
  obtain ⟨s0, s1⟩ := hsm
  try unfold PcV at k0 k1
  try unfold PcSmall at s0 s1
  dsimp only at k0 k1 s0 s1
  rw [k0.1] at s0
  have HK0 := Lib.hid k0
  have HS0 := Lib.hid s0
  rw [k1.1] at s1
  have HK1 := Lib.hid k1
  have HS1 := Lib.hid s1
  clear k0 k1 s0 s1
  have HC := Lib.hid (fun (X Y : World) (T T' : TypeId) (c c' : Array Value) (eY : Y = W.alloc (.cells #[.slice A0 n0 c0, .slice A1 n1 c1] T)) (eX : X = (Y.alloc (.cells c T')).alloc (.cells c' T')) =>
    (show RW T X W.heap.size #[.slice A0 n0 c0, .slice A1 n1 c1] ∧ RW T' X (W.heap.size + 1 + 1) c' ∧ RW T' X (W.heap.size + 1) c ∧ Below W.heap.size W X ∧ X.heap.size = W.heap.size + 3 from by
      subst eX; subst eY
      refine ⟨((RW.new W _ T).alloc _).alloc _, ?_, ?_, ((below_alloc _ _).alloc (by simp) _).alloc (by simp; omega) _, by simp⟩
      · have := RW.new ((W.alloc (.cells #[.slice A0 n0 c0, .slice A1 n1 c1] T)).alloc (.cells c T')) c' T'
        simpa using this
      · have := (RW.new (W.alloc (.cells #[.slice A0 n0 c0, .slice A1 n1 c1] T)) c T').alloc (.cells c' T')
        simpa using this))
  show Calls Try.prog 9 #[.agg #[.slice A0 n0 c0, .slice A1 n1 c1]] W _
  go_enter Try.func9, Try.ntmps9
  go_wp2_with (go_at_call 26; obtain ⟨g0, g1, g4, g2, g3⟩ := HC.out _ _ _ _ _ _ rfl rfl; have HQ := toPatternInsS_any A0 n0 c0 x0 _ (HK0.out.go g2) HS0.out; refine Calls.mono HQ ?_; clear HQ; rintro e w1 ⟨rfl, h⟩; obtain ⟨hv, hb⟩ := h.out; rw [g3] at hv; have HA1 := Lib.hid (g0.below hb (by omega)); have HR1 := Lib.hid (g1.below hb (by omega)); have HO1 := Lib.hid (g4.below hb (by omega)); have HB1 := Lib.hid (g2.trans (hb.mono g2.size)); have HV1_0 : Hid (PiI w1 w1.heap.size (some ⟨W.heap.size + 1 + 1 + 1, 0, none⟩) n0 x0) := hv; have HG1 : Hid (W.heap.size + 3 ≤ w1.heap.size) := (by have := hb.size; show _ ≤ _; omega); clear g0 g1 g2 g3 g4 h hv hb HK0; have q11 : w1.cell? ⟨W.heap.size, 1, none⟩ = some (.slice A1 n1 c1) := HA1.out.cell 1; have p10 : w1.cell? ⟨W.heap.size + 1 + 1, 0, none⟩ = some (.slice none 0 0) := HR1.out.cell 0; have f10 := HR1.out.frozen 0)
  go_wp2_with (go_at_call 27; have hbs : Below (W.heap.size + 2) w1 (w1.setCell ⟨W.heap.size + 1 + 1, 0, none⟩ (.slice (some ⟨W.heap.size + 1 + 1 + 1, 0, none⟩) n0 n0)) := below_set w1 (p := ⟨W.heap.size + 1 + 1, 0, none⟩) (B := W.heap.size + 2) (Nat.le_refl _) (.slice (some ⟨W.heap.size + 1 + 1 + 1, 0, none⟩) n0 n0); have hzz : (w1.setCell ⟨W.heap.size + 1 + 1, 0, none⟩ (.slice (some ⟨W.heap.size + 1 + 1 + 1, 0, none⟩) n0 n0)).heap.size = w1.heap.size := (by simp [World.setCell]); have HQ := toPatternEntryS_any A1 n1 c1 x1 (w1.setCell ⟨W.heap.size + 1 + 1, 0, none⟩ (.slice (some ⟨W.heap.size + 1 + 1 + 1, 0, none⟩) n0 n0)) (HK1.out.go (HB1.out.trans (hbs.mono (by omega)))) HS1.out; refine Calls.mono HQ ?_; clear HQ; rintro e w2 ⟨rfl, h⟩; obtain ⟨hv, hb⟩ := h.out; rw [hzz] at hb hv; have hsz := hb.size; rw [hzz] at hsz; have hs1 := HG1.out; have HA2 := Lib.hid ((HA1.out.below hbs (by omega)).below hb (by omega)); have HR2 := Lib.hid (((HR1.out).set_ 0 (.slice (some ⟨W.heap.size + 1 + 1 + 1, 0, none⟩) n0 n0)).below hb (by omega)); have HO2 := Lib.hid ((HO1.out.below hbs (by omega)).below hb (by omega)); have HB2 := Lib.hid ((HB1.out.trans (hbs.mono (by omega))).trans (hb.mono (by omega))); have HG2 : Hid (W.heap.size + 3 ≤ w2.heap.size) := (Nat.le_trans hs1 hsz); have HV2_1 : Hid (PeI w2 w2.heap.size (some ⟨w1.heap.size, 0, none⟩) n1 x1) := hv; have HZ2 : Hid (w1.heap.size ≠ W.heap.size + 1 + 1) := (by show _ ≠ _; omega); have HV2_0 := Lib.hid ((((HV1_0.out).other (p := ⟨W.heap.size + 1 + 1, 0, none⟩) (by simp) (.slice (some ⟨W.heap.size + 1 + 1 + 1, 0, none⟩) n0 n0)).below hb).more hsz); clear hbs hzz hb hv h hsz hs1 HK1; have p21 : w2.cell? ⟨W.heap.size + 1 + 1, 1, none⟩ = some (.slice none 0 0) := HR2.out.cell 1; have f21 := HR2.out.frozen 1; have p20 : w2.cell? ⟨W.heap.size + 1 + 1, 0, none⟩ = some (.slice (some ⟨W.heap.size + 1 + 1 + 1, 0, none⟩) n0 n0) := HR2.out.cell 0; have r0 : w2.cell? ⟨W.heap.size + 1, 0, none⟩ = some (.slice none 0 0) := HO2.out.cell 0; have z0 := HO2.out.frozen 0; have r1 : w2.cell? ⟨W.heap.size + 1, 1, none⟩ = some (.slice none 0 0) := HO2.out.cell 1; have z1 := HO2.out.frozen 1)
  have hs1 := HG2.out
  have hb1 : Below (W.heap.size + 1) w2 (((w2.setCell ⟨W.heap.size + 1 + 1, 1, none⟩ (.slice (some ⟨w1.heap.size, 0, none⟩) n1 n1)).setCell ⟨W.heap.size + 1, 0, none⟩ (.slice (some ⟨W.heap.size + 1 + 1 + 1, 0, none⟩) n0 n0)).setCell ⟨W.heap.size + 1, 1, none⟩ (.slice (some ⟨w1.heap.size, 0, none⟩) n1 n1)) := (((below_set w2 (p := ⟨W.heap.size + 1 + 1, 1, none⟩) (by simp) _).setCell (by simp) _).setCell (by simp) _)
  have hzz : (((w2.setCell ⟨W.heap.size + 1 + 1, 1, none⟩ (.slice (some ⟨w1.heap.size, 0, none⟩) n1 n1)).setCell ⟨W.heap.size + 1, 0, none⟩ (.slice (some ⟨W.heap.size + 1 + 1 + 1, 0, none⟩) n0 n0)).setCell ⟨W.heap.size + 1, 1, none⟩ (.slice (some ⟨w1.heap.size, 0, none⟩) n1 n1)).heap.size = w2.heap.size := by simp [World.setCell]
  refine bodyPost_ret (v := .agg #[.slice (some ⟨W.heap.size + 1 + 1 + 1, 0, none⟩) n0 n0, .slice (some ⟨w1.heap.size, 0, none⟩) n1 n1]) (results_cell_row Try.results9 _ _ (W.heap.size + 1) 31 _ (0, 0) _ rfl ((((((HO2.out).other (p := ⟨W.heap.size + 1 + 1, 1, none⟩) (by simp) (.slice (some ⟨w1.heap.size, 0, none⟩) n1 n1))).set_ 0 (.slice (some ⟨W.heap.size + 1 + 1 + 1, 0, none⟩) n0 n0))).set_ 1 (.slice (some ⟨w1.heap.size, 0, none⟩) n1 n1)) Try.underlying31 rfl (by kernel_rfl)) rfl ⟨⟨some ⟨W.heap.size + 1 + 1 + 1, 0, none⟩, n0, n0, Nat.le_refl _, some ⟨w1.heap.size, 0, none⟩, n1, n1, Nat.le_refl _⟩, rfl, Lib.hid ⟨?_, HB2.out.trans (hb1.mono (by omega)), HV2_0.out.1.symm, HV2_1.out.1.symm, _, _, rfl, rfl, by omega, by have := HG1.out; have := HG2.out; omega⟩⟩
  show PcV (((w2.setCell ⟨W.heap.size + 1 + 1, 1, none⟩ (.slice (some ⟨w1.heap.size, 0, none⟩) n1 n1)).setCell ⟨W.heap.size + 1, 0, none⟩ (.slice (some ⟨W.heap.size + 1 + 1 + 1, 0, none⟩) n0 n0)).setCell ⟨W.heap.size + 1, 1, none⟩ (.slice (some ⟨w1.heap.size, 0, none⟩) n1 n1)) (((w2.setCell ⟨W.heap.size + 1 + 1, 1, none⟩ (.slice (some ⟨w1.heap.size, 0, none⟩) n1 n1)).setCell ⟨W.heap.size + 1, 0, none⟩ (.slice (some ⟨W.heap.size + 1 + 1 + 1, 0, none⟩) n0 n0)).setCell ⟨W.heap.size + 1, 1, none⟩ (.slice (some ⟨w1.heap.size, 0, none⟩) n1 n1)).heap.size ⟨x0, x1⟩ ⟨some ⟨W.heap.size + 1 + 1 + 1, 0, none⟩, n0, n0, Nat.le_refl _, some ⟨w1.heap.size, 0, none⟩, n1, n1, Nat.le_refl _⟩
  rw [hzz]
  exact ⟨((((((HV2_0.out).other (p := ⟨W.heap.size + 1 + 1, 1, none⟩) (by first | (dsimp only; omega) | omega) _)).other (p := ⟨W.heap.size + 1, 0, none⟩) (by first | (dsimp only; omega) | omega) _)).other (p := ⟨W.heap.size + 1, 1, none⟩) (by first | (dsimp only; omega) | omega) _), ((((((HV2_1.out).other (p := ⟨W.heap.size + 1 + 1, 1, none⟩) (by have := HG1.out; first | (dsimp only; omega) | omega) _)).other (p := ⟨W.heap.size + 1, 0, none⟩) (by have := HG1.out; first | (dsimp only; omega) | omega) _)).other (p := ⟨W.heap.size + 1, 1, none⟩) (by have := HG1.out; first | (dsimp only; omega) | omega) _)⟩

/-- The elements of block g ahead of j are filled; their lists lie elsewhere. -/
def FilledPc (w : World) (g j n : Nat) (xs : List Pc) : Prop :=
  ∃ cs, RW 31 w g cs ∧ n * 2 ≤ cs.size ∧ ∀ (i : Nat) (x : Pc), i < j → xs[i]? = some x → ∃ l b0 b1, l.A0 = some ⟨b0, 0, none⟩ ∧ l.A1 = some ⟨b1, 0, none⟩ ∧ g < b0 ∧ g < b1 ∧ PcV w w.heap.size x l ∧ ∀ (q : Nat) (v : Value), (x.vs l)[q]? = some v → cs[i * 2 + q]? = some v
theorem FilledPc.below {w w' : World} {g j n : Nat} {xs : List Pc} (h : FilledPc w g j n xs) (hb : Below w.heap.size w w') : FilledPc w' g j n xs := by
  obtain ⟨cs, hr, hn, hm⟩ := h
  refine ⟨cs, hr.below hb hr.lt, hn, fun i x hi hx => ?_⟩
  obtain ⟨l, b0, b1, h0, h1, u0, u1, h5, h6⟩ := hm i x hi hx
  exact ⟨l, b0, b1, h0, h1, u0, u1, (h5.below hb).more hb.size, h6⟩
theorem PcV.others {w : World} {B g o : Nat} {x : Pc} {l : PcLay} {b0 b1 : Nat} (h : PcV w B x l) (h0 : l.A0 = some ⟨b0, 0, none⟩) (h1 : l.A1 = some ⟨b1, 0, none⟩) (u0 : b0 ≠ g) (u1 : b1 ≠ g) (vs : List Value) : PcV (w.setCells g o vs) B x l := by
  obtain ⟨a0, a1⟩ := h
  try unfold PcV at a0 a1 ⊢
  rw [h0] at a0
  rw [h1] at a1
  refine ⟨?_, ?_⟩
  · rw [h0]; exact a0.others u0
  · rw [h1]; exact a1.others u1
theorem size_sets (vs : List Value) (w : World) (g k : Nat) : (w.setCells g k vs).heap.size = w.heap.size := by
  induction vs generalizing w k with
  | nil => rfl
  | cons v r ih => exact (ih _ _).trans (size_set _ _ _)
theorem FilledPc.store {w : World} {g j n : Nat} {xs : List Pc} {x : Pc} {l : PcLay} {b0 b1 : Nat} (h : FilledPc w g j n xs) (hx : xs[j]? = some x) (hj : j < n) (h0 : l.A0 = some ⟨b0, 0, none⟩) (h1 : l.A1 = some ⟨b1, 0, none⟩) (u0 : g < b0) (u1 : g < b1) (h5 : PcV w w.heap.size x l) :
    FilledPc (w.setCells g (j * 2) (x.vs l)) g (j + 1) n xs := by
  obtain ⟨cs, hr, hn, hm⟩ := h
  have hs : (w.setCells g (j * 2) (x.vs l)).heap.size = w.heap.size := size_sets _ _ _ _
  have hlK : (x.vs l).length = 2 := rfl
  refine ⟨_, hr.cells, by rw [putL_size]; exact hn, fun i y hi hy => ?_⟩
  by_cases e : i = j
  · subst e
    rw [hx, Option.some.injEq] at hy
    subst hy
    refine ⟨l, b0, b1, h0, h1, u0, u1, ?_, fun q v hq => putL_new _ _ _ _ _ (by rw [hlK]; omega) hq⟩
    rw [hs]
    exact h5.others h0 h1 (by omega) (by omega) _
  · obtain ⟨l', b0', b1', j0, j1, v0, v1, k5, k6⟩ := hm i y (by omega) hy
    refine ⟨l', b0', b1', j0, j1, v0, v1, ?_, fun q v hq => ?_⟩
    · rw [hs]
      exact k5.others j0 j1 (by omega) (by omega) _
    · have hqK : q < 2 := (List.getElem?_eq_some_iff.1 hq).1
      rw [putL_old _ _ _ _ (by omega)]
      exact k6 q v hq
theorem FilledPc.all {w : World} {g n : Nat} {xs : List Pc} (h : FilledPc w g n n xs) (hl : xs.length = n) (hn : n ≤ maxLen) : PcI w w.heap.size (some ⟨g, 0, none⟩) n xs := by
  obtain ⟨cs, hr, hc, hm⟩ := h
  refine ⟨hl, hn, fun _ => ⟨g, 0, rfl, hr.lt, fun j x hx => ?_⟩⟩
  obtain ⟨l, _, _, _, _, _, _, h5, h6⟩ := hm j x (by rw [← hl]; exact (List.getElem?_eq_some_iff.1 hx).1) hx
  rw [Nat.zero_add]
  have k : ∀ q v, (x.vs l)[q]? = some v → w.cell? ⟨g, j * 2 + q, none⟩ = some v := fun q v hq => (hr.cell _).trans (h6 q v hq)
  exact ⟨l, ⟨k 0 _ rfl, k 1 _ rfl⟩, h5⟩
theorem infoPc : (Try.prog.info? 31).map (fun i => (i.zero, i.size, i.bytes)) = some (some (Value.agg #[.slice none 0 0, .slice none 0 0]), 2, 48) := by kernel_rfl
theorem ownPc {w : World} {B g n : Nat} {xs : List Value} (h : w.ownsRow B 31 2 (.slice (some ⟨g, 0, none⟩) n n) n xs) : ∃ cs, RW 31 w g cs ∧ n * 2 ≤ cs.size := by
  rcases h.2 with ⟨h', _⟩ | ⟨g', cap', cur, h', _, hg, _, _, hsz, _⟩
  · simp at h'
  · simp only [Value.slice.injEq, Option.some.injEq, Addr.mk.injEq, and_true, true_and] at h'
    obtain ⟨rfl, rfl⟩ := h'
    exact ⟨cur, hg, by omega⟩
/-- What toPatternCodeS answers. -/
def ToPcS (xs : List Pc) (n : Nat) (W : World) (e : Ending) (w' : World) : Prop :=
  e = .returned (.slice (some ⟨W.heap.size, 0, none⟩) n n) ∧ Hid (PcI w' w'.heap.size (some ⟨W.heap.size, 0, none⟩) n xs ∧ Below W.heap.size W w')

end Go.Proofs.Ytpmbalodbjfjbaa
