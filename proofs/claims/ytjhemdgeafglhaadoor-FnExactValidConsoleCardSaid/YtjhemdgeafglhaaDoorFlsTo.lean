/- toFile, toFileS of the laws. No condition. -/
import Derived.Test.YtjhemdgeafglhaaDoorFls
namespace Go.Proofs.YtjhemdgeafglhaaDoor
open Go Go.RowKit

/-- What toFile answers. -/
def ToFl (x : Fl) (W : World) (e : Ending) (w' : World) : Prop := ∃ l, e = .returned (x.ag l) ∧ Hid (FlV w' w'.heap.size x l ∧ Below W.heap.size W w' ∧ l.n1 = x.lines_.length ∧ ∃ b1, l.A1 = some ⟨b1, 0, none⟩ ∧ W.heap.size ≤ b1)

set_option maxHeartbeats 2000000 in
set_option maxRecDepth 100000 in
theorem toFile_any (x : Fl) (l : FlLay) (W : World) (ho : FlV W W.heap.size x l) (hsm : FlSmall x) :
    Calls Tryd.prog 66 #[x.ag l] W (ToFl x W) := by
  obtain ⟨x0, x1, x2, x3⟩ := x
  obtain ⟨A1, n1, c1, h1⟩ := l
  obtain ⟨k1, k0⟩ := ho
  have s1 := hsm
  try unfold FlV at k1 k0
  try unfold FlSmall at s1
  dsimp only at k1 k0 s1
  rw [k1.1] at s1
  have HK1 := Lib.hid k1
  have HS1 := Lib.hid s1
  have HT0 := Lib.hid k0
  clear k1 k0 s1
  have HC := Lib.hid (fun (X Y : World) (T T' : TypeId) (c c' : Array Value) (eY : Y = W.alloc (.cells #[.string x0, .slice A1 n1 c1, .int .i64 x2, .int .i64 x3] T)) (eX : X = (Y.alloc (.cells c T')).alloc (.cells c' T')) =>
    (show RW T X W.heap.size #[.string x0, .slice A1 n1 c1, .int .i64 x2, .int .i64 x3] ∧ RW T' X (W.heap.size + 1 + 1) c' ∧ RW T' X (W.heap.size + 1) c ∧ Below W.heap.size W X ∧ X.heap.size = W.heap.size + 3 from by
      subst eX; subst eY
      refine ⟨((RW.new W _ T).alloc _).alloc _, ?_, ?_, ((below_alloc _ _).alloc (by simp) _).alloc (by simp; omega) _, by simp⟩
      · have := RW.new ((W.alloc (.cells #[.string x0, .slice A1 n1 c1, .int .i64 x2, .int .i64 x3] T)).alloc (.cells c T')) c' T'
        simpa using this
      · have := (RW.new (W.alloc (.cells #[.string x0, .slice A1 n1 c1, .int .i64 x2, .int .i64 x3] T)) c T').alloc (.cells c' T')
        simpa using this))
  show Calls Tryd.prog 66 #[.agg #[.string x0, .slice A1 n1 c1, .int .i64 x2, .int .i64 x3]] W _
  go_enter Tryd.func66, Tryd.ntmps66
  go_wp2_with (go_at_call 38; obtain ⟨g0, g1, g4, g2, g3⟩ := HC.out _ _ _ _ _ _ rfl rfl; have HQ := toStringS_any A1 n1 c1 x1 _ (HK1.out.go g2) HS1.out; refine Calls.mono HQ ?_; clear HQ; rintro e w1 ⟨rfl, h⟩; obtain ⟨hv, hb⟩ := h.out; have hd := hv.det; rw [g3] at hv hd; have HA1 := Lib.hid (g0.below hb (by omega)); have HR1 := Lib.hid (g1.below hb (by omega)); have HO1 := Lib.hid (g4.below hb (by omega)); have HB1 := Lib.hid (g2.trans (hb.mono g2.size)); have HV1_1 : Hid (Det (W.heap.size + 1 + 1 + 1) w1.heap.size w1 fun w => StI w w1.heap.size (some ⟨W.heap.size + 1 + 1 + 1, 0, none⟩) n1 x1) := hd; have HG1 : Hid (W.heap.size + 3 ≤ w1.heap.size) := (by have := hb.size; show _ ≤ _; omega); clear g0 g1 g2 g3 g4 h hv hd hb HK1; have q12 : w1.cell? ⟨W.heap.size, 2, none⟩ = some (.int .i64 x2) := HA1.out.cell 2; have q13 : w1.cell? ⟨W.heap.size, 3, none⟩ = some (.int .i64 x3) := HA1.out.cell 3; have p11 : w1.cell? ⟨W.heap.size + 1 + 1, 1, none⟩ = some (.slice none 0 0) := HR1.out.cell 1; have f11 := HR1.out.frozen 1; have p12 : w1.cell? ⟨W.heap.size + 1 + 1, 2, none⟩ = some (.int .i64 0) := HR1.out.cell 2; have f12 := HR1.out.frozen 2; have p13 : w1.cell? ⟨W.heap.size + 1 + 1, 3, none⟩ = some (.int .i64 0) := HR1.out.cell 3; have f13 := HR1.out.frozen 3; have p10 : w1.cell? ⟨W.heap.size + 1 + 1, 0, none⟩ = some (.string x0) := HR1.out.cell 0; have r0 : w1.cell? ⟨W.heap.size + 1, 0, none⟩ = some (.string ⟨#[]⟩) := HO1.out.cell 0; have z0 := HO1.out.frozen 0; have r1 : w1.cell? ⟨W.heap.size + 1, 1, none⟩ = some (.slice none 0 0) := HO1.out.cell 1; have z1 := HO1.out.frozen 1; have r2 : w1.cell? ⟨W.heap.size + 1, 2, none⟩ = some (.int .i64 0) := HO1.out.cell 2; have z2 := HO1.out.frozen 2; have r3 : w1.cell? ⟨W.heap.size + 1, 3, none⟩ = some (.int .i64 0) := HO1.out.cell 3; have z3 := HO1.out.frozen 3)
  have hs1 := HG1.out
  have hb1 : Below (W.heap.size + 1) w1 (((((((w1.setCell ⟨W.heap.size + 1 + 1, 1, none⟩ (.slice (some ⟨W.heap.size + 1 + 1 + 1, 0, none⟩) n1 n1)).setCell ⟨W.heap.size + 1 + 1, 2, none⟩ (.int .i64 x2)).setCell ⟨W.heap.size + 1 + 1, 3, none⟩ (.int .i64 x3)).setCell ⟨W.heap.size + 1, 0, none⟩ (.string x0)).setCell ⟨W.heap.size + 1, 1, none⟩ (.slice (some ⟨W.heap.size + 1 + 1 + 1, 0, none⟩) n1 n1)).setCell ⟨W.heap.size + 1, 2, none⟩ (.int .i64 x2)).setCell ⟨W.heap.size + 1, 3, none⟩ (.int .i64 x3)) := (((((((below_set w1 (p := ⟨W.heap.size + 1 + 1, 1, none⟩) (by simp) _).setCell (by simp) _).setCell (by simp) _).setCell (by simp) _).setCell (by simp) _).setCell (by simp) _).setCell (by simp) _)
  have hzz : (((((((w1.setCell ⟨W.heap.size + 1 + 1, 1, none⟩ (.slice (some ⟨W.heap.size + 1 + 1 + 1, 0, none⟩) n1 n1)).setCell ⟨W.heap.size + 1 + 1, 2, none⟩ (.int .i64 x2)).setCell ⟨W.heap.size + 1 + 1, 3, none⟩ (.int .i64 x3)).setCell ⟨W.heap.size + 1, 0, none⟩ (.string x0)).setCell ⟨W.heap.size + 1, 1, none⟩ (.slice (some ⟨W.heap.size + 1 + 1 + 1, 0, none⟩) n1 n1)).setCell ⟨W.heap.size + 1, 2, none⟩ (.int .i64 x2)).setCell ⟨W.heap.size + 1, 3, none⟩ (.int .i64 x3)).heap.size = w1.heap.size := by simp [World.setCell]
  refine bodyPost_ret (v := .agg #[.string x0, .slice (some ⟨W.heap.size + 1 + 1 + 1, 0, none⟩) n1 n1, .int .i64 x2, .int .i64 x3]) (results_cell_row Tryd.results66 _ _ (W.heap.size + 1) 89 _ (0, 0) _ rfl ((((((((((((((HO1.out).other (p := ⟨W.heap.size + 1 + 1, 1, none⟩) (by simp) (.slice (some ⟨W.heap.size + 1 + 1 + 1, 0, none⟩) n1 n1))).other (p := ⟨W.heap.size + 1 + 1, 2, none⟩) (by simp) (.int .i64 x2))).other (p := ⟨W.heap.size + 1 + 1, 3, none⟩) (by simp) (.int .i64 x3))).set_ 0 (.string x0))).set_ 1 (.slice (some ⟨W.heap.size + 1 + 1 + 1, 0, none⟩) n1 n1))).set_ 2 (.int .i64 x2))).set_ 3 (.int .i64 x3)) Tryd.underlying89 rfl (by kernel_rfl)) rfl ⟨⟨some ⟨W.heap.size + 1 + 1 + 1, 0, none⟩, n1, n1, Nat.le_refl _⟩, rfl, Lib.hid ⟨?_, HB1.out.trans (hb1.mono (by omega)), HV1_1.out.self.1.symm, _, rfl, by omega⟩⟩
  show FlV (((((((w1.setCell ⟨W.heap.size + 1 + 1, 1, none⟩ (.slice (some ⟨W.heap.size + 1 + 1 + 1, 0, none⟩) n1 n1)).setCell ⟨W.heap.size + 1 + 1, 2, none⟩ (.int .i64 x2)).setCell ⟨W.heap.size + 1 + 1, 3, none⟩ (.int .i64 x3)).setCell ⟨W.heap.size + 1, 0, none⟩ (.string x0)).setCell ⟨W.heap.size + 1, 1, none⟩ (.slice (some ⟨W.heap.size + 1 + 1 + 1, 0, none⟩) n1 n1)).setCell ⟨W.heap.size + 1, 2, none⟩ (.int .i64 x2)).setCell ⟨W.heap.size + 1, 3, none⟩ (.int .i64 x3)) (((((((w1.setCell ⟨W.heap.size + 1 + 1, 1, none⟩ (.slice (some ⟨W.heap.size + 1 + 1 + 1, 0, none⟩) n1 n1)).setCell ⟨W.heap.size + 1 + 1, 2, none⟩ (.int .i64 x2)).setCell ⟨W.heap.size + 1 + 1, 3, none⟩ (.int .i64 x3)).setCell ⟨W.heap.size + 1, 0, none⟩ (.string x0)).setCell ⟨W.heap.size + 1, 1, none⟩ (.slice (some ⟨W.heap.size + 1 + 1 + 1, 0, none⟩) n1 n1)).setCell ⟨W.heap.size + 1, 2, none⟩ (.int .i64 x2)).setCell ⟨W.heap.size + 1, 3, none⟩ (.int .i64 x3)).heap.size ⟨x0, x1, x2, x3⟩ ⟨some ⟨W.heap.size + 1 + 1 + 1, 0, none⟩, n1, n1, Nat.le_refl _⟩
  rw [hzz]
  exact ⟨((((((((((((((HV1_1.out).set (p := ⟨W.heap.size + 1 + 1, 1, none⟩) (by first | (dsimp only; omega) | omega) _)).set (p := ⟨W.heap.size + 1 + 1, 2, none⟩) (by first | (dsimp only; omega) | omega) _)).set (p := ⟨W.heap.size + 1 + 1, 3, none⟩) (by first | (dsimp only; omega) | omega) _)).set (p := ⟨W.heap.size + 1, 0, none⟩) (by first | (dsimp only; omega) | omega) _)).set (p := ⟨W.heap.size + 1, 1, none⟩) (by first | (dsimp only; omega) | omega) _)).set (p := ⟨W.heap.size + 1, 2, none⟩) (by first | (dsimp only; omega) | omega) _)).set (p := ⟨W.heap.size + 1, 3, none⟩) (by first | (dsimp only; omega) | omega) _).self, HT0.out⟩

/-- The elements of block g ahead of j are filled; their lists lie elsewhere. -/
def FilledFl (w : World) (g j n : Nat) (xs : List Fl) : Prop :=
  ∃ cs, RW 89 w g cs ∧ n * 4 ≤ cs.size ∧ ∀ (i : Nat) (x : Fl), i < j → xs[i]? = some x → ∃ l b1, l.A1 = some ⟨b1, 0, none⟩ ∧ g < b1 ∧ FlV w w.heap.size x l ∧ ∀ (q : Nat) (v : Value), (x.vs l)[q]? = some v → cs[i * 4 + q]? = some v
theorem FilledFl.below {w w' : World} {g j n : Nat} {xs : List Fl} (h : FilledFl w g j n xs) (hb : Below w.heap.size w w') : FilledFl w' g j n xs := by
  obtain ⟨cs, hr, hn, hm⟩ := h
  refine ⟨cs, hr.below hb hr.lt, hn, fun i x hi hx => ?_⟩
  obtain ⟨l, b1, h1, u1, h5, h6⟩ := hm i x hi hx
  exact ⟨l, b1, h1, u1, (h5.below hb).more hb.size, h6⟩
theorem FlV.others {w : World} {B g o : Nat} {x : Fl} {l : FlLay} {b1 : Nat} (h : FlV w B x l) (h1 : l.A1 = some ⟨b1, 0, none⟩) (u1 : b1 ≠ g) (vs : List Value) : FlV (w.setCells g o vs) B x l := by
  obtain ⟨a0, a1⟩ := h
  try unfold FlV at a0 a1 ⊢
  rw [h1] at a0
  refine ⟨?_, a1⟩
  · rw [h1]; exact a0.others u1
theorem size_setsFl (vs : List Value) (w : World) (g k : Nat) : (w.setCells g k vs).heap.size = w.heap.size := by
  induction vs generalizing w k with
  | nil => rfl
  | cons v r ih => exact (ih _ _).trans (size_set _ _ _)
theorem FilledFl.store {w : World} {g j n : Nat} {xs : List Fl} {x : Fl} {l : FlLay} {b1 : Nat} (h : FilledFl w g j n xs) (hx : xs[j]? = some x) (hj : j < n) (h1 : l.A1 = some ⟨b1, 0, none⟩) (u1 : g < b1) (h5 : FlV w w.heap.size x l) :
    FilledFl (w.setCells g (j * 4) (x.vs l)) g (j + 1) n xs := by
  obtain ⟨cs, hr, hn, hm⟩ := h
  have hs : (w.setCells g (j * 4) (x.vs l)).heap.size = w.heap.size := size_setsFl _ _ _ _
  have hlK : (x.vs l).length = 4 := rfl
  refine ⟨_, hr.cells, by rw [putL_size]; exact hn, fun i y hi hy => ?_⟩
  by_cases e : i = j
  · subst e
    rw [hx, Option.some.injEq] at hy
    subst hy
    refine ⟨l, b1, h1, u1, ?_, fun q v hq => putL_new _ _ _ _ _ (by rw [hlK]; omega) hq⟩
    rw [hs]
    exact h5.others h1 (by omega) _
  · obtain ⟨l', b1', j1, v1, k5, k6⟩ := hm i y (by omega) hy
    refine ⟨l', b1', j1, v1, ?_, fun q v hq => ?_⟩
    · rw [hs]
      exact k5.others j1 (by omega) _
    · have hqK : q < 4 := (List.getElem?_eq_some_iff.1 hq).1
      rw [putL_old _ _ _ _ (by omega)]
      exact k6 q v hq
theorem FilledFl.all {w : World} {g n : Nat} {xs : List Fl} (h : FilledFl w g n n xs) (hl : xs.length = n) (hn : n ≤ maxLen) : FlI w w.heap.size (some ⟨g, 0, none⟩) n xs := by
  obtain ⟨cs, hr, hc, hm⟩ := h
  refine ⟨hl, hn, fun _ => ⟨g, 0, rfl, hr.lt, fun j x hx => ?_⟩⟩
  obtain ⟨l, _, _, _, h5, h6⟩ := hm j x (by rw [← hl]; exact (List.getElem?_eq_some_iff.1 hx).1) hx
  rw [Nat.zero_add]
  have k : ∀ q v, (x.vs l)[q]? = some v → w.cell? ⟨g, j * 4 + q, none⟩ = some v := fun q v hq => (hr.cell _).trans (h6 q v hq)
  exact ⟨l, ⟨k 0 _ rfl, k 1 _ rfl, k 2 _ rfl, k 3 _ rfl⟩, h5⟩
theorem FilledFl.det {w : World} {g n : Nat} {xs : List Fl} (h : FilledFl w g n n xs) (hl : xs.length = n) (hn : n ≤ maxLen) : Det g w.heap.size w fun w' => FlI w' w.heap.size (some ⟨g, 0, none⟩) n xs := by
  intro w' hk
  obtain ⟨cs, hr, hc, hm⟩ := h
  have hr' : RW 89 w' g cs := (hk g (Nat.le_refl _) hr.lt).trans hr
  refine ⟨hl, hn, fun _ => ⟨g, 0, rfl, hr.lt, fun j x hx => ?_⟩⟩
  obtain ⟨l, b1, h1, u1, h5, h6⟩ := hm j x (by rw [← hl]; exact (List.getElem?_eq_some_iff.1 hx).1) hx
  rw [Nat.zero_add]
  have k : ∀ q v, (x.vs l)[q]? = some v → w'.cell? ⟨g, j * 4 + q, none⟩ = some v := fun q v hq => (hr'.cell _).trans (h6 q v hq)
  refine ⟨l, ⟨k 0 _ rfl, k 1 _ rfl, k 2 _ rfl, k 3 _ rfl⟩, ?_⟩
  obtain ⟨a0, a1⟩ := h5
  try unfold FlV at a0 a1 ⊢
  refine ⟨?_, a1⟩
  · rw [h1] at a0 ⊢; exact a0.det w' fun g' h1 h2 => hk g' (by omega) h2
theorem infoFl : (Tryd.prog.info? 89).map (fun i => (i.zero, i.size, i.bytes)) = some (some (Value.agg #[.string ⟨#[]⟩, .slice none 0 0, .int .i64 0, .int .i64 0]), 4, 56) := by kernel_rfl
theorem ownFl {w : World} {B g n : Nat} {xs : List Value} (h : w.ownsRow B 89 4 (.slice (some ⟨g, 0, none⟩) n n) n xs) : ∃ cs, RW 89 w g cs ∧ n * 4 ≤ cs.size := by
  rcases h.2 with ⟨h', _⟩ | ⟨g', cap', cur, h', _, hg, _, _, hsz, _⟩
  · simp at h'
  · simp only [Value.slice.injEq, Option.some.injEq, Addr.mk.injEq, and_true, true_and] at h'
    obtain ⟨rfl, rfl⟩ := h'
    exact ⟨cur, hg, by omega⟩
/-- What toFileS answers. -/
def ToFlS (xs : List Fl) (n : Nat) (W : World) (e : Ending) (w' : World) : Prop :=
  e = .returned (.slice (some ⟨W.heap.size, 0, none⟩) n n) ∧ Hid (FlI w' w'.heap.size (some ⟨W.heap.size, 0, none⟩) n xs ∧ Below W.heap.size W w' ∧ Det W.heap.size w'.heap.size w' fun w => FlI w w'.heap.size (some ⟨W.heap.size, 0, none⟩) n xs)

set_option maxHeartbeats 2000000 in
set_option maxRecDepth 100000 in
theorem toFileS_any (A : Option Addr) (n c : Nat) (xs : List Fl) (W : World) (hr : FlI W W.heap.size A n xs) (hs : ∀ (j : Nat) (x : Fl), xs[j]? = some x → FlSmall x) (hn : n ≤ 1048576) :
    Calls Tryd.prog 39 #[.slice A n c] W (ToFlS xs n W) := by
  obtain ⟨i0, hi, hz0, hz1, hz2⟩ := info_parts infoFl
  have HR := Lib.hid hr
  have HS := Lib.hid hs
  have h1 : (n : Int) ≤ 1048576 := by omega
  clear hr hs
  go_enter Tryd.func39, Tryd.ntmps39
  go_wp2_with (at_make; refine wpList_make_full _ rfl _ _ 38 rfl W.heap.size 89 i0 (.agg #[.string ⟨#[]⟩, .slice none 0 0, .int .i64 0, .int .i64 0]) 4 Tryd.underlying38 hi hz0 hz1 .i64 .i64 n n n rfl rfl rfl rfl (by rw [hz2]; omega) (by unfold maxLen; omega) (Nat.le_refl _) ?_)
  intro w1 hown hgrow
  have HB1 : Hid (Below W.heap.size W w1) := below_grown_none hgrow
  obtain ⟨cs, hcs, hcn⟩ := ownFl hown
  have HG : Hid (W.heap.size < w1.heap.size) := hcs.lt
  have HM : Hid (FilledFl w1 W.heap.size 0 n xs) := ⟨cs, hcs, hcn, fun i x hi => absurd hi (by omega)⟩
  clear hown hgrow hcs hcn hi hz0 hz1 hz2
  go_wp2_with fail
  go_loopw [4] (fun i wr => ∃ j : Nat, j ≤ n ∧ i = .int .i64 j ∧ Hid (Below W.heap.size W wr) ∧ Hid (W.heap.size < wr.heap.size) ∧ Hid (FilledFl wr W.heap.size j n xs)) (fun i _ => n - (intOf i).toNat)
  case atStart => exact ⟨0, Nat.zero_le _, rfl, HB1, HG, HM⟩
  case round =>
    obtain ⟨j, hj, rfl, HW, HZ, HJ⟩ := hrel
    by_cases hlt : j < n
    · obtain ⟨b, off, x, l, rfl, hg, hx, ⟨q0, q1, q2, q3⟩, hov⟩ := (HR.out.below HW.out).at_ hlt
      have HX := Lib.hid hx
      have HO := Lib.hid (hov.more HW.out.size)
      have HLT := Lib.hid hlt
      have HS1 := Lib.hid (HS.out j x hx)
      clear hx hov hg
      have b0 : (0 : Int) ≤ (j : Int) := by omega
      have b1 : (j : Int) < (n : Int) := by omega
      go_wp2_with (first | (go_at_call 66; have HQ := toFile_any x l _ HO.out HS1.out; refine Calls.mono HQ ?_; clear HQ; rintro e w2 ⟨⟨A1, n1, c1, h1⟩, rfl, h⟩; obtain ⟨g1, hb, en1, b1, e1, g1g⟩ := h.out; clear en1; have HF := Lib.hid (HJ.out.below hb); have hlt2 := HLT.out; have hzz := HZ.out; have HF2 : Hid (FilledFl (w2.setCells W.heap.size (j * 4) [.string x.name_, .slice A1 n1 c1, .int .i64 x.mode_, .int .i64 x.at_]) W.heap.size (j + 1) n xs) := (by have k := HF.out.store HX.out hlt2 e1 (Nat.lt_of_lt_of_le hzz g1g) g1; unfold Fl.vs at k; exact k); have HT : Hid (w2.there W.heap.size (j * 4) 4) := (by obtain ⟨cs, hr, hc, _⟩ := HF.out; exact hr.there (by omega)); have HW2 : Hid (Below W.heap.size W (w2.setCells W.heap.size (j * 4) [.string x.name_, .slice A1 n1 c1, .int .i64 x.mode_, .int .i64 x.at_])) := ((HW.out.trans (hb.mono HW.out.size)).trans (below_cells (Nat.le_refl _) _ _ _)); have HZ2 : Hid (W.heap.size < (w2.setCells W.heap.size (j * 4) [.string x.name_, .slice A1 n1 c1, .int .i64 x.mode_, .int .i64 x.at_]).heap.size) := (by obtain ⟨_, hr, _⟩ := HF2.out; exact hr.lt); have tk1 : True := trivial; clear h g1 hb e1 g1g hlt2 hzz q0 q1 q2 q3) | (clear tk1; refine wpList_store_mid rfl 89 (.tmp 21) (.tmp 20) rfl W.heap.size (j * 4) _ rfl rfl HT.out (by kernel_rfl) (by kernel_rfl) ?_; go_frame; clear HT; generalize w2.setCells W.heap.size (j * 4) [.string x.name_, .slice A1 n1 c1, .int .i64 x.mode_, .int .i64 x.at_] = w3 at HF2 HW2 HZ2 ⊢))
      go_roundw
      case rel => exact ⟨j + 1, by omega, by go_num, HW2, HZ2, HF2⟩
      case measure => simp [intOf]; omega
    · have HN : Hid (j = n) := by show _ = _; omega
      go_wp2_with fail
      go_ret
      have h := HJ.out
      rw [HN.out] at h
      exact ⟨rfl, Lib.hid ⟨h.all HR.out.1 HR.out.2.1, HW.out, h.det HR.out.1 HR.out.2.1⟩⟩
end Go.Proofs.YtjhemdgeafglhaaDoor
