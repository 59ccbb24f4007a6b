/- toGen, toGenS of the laws. No condition. -/
import Derived.Test.YtbaadphgbhaboaaGnsSz
namespace Go.Proofs.Ytbaadphgbhaboaa
open Go Go.RowKit

/-- What toGenS answers. -/
def ToGnS (d n : Nat) (xs : List Gn) (W : World) (e : Ending) (w' : World) : Prop :=
  e = .returned (.slice (some ⟨W.heap.size, 0, none⟩) n n) ∧ Hid (GnD w' W.heap.size w'.heap.size d (some ⟨W.heap.size, 0, none⟩) n xs ∧ Below W.heap.size W w')
/-- What toGen answers. -/
def ToGn (d n : Nat) (x : Gn) (W : World) (e : Ending) (w' : World) : Prop :=
  ∃ g, e = .returned (x.ag (some ⟨g, 0, none⟩) n n) ∧ Hid (GnV w' W.heap.size w'.heap.size d x (some ⟨g, 0, none⟩) n ∧ Below W.heap.size W w')
/-- The contract of toGenS at a slice. -/
def KidsGn (A : Option Addr) (n c d : Nat) (xs : List Gn) (W : World) : Prop := ∀ w, Below W.heap.size W w → Calls Try.prog 57 #[.slice A n c] w (ToGnS d n xs w)

theorem putL_mid8 (a0 a1 a2 a3 a4 a5 a6 a7 b0 b1 b2 b3 : Value) : putL #[a0, a1, a2, a3, a4, a5, a6, a7] 3 [b0, b1, b2, b3] = #[a0, a1, a2, b0, b1, b2, b3, a7] := by simp [putL]
theorem putL_all8 (a0 a1 a2 a3 a4 a5 a6 a7 b0 b1 b2 b3 b4 b5 b6 b7 : Value) : putL #[a0, a1, a2, a3, a4, a5, a6, a7] 0 [b0, b1, b2, b3, b4, b5, b6, b7] = #[b0, b1, b2, b3, b4, b5, b6, b7] := by simp [putL]
theorem size_gens (vs : List Value) (w : World) (g k : Nat) : (w.setCells g k vs).heap.size = w.heap.size := by
  induction vs generalizing w k with
  | nil => rfl
  | cons v r ih => exact (ih _ _).trans (size_set _ _ _)

set_option maxHeartbeats 4000000 in
set_option maxRecDepth 100000 in
theorem toGen_of (x : Gn) (A : Option Addr) (n c d : Nat) (W : World) (ht : x.szOk) (hk : KidsGn A n c d x.kids W) :
    Calls Try.prog 33 #[x.ag A n c] W (ToGn d n x W) := by
  obtain ⟨x0, x1, x2, x3, x4, x5, x6, ks⟩ := x
  change KidsGn A n c d ks W at hk
  have HT := Lib.hid ht
  have HK := Lib.hid hk
  clear ht hk
  have HC := Lib.hid (fun (X Y : World) (c0 c1 : Array Value) (eY : Y = W.alloc (.cells #[.int .i64 x0, .int .i64 x1, .string x2, .int .i64 x3, .int .i64 x4, .string x5, .int .i64 x6, .slice A n c] 69)) (eX : X = (Y.alloc (.cells c0 75)).alloc (.cells c1 75)) =>
    (show RW 69 X W.heap.size #[.int .i64 x0, .int .i64 x1, .string x2, .int .i64 x3, .int .i64 x4, .string x5, .int .i64 x6, .slice A n c] ∧ RW 75 X (W.heap.size + 1 + 1) c1 ∧ RW 75 X (W.heap.size + 1) c0 ∧ Below W.heap.size W X ∧ X.heap.size = W.heap.size + 3 from by
      subst eX; subst eY
      refine ⟨?_, ?_, ?_, ((below_alloc _ _).alloc (by simp) _).alloc (by simp; omega) _, by simp⟩
      · exact ((RW.new W #[.int .i64 x0, .int .i64 x1, .string x2, .int .i64 x3, .int .i64 x4, .string x5, .int .i64 x6, .slice A n c] 69).alloc _).alloc _
      · have := RW.new ((W.alloc (.cells #[.int .i64 x0, .int .i64 x1, .string x2, .int .i64 x3, .int .i64 x4, .string x5, .int .i64 x6, .slice A n c] 69)).alloc (.cells c0 75)) c1 75
        simpa using this
      · have := (RW.new (W.alloc (.cells #[.int .i64 x0, .int .i64 x1, .string x2, .int .i64 x3, .int .i64 x4, .string x5, .int .i64 x6, .slice A n c] 69)) c0 75).alloc (.cells c1 75)
        simpa using this))
  show Calls Try.prog 33 #[.agg #[.int .i64 x0, .int .i64 x1, .string x2, .int .i64 x3, .int .i64 x4, .string x5, .int .i64 x6, .slice A n c]] W _
  have TK0 : True := trivial
  go_enter Try.func33, Try.ntmps33
  go_wp2_with (first
    | (go_at_call 56; obtain ⟨g0, g1, g4, g2, g3⟩ := HC.out _ _ _ _ rfl rfl; refine (toValue_any _ _ _ _ _).mono ?_; rintro e w1 ⟨rfl, hb⟩; have hl1 := g0.below hb (by omega); have hr1 := g1.below hb (by omega); have ho1 := g4.below hb (by omega); have hb1 := g2.trans (hb.mono g2.size); have hg1 : W.heap.size + 3 ≤ w1.heap.size := (by have := hb.size; omega); have q7 := hl1.cell 7; have p3 : w1.cell? ⟨W.heap.size + 1 + 1, 3, none⟩ = some (.int .i64 0) := hr1.cell 3; have p4 : w1.cell? ⟨W.heap.size + 1 + 1, 4, none⟩ = some (.int .i64 0) := hr1.cell 4; have p5 : w1.cell? ⟨W.heap.size + 1 + 1, 5, none⟩ = some (.string ⟨#[]⟩) := hr1.cell 5; have p6 : w1.cell? ⟨W.heap.size + 1 + 1, 6, none⟩ = some (.int .i64 0) := hr1.cell 6; have p7 : w1.cell? ⟨W.heap.size + 1 + 1, 7, none⟩ = some (.slice none 0 0) := hr1.cell 7; have f3 := hr1.frozen 3; have f4 := hr1.frozen 4; have f5 := hr1.frozen 5; have f6 := hr1.frozen 6; have f7 := hr1.frozen 7; have hb2 : Below (W.heap.size + 1 + 1) w1 (w1.setCells (W.heap.size + 1 + 1) 3 [.int .i64 x3, .int .i64 x4, .string x5, .int .i64 x6]) := below_cells (Nat.le_refl _) _ _ _; have hr2 := hr1.cells (vs := [.int .i64 x3, .int .i64 x4, .string x5, .int .i64 x6]) (o := 3); rw [putL_mid8] at hr2; have HR2 := Lib.hid hr2; have HO2 := Lib.hid (ho1.below hb2 (by omega)); have hB2 := hb1.trans (hb2.mono (by omega)); have HB2 := Lib.hid hB2; have HG1 := Lib.hid hg1; have hz2 : (w1.setCells (W.heap.size + 1 + 1) 3 [.int .i64 x3, .int .i64 x4, .string x5, .int .i64 x6]).heap.size = w1.heap.size := size_gens _ _ _ _; have HK2 : Hid (Calls Try.prog 57 #[.slice A n c] (w1.setCells (W.heap.size + 1 + 1) 3 [.int .i64 x3, .int .i64 x4, .string x5, .int .i64 x6]) fun e w' => e = .returned (.slice (some ⟨w1.heap.size, 0, none⟩) n n) ∧ Hid (GnD w' w1.heap.size w'.heap.size d (some ⟨w1.heap.size, 0, none⟩) n ks ∧ Below w1.heap.size (w1.setCells (W.heap.size + 1 + 1) 3 [.int .i64 x3, .int .i64 x4, .string x5, .int .i64 x6]) w')) := (by have h := HK.out _ hB2; unfold ToGnS at h; rw [hz2] at h; exact h); have HZ2 := Lib.hid hz2; clear g0 g1 g2 g3 g4 hb hl1 hr1 ho1 hb1 hg1 hb2 hr2 hB2 hz2)
    | (go_at_call 57; refine Calls.mono HK2.out ?_; rintro e w3 ⟨rfl, h⟩; obtain ⟨hv, hb⟩ := h.out; have hg1 := HG1.out; have HV3 := Lib.hid hv; have HR3 := Lib.hid (HR2.out.below hb (by omega)); have HO3 := Lib.hid (HO2.out.below hb (by omega)); have HB3 := Lib.hid (HB2.out.trans (hb.mono (by have := HB2.out.size; have := HZ2.out; omega))); have r0 : w3.cell? ⟨W.heap.size + 1 + 1, 0, none⟩ = some (.int .i64 x0) := HR3.out.cell 0; have r1 : w3.cell? ⟨W.heap.size + 1 + 1, 1, none⟩ = some (.int .i64 x1) := HR3.out.cell 1; have r2 : w3.cell? ⟨W.heap.size + 1 + 1, 2, none⟩ = some (.string x2) := HR3.out.cell 2; have r3 : w3.cell? ⟨W.heap.size + 1 + 1, 3, none⟩ = some (.int .i64 x3) := HR3.out.cell 3; have r4 : w3.cell? ⟨W.heap.size + 1 + 1, 4, none⟩ = some (.int .i64 x4) := HR3.out.cell 4; have r5 : w3.cell? ⟨W.heap.size + 1 + 1, 5, none⟩ = some (.string x5) := HR3.out.cell 5; have r6 : w3.cell? ⟨W.heap.size + 1 + 1, 6, none⟩ = some (.int .i64 x6) := HR3.out.cell 6; have r7 : w3.cell? ⟨W.heap.size + 1 + 1, 7, none⟩ = some (.slice none 0 0) := HR3.out.cell 7; have z7 := HR3.out.frozen 7; have s0 : w3.cell? ⟨W.heap.size + 1, 0, none⟩ = some (.int .i64 0) := HO3.out.cell 0; have t0 := HO3.out.frozen 0; have s1 : w3.cell? ⟨W.heap.size + 1, 1, none⟩ = some (.int .i64 0) := HO3.out.cell 1; have t1 := HO3.out.frozen 1; have s2 : w3.cell? ⟨W.heap.size + 1, 2, none⟩ = some (.string ⟨#[]⟩) := HO3.out.cell 2; have t2 := HO3.out.frozen 2; have s3 : w3.cell? ⟨W.heap.size + 1, 3, none⟩ = some (.int .i64 0) := HO3.out.cell 3; have t3 := HO3.out.frozen 3; have s4 : w3.cell? ⟨W.heap.size + 1, 4, none⟩ = some (.int .i64 0) := HO3.out.cell 4; have t4 := HO3.out.frozen 4; have s5 : w3.cell? ⟨W.heap.size + 1, 5, none⟩ = some (.string ⟨#[]⟩) := HO3.out.cell 5; have t5 := HO3.out.frozen 5; have s6 : w3.cell? ⟨W.heap.size + 1, 6, none⟩ = some (.int .i64 0) := HO3.out.cell 6; have t6 := HO3.out.frozen 6; have s7 : w3.cell? ⟨W.heap.size + 1, 7, none⟩ = some (.slice none 0 0) := HO3.out.cell 7; have t7 := HO3.out.frozen 7; clear h hv hb hg1 HK2 q7 p3 p4 p5 p6 p7 f3 f4 f5 f6 f7))
  have hb4 : Below (W.heap.size + 1) w3 ((w3.setCell ⟨W.heap.size + 1 + 1, 7, none⟩ (.slice (some ⟨w1.heap.size, 0, none⟩) n n)).setCells (W.heap.size + 1) 0 [.int .i64 x0, .int .i64 x1, .string x2, .int .i64 x3, .int .i64 x4, .string x5, .int .i64 x6, .slice (some ⟨w1.heap.size, 0, none⟩) n n]) := (below_set w3 (p := ⟨W.heap.size + 1 + 1, 7, none⟩) (by simp) _).trans (below_cells (Nat.le_refl _) _ _ _)
  have hr4 := (HO3.out.other (p := ⟨W.heap.size + 1 + 1, 7, none⟩) (by simp) (.slice (some ⟨w1.heap.size, 0, none⟩) n n)).cells (vs := [.int .i64 x0, .int .i64 x1, .string x2, .int .i64 x3, .int .i64 x4, .string x5, .int .i64 x6, .slice (some ⟨w1.heap.size, 0, none⟩) n n]) (o := 0)
  rw [putL_all8] at hr4
  have hv4 : GnD ((w3.setCell ⟨W.heap.size + 1 + 1, 7, none⟩ (.slice (some ⟨w1.heap.size, 0, none⟩) n n)).setCells (W.heap.size + 1) 0 [.int .i64 x0, .int .i64 x1, .string x2, .int .i64 x3, .int .i64 x4, .string x5, .int .i64 x6, .slice (some ⟨w1.heap.size, 0, none⟩) n n]) w1.heap.size w3.heap.size d (some ⟨w1.heap.size, 0, none⟩) n ks := by
    have hg := HG1.out
    exact GnD.others (.inl (by omega)) (HV3.out.other (q := ⟨W.heap.size + 1 + 1, 7, none⟩) (.inl (by dsimp only; omega)) _)
  have hsz : ((w3.setCell ⟨W.heap.size + 1 + 1, 7, none⟩ (.slice (some ⟨w1.heap.size, 0, none⟩) n n)).setCells (W.heap.size + 1) 0 [.int .i64 x0, .int .i64 x1, .string x2, .int .i64 x3, .int .i64 x4, .string x5, .int .i64 x6, .slice (some ⟨w1.heap.size, 0, none⟩) n n]).heap.size = w3.heap.size := by rw [size_gens, size_set]
  refine bodyPost_ret (v := .agg #[.int .i64 x0, .int .i64 x1, .string x2, .int .i64 x3, .int .i64 x4, .string x5, .int .i64 x6, .slice (some ⟨w1.heap.size, 0, none⟩) n n]) (results_cell_row Try.results33 _ _ (W.heap.size + 1) 75 _ (0, 0) _ rfl hr4 Try.underlying75 rfl (by kernel_rfl)) rfl ⟨w1.heap.size, rfl, Lib.hid ⟨⟨HT.out, ?_⟩, HB3.out.trans (hb4.mono (by omega))⟩⟩
  rw [← hsz] at hv4
  exact hv4.more (by have := HB2.out.size; have := HZ2.out; omega) (Nat.le_refl _)

/-- The elements of block g ahead of j are filled; their Kids lie above it. -/
def FilledGn (w : World) (g d j n : Nat) (xs : List Gn) : Prop :=
  ∃ cs, RW 75 w g cs ∧ n * 8 ≤ cs.size ∧ ∀ (i : Nat) (x : Gn), i < j → xs[i]? = some x → ∃ (A' : Option Addr) (n' : Nat), x.szOk ∧ GnD w (g + 1) w.heap.size d A' n' x.kids ∧ ∀ (q : Nat) (v : Value), (x.vs A' n' n')[q]? = some v → cs[i * 8 + q]? = some v
theorem FilledGn.below {w w' : World} {g d j n : Nat} {xs : List Gn} (h : FilledGn w g d j n xs) (hb : Below w.heap.size w w') : FilledGn w' g d j n xs := by
  obtain ⟨cs, hr, hn, hm⟩ := h
  refine ⟨cs, hr.below hb hr.lt, hn, fun i x hi hx => ?_⟩
  obtain ⟨A', n', h1, h2, h3⟩ := hm i x hi hx
  exact ⟨A', n', h1, h2.go hb, h3⟩
theorem size_setsGn (vs : List Value) (w : World) (g k : Nat) : (w.setCells g k vs).heap.size = w.heap.size := by
  induction vs generalizing w k with
  | nil => rfl
  | cons v r ih => exact (ih _ _).trans (size_set _ _ _)
theorem FilledGn.store {w : World} {g d j n : Nat} {xs : List Gn} {x : Gn} {A' : Option Addr} {n' : Nat} (h : FilledGn w g d j n xs) (hx : xs[j]? = some x) (hj : j < n) (ht : x.szOk) (h5 : GnD w (g + 1) w.heap.size d A' n' x.kids) :
    FilledGn (w.setCells g (j * 8) (x.vs A' n' n')) g d (j + 1) n xs := by
  obtain ⟨cs, hr, hn, hm⟩ := h
  have hs : (w.setCells g (j * 8) (x.vs A' n' n')).heap.size = w.heap.size := size_setsGn _ _ _ _
  have hlK : (x.vs A' n' n').length = 8 := rfl
  refine ⟨_, hr.cells, by rw [putL_size]; exact hn, fun i y hi hy => ?_⟩
  by_cases e : i = j
  · subst e
    rw [hx, Option.some.injEq] at hy
    subst hy
    refine ⟨A', n', ht, ?_, fun q v hq => putL_new _ _ _ _ _ (by rw [hlK]; omega) hq⟩
    rw [hs]
    exact h5.others (.inl (by omega))
  · obtain ⟨B', m', k1, k5, k6⟩ := hm i y (by omega) hy
    refine ⟨B', m', k1, ?_, fun q v hq => ?_⟩
    · rw [hs]
      exact k5.others (.inl (by omega))
    · have hqK : q < 8 := (List.getElem?_eq_some_iff.1 hq).1
      rw [putL_old _ _ _ _ (by omega)]
      exact k6 q v hq
theorem FilledGn.all {w : World} {g d n : Nat} {xs : List Gn} (h : FilledGn w g d n n xs) (hl : xs.length = n) (hn : n ≤ maxLen) : GnD w g w.heap.size (d + 1) (some ⟨g, 0, none⟩) n xs := by
  obtain ⟨cs, hr, hc, hm⟩ := h
  refine ⟨hl, hn, fun _ => ⟨g, 0, rfl, Nat.le_refl _, hr.lt, fun j x hx => ?_⟩⟩
  obtain ⟨A', n', h1, h5, h6⟩ := hm j x (by rw [← hl]; exact (List.getElem?_eq_some_iff.1 hx).1) hx
  rw [Nat.zero_add]
  have k : ∀ q v, (x.vs A' n' n')[q]? = some v → w.cell? ⟨g, j * 8 + q, none⟩ = some v := fun q v hq => (hr.cell _).trans (h6 q v hq)
  exact ⟨A', n', n', Nat.le_refl _, ⟨k 0 _ rfl, k 1 _ rfl, k 2 _ rfl, k 3 _ rfl, k 4 _ rfl, k 5 _ rfl, k 6 _ rfl, k 7 _ rfl⟩, h1, h5.more (by omega) (Nat.le_refl _)⟩
theorem infoGn : (Try.prog.info? 75).map (fun i => (i.zero, i.size, i.bytes)) = some (some (Value.agg #[.int .i64 0, .int .i64 0, .string ⟨#[]⟩, .int .i64 0, .int .i64 0, .string ⟨#[]⟩, .int .i64 0, .slice none 0 0]), 8, 96) := by kernel_rfl
theorem ownGn {w : World} {B g n : Nat} {xs : List Value} (h : w.ownsRow B 75 8 (.slice (some ⟨g, 0, none⟩) n n) n xs) : ∃ cs, RW 75 w g cs ∧ n * 8 ≤ cs.size := by
  rcases h.2 with ⟨h', _⟩ | ⟨g', cap', cur, h', _, hg, _, _, hsz, _⟩
  · simp at h'
  · simp only [Value.slice.injEq, Option.some.injEq, Addr.mk.injEq, and_true, true_and] at h'
    obtain ⟨rfl, rfl⟩ := h'
    exact ⟨cur, hg, by omega⟩

set_option maxHeartbeats 2000000 in
set_option maxRecDepth 100000 in
theorem toGenS_any : ∀ (d : Nat) (A : Option Addr) (n c : Nat) (xs : List Gn) (W : World), GnD W 0 W.heap.size d A n xs → gnSzs xs ≤ 1048576 → KidsGn A n c d xs W := by
  intro d
  induction d with
  | zero =>
    intro A n c xs w0 hd hz W hw
    obtain ⟨rfl, rfl⟩ := hd
    obtain ⟨i0, hi, hz0, hz1, hz2⟩ := info_parts infoGn
    go_enter Try.func57, Try.ntmps57
    go_wp2_with (at_make; refine wpList_make_full _ rfl _ _ 73 rfl W.heap.size 75 i0 (.agg #[.int .i64 0, .int .i64 0, .string ⟨#[]⟩, .int .i64 0, .int .i64 0, .string ⟨#[]⟩, .int .i64 0, .slice none 0 0]) 8 Try.underlying73 hi hz0 hz1 .i64 .i64 0 0 0 rfl rfl rfl rfl (by rw [hz2]; omega) (by unfold maxLen; omega) (Nat.le_refl _) ?_)
    intro w1 hown hgrow
    have HB1 : Hid (Below W.heap.size W w1) := below_grown_none hgrow
    clear hown hgrow hi hz0 hz1 hz2
    go_wp2_with fail
    go_loopw [4] (fun i wr => i = .int .i64 0 ∧ Hid (Below W.heap.size W wr)) (fun _ _ => 0)
    case atStart => exact ⟨rfl, HB1⟩
    case round =>
      obtain ⟨rfl, HW⟩ := hrel
      go_wp2_with fail
      go_ret
      exact ⟨rfl, Lib.hid ⟨⟨rfl, rfl⟩, HW.out⟩⟩
  | succ d ih =>
    intro A n c xs w0 hd hz W hw
    obtain ⟨i0, hi, hz0, hz1, hz2⟩ := info_parts infoGn
    have HIH := Lib.hid ih
    have HR := Lib.hid (hd.go hw)
    have HSZ := Lib.hid hz
    have hnn : n ≤ 1048576 := by rw [gnSzs_eq, hd.1] at hz; omega
    have h1 : (n : Int) ≤ 1048576 := by omega
    clear ih hd hz hw
    go_enter Try.func57, Try.ntmps57
    go_wp2_with (at_make; refine wpList_make_full _ rfl _ _ 73 rfl W.heap.size 75 i0 (.agg #[.int .i64 0, .int .i64 0, .string ⟨#[]⟩, .int .i64 0, .int .i64 0, .string ⟨#[]⟩, .int .i64 0, .slice none 0 0]) 8 Try.underlying73 hi hz0 hz1 .i64 .i64 n n n rfl rfl rfl rfl (by rw [hz2]; omega) (by unfold maxLen; omega) (Nat.le_refl _) ?_)
    intro w1 hown hgrow
    have HB1 : Hid (Below W.heap.size W w1) := below_grown_none hgrow
    obtain ⟨cs, hcs, hcn⟩ := ownGn hown
    have HG : Hid (W.heap.size < w1.heap.size) := hcs.lt
    have HM : Hid (FilledGn w1 W.heap.size d 0 n xs) := ⟨cs, hcs, hcn, fun i x hi => absurd hi (by omega)⟩
    clear hown hgrow hcs hcn hi hz0 hz1 hz2
    go_wp2_with fail
    go_loopw [4] (fun i wr => ∃ j : Nat, j ≤ n ∧ i = .int .i64 j ∧ Hid (Below W.heap.size W wr) ∧ Hid (W.heap.size < wr.heap.size) ∧ Hid (FilledGn wr W.heap.size d j n xs)) (fun i _ => n - (intOf i).toNat)
    case atStart => exact ⟨0, Nat.zero_le _, rfl, HB1, HG, HM⟩
    case round =>
      obtain ⟨j, hj, rfl, HW, HZ, HJ⟩ := hrel
      by_cases hlt : j < n
      · obtain ⟨b, off, x, A1, n1, c1, rfl, _, hg, hx, _, ⟨q0, q1, q2, q3, q4, q5, q6, q7⟩, hxs, hkd⟩ := (HR.out.go HW.out).at_ hlt
        have HX := Lib.hid hx
        have HXS := Lib.hid hxs
        have HLT := Lib.hid hlt
        have hsx : gnSzs x.kids ≤ 1048576 := by have h2 := gnSz_kid hx; have h3 := HSZ.out; rw [gnSz_eq] at h2; omega
        have HQ := Lib.hid (toGen_of x A1 n1 c1 d wr hxs (HIH.out A1 n1 c1 x.kids wr hkd hsx))
        clear hx hg hxs hkd hsx
        have b0 : (0 : Int) ≤ (j : Int) := by omega
        have b1 : (j : Int) < (n : Int) := by omega
        go_wp2_with (first | (go_at_call 33; refine Calls.mono HQ.out ?_; clear HQ; rintro e w2 ⟨gk, rfl, h⟩; obtain ⟨hv, hb⟩ := h.out; have HF := Lib.hid (HJ.out.below hb); have hlt2 := HLT.out; have hzz := HZ.out; have HF2 : Hid (FilledGn (w2.setCells W.heap.size (j * 8) [.int .i64 x.k, .int .i64 x.n, .string x.t, .int .i64 x.vk, .int .i64 x.vn, .string x.vt, .int .i64 x.vr, .slice (some ⟨gk, 0, none⟩) n1 n1]) W.heap.size d (j + 1) n xs) := (by have k := HF.out.store HX.out hlt2 HXS.out (hv.2.more hzz (Nat.le_refl _)); unfold Gn.vs at k; exact k); have HT : Hid (w2.there W.heap.size (j * 8) 8) := (by obtain ⟨cs, hr, hc, _⟩ := HF.out; exact hr.there (by omega)); have HW2 : Hid (Below W.heap.size W (w2.setCells W.heap.size (j * 8) [.int .i64 x.k, .int .i64 x.n, .string x.t, .int .i64 x.vk, .int .i64 x.vn, .string x.vt, .int .i64 x.vr, .slice (some ⟨gk, 0, none⟩) n1 n1])) := ((HW.out.trans (hb.mono HW.out.size)).trans (below_cells (Nat.le_refl _) _ _ _)); have HZ2 : Hid (W.heap.size < (w2.setCells W.heap.size (j * 8) [.int .i64 x.k, .int .i64 x.n, .string x.t, .int .i64 x.vk, .int .i64 x.vn, .string x.vt, .int .i64 x.vr, .slice (some ⟨gk, 0, none⟩) n1 n1]).heap.size) := (by obtain ⟨_, hr, _⟩ := HF2.out; exact hr.lt); have tk1 : True := trivial; clear h hv hb hlt2 hzz q0 q1 q2 q3 q4 q5 q6 q7) | (clear tk1; refine wpList_store_mid rfl 75 (.tmp 21) (.tmp 20) rfl W.heap.size (j * 8) _ rfl rfl HT.out (by kernel_rfl) (by kernel_rfl) ?_; go_frame; clear HT; generalize w2.setCells W.heap.size (j * 8) [.int .i64 x.k, .int .i64 x.n, .string x.t, .int .i64 x.vk, .int .i64 x.vn, .string x.vt, .int .i64 x.vr, .slice (some ⟨gk, 0, none⟩) n1 n1] = w3 at HF2 HW2 HZ2 ⊢))
        go_roundw
        case rel => exact ⟨j + 1, by omega, by go_num, HW2, HZ2, HF2⟩
        case measure => simp [intOf]; omega
      · have HN : Hid (j = n) := by show _ = _; omega
        go_wp2_with fail
        go_ret
        have h := HJ.out
        rw [HN.out] at h
        exact ⟨rfl, Lib.hid ⟨h.all HR.out.1 HR.out.2.1, HW.out⟩⟩
theorem toGen_any (d : Nat) (x : Gn) (A : Option Addr) (n c : Nat) (W : World) (h : GnV W 0 W.heap.size d x A n) (hz : gnSz x ≤ 1048576) : Calls Try.prog 33 #[x.ag A n c] W (ToGn d n x W) :=
  toGen_of x A n c d W h.1 (toGenS_any d A n c x.kids W h.2 (by rw [gnSz_eq] at hz; omega))
end Go.Proofs.Ytbaadphgbhaboaa
