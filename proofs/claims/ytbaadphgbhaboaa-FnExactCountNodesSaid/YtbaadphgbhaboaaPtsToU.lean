/- toPattern, toPatternS of the laws. No condition. -/
import Derived.Test.YtbaadphgbhaboaaPtsSz
import Derived.Test.YtbaadphgbhaboaaPtsU
namespace Go.Proofs.Ytbaadphgbhaboaa
open Go Go.RowKit

/-- What toPatternS answers. -/
def ToPtSU (d n : Nat) (xs : List Pt) (W : World) (e : Ending) (w' : World) : Prop :=
  e = .returned (.slice (some ⟨W.heap.size, 0, none⟩) n n) ∧ Hid (PtU w' W.heap.size w'.heap.size d (some ⟨W.heap.size, 0, none⟩) n xs ∧ Below W.heap.size W w')
/-- What toPattern answers. -/
def ToPtU (d n : Nat) (x : Pt) (W : World) (e : Ending) (w' : World) : Prop :=
  ∃ g, e = .returned (x.ag (some ⟨g, 0, none⟩) n n) ∧ Hid (PtUV w' W.heap.size w'.heap.size d x (some ⟨g, 0, none⟩) n ∧ Below W.heap.size W w')
/-- The contract of toPatternS at a slice. -/
def KidsPtU (A : Option Addr) (n c d : Nat) (xs : List Pt) (W : World) : Prop := ∀ w, Below W.heap.size W w → Calls Try.prog 37 #[.slice A n c] w (ToPtSU d n xs w)

set_option maxHeartbeats 2000000 in
set_option maxRecDepth 100000 in
theorem toPattern_ofU (x : Pt) (A : Option Addr) (n c d : Nat) (W : World) (ht : x.t.size ≤ maxLen) (hk : KidsPtU A n c d x.kids W) :
    Calls Try.prog 11 #[x.ag A n c] W (ToPtU d n x W) := by
  obtain ⟨k, m, t, ks⟩ := x
  change t.size ≤ maxLen at ht
  change KidsPtU A n c d ks W at hk
  have HT := Lib.hid ht
  have HK := Lib.hid hk
  clear ht hk
  have HC := Lib.hid (fun (X Y : World) (c0 c1 : Array Value) (eY : Y = W.alloc (.cells #[.int .i64 k, .int .i64 m, .string t, .slice A n c] 24)) (eX : X = (Y.alloc (.cells c0 29)).alloc (.cells c1 29)) =>
    (show RW 29 X (W.heap.size + 1 + 1) c1 ∧ RW 29 X (W.heap.size + 1) c0 ∧ Below W.heap.size W X ∧ X.heap.size = W.heap.size + 3 from by
      subst eX; subst eY
      refine ⟨?_, ?_, ((below_alloc _ _).alloc (by simp) _).alloc (by simp; omega) _, by simp⟩
      · have := RW.new ((W.alloc (.cells #[.int .i64 k, .int .i64 m, .string t, .slice A n c] 24)).alloc (.cells c0 29)) c1 29
        simpa using this
      · have := (RW.new (W.alloc (.cells #[.int .i64 k, .int .i64 m, .string t, .slice A n c] 24)) c0 29).alloc (.cells c1 29)
        simpa using this))
  show Calls Try.prog 11 #[.agg #[.int .i64 k, .int .i64 m, .string t, .slice A n c]] W _
  go_enter Try.func11, Try.ntmps11
  go_wp2_with (go_at_call 37; obtain ⟨g1, g4, g2, g3⟩ := HC.out _ _ _ _ rfl rfl; refine Calls.mono (HK.out _ g2) ?_; rintro e w1 ⟨rfl, h⟩; obtain ⟨hv, hb⟩ := h.out; rw [g3] at hv; have HR1 := Lib.hid (g1.below hb (by omega)); have HO1 := Lib.hid (g4.below hb (by omega)); have HB1 := Lib.hid (g2.trans (hb.mono g2.size)); have HV1 : Hid (PtU w1 (W.heap.size + 1 + 1 + 1) w1.heap.size d (some ⟨W.heap.size + 1 + 1 + 1, 0, none⟩) n ks) := hv; have HG1 : Hid (W.heap.size + 3 ≤ w1.heap.size) := (by have := hb.size; show _ ≤ _; omega); clear g1 g2 g3 g4 h hv hb HK; have p0 : w1.cell? ⟨W.heap.size + 1 + 1, 0, none⟩ = some (.int .i64 k) := HR1.out.cell 0; have f0 := HR1.out.frozen 0; have r0 : w1.cell? ⟨W.heap.size + 1, 0, none⟩ = some (.int .i64 0) := HO1.out.cell 0; have z0 := HO1.out.frozen 0; have p1 : w1.cell? ⟨W.heap.size + 1 + 1, 1, none⟩ = some (.int .i64 m) := HR1.out.cell 1; have f1 := HR1.out.frozen 1; have r1 : w1.cell? ⟨W.heap.size + 1, 1, none⟩ = some (.int .i64 0) := HO1.out.cell 1; have z1 := HO1.out.frozen 1; have p2 : w1.cell? ⟨W.heap.size + 1 + 1, 2, none⟩ = some (.string t) := HR1.out.cell 2; have f2 := HR1.out.frozen 2; have r2 : w1.cell? ⟨W.heap.size + 1, 2, none⟩ = some (.string ⟨#[]⟩) := HO1.out.cell 2; have z2 := HO1.out.frozen 2; have p3 : w1.cell? ⟨W.heap.size + 1 + 1, 3, none⟩ = some (.slice none 0 0) := HR1.out.cell 3; have f3 := HR1.out.frozen 3; have r3 : w1.cell? ⟨W.heap.size + 1, 3, none⟩ = some (.slice none 0 0) := HO1.out.cell 3; have z3 := HO1.out.frozen 3)
  have hs1 := HG1.out
  have hb1 : Below (W.heap.size + 1) w1 (((((w1.setCell ⟨W.heap.size + 1 + 1, 3, none⟩ (.slice (some ⟨W.heap.size + 1 + 1 + 1, 0, none⟩) n n)).setCell ⟨W.heap.size + 1, 0, none⟩ (.int .i64 k)).setCell ⟨W.heap.size + 1, 1, none⟩ (.int .i64 m)).setCell ⟨W.heap.size + 1, 2, none⟩ (.string t)).setCell ⟨W.heap.size + 1, 3, none⟩ (.slice (some ⟨W.heap.size + 1 + 1 + 1, 0, none⟩) n n)) := (((((below_set w1 (p := ⟨W.heap.size + 1 + 1, 3, none⟩) (by simp) _).setCell (by simp) _).setCell (by simp) _).setCell (by simp) _).setCell (by simp) _)
  have hzz : (((((w1.setCell ⟨W.heap.size + 1 + 1, 3, none⟩ (.slice (some ⟨W.heap.size + 1 + 1 + 1, 0, none⟩) n n)).setCell ⟨W.heap.size + 1, 0, none⟩ (.int .i64 k)).setCell ⟨W.heap.size + 1, 1, none⟩ (.int .i64 m)).setCell ⟨W.heap.size + 1, 2, none⟩ (.string t)).setCell ⟨W.heap.size + 1, 3, none⟩ (.slice (some ⟨W.heap.size + 1 + 1 + 1, 0, none⟩) n n)).heap.size = w1.heap.size := by simp [World.setCell]
  refine bodyPost_ret (v := .agg #[.int .i64 k, .int .i64 m, .string t, .slice (some ⟨W.heap.size + 1 + 1 + 1, 0, none⟩) n n]) (results_cell_row Try.results11 _ _ (W.heap.size + 1) 29 _ (0, 0) _ rfl ((((((HO1.out).other (p := ⟨W.heap.size + 1 + 1, 3, none⟩) (by simp) (.slice (some ⟨W.heap.size + 1 + 1 + 1, 0, none⟩) n n)).set_ 0 (.int .i64 k)).set_ 1 (.int .i64 m)).set_ 2 (.string t)).set_ 3 (.slice (some ⟨W.heap.size + 1 + 1 + 1, 0, none⟩) n n)) Try.underlying29 rfl (by kernel_rfl)) rfl ⟨W.heap.size + 1 + 1 + 1, rfl, Lib.hid ⟨⟨HT.out, ?_⟩, HB1.out.trans (hb1.mono (by omega))⟩⟩
  rw [hzz]
  exact PtU.more (by omega) (Nat.le_refl _) (((((HV1.out.other (q := ⟨W.heap.size + 1 + 1, 3, none⟩) (.inl (by first | (dsimp only; omega) | omega)) _).other (q := ⟨W.heap.size + 1, 0, none⟩) (.inl (by first | (dsimp only; omega) | omega)) _).other (q := ⟨W.heap.size + 1, 1, none⟩) (.inl (by first | (dsimp only; omega) | omega)) _).other (q := ⟨W.heap.size + 1, 2, none⟩) (.inl (by first | (dsimp only; omega) | omega)) _).other (q := ⟨W.heap.size + 1, 3, none⟩) (.inl (by first | (dsimp only; omega) | omega)) _)

/-- The elements of block g ahead of j are filled; their Kids lie above it. -/
def FilledPtU (w : World) (g d j n : Nat) (xs : List Pt) : Prop :=
  ∃ cs, RW 29 w g cs ∧ n * 4 ≤ cs.size ∧ ∀ (i : Nat) (x : Pt), i < j → xs[i]? = some x → ∃ (A' : Option Addr) (n' : Nat), x.t.size ≤ maxLen ∧ PtU w (g + 1) w.heap.size d A' n' x.kids ∧ ∀ (q : Nat) (v : Value), (x.vs A' n' n')[q]? = some v → cs[i * 4 + q]? = some v
theorem FilledPtU.below {w w' : World} {g d j n : Nat} {xs : List Pt} (h : FilledPtU w g d j n xs) (hb : Below w.heap.size w w') : FilledPtU w' g d j n xs := by
  obtain ⟨cs, hr, hn, hm⟩ := h
  refine ⟨cs, hr.below hb hr.lt, hn, fun i x hi hx => ?_⟩
  obtain ⟨A', n', h1, h2, h3⟩ := hm i x hi hx
  exact ⟨A', n', h1, h2.go hb, h3⟩
theorem size_setsPtU (vs : List Value) (w : World) (g k : Nat) : (w.setCells g k vs).heap.size = w.heap.size := by
  induction vs generalizing w k with
  | nil => rfl
  | cons v r ih => exact (ih _ _).trans (size_set _ _ _)
theorem FilledPtU.store {w : World} {g d j n : Nat} {xs : List Pt} {x : Pt} {A' : Option Addr} {n' : Nat} (h : FilledPtU w g d j n xs) (hx : xs[j]? = some x) (hj : j < n) (ht : x.t.size ≤ maxLen) (h5 : PtU w (g + 1) w.heap.size d A' n' x.kids) :
    FilledPtU (w.setCells g (j * 4) (x.vs A' n' n')) g d (j + 1) n xs := by
  obtain ⟨cs, hr, hn, hm⟩ := h
  have hs : (w.setCells g (j * 4) (x.vs A' n' n')).heap.size = w.heap.size := size_setsPtU _ _ _ _
  have hlK : (x.vs A' n' n').length = 4 := rfl
  refine ⟨_, hr.cells, by rw [putL_size]; exact hn, fun i y hi hy => ?_⟩
  by_cases e : i = j
  · subst e
    rw [hx, Option.some.injEq] at hy
    subst hy
    refine ⟨A', n', ht, ?_, fun q v hq => putL_new _ _ _ _ _ (by rw [hlK]; omega) hq⟩
    rw [hs]
    exact h5.others (.inl (by omega))
  · obtain ⟨B', m', k1, k5, k6⟩ := hm i y (by omega) hy
    refine ⟨B', m', k1, ?_, fun q v hq => ?_⟩
    · rw [hs]
      exact k5.others (.inl (by omega))
    · have hqK : q < 4 := (List.getElem?_eq_some_iff.1 hq).1
      rw [putL_old _ _ _ _ (by omega)]
      exact k6 q v hq
theorem FilledPtU.all {w : World} {g d n : Nat} {xs : List Pt} (h : FilledPtU w g d n n xs) (hl : xs.length = n) (hn : n ≤ maxLen) : PtU w g w.heap.size (d + 1) (some ⟨g, 0, none⟩) n xs := by
  obtain ⟨cs, hr, hc, hm⟩ := h
  refine ⟨hl, hn, fun _ => ⟨g, 0, rfl, Nat.le_refl _, hr.lt, hr.good, fun j x hx => ?_⟩⟩
  obtain ⟨A', n', h1, h5, h6⟩ := hm j x (by rw [← hl]; exact (List.getElem?_eq_some_iff.1 hx).1) hx
  rw [Nat.zero_add]
  have k : ∀ q v, (x.vs A' n' n')[q]? = some v → w.cell? ⟨g, j * 4 + q, none⟩ = some v := fun q v hq => (hr.cell _).trans (h6 q v hq)
  exact ⟨A', n', n', Nat.le_refl _, ⟨k 0 _ rfl, k 1 _ rfl, k 2 _ rfl, k 3 _ rfl⟩, h1, h5.more (by omega) (Nat.le_refl _)⟩
theorem infoPtU : (Try.prog.info? 29).map (fun i => (i.zero, i.size, i.bytes)) = some (some (Value.agg #[.int .i64 0, .int .i64 0, .string ⟨#[]⟩, .slice none 0 0]), 4, 56) := by kernel_rfl
theorem ownPtU {w : World} {B g n : Nat} {xs : List Value} (h : w.ownsRow B 29 4 (.slice (some ⟨g, 0, none⟩) n n) n xs) : ∃ cs, RW 29 w g cs ∧ n * 4 ≤ cs.size := by
  rcases h.2 with ⟨h', _⟩ | ⟨g', cap', cur, h', _, hg, _, _, hsz, _⟩
  · simp at h'
  · simp only [Value.slice.injEq, Option.some.injEq, Addr.mk.injEq, and_true, true_and] at h'
    obtain ⟨rfl, rfl⟩ := h'
    exact ⟨cur, hg, by omega⟩

set_option maxHeartbeats 2000000 in
set_option maxRecDepth 100000 in
theorem toPatternS_anyU : ∀ (d : Nat) (A : Option Addr) (n c : Nat) (xs : List Pt) (W : World), PtD W 0 W.heap.size d A n xs → ptSzs xs ≤ 1048576 → KidsPtU A n c d xs W := by
  intro d
  induction d with
  | zero =>
    intro A n c xs w0 hd hz W hw
    obtain ⟨rfl, rfl⟩ := hd
    obtain ⟨i0, hi, hz0, hz1, hz2⟩ := info_parts infoPtU
    go_enter Try.func37, Try.ntmps37
    go_wp2_with (at_make; refine wpList_make_full _ rfl _ _ 27 rfl W.heap.size 29 i0 (.agg #[.int .i64 0, .int .i64 0, .string ⟨#[]⟩, .slice none 0 0]) 4 Try.underlying27 hi hz0 hz1 .i64 .i64 0 0 0 rfl rfl rfl rfl (by rw [hz2]; omega) (by unfold maxLen; omega) (Nat.le_refl _) ?_)
    intro w1 hown hgrow
    have HB1 : Hid (Below W.heap.size W w1) := below_grown_none hgrow
    clear hown hgrow hi hz0 hz1 hz2
    go_wp2_with fail
    go_loopw [4] (fun i wr => i = .int .i64 0 ∧ Hid (Below W.heap.size W wr)) (fun _ _ => 0)
    case atStart => exact ⟨rfl, HB1⟩
    case round =>
      obtain ⟨rfl, HW⟩ := hrel
      go_wp2_with fail
      go_ret
      exact ⟨rfl, Lib.hid ⟨⟨rfl, rfl⟩, HW.out⟩⟩
  | succ d ih =>
    intro A n c xs w0 hd hz W hw
    obtain ⟨i0, hi, hz0, hz1, hz2⟩ := info_parts infoPtU
    have HIH := Lib.hid ih
    have HR := Lib.hid (hd.go hw)
    have HSZ := Lib.hid hz
    have hnn : n ≤ 1048576 := by rw [ptSzs_eq, hd.1] at hz; omega
    have h1 : (n : Int) ≤ 1048576 := by omega
    clear ih hd hz hw
    go_enter Try.func37, Try.ntmps37
    go_wp2_with (at_make; refine wpList_make_full _ rfl _ _ 27 rfl W.heap.size 29 i0 (.agg #[.int .i64 0, .int .i64 0, .string ⟨#[]⟩, .slice none 0 0]) 4 Try.underlying27 hi hz0 hz1 .i64 .i64 n n n rfl rfl rfl rfl (by rw [hz2]; omega) (by unfold maxLen; omega) (Nat.le_refl _) ?_)
    intro w1 hown hgrow
    have HB1 : Hid (Below W.heap.size W w1) := below_grown_none hgrow
    obtain ⟨cs, hcs, hcn⟩ := ownPtU hown
    have HG : Hid (W.heap.size < w1.heap.size) := hcs.lt
    have HM : Hid (FilledPtU w1 W.heap.size d 0 n xs) := ⟨cs, hcs, hcn, fun i x hi => absurd hi (by omega)⟩
    clear hown hgrow hcs hcn hi hz0 hz1 hz2
    go_wp2_with fail
    go_loopw [4] (fun i wr => ∃ j : Nat, j ≤ n ∧ i = .int .i64 j ∧ Hid (Below W.heap.size W wr) ∧ Hid (W.heap.size < wr.heap.size) ∧ Hid (FilledPtU wr W.heap.size d j n xs)) (fun i _ => n - (intOf i).toNat)
    case atStart => exact ⟨0, Nat.zero_le _, rfl, HB1, HG, HM⟩
    case round =>
      obtain ⟨j, hj, rfl, HW, HZ, HJ⟩ := hrel
      by_cases hlt : j < n
      · obtain ⟨b, off, x, A1, n1, c1, rfl, _, hg, hx, _, ⟨q0, q1, q2, q3⟩, hxs, hkd⟩ := (HR.out.go HW.out).at_ hlt
        have HX := Lib.hid hx
        have HXS := Lib.hid hxs
        have HLT := Lib.hid hlt
        have hsx : ptSzs x.kids ≤ 1048576 := by have h2 := ptSz_kid hx; have h3 := HSZ.out; rw [ptSz_eq] at h2; omega
        have HQ := Lib.hid (toPattern_ofU x A1 n1 c1 d wr hxs (HIH.out A1 n1 c1 x.kids wr hkd hsx))
        clear hx hg hxs hkd hsx
        have b0 : (0 : Int) ≤ (j : Int) := by omega
        have b1 : (j : Int) < (n : Int) := by omega
        go_wp2_with (first | (go_at_call 11; refine Calls.mono HQ.out ?_; clear HQ; rintro e w2 ⟨gk, rfl, h⟩; obtain ⟨hv, hb⟩ := h.out; have HF := Lib.hid (HJ.out.below hb); have hlt2 := HLT.out; have hzz := HZ.out; have HF2 : Hid (FilledPtU (w2.setCells W.heap.size (j * 4) [.int .i64 x.k, .int .i64 x.n, .string x.t, .slice (some ⟨gk, 0, none⟩) n1 n1]) W.heap.size d (j + 1) n xs) := (by have k := HF.out.store HX.out hlt2 HXS.out (hv.2.more hzz (Nat.le_refl _)); unfold Pt.vs at k; exact k); have HT : Hid (w2.there W.heap.size (j * 4) 4) := (by obtain ⟨cs, hr, hc, _⟩ := HF.out; exact hr.there (by omega)); have HW2 : Hid (Below W.heap.size W (w2.setCells W.heap.size (j * 4) [.int .i64 x.k, .int .i64 x.n, .string x.t, .slice (some ⟨gk, 0, none⟩) n1 n1])) := ((HW.out.trans (hb.mono HW.out.size)).trans (below_cells (Nat.le_refl _) _ _ _)); have HZ2 : Hid (W.heap.size < (w2.setCells W.heap.size (j * 4) [.int .i64 x.k, .int .i64 x.n, .string x.t, .slice (some ⟨gk, 0, none⟩) n1 n1]).heap.size) := (by obtain ⟨_, hr, _⟩ := HF2.out; exact hr.lt); have tk1 : True := trivial; clear h hv hb hlt2 hzz q0 q1 q2 q3) | (clear tk1; refine wpList_store_mid rfl 29 (.tmp 21) (.tmp 20) rfl W.heap.size (j * 4) _ rfl rfl HT.out (by kernel_rfl) (by kernel_rfl) ?_; go_frame; clear HT; generalize w2.setCells W.heap.size (j * 4) [.int .i64 x.k, .int .i64 x.n, .string x.t, .slice (some ⟨gk, 0, none⟩) n1 n1] = w3 at HF2 HW2 HZ2 ⊢))
        go_roundw
        case rel => exact ⟨j + 1, by omega, by go_num, HW2, HZ2, HF2⟩
        case measure => simp [intOf]; omega
      · have HN : Hid (j = n) := by show _ = _; omega
        go_wp2_with fail
        go_ret
        have h := HJ.out
        rw [HN.out] at h
        exact ⟨rfl, Lib.hid ⟨h.all HR.out.1 HR.out.2.1, HW.out⟩⟩
theorem toPattern_anyU (d : Nat) (x : Pt) (A : Option Addr) (n c : Nat) (W : World) (h : PtV W 0 W.heap.size d x A n) (hz : ptSz x ≤ 1048576) : Calls Try.prog 11 #[x.ag A n c] W (ToPtU d n x W) :=
  toPattern_ofU x A n c d W h.1 (toPatternS_anyU d A n c x.kids W h.2 (by rw [ptSz_eq] at hz; omega))
end Go.Proofs.Ytbaadphgbhaboaa
