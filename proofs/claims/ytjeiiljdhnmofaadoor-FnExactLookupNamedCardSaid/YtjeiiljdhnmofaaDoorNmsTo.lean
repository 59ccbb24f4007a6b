/- toNamed, toNamedS of the laws. No condition. -/
import Derived.Test.YtjeiiljdhnmofaaDoorNms
namespace Go.Proofs.YtjeiiljdhnmofaaDoor
open Go Go.RowKit

/-- What toNamed answers. -/
def ToNm (d n : Nat) (x : Nm) (W : World) (e : Ending) (w' : World) : Prop :=
  ∃ g, e = .returned (x.ag (some ⟨g, 0, none⟩) n n) ∧ Hid (NmV w' W.heap.size w'.heap.size d x (some ⟨g, 0, none⟩) n ∧ Below W.heap.size W w')

set_option maxHeartbeats 2000000 in
set_option maxRecDepth 100000 in
theorem toNamed_any (d : Nat) (x : Nm) (A : Option Addr) (n c : Nat) (W : World) (ho : NmV W 0 W.heap.size d x A n) (hz : szNm1 x ≤ 1048576) :
    Calls Tryd.prog 56 #[x.ag A n c] W (ToNm d n x W) := by
  obtain ⟨nm, k, m, t, ks⟩ := x
  have HT := Lib.hid ho.1
  have HTT := Lib.hid ho.2.1
  have HQ := Lib.hid (fun X (hX : Below W.heap.size W X) => toPattern_any d (.node k m t ks) A n c X ((show PtV W 0 W.heap.size d (.node k m t ks) A n from ho.2).go hX) (by have : szNm1 ⟨nm, .node k m t ks⟩ = nm.size + ptSz (.node k m t ks) := rfl; omega))
  clear ho hz
  have HC := Lib.hid (fun (X Y : World) (c0 c1 : Array Value) (eY : Y = W.alloc (.cells #[.string nm, .int .i64 k, .int .i64 m, .string t, .slice A n c] 76)) (eX : X = (Y.alloc (.cells c0 78)).alloc (.cells c1 78)) =>
    (show RW 78 X (W.heap.size + 1 + 1) c1 ∧ RW 78 X (W.heap.size + 1) c0 ∧ Below W.heap.size W X ∧ X.heap.size = W.heap.size + 3 from by
      subst eX; subst eY
      refine ⟨?_, ?_, ((below_alloc _ _).alloc (by simp) _).alloc (by simp; omega) _, by simp⟩
      · have := RW.new ((W.alloc (.cells #[.string nm, .int .i64 k, .int .i64 m, .string t, .slice A n c] 76)).alloc (.cells c0 78)) c1 78
        simpa using this
      · have := (RW.new (W.alloc (.cells #[.string nm, .int .i64 k, .int .i64 m, .string t, .slice A n c] 76)) c0 78).alloc (.cells c1 78)
        simpa using this))
  show Calls Tryd.prog 56 #[.agg #[.string nm, .int .i64 k, .int .i64 m, .string t, .slice A n c]] W _
  go_enter Tryd.func56, Tryd.ntmps56
  go_wp2_with (first
    | (go_at_call 12; obtain ⟨g1, g4, g2, g3⟩ := HC.out _ _ _ _ rfl rfl; refine Calls.mono (HQ.out _ g2) ?_; rintro e w1 ⟨g, he, h⟩; obtain rfl : e = .returned (.agg #[.int .i64 k, .int .i64 m, .string t, .slice (some ⟨g, 0, none⟩) n n]) := he; obtain ⟨hv, hb⟩ := h.out; rw [g3] at hv; have HR1 := Lib.hid (g1.below hb (by omega)); have HO1 := Lib.hid (g4.below hb (by omega)); have HB1 := Lib.hid (g2.trans (hb.mono g2.size)); have HG1 : Hid (W.heap.size + 3 ≤ w1.heap.size) := (by have := hb.size; show _ ≤ _; omega); have HTH : Hid (w1.there (W.heap.size + 1 + 1) 1 4) := HR1.out.there (by simp); have hss : (w1.setCells (W.heap.size + 1 + 1) 1 [.int .i64 k, .int .i64 m, .string t, .slice (some ⟨g, 0, none⟩) n n]).heap.size = w1.heap.size := size_setsPt _ _ _ _; have HV2 : Hid (PtV (w1.setCells (W.heap.size + 1 + 1) 1 [.int .i64 k, .int .i64 m, .string t, .slice (some ⟨g, 0, none⟩) n n]) (W.heap.size + 3) w1.heap.size d (.node k m t ks) (some ⟨g, 0, none⟩) n) := ⟨hv.1, hv.2.others (.inl (by omega))⟩; have HR2 : Hid (RW 78 (w1.setCells (W.heap.size + 1 + 1) 1 [.int .i64 k, .int .i64 m, .string t, .slice (some ⟨g, 0, none⟩) n n]) (W.heap.size + 1 + 1) #[.string nm, .int .i64 k, .int .i64 m, .string t, .slice (some ⟨g, 0, none⟩) n n]) := HR1.out.cells; have HO2 : Hid (RW 78 (w1.setCells (W.heap.size + 1 + 1) 1 [.int .i64 k, .int .i64 m, .string t, .slice (some ⟨g, 0, none⟩) n n]) (W.heap.size + 1) #[.string ⟨#[]⟩, .int .i64 0, .int .i64 0, .string ⟨#[]⟩, .slice none 0 0]) := HO1.out.others (by omega); have HB2 : Hid (Below W.heap.size W (w1.setCells (W.heap.size + 1 + 1) 1 [.int .i64 k, .int .i64 m, .string t, .slice (some ⟨g, 0, none⟩) n n])) := HB1.out.trans (below_cells (by omega) _ _ _); have HG2 : Hid (W.heap.size + 3 ≤ (w1.setCells (W.heap.size + 1 + 1) 1 [.int .i64 k, .int .i64 m, .string t, .slice (some ⟨g, 0, none⟩) n n]).heap.size ∧ (w1.setCells (W.heap.size + 1 + 1) 1 [.int .i64 k, .int .i64 m, .string t, .slice (some ⟨g, 0, none⟩) n n]).heap.size = w1.heap.size) := ⟨by rw [hss]; exact HG1.out, hss⟩; have tk1 : True := trivial; clear g1 g2 g3 g4 h hv hb HQ hss HR1 HO1 HB1)
    | (clear tk1; refine wpList_store_mid rfl 29 (.tmp 10) (.tmp 9) rfl (W.heap.size + 1 + 1) 1 _ rfl rfl HTH.out (by kernel_rfl) (by kernel_rfl) ?_; go_frame; clear HTH; generalize w1.setCells (W.heap.size + 1 + 1) 1 [.int .i64 k, .int .i64 m, .string t, .slice (some ⟨g, 0, none⟩) n n] = w2 at HV2 HR2 HO2 HB2 HG2 ⊢; have p0 : w2.cell? ⟨W.heap.size + 1 + 1, 0, none⟩ = some (.string nm) := HR2.out.cell 0; have f0 := HR2.out.frozen 0; have r0 : w2.cell? ⟨W.heap.size + 1, 0, none⟩ = some (.string ⟨#[]⟩) := HO2.out.cell 0; have z0 := HO2.out.frozen 0; have p1 : w2.cell? ⟨W.heap.size + 1 + 1, 1, none⟩ = some (.int .i64 k) := HR2.out.cell 1; have f1 := HR2.out.frozen 1; have r1 : w2.cell? ⟨W.heap.size + 1, 1, none⟩ = some (.int .i64 0) := HO2.out.cell 1; have z1 := HO2.out.frozen 1; have p2 : w2.cell? ⟨W.heap.size + 1 + 1, 2, none⟩ = some (.int .i64 m) := HR2.out.cell 2; have f2 := HR2.out.frozen 2; have r2 : w2.cell? ⟨W.heap.size + 1, 2, none⟩ = some (.int .i64 0) := HO2.out.cell 2; have z2 := HO2.out.frozen 2; have p3 : w2.cell? ⟨W.heap.size + 1 + 1, 3, none⟩ = some (.string t) := HR2.out.cell 3; have f3 := HR2.out.frozen 3; have r3 : w2.cell? ⟨W.heap.size + 1, 3, none⟩ = some (.string ⟨#[]⟩) := HO2.out.cell 3; have z3 := HO2.out.frozen 3; have p4 : w2.cell? ⟨W.heap.size + 1 + 1, 4, none⟩ = some (.slice (some ⟨g, 0, none⟩) n n) := HR2.out.cell 4; have f4 := HR2.out.frozen 4; have r4 : w2.cell? ⟨W.heap.size + 1, 4, none⟩ = some (.slice none 0 0) := HO2.out.cell 4; have z4 := HO2.out.frozen 4))
  have hs1 := HG1.out
  have hs2 := HG2.out.1
  have hb1 : Below (W.heap.size + 1) w2 ((((((w2.setCell ⟨W.heap.size + 1, 0, none⟩ (.string nm)).setCell ⟨W.heap.size + 1, 1, none⟩ (.int .i64 k)).setCell ⟨W.heap.size + 1, 2, none⟩ (.int .i64 m)).setCell ⟨W.heap.size + 1, 3, none⟩ (.string t)).setCell ⟨W.heap.size + 1, 4, none⟩ (.slice (some ⟨g, 0, none⟩) n n))) := (((((below_set w2 (p := ⟨W.heap.size + 1, 0, none⟩) (by simp) _).setCell (by simp) _).setCell (by simp) _).setCell (by simp) _).setCell (by simp) _)
  have hzz : ((((((w2.setCell ⟨W.heap.size + 1, 0, none⟩ (.string nm)).setCell ⟨W.heap.size + 1, 1, none⟩ (.int .i64 k)).setCell ⟨W.heap.size + 1, 2, none⟩ (.int .i64 m)).setCell ⟨W.heap.size + 1, 3, none⟩ (.string t)).setCell ⟨W.heap.size + 1, 4, none⟩ (.slice (some ⟨g, 0, none⟩) n n))).heap.size = w2.heap.size := by simp [World.setCell]
  refine bodyPost_ret (v := .agg #[.string nm, .int .i64 k, .int .i64 m, .string t, .slice (some ⟨g, 0, none⟩) n n]) (results_cell_row Tryd.results56 _ _ (W.heap.size + 1) 78 _ (0, 0) _ rfl (((((HO2.out.set_ 0 (.string nm)).set_ 1 (.int .i64 k)).set_ 2 (.int .i64 m)).set_ 3 (.string t)).set_ 4 (.slice (some ⟨g, 0, none⟩) n n)) Tryd.underlying78 rfl (by kernel_rfl)) rfl ⟨g, rfl, Lib.hid ⟨⟨HT.out, HTT.out, ?_⟩, HB2.out.trans (hb1.mono (by omega))⟩⟩
  rw [hzz, HG2.out.2]
  exact PtD.more (by omega) (Nat.le_refl _) ((((((HV2.out.2.other (q := ⟨W.heap.size + 1, 0, none⟩) (.inl (by first | (dsimp only; omega) | omega)) _).other (q := ⟨W.heap.size + 1, 1, none⟩) (.inl (by first | (dsimp only; omega) | omega)) _).other (q := ⟨W.heap.size + 1, 2, none⟩) (.inl (by first | (dsimp only; omega) | omega)) _).other (q := ⟨W.heap.size + 1, 3, none⟩) (.inl (by first | (dsimp only; omega) | omega)) _).other (q := ⟨W.heap.size + 1, 4, none⟩) (.inl (by first | (dsimp only; omega) | omega)) _))

/-- The elements of block g ahead of j are filled; their Kids lie above it. -/
def FilledNm (w : World) (g d j n : Nat) (xs : List Nm) : Prop :=
  ∃ cs, RW 78 w g cs ∧ n * 5 ≤ cs.size ∧ ∀ (i : Nat) (x : Nm), i < j → xs[i]? = some x → ∃ (A' : Option Addr) (n' : Nat), NmV w (g + 1) w.heap.size d x A' n' ∧ ∀ (q : Nat) (v : Value), (x.vs A' n' n')[q]? = some v → cs[i * 5 + q]? = some v
theorem FilledNm.below {w w' : World} {g d j n : Nat} {xs : List Nm} (h : FilledNm w g d j n xs) (hb : Below w.heap.size w w') : FilledNm w' g d j n xs := by
  obtain ⟨cs, hr, hn, hm⟩ := h
  refine ⟨cs, hr.below hb hr.lt, hn, fun i x hi hx => ?_⟩
  obtain ⟨A', n', h2, h3⟩ := hm i x hi hx
  exact ⟨A', n', h2.go hb, h3⟩
theorem FilledNm.store {w : World} {g d j n : Nat} {xs : List Nm} {x : Nm} {A' : Option Addr} {n' : Nat} (h : FilledNm w g d j n xs) (hx : xs[j]? = some x) (hj : j < n) (h5 : NmV w (g + 1) w.heap.size d x A' n') :
    FilledNm (w.setCells g (j * 5) (x.vs A' n' n')) g d (j + 1) n xs := by
  obtain ⟨cs, hr, hn, hm⟩ := h
  have hs : (w.setCells g (j * 5) (x.vs A' n' n')).heap.size = w.heap.size := size_setsPt _ _ _ _
  have hlK : (x.vs A' n' n').length = 5 := rfl
  refine ⟨_, hr.cells, by rw [putL_size]; exact hn, fun i y hi hy => ?_⟩
  by_cases e : i = j
  · subst e
    rw [hx, Option.some.injEq] at hy
    subst hy
    refine ⟨A', n', ?_, fun q v hq => putL_new _ _ _ _ _ (by rw [hlK]; omega) hq⟩
    rw [hs]
    exact ⟨h5.1, h5.2.1, h5.2.2.others (.inl (by omega))⟩
  · obtain ⟨B', m', k5, k6⟩ := hm i y (by omega) hy
    refine ⟨B', m', ?_, fun q v hq => ?_⟩
    · rw [hs]
      exact ⟨k5.1, k5.2.1, k5.2.2.others (.inl (by omega))⟩
    · have hqK : q < 5 := (List.getElem?_eq_some_iff.1 hq).1
      rw [putL_old _ _ _ _ (by omega)]
      exact k6 q v hq
theorem FilledNm.all {w : World} {g d n : Nat} {xs : List Nm} (h : FilledNm w g d n n xs) (hl : xs.length = n) (hn : n ≤ maxLen) : NmI w g w.heap.size d (some ⟨g, 0, none⟩) n xs := by
  obtain ⟨cs, hr, hc, hm⟩ := h
  refine ⟨hl, hn, fun _ => ⟨g, 0, rfl, Nat.le_refl _, hr.lt, fun j x hx => ?_⟩⟩
  obtain ⟨A', n', h5, h6⟩ := hm j x (by rw [← hl]; exact (List.getElem?_eq_some_iff.1 hx).1) hx
  rw [Nat.zero_add]
  have k : ∀ q v, (x.vs A' n' n')[q]? = some v → w.cell? ⟨g, j * 5 + q, none⟩ = some v := fun q v hq => (hr.cell _).trans (h6 q v hq)
  exact ⟨A', n', n', Nat.le_refl _, ⟨k 0 _ rfl, k 1 _ rfl, k 2 _ rfl, k 3 _ rfl, k 4 _ rfl⟩, h5.more (by omega) (Nat.le_refl _)⟩

theorem infoNm : (Tryd.prog.info? 78).map (fun i => (i.zero, i.size, i.bytes)) = some (some (Value.agg #[.string ⟨#[]⟩, .int .i64 0, .int .i64 0, .string ⟨#[]⟩, .slice none 0 0]), 5, 72) := by kernel_rfl
theorem ownNm {w : World} {B g n : Nat} {xs : List Value} (h : w.ownsRow B 78 5 (.slice (some ⟨g, 0, none⟩) n n) n xs) : ∃ cs, RW 78 w g cs ∧ n * 5 ≤ cs.size := by
  rcases h.2 with ⟨h', _⟩ | ⟨g', cap', cur, h', _, hg, _, _, hsz, _⟩
  · simp at h'
  · simp only [Value.slice.injEq, Option.some.injEq, Addr.mk.injEq, and_true, true_and] at h'
    obtain ⟨rfl, rfl⟩ := h'
    exact ⟨cur, hg, by omega⟩
/-- What toNamedS answers. -/
def ToNmS (d : Nat) (xs : List Nm) (n : Nat) (W : World) (e : Ending) (w' : World) : Prop :=
  e = .returned (.slice (some ⟨W.heap.size, 0, none⟩) n n) ∧ Hid (NmI w' W.heap.size w'.heap.size d (some ⟨W.heap.size, 0, none⟩) n xs ∧ Below W.heap.size W w')

set_option maxHeartbeats 2000000 in
set_option maxRecDepth 100000 in
theorem toNamedS_any (d : Nat) (A : Option Addr) (n c : Nat) (xs : List Nm) (W : World) (hr : NmI W 0 W.heap.size d A n xs) (hs : ∀ (j : Nat) (x : Nm), xs[j]? = some x → szNm1 x ≤ 1048576) (hn : n ≤ 1048576) :
    Calls Tryd.prog 21 #[.slice A n c] W (ToNmS d xs n W) := by
  obtain ⟨i0, hi, hz0, hz1, hz2⟩ := info_parts infoNm
  have HR := Lib.hid hr
  have HS := Lib.hid hs
  have h1 : (n : Int) ≤ 1048576 := by omega
  clear hr hs
  go_enter Tryd.func21, Tryd.ntmps21
  go_wp2_with (at_make; refine wpList_make_full _ rfl _ _ 43 rfl W.heap.size 78 i0 (.agg #[.string ⟨#[]⟩, .int .i64 0, .int .i64 0, .string ⟨#[]⟩, .slice none 0 0]) 5 Tryd.underlying43 hi hz0 hz1 .i64 .i64 n n n rfl rfl rfl rfl (by rw [hz2]; omega) (by unfold maxLen; omega) (Nat.le_refl _) ?_)
  intro w1 hown hgrow
  have HB1 : Hid (Below W.heap.size W w1) := below_grown_none hgrow
  obtain ⟨cs, hcs, hcn⟩ := ownNm hown
  have HG : Hid (W.heap.size < w1.heap.size) := hcs.lt
  have HM : Hid (FilledNm w1 W.heap.size d 0 n xs) := ⟨cs, hcs, hcn, fun i x hi => absurd hi (by omega)⟩
  clear hown hgrow hcs hcn hi hz0 hz1 hz2
  go_wp2_with fail
  go_loopw [4] (fun i wr => ∃ j : Nat, j ≤ n ∧ i = .int .i64 j ∧ Hid (Below W.heap.size W wr) ∧ Hid (W.heap.size < wr.heap.size) ∧ Hid (FilledNm wr W.heap.size d j n xs)) (fun i _ => n - (intOf i).toNat)
  case atStart => exact ⟨0, Nat.zero_le _, rfl, HB1, HG, HM⟩
  case round =>
    obtain ⟨j, hj, rfl, HW, HZ, HJ⟩ := hrel
    by_cases hlt : j < n
    · obtain ⟨b, off, x, A1, n1, c1, rfl, _, hg, hx, _, ⟨q0, q1, q2, q3, q4⟩, hov⟩ := (HR.out.below HW.out).at_ hlt
      have HX := Lib.hid hx
      have HO := Lib.hid (hov.more (Nat.le_refl _) HW.out.size)
      have HLT := Lib.hid hlt
      have HS1 := Lib.hid (HS.out j x hx)
      clear hx hov hg
      have b0 : (0 : Int) ≤ (j : Int) := by omega
      have b1 : (j : Int) < (n : Int) := by omega
      have HQ := Lib.hid (toNamed_any d x A1 n1 c1 wr HO.out HS1.out)
      go_wp2_with (first | (go_at_call 56; refine Calls.mono HQ.out ?_; clear HQ; rintro e w2 ⟨gk, rfl, h⟩; obtain ⟨hv, hb⟩ := h.out; have HF := Lib.hid (HJ.out.below hb); have hlt2 := HLT.out; have hzz := HZ.out; have HF2 : Hid (FilledNm (w2.setCells W.heap.size (j * 5) [.string x.name, .int .i64 x.pt.k, .int .i64 x.pt.n, .string x.pt.t, .slice (some ⟨gk, 0, none⟩) n1 n1]) W.heap.size d (j + 1) n xs) := (by have k := HF.out.store HX.out hlt2 (hv.more hzz (Nat.le_refl _)); unfold Nm.vs at k; exact k); have HT : Hid (w2.there W.heap.size (j * 5) 5) := (by obtain ⟨cs, hr, hc, _⟩ := HF.out; exact hr.there (by omega)); have HW2 : Hid (Below W.heap.size W (w2.setCells W.heap.size (j * 5) [.string x.name, .int .i64 x.pt.k, .int .i64 x.pt.n, .string x.pt.t, .slice (some ⟨gk, 0, none⟩) n1 n1])) := ((HW.out.trans (hb.mono HW.out.size)).trans (below_cells (Nat.le_refl _) _ _ _)); have HZ2 : Hid (W.heap.size < (w2.setCells W.heap.size (j * 5) [.string x.name, .int .i64 x.pt.k, .int .i64 x.pt.n, .string x.pt.t, .slice (some ⟨gk, 0, none⟩) n1 n1]).heap.size) := (by obtain ⟨_, hr, _⟩ := HF2.out; exact hr.lt); have tk1 : True := trivial; clear h hv hb hlt2 hzz q0 q1 q2 q3 q4) | (clear tk1; refine wpList_store_mid rfl 78 (.tmp 21) (.tmp 20) rfl W.heap.size (j * 5) _ rfl rfl HT.out (by kernel_rfl) (by kernel_rfl) ?_; go_frame; clear HT; generalize w2.setCells W.heap.size (j * 5) [.string x.name, .int .i64 x.pt.k, .int .i64 x.pt.n, .string x.pt.t, .slice (some ⟨gk, 0, none⟩) n1 n1] = w3 at HF2 HW2 HZ2 ⊢))
      go_roundw
      case rel => exact ⟨j + 1, by omega, by go_num, HW2, HZ2, HF2⟩
      case measure => simp [intOf]; omega
    · have HN : Hid (j = n) := by show _ = _; omega
      go_wp2_with fail
      go_ret
      have h := HJ.out
      rw [HN.out] at h
      exact ⟨rfl, Lib.hid ⟨h.all HR.out.1 HR.out.2.1, HW.out⟩⟩
end Go.Proofs.YtjeiiljdhnmofaaDoor
