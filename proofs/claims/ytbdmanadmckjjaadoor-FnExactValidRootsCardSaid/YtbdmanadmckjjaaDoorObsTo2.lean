/- toObjectS, toHeap of the laws. No condition. -/
import Derived.Test.YtbdmanadmckjjaaDoorObsTo
import Derived.Laws.OwnMore
namespace Go.Proofs.YtbdmanadmckjjaaDoor
open Go Go.RowKit

/-- The elements of block g ahead of j are filled; their lists lie elsewhere. -/
def FilledO (w : World) (g j n : Nat) (os : List Ob) : Prop :=
  ∃ cs, RW 49 w g cs ∧ n * 10 ≤ cs.size ∧ ∀ (i : Nat) (o : Ob), i < j → os[i]? = some o → ∃ l bk bv, l.Ak = some ⟨bk, 0, none⟩ ∧ l.Av = some ⟨bv, 0, none⟩ ∧ g < bk ∧ g < bv ∧ OV w w.heap.size o l ∧ ∀ (q : Nat) (v : Value), (o.vs l)[q]? = some v → cs[i * 10 + q]? = some v
theorem FilledO.below {w w' : World} {g j n : Nat} {os : List Ob} (h : FilledO w g j n os) (hb : Below w.heap.size w w') : FilledO w' g j n os := by
  obtain ⟨cs, hr, hn, hm⟩ := h
  refine ⟨cs, hr.below hb hr.lt, hn, fun i o hi ho => ?_⟩
  obtain ⟨l, bk, bv, h1, h2, h3, h4, h5, h6⟩ := hm i o hi ho
  exact ⟨l, bk, bv, h1, h2, h3, h4, (h5.below hb).more hb.size, h6⟩
theorem OV.others {w : World} {B g o : Nat} {x : Ob} {l : Lay} {bk bv : Nat} (h : OV w B x l) (h1 : l.Ak = some ⟨bk, 0, none⟩) (h2 : l.Av = some ⟨bv, 0, none⟩) (h3 : bk ≠ g) (h4 : bv ≠ g) (vs : List Value) : OV (w.setCells g o vs) B x l := by
  obtain ⟨a, b, c, d⟩ := h
  rw [h1] at a
  rw [h2] at b
  refine ⟨?_, ?_, c, d⟩
  · rw [h1]; exact a.others h3
  · rw [h2]; exact b.others h4
theorem FilledO.store {w : World} {g j n : Nat} {os : List Ob} {o : Ob} {l : Lay} {bk bv : Nat} (h : FilledO w g j n os) (ho : os[j]? = some o) (hj : j < n) (h1 : l.Ak = some ⟨bk, 0, none⟩) (h2 : l.Av = some ⟨bv, 0, none⟩) (h3 : g < bk) (h4 : g < bv) (h5 : OV w w.heap.size o l) :
    FilledO (w.setCells g (j * 10) (o.vs l)) g (j + 1) n os := by
  obtain ⟨cs, hr, hn, hm⟩ := h
  have hs : (w.setCells g (j * 10) (o.vs l)).heap.size = w.heap.size := Nat.le_antisymm (by
    have : ∀ (vs : List Value) (w : World) (k : Nat), (w.setCells g k vs).heap.size ≤ w.heap.size := by
      intro vs
      induction vs with
      | nil => exact fun _ _ => Nat.le_refl _
      | cons v r ih => exact fun w k => Nat.le_trans (ih _ _) (by rw [size_set]; exact Nat.le_refl _)
    exact this _ _ _) (below_cells (B := 0) (Nat.zero_le _) _ _ _).size
  have hl10 : (o.vs l).length = 10 := rfl
  refine ⟨_, hr.cells, by rw [putL_size]; exact hn, fun i x hi hx => ?_⟩
  by_cases e : i = j
  · subst e
    rw [ho, Option.some.injEq] at hx
    subst hx
    refine ⟨l, bk, bv, h1, h2, h3, h4, ?_, fun q v hq => putL_new _ _ _ _ _ (by rw [hl10]; omega) hq⟩
    rw [hs]
    exact h5.others h1 h2 (by omega) (by omega) _
  · obtain ⟨l', bk', bv', k1, k2, k3, k4, k5, k6⟩ := hm i x (by omega) hx
    refine ⟨l', bk', bv', k1, k2, k3, k4, ?_, fun q v hq => ?_⟩
    · rw [hs]
      exact k5.others k1 k2 (by omega) (by omega) _
    · have hq10 : q < 10 := (List.getElem?_eq_some_iff.1 hq).1
      rw [putL_old _ _ _ _ (by omega)]
      exact k6 q v hq
theorem FilledO.all {w : World} {g n : Nat} {os : List Ob} (h : FilledO w g n n os) (hl : os.length = n) (hn : n ≤ maxLen) : OI w w.heap.size (some ⟨g, 0, none⟩) n os := by
  obtain ⟨cs, hr, hc, hm⟩ := h
  refine ⟨hl, hn, fun _ => ⟨g, 0, rfl, hr.lt, fun j o ho => ?_⟩⟩
  obtain ⟨l, _, _, _, _, _, _, h5, h6⟩ := hm j o (by rw [← hl]; exact (List.getElem?_eq_some_iff.1 ho).1) ho
  rw [Nat.zero_add]
  have k : ∀ q v, (o.vs l)[q]? = some v → w.cell? ⟨g, j * 10 + q, none⟩ = some v := fun q v hq => (hr.cell _).trans (h6 q v hq)
  exact ⟨l, ⟨k 0 _ rfl, k 1 _ rfl, k 2 _ rfl, k 3 _ rfl, k 4 _ rfl, k 5 _ rfl, k 6 _ rfl, k 7 _ rfl, k 8 _ rfl, k 9 _ rfl⟩, h5⟩
theorem objInfo : (Tryd.prog.info? 49).map (fun i => (i.zero, i.size, i.bytes)) = some (some (Value.agg #[.int .i64 0, .int .i64 0, .string ⟨#[]⟩, .int .i64 0, .slice none 0 0, .slice none 0 0, .int .i64 0, .int .i64 0, .string ⟨#[]⟩, .int .i64 0]), 10, 128) := by kernel_rfl
theorem block_of_ownO {w : World} {B g n : Nat} {xs : List Value} (h : w.ownsRow B 49 10 (.slice (some ⟨g, 0, none⟩) n n) n xs) : ∃ cs, RW 49 w g cs ∧ n * 10 ≤ cs.size := by
  rcases h.2 with ⟨h', _⟩ | ⟨g', cap', cur, h', _, hg, _, _, hsz, _⟩
  · simp at h'
  · simp only [Value.slice.injEq, Option.some.injEq, Addr.mk.injEq, and_true, true_and] at h'
    obtain ⟨rfl, rfl⟩ := h'
    exact ⟨cur, hg, by omega⟩
/-- No list of the objects is too long. -/
def Small (os : List Ob) : Prop := ∀ (j : Nat) (o : Ob), os[j]? = some o → o.keys.length ≤ 1048576 ∧ o.vals.length ≤ 1048576
theorem small_of_sz {os : List Ob} (h : (szH os : Int) ≤ 1048576) : Small os ∧ os.length ≤ 1048576 := by
  unfold szH at h
  refine ⟨fun j o ho => ?_, by omega⟩
  have hl := (List.getElem?_eq_some_iff.1 ho).1
  have h1 := sumO_mono (os := os) (j := j + 1) (k := os.length) (by omega)
  rw [sumO_next ho] at h1
  unfold szO szV at h1
  omega

/-- What toObjectS answers. -/
def ToOS (os : List Ob) (n : Nat) (W : World) (e : Ending) (w' : World) : Prop :=
  e = .returned (.slice (some ⟨W.heap.size, 0, none⟩) n n) ∧ Hid (OI w' w'.heap.size (some ⟨W.heap.size, 0, none⟩) n os ∧ Below W.heap.size W w' ∧ FilledO w' W.heap.size n n os)

set_option maxHeartbeats 2000000 in
set_option maxRecDepth 100000 in
theorem toObjectS_any (A : Option Addr) (n c : Nat) (os : List Ob) (W : World) (hr : OI W W.heap.size A n os) (hs : Small os) (hn : n ≤ 1048576) :
    Calls Tryd.prog 41 #[.slice A n c] W (ToOS os n W) := by
  obtain ⟨i0, hi, hz0, hz1, hz2⟩ := info_parts objInfo
  have HR := Lib.hid hr
  have HS := Lib.hid hs
  have h1 : (n : Int) ≤ 1048576 := by omega
  clear hr hs
  go_enter Tryd.func41, Tryd.ntmps41
  go_wp2_with (at_make; refine wpList_make_full _ rfl _ _ 27 rfl W.heap.size 49 i0 (.agg #[.int .i64 0, .int .i64 0, .string ⟨#[]⟩, .int .i64 0, .slice none 0 0, .slice none 0 0, .int .i64 0, .int .i64 0, .string ⟨#[]⟩, .int .i64 0]) 10 Tryd.underlying27 hi hz0 hz1 .i64 .i64 n n n rfl rfl rfl rfl (by rw [hz2]; omega) (by unfold maxLen; omega) (Nat.le_refl _) ?_)
  intro w1 hown hgrow
  have HB1 : Hid (Below W.heap.size W w1) := below_grown_none hgrow
  obtain ⟨cs, hcs, hcn⟩ := block_of_ownO hown
  have HG : Hid (W.heap.size < w1.heap.size) := hcs.lt
  have HM : Hid (FilledO w1 W.heap.size 0 n os) := ⟨cs, hcs, hcn, fun i o hi => absurd hi (by omega)⟩
  clear hown hgrow hcs hcn hi hz0 hz1 hz2
  go_wp2_with fail
  go_loopw [4] (fun i wr => ∃ j : Nat, j ≤ n ∧ i = .int .i64 j ∧ Hid (Below W.heap.size W wr) ∧ Hid (W.heap.size < wr.heap.size) ∧ Hid (FilledO wr W.heap.size j n os)) (fun i _ => n - (intOf i).toNat)
  case atStart => exact ⟨0, Nat.zero_le _, rfl, HB1, HG, HM⟩
  case round =>
    obtain ⟨j, hj, rfl, HW, HZ, HJ⟩ := hrel
    by_cases hlt : j < n
    · obtain ⟨b, off, o, l, rfl, hg, hx, ⟨q0, q1, q2, q3, q4, q5, q6, q7, q8, q9⟩, hov⟩ := (HR.out.below HW.out).at_ hlt
      have HX := Lib.hid hx
      have HO := Lib.hid (hov.more HW.out.size)
      have HLT := Lib.hid hlt
      obtain ⟨hs1, hs2⟩ := HS.out j o hx
      have HS1 := Lib.hid hs1
      have HS2 := Lib.hid hs2
      clear hx hov hg hs1 hs2
      have b0 : (0 : Int) ≤ (j : Int) := by omega
      have b1 : (j : Int) < (n : Int) := by omega
      go_wp2_with (first | (go_at_call 34; have HQ := toObject_any o l _ HO.out HS1.out HS2.out; refine Calls.mono HQ ?_; clear HQ; rintro e w2 ⟨⟨Ak, nk, ck, Av, nv, cv, hck, hcv⟩, rfl, h⟩; obtain ⟨g1, hb, en1, en2, bk, bv, e1, e2, g4, g5⟩ := h.out; clear en1 en2; have HF := Lib.hid (HJ.out.below hb); have hlt2 := HLT.out; have hzz := HZ.out; have HF2 : Hid (FilledO (w2.setCells W.heap.size (j * 10) [.int .i64 o.id, .int .i64 o.kind, .string o.name, .int .i64 o.low, .slice Ak nk ck, .slice Av nv cv, .int .i64 o.d.k, .int .i64 o.d.n, .string o.d.t, .int .i64 o.d.r]) W.heap.size (j + 1) n os) := (by have k := HF.out.store HX.out hlt2 e1 e2 (Nat.lt_of_lt_of_le hzz g4) (Nat.lt_of_lt_of_le hzz g5) g1; unfold Ob.vs at k; exact k); have HT : Hid (w2.there W.heap.size (j * 10) 10) := (by obtain ⟨cs, hr, hc, _⟩ := HF.out; exact hr.there (by omega)); have HW2 : Hid (Below W.heap.size W (w2.setCells W.heap.size (j * 10) [.int .i64 o.id, .int .i64 o.kind, .string o.name, .int .i64 o.low, .slice Ak nk ck, .slice Av nv cv, .int .i64 o.d.k, .int .i64 o.d.n, .string o.d.t, .int .i64 o.d.r])) := ((HW.out.trans (hb.mono HW.out.size)).trans (below_cells (Nat.le_refl _) _ _ _)); have HZ2 : Hid (W.heap.size < (w2.setCells W.heap.size (j * 10) [.int .i64 o.id, .int .i64 o.kind, .string o.name, .int .i64 o.low, .slice Ak nk ck, .slice Av nv cv, .int .i64 o.d.k, .int .i64 o.d.n, .string o.d.t, .int .i64 o.d.r]).heap.size) := (by obtain ⟨_, hr, _⟩ := HF2.out; exact hr.lt); have tk1 : True := trivial; clear h g1 hb e1 e2 g4 g5 hlt2 hzz q0 q1 q2 q3 q4 q5 q6 q7 q8 q9) | (clear tk1; refine wpList_store_mid rfl 49 (.tmp 21) (.tmp 20) rfl W.heap.size (j * 10) _ rfl rfl HT.out (by kernel_rfl) (by kernel_rfl) ?_; go_frame; clear HT; generalize w2.setCells W.heap.size (j * 10) [.int .i64 o.id, .int .i64 o.kind, .string o.name, .int .i64 o.low, .slice Ak nk ck, .slice Av nv cv, .int .i64 o.d.k, .int .i64 o.d.n, .string o.d.t, .int .i64 o.d.r] = w3 at HF2 HW2 HZ2 ⊢))
      go_roundw
      case rel => exact ⟨j + 1, by omega, by go_num, HW2, HZ2, HF2⟩
      case measure => simp [intOf]; omega
    · have HN : Hid (j = n) := by show _ = _; omega
      go_wp2_with fail
      go_ret
      have h := HJ.out
      rw [HN.out] at h
      exact ⟨rfl, Lib.hid ⟨h.all HR.out.1 HR.out.2.1, HW.out, h⟩⟩

theorem FilledO.far {w : World} {g j n b i : Nat} {os : List Ob} (h : FilledO w g j n os) (hb : b < g) (v : Value) : FilledO (w.setCell ⟨b, i, none⟩ v) g j n os := by
  obtain ⟨cs, hr, hn, hm⟩ := h
  refine ⟨cs, hr.other (Nat.ne_of_gt hb) v, hn, fun i' o hi ho => ?_⟩
  obtain ⟨l, bk, bv, h1, h2, h3, h4, h5, h6⟩ := hm i' o hi ho
  refine ⟨l, bk, bv, h1, h2, h3, h4, ?_, h6⟩
  rw [size_set]
  exact h5.others (o := i) h1 h2 (by omega) (by omega) [v]

/-- What toHeap answers. -/
def ToH (nx : Int) (os : List Ob) (n : Nat) (W : World) (e : Ending) (w' : World) : Prop :=
  ∃ g, e = .returned (.agg #[.int .i64 nx, .slice (some ⟨g, 0, none⟩) n n]) ∧ Hid (OI w' w'.heap.size (some ⟨g, 0, none⟩) n os ∧ Below W.heap.size W w')
set_option maxRecDepth 100000 in
theorem toHeap_any (nx : Int) (A : Option Addr) (n c : Nat) (os : List Ob) (W : World) (hr : OI W W.heap.size A n os) (hs : Small os) (hn : n ≤ 1048576) :
    Calls Tryd.prog 12 #[.agg #[.int .i64 nx, .slice A n c]] W (ToH nx os n W) := by
  have HR := Lib.hid hr
  have HS := Lib.hid hs
  have HN := Lib.hid hn
  have HA := Lib.hid (fun (X Y : World) (T T' : TypeId) (c1 c2 : Array Value) (eY : Y = W.alloc (.cells #[.int .i64 nx, .slice A n c] T)) (eX : X = (Y.alloc (.cells c1 T')).alloc (.cells c2 T')) => (show Below W.heap.size W X ∧ RW T' X (W.heap.size + 1 + 1) c2 ∧ RW T' X (W.heap.size + 1) c1 ∧ X.heap.size = W.heap.size + 3 from by
    subst eX; subst eY
    refine ⟨((below_alloc _ _).alloc (by simp) _).alloc (by simp; omega) _, ?_, ?_, by simp⟩
    · have := RW.new ((W.alloc (.cells #[.int .i64 nx, .slice A n c] T)).alloc (.cells c1 T')) c2 T'
      simpa using this
    · have := (RW.new (W.alloc (.cells #[.int .i64 nx, .slice A n c] T)) c1 T').alloc (.cells c2 T')
      simpa using this))
  clear hr hs hn
  go_enter Tryd.func12, Tryd.ntmps12
  go_wp2_with (go_at_call 41; obtain ⟨g2, g1, g0, g3⟩ := HA.out _ _ _ _ _ _ rfl rfl; have HQ := toObjectS_any A n c os _ (HR.out.go g2) HS.out HN.out; refine Calls.mono HQ ?_; clear HQ; rintro e w1 ⟨rfl, h⟩; obtain ⟨_, hb, hv⟩ := h.out; rw [g3] at hv; have HB1 := Lib.hid (g2.trans (hb.mono g2.size)); have HV1 := Lib.hid hv; have HR1 := Lib.hid (g1.below hb (by omega)); have HO1 := Lib.hid (g0.below hb (by omega)); have HG1 : Hid (W.heap.size + 3 ≤ w1.heap.size) := (by have := hb.size; show _ ≤ _; omega); have p1 : w1.cell? ⟨W.heap.size + 1 + 1, 1, none⟩ = some (.slice none 0 0) := HR1.out.cell 1; have p0 : w1.cell? ⟨W.heap.size + 1 + 1, 0, none⟩ = some (.int .i64 nx) := HR1.out.cell 0; have f1 := HR1.out.frozen 1; have r0 : w1.cell? ⟨W.heap.size + 1, 0, none⟩ = some (.int .i64 0) := HO1.out.cell 0; have r1 : w1.cell? ⟨W.heap.size + 1, 1, none⟩ = some (.slice none 0 0) := HO1.out.cell 1; have z0 := HO1.out.frozen 0; have z1 := HO1.out.frozen 1; clear g0 g1 g2 g3 h hv hb)
  have hs1 := HG1.out
  have hb1 : Below (W.heap.size + 1) w1 (((w1.setCell ⟨W.heap.size + 1 + 1, 1, none⟩ (.slice (some ⟨W.heap.size + 1 + 1 + 1, 0, none⟩) n n)).setCell ⟨W.heap.size + 1, 0, none⟩ (.int .i64 nx)).setCell ⟨W.heap.size + 1, 1, none⟩ (.slice (some ⟨W.heap.size + 1 + 1 + 1, 0, none⟩) n n)) := ((below_set w1 (p := ⟨W.heap.size + 1 + 1, 1, none⟩) (by simp) _).setCell (by simp) _).setCell (by simp) _
  refine bodyPost_ret (v := .agg #[.int .i64 nx, .slice (some ⟨W.heap.size + 1 + 1 + 1, 0, none⟩) n n]) (results_cell_row Tryd.results12 _ _ (W.heap.size + 1) 29 _ (0, 0) _ rfl (((HO1.out.other (p := ⟨W.heap.size + 1 + 1, 1, none⟩) (by simp) (.slice (some ⟨W.heap.size + 1 + 1 + 1, 0, none⟩) n n)).set_ 0 (.int .i64 nx)).set_ 1 (.slice (some ⟨W.heap.size + 1 + 1 + 1, 0, none⟩) n n)) Tryd.underlying29 rfl (by kernel_rfl)) rfl ⟨W.heap.size + 1 + 1 + 1, rfl, Lib.hid ⟨?_, HB1.out.trans (hb1.mono (by omega))⟩⟩
  exact (((HV1.out.far (by omega) _).far (by omega) _).far (by omega) _).all HR.out.1 HR.out.2.1
end Go.Proofs.YtbdmanadmckjjaaDoor
