/- toObject, toObjectS, toHeap of the laws. No condition. -/
import Derived.Test.YtbdmanadmckjjaaDoorObsSz
namespace Go.Proofs.YtbdmanadmckjjaaDoor
open Go Go.RowKit

section
variable {T : TypeId} {w w' : World} {g : Nat} {cs : Array Value}
end

theorem V4o.other {w : World} {b o : Nat} {x : Vl} (h : V4o w b o x) {p : Addr} (hp : b ≠ p.block) (u : Value) : V4o (w.setCell p u) b o x := by
  have k : ∀ i, (w.setCell p u).cell? ⟨b, i, none⟩ = w.cell? ⟨b, i, none⟩ := fun i => World.cell?_setCell_other w p ⟨b, i, none⟩ u (fun e => hp (by rw [e]))
  obtain ⟨h0, h1, h2, h3⟩ := h
  exact ⟨(k _).trans h0, (k _).trans h1, (k _).trans h2, (k _).trans h3⟩
theorem VI.other {w : World} {B n b off : Nat} {xs : List Vl} (h : VI w B (some ⟨b, off, none⟩) n xs) {p : Addr} (hp : b ≠ p.block) (u : Value) : VI (w.setCell p u) B (some ⟨b, off, none⟩) n xs :=
  ⟨h.1, h.2.1, fun hn => by
    obtain ⟨b', off', e, hg, hc⟩ := h.2.2 hn
    simp only [Option.some.injEq, Addr.mk.injEq, and_true] at e
    obtain ⟨rfl, rfl⟩ := e
    exact ⟨b, off, rfl, hg, fun j x hx => ⟨(hc j x hx).1.other hp u, (hc j x hx).2⟩⟩⟩

theorem VI.others {B n b off : Nat} {xs : List Vl} {g : Nat} (hp : b ≠ g) : ∀ {vs : List Value} {w : World} {o : Nat}, VI w B (some ⟨b, off, none⟩) n xs → VI (w.setCells g o vs) B (some ⟨b, off, none⟩) n xs
  | [], _, _, h => h
  | v :: r, w, o, h => VI.others hp (vs := r) (h.other (p := ⟨g, o, none⟩) hp v)

theorem VI.row {w : World} {B n b off : Nat} {xs : List Vl} {g : Nat} (h : VI w B (some ⟨b, off, none⟩) n xs) (hp : b ≠ g) (cs : Array Value) : VI (w.setRow g cs) B (some ⟨b, off, none⟩) n xs :=
  ⟨h.1, h.2.1, fun hn => by
    obtain ⟨b', off', e, hg, hc⟩ := h.2.2 hn
    simp only [Option.some.injEq, Addr.mk.injEq, and_true] at e
    obtain ⟨rfl, rfl⟩ := e
    refine ⟨b, off, rfl, hg, fun j x hx => ⟨?_, (hc j x hx).2⟩⟩
    obtain ⟨h0, h1, h2, h3⟩ := (hc j x hx).1
    exact ⟨(cell_setRow_other w g cs _ hp).trans h0, (cell_setRow_other w g cs _ hp).trans h1, (cell_setRow_other w g cs _ hp).trans h2, (cell_setRow_other w g cs _ hp).trans h3⟩⟩
theorem put_object (id kind : Int) (name : ByteArray) (low : Int) (a b k v : Value) (c0 c1 c2 c3 : Value) (dk dn : Int) (dt : ByteArray) (dr : Int) :
    putL ((#[.int .i64 id, .int .i64 kind, .string name, .int .i64 low, a, b, c0, c1, c2, c3].setIfInBounds 4 k).setIfInBounds 5 v) 6 [.int .i64 dk, .int .i64 dn, .string dt, .int .i64 dr] =
    #[.int .i64 id, .int .i64 kind, .string name, .int .i64 low, k, v, .int .i64 dk, .int .i64 dn, .string dt, .int .i64 dr] := by
  simp [putL]

/-- What toObject answers. -/
def ToO (o : Ob) (W : World) (e : Ending) (w' : World) : Prop := ∃ l, e = .returned (o.ag l) ∧ Hid (OV w' w'.heap.size o l ∧ Below W.heap.size W w' ∧ l.nk = o.keys.length ∧ l.nv = o.vals.length ∧ ∃ bk bv, l.Ak = some ⟨bk, 0, none⟩ ∧ l.Av = some ⟨bv, 0, none⟩ ∧ W.heap.size ≤ bk ∧ W.heap.size ≤ bv)

set_option maxHeartbeats 1000000 in
set_option maxRecDepth 100000 in
theorem toObject_any (o : Ob) (l : Lay) (W : World) (ho : OV W W.heap.size o l) (h1 : o.keys.length ≤ 1048576) (h2 : o.vals.length ≤ 1048576) :
    Calls Tryd.prog 34 #[o.ag l] W (ToO o W) := by
  obtain ⟨id, kind, name, low, ks, vs, ⟨dk, dn, dt, dr⟩⟩ := o
  obtain ⟨Ak, nk, ck, Av, nv, cv, hck, hcv⟩ := l
  obtain ⟨hk, hv, hn, hd⟩ := ho
  dsimp only at hk hv hn hd h1 h2
  rw [hk.1] at h1
  rw [hv.1] at h2
  have HK := Lib.hid hk
  have HV := Lib.hid hv
  have HD := Lib.hid hd
  have HN := Lib.hid hn
  have H1 := Lib.hid h1
  have H2 := Lib.hid h2
  clear hk hv hn hd h1 h2
  have HC := Lib.hid (fun (X Y : World) (T T' : TypeId) (c c' : Array Value) (eY : Y = W.alloc (.cells #[.int .i64 id, .int .i64 kind, .string name, .int .i64 low, .slice Ak nk ck, .slice Av nv cv, .int .i64 dk, .int .i64 dn, .string dt, .int .i64 dr] T)) (eX : X = (Y.alloc (.cells c T')).alloc (.cells c' T')) =>
    (show RW T X W.heap.size #[.int .i64 id, .int .i64 kind, .string name, .int .i64 low, .slice Ak nk ck, .slice Av nv cv, .int .i64 dk, .int .i64 dn, .string dt, .int .i64 dr] ∧ RW T' X (W.heap.size + 1 + 1) c' ∧ RW T' X (W.heap.size + 1) c ∧ Below W.heap.size W X ∧ X.heap.size = W.heap.size + 3 from by
      subst eX; subst eY
      refine ⟨((RW.new W _ T).alloc _).alloc _, ?_, ?_, ?_, by simp⟩
      · have := RW.new ((W.alloc (.cells #[.int .i64 id, .int .i64 kind, .string name, .int .i64 low, .slice Ak nk ck, .slice Av nv cv, .int .i64 dk, .int .i64 dn, .string dt, .int .i64 dr] T)).alloc (.cells c T')) c' T'
        simpa using this
      · have := (RW.new (W.alloc (.cells #[.int .i64 id, .int .i64 kind, .string name, .int .i64 low, .slice Ak nk ck, .slice Av nv cv, .int .i64 dk, .int .i64 dn, .string dt, .int .i64 dr] T)) c T').alloc (.cells c' T')
        simpa using this
      · exact ((below_alloc _ _).alloc (by simp) _).alloc (by simp; omega) _))
  show Calls Tryd.prog 34 #[.agg #[.int .i64 id, .int .i64 kind, .string name, .int .i64 low, .slice Ak nk ck, .slice Av nv cv, .int .i64 dk, .int .i64 dn, .string dt, .int .i64 dr]] W _
  go_enter Tryd.func34, Tryd.ntmps34
  go_wp2_with (go_at_call 23; obtain ⟨g0, g1, g4, g2, g3⟩ := HC.out _ _ _ _ _ _ rfl rfl; have HQ := toValueS_any Ak nk ck ks _ (HK.out.go g2) H1.out; refine Calls.mono HQ ?_; clear HQ; rintro e w1 ⟨rfl, h⟩; obtain ⟨hv, hb⟩ := h.out; have HA := Lib.hid (g0.below hb (by omega)); have HR := Lib.hid (g1.below hb (by omega)); have HO := Lib.hid (g4.below hb (by omega)); have HB1 := Lib.hid (g2.trans (hb.mono g2.size)); rw [g3] at hv; have HK1 : Hid (VI w1 w1.heap.size (some ⟨W.heap.size + 1 + 1 + 1, 0, none⟩) nk ks) := hv; have G1 : W.heap.size + 3 ≤ w1.heap.size := (by have := hb.size; omega); have HG1 := Lib.hid G1; have q5 : w1.cell? ⟨W.heap.size, 5, none⟩ = some (.slice Av nv cv) := HA.out.cell 5; have p4 : w1.cell? ⟨W.heap.size + 1 + 1, 4, none⟩ = some (.slice none 0 0) := HR.out.cell 4; have f4 := HR.out.frozen 4; clear g0 g1 g2 g3 g4 hv hb h G1 HK)
  go_wp2_with (go_at_call 23; have hbs := below_set w1 (p := ⟨W.heap.size + 1 + 1, 4, none⟩) (B := W.heap.size + 2) (Nat.le_refl _) (.slice (some ⟨W.heap.size + 1 + 1 + 1, 0, none⟩) nk nk); have HQ := toValueS_any Av nv cv vs _ (HV.out.go (HB1.out.trans (hbs.mono (by omega)))) H2.out; refine Calls.mono HQ ?_; clear HQ; rintro e w2 ⟨rfl, h⟩; obtain ⟨hv, hb⟩ := h.out; rw [size_set] at hb hv; have hsz := hb.size; rw [size_set] at hsz; have hs1 := HG1.out; have hk1 := (HK1.out.other (p := ⟨W.heap.size + 1 + 1, 4, none⟩) (by simp) (.slice (some ⟨W.heap.size + 1 + 1 + 1, 0, none⟩) nk nk)).below hb; have HK2 := Lib.hid (hk1.more hsz); have HA2 := Lib.hid ((HA.out.below hbs (by omega)).below hb (by omega)); have HR2 := Lib.hid ((HR.out.set_ 4 (.slice (some ⟨W.heap.size + 1 + 1 + 1, 0, none⟩) nk nk)).below hb (by omega)); have HO2 := Lib.hid ((HO.out.below hbs (by omega)).below hb (by omega)); have HB2 := Lib.hid ((HB1.out.trans (hbs.mono (by omega))).trans (hb.mono (by omega))); have HV2 := Lib.hid hv; have HG2 : Hid (W.heap.size + 3 ≤ w2.heap.size) := (Nat.le_trans hs1 hsz); have HZ1 := Lib.hid (show w1.heap.size ≠ W.heap.size + 1 + 1 by omega); have q6 : w2.cell? ⟨W.heap.size, 6, none⟩ = some (.int .i64 dk) := HA2.out.cell 6; have q7 : w2.cell? ⟨W.heap.size, 7, none⟩ = some (.int .i64 dn) := HA2.out.cell 7; have q8 : w2.cell? ⟨W.heap.size, 8, none⟩ = some (.string dt) := HA2.out.cell 8; have q9 : w2.cell? ⟨W.heap.size, 9, none⟩ = some (.int .i64 dr) := HA2.out.cell 9; have p5 : w2.cell? ⟨W.heap.size + 1 + 1, 5, none⟩ = some (.slice none 0 0) := HR2.out.cell 5; have f5 := HR2.out.frozen 5; clear hbs hv hb h hs1 hk1 HV q5 p4 f4)
  go_wp2_with (first | (go_at_call 17; have hbs := below_set w2 (p := ⟨W.heap.size + 1 + 1, 5, none⟩) (B := W.heap.size + 2) (Nat.le_refl _) (.slice (some ⟨w1.heap.size, 0, none⟩) nv nv); have HQ := toValue_any dk dn dt dr (w2.setCell ⟨W.heap.size + 1 + 1, 5, none⟩ (.slice (some ⟨w1.heap.size, 0, none⟩) nv nv)); refine Calls.mono HQ ?_; clear HQ; rintro e w3 ⟨rfl, hb⟩; rw [size_set] at hb; have hsz := hb.size; rw [size_set] at hsz; have hs1 := HG2.out; have HK3 := Lib.hid (((HK2.out.other (p := ⟨W.heap.size + 1 + 1, 5, none⟩) (by simp) (.slice (some ⟨w1.heap.size, 0, none⟩) nv nv)).below hb).more hsz); have HV3 := Lib.hid (((HV2.out.other (p := ⟨W.heap.size + 1 + 1, 5, none⟩) HZ1.out (.slice (some ⟨w1.heap.size, 0, none⟩) nv nv)).below hb).more hsz); have HR3 := Lib.hid ((HR2.out.set_ 5 (.slice (some ⟨w1.heap.size, 0, none⟩) nv nv)).below hb (by omega)); have HO3 := Lib.hid ((HO2.out.below hbs (by omega)).below hb (by omega)); have HB3 := Lib.hid ((HB2.out.trans (hbs.mono (by omega))).trans (hb.mono (by omega))); have HG3 : Hid (W.heap.size + 3 ≤ w3.heap.size) := (Nat.le_trans hs1 hsz); have HR4 : Hid (RW 49 (w3.setCells (W.heap.size + 1 + 1) 6 [.int .i64 dk, .int .i64 dn, .string dt, .int .i64 dr]) (W.heap.size + 1 + 1) #[.int .i64 id, .int .i64 kind, .string name, .int .i64 low, .slice (some ⟨W.heap.size + 1 + 1 + 1, 0, none⟩) nk nk, .slice (some ⟨w1.heap.size, 0, none⟩) nv nv, .int .i64 dk, .int .i64 dn, .string dt, .int .i64 dr]) := (by have h := HR3.out.cells (vs := [.int .i64 dk, .int .i64 dn, .string dt, .int .i64 dr]) (o := 6); rw [put_object] at h; exact h); have HO4 := Lib.hid (HO3.out.others (b := W.heap.size + 1 + 1) (by simp) (vs := [.int .i64 dk, .int .i64 dn, .string dt, .int .i64 dr]) (o := 6)); have HB4 : Hid (Below W.heap.size W (w3.setCells (W.heap.size + 1 + 1) 6 [.int .i64 dk, .int .i64 dn, .string dt, .int .i64 dr])) := HB3.out.trans (below_cells (by omega) _ _ _); have HK4 : Hid (VI (w3.setCells (W.heap.size + 1 + 1) 6 [.int .i64 dk, .int .i64 dn, .string dt, .int .i64 dr]) w3.heap.size (some ⟨W.heap.size + 1 + 1 + 1, 0, none⟩) nk ks) := HK3.out.others (by simp); have HV4 : Hid (VI (w3.setCells (W.heap.size + 1 + 1) 6 [.int .i64 dk, .int .i64 dn, .string dt, .int .i64 dr]) w3.heap.size (some ⟨w1.heap.size, 0, none⟩) nv vs) := HV3.out.others HZ1.out; have HG4 : Hid (w3.heap.size ≤ (w3.setCells (W.heap.size + 1 + 1) 6 [.int .i64 dk, .int .i64 dn, .string dt, .int .i64 dr]).heap.size) := (below_cells (B := 0) (Nat.zero_le _) _ _ _).size; have tk1 : True := trivial; clear hbs hb hsz hs1 q6 q7 q8 q9 p5 f5) | (clear tk1; refine wpList_store_mid rfl 37 (.tmp 27) (.tmp 26) rfl (W.heap.size + 1 + 1) 6 #[.int .i64 dk, .int .i64 dn, .string dt, .int .i64 dr] rfl rfl (HR3.out.there (n := 4) (by simp)) (by kernel_rfl) (by kernel_rfl) ?_; go_frame; generalize w3.setCells (W.heap.size + 1 + 1) 6 [.int .i64 dk, .int .i64 dn, .string dt, .int .i64 dr] = w4 at HR4 HO4 HB4 HK4 HV4 HG4 ⊢; have tk2 : True := trivial) | (clear tk2; refine wpList_load_row rfl 49 (.tmp 3) rfl (W.heap.size + 1 + 1) rfl 49 #[.int .i64 id, .int .i64 kind, .string name, .int .i64 low, .slice (some ⟨W.heap.size + 1 + 1 + 1, 0, none⟩) nk nk, .slice (some ⟨w1.heap.size, 0, none⟩) nv nv, .int .i64 dk, .int .i64 dn, .string dt, .int .i64 dr] (0, 0) _ HR4.out Tryd.underlying49 rfl (by kernel_rfl) ?_; have tk3 : True := trivial) | (clear tk3; refine wpList_store_row rfl 49 (.tmp 2) (.tmp 28) rfl (W.heap.size + 1) #[.int .i64 id, .int .i64 kind, .string name, .int .i64 low, .slice (some ⟨W.heap.size + 1 + 1 + 1, 0, none⟩) nk nk, .slice (some ⟨w1.heap.size, 0, none⟩) nv nv, .int .i64 dk, .int .i64 dn, .string dt, .int .i64 dr] rfl rfl 49 _ HO4.out (by kernel_rfl) rfl (by kernel_rfl) ?_; go_frame; have HE : Hid (RW 49 (w4.setRow (W.heap.size + 1) #[.int .i64 id, .int .i64 kind, .string name, .int .i64 low, .slice (some ⟨W.heap.size + 1 + 1 + 1, 0, none⟩) nk nk, .slice (some ⟨w1.heap.size, 0, none⟩) nv nv, .int .i64 dk, .int .i64 dn, .string dt, .int .i64 dr]) (W.heap.size + 1) #[.int .i64 id, .int .i64 kind, .string name, .int .i64 low, .slice (some ⟨W.heap.size + 1 + 1 + 1, 0, none⟩) nk nk, .slice (some ⟨w1.heap.size, 0, none⟩) nv nv, .int .i64 dk, .int .i64 dn, .string dt, .int .i64 dr] ∧ Below W.heap.size W (w4.setRow (W.heap.size + 1) #[.int .i64 id, .int .i64 kind, .string name, .int .i64 low, .slice (some ⟨W.heap.size + 1 + 1 + 1, 0, none⟩) nk nk, .slice (some ⟨w1.heap.size, 0, none⟩) nv nv, .int .i64 dk, .int .i64 dn, .string dt, .int .i64 dr]) ∧ VI (w4.setRow (W.heap.size + 1) #[.int .i64 id, .int .i64 kind, .string name, .int .i64 low, .slice (some ⟨W.heap.size + 1 + 1 + 1, 0, none⟩) nk nk, .slice (some ⟨w1.heap.size, 0, none⟩) nv nv, .int .i64 dk, .int .i64 dn, .string dt, .int .i64 dr]) w3.heap.size (some ⟨W.heap.size + 1 + 1 + 1, 0, none⟩) nk ks ∧ VI (w4.setRow (W.heap.size + 1) #[.int .i64 id, .int .i64 kind, .string name, .int .i64 low, .slice (some ⟨W.heap.size + 1 + 1 + 1, 0, none⟩) nk nk, .slice (some ⟨w1.heap.size, 0, none⟩) nv nv, .int .i64 dk, .int .i64 dn, .string dt, .int .i64 dr]) w3.heap.size (some ⟨w1.heap.size, 0, none⟩) nv vs ∧ w3.heap.size ≤ (w4.setRow (W.heap.size + 1) #[.int .i64 id, .int .i64 kind, .string name, .int .i64 low, .slice (some ⟨W.heap.size + 1 + 1 + 1, 0, none⟩) nk nk, .slice (some ⟨w1.heap.size, 0, none⟩) nv nv, .int .i64 dk, .int .i64 dn, .string dt, .int .i64 dr]).heap.size) := ⟨setRow_heap _ _ _ _ _ _ HO4.out, below_setRow HB4.out (by omega) _, HK4.out.row (by omega) _, HV4.out.row (by have := HG1.out; omega) _, by rw [size_setRow]; exact HG4.out⟩; generalize w4.setRow (W.heap.size + 1) #[.int .i64 id, .int .i64 kind, .string name, .int .i64 low, .slice (some ⟨W.heap.size + 1 + 1 + 1, 0, none⟩) nk nk, .slice (some ⟨w1.heap.size, 0, none⟩) nv nv, .int .i64 dk, .int .i64 dn, .string dt, .int .i64 dr] = w5 at HE ⊢))
  refine bodyPost_ret (v := .agg #[.int .i64 id, .int .i64 kind, .string name, .int .i64 low, .slice (some ⟨W.heap.size + 1 + 1 + 1, 0, none⟩) nk nk, .slice (some ⟨w1.heap.size, 0, none⟩) nv nv, .int .i64 dk, .int .i64 dn, .string dt, .int .i64 dr]) (results_cell_row Tryd.results34 _ _ (W.heap.size + 1) 49 #[.int .i64 id, .int .i64 kind, .string name, .int .i64 low, .slice (some ⟨W.heap.size + 1 + 1 + 1, 0, none⟩) nk nk, .slice (some ⟨w1.heap.size, 0, none⟩) nv nv, .int .i64 dk, .int .i64 dn, .string dt, .int .i64 dr] (0, 0) _ rfl HE.out.1 Tryd.underlying49 rfl (by kernel_rfl)) rfl ⟨⟨some ⟨W.heap.size + 1 + 1 + 1, 0, none⟩, nk, nk, some ⟨w1.heap.size, 0, none⟩, nv, nv, Nat.le_refl _, Nat.le_refl _⟩, rfl, Lib.hid ⟨⟨HE.out.2.2.1.more HE.out.2.2.2.2, HE.out.2.2.2.1.more HE.out.2.2.2.2, HN.out, HD.out⟩, HE.out.2.1, HK4.out.1.symm, HV4.out.1.symm, _, _, rfl, rfl, by omega, by have := HG1.out; omega⟩⟩
end Go.Proofs.YtbdmanadmckjjaaDoor
