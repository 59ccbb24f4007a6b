/- Contract: valuesOf of the program at arrays and records. No condition. Contract: contents of a table, of the program. Condition: at most thirty keys, as many values. Contract: valuesOf of the program at every valid object. No condition. -/
import Derived.Test.YtbdmanadmckjjaaDoorObFitA
import Derived.Test.YtbdmanadmckjjaaDoorVOwn
import Derived.Test.YtbdmanadmckjjaaDoorHpPlain
namespace Go.Proofs.YtbdmanadmckjjaaDoor
open Go Go.RowKit Go.Sort

theorem VI_row {w : World} {B : Nat} {o : Ob} {l : Lay} (h : OV w B o l) : VI w B l.Av l.nv o.vals := h.2.1

set_option maxHeartbeats 2000000 in
set_option maxRecDepth 100000 in
theorem valuesOf_1 (o : Ob) (l : Lay) (W : World) (k1 : o.kind = 1) :
    Calls Tryd.prog 60 #[o.ag l] W fun e w' => e = .returned (.slice l.Av l.nv l.cv) ∧ Below W.heap.size W w' := by
  have HK : Hid (kindV o l = .iface 105 (o.ag l)) := by show _ = _; unfold kindV; rw [if_pos k1]
  have HC := Lib.hid (one_new W 49 (o.vs l).toArray)
  clear k1
  have a0 := as_arrayObject_arrayObject o l
  have a1 := as_arrayObject_tableObject o l
  have a2 := as_arrayObject_recordObject o l
  show Calls Tryd.prog 60 #[.agg #[.int .i64 o.id, .int .i64 o.kind, .string o.name, .int .i64 o.low, .slice l.Ak l.nk l.ck, .slice l.Av l.nv l.cv, .int .i64 o.d.k, .int .i64 o.d.n, .string o.d.t, .int .i64 o.d.r]] W _
  go_enter Tryd.func60, Tryd.ntmps60
  go_wp2_with (go_at_call 82; obtain ⟨g0, g1, g2⟩ := HC.out _ rfl; refine (ofKind_any o l _).mono ?_; rintro e w1 ⟨rfl, hb⟩; rw [HK.out]; have HB1 := Lib.hid (g1.trans (hb.mono g1.size)); clear g0 g1 g2 hb)
  all_goals go_ret
  all_goals exact ⟨rfl, HB1.out.alloc HB1.out.size _⟩

set_option maxHeartbeats 2000000 in
set_option maxRecDepth 100000 in
theorem valuesOf_3 (o : Ob) (l : Lay) (W : World) (k1 : o.kind = 3) :
    Calls Tryd.prog 60 #[o.ag l] W fun e w' => e = .returned (.slice l.Av l.nv l.cv) ∧ Below W.heap.size W w' := by
  have HK : Hid (kindV o l = .iface 108 (o.ag l)) := by show _ = _; unfold kindV; simp [k1]
  have HC := Lib.hid (one_new W 49 (o.vs l).toArray)
  clear k1
  have a0 := as_recordObject_arrayObject o l
  have a1 := as_recordObject_tableObject o l
  have a2 := as_recordObject_recordObject o l
  show Calls Tryd.prog 60 #[.agg #[.int .i64 o.id, .int .i64 o.kind, .string o.name, .int .i64 o.low, .slice l.Ak l.nk l.ck, .slice l.Av l.nv l.cv, .int .i64 o.d.k, .int .i64 o.d.n, .string o.d.t, .int .i64 o.d.r]] W _
  go_enter Tryd.func60, Tryd.ntmps60
  go_wp2_with (go_at_call 82; obtain ⟨g0, g1, g2⟩ := HC.out _ rfl; refine (ofKind_any o l _).mono ?_; rintro e w1 ⟨rfl, hb⟩; rw [HK.out]; have HB1 := Lib.hid (g1.trans (hb.mono g1.size)); clear g0 g1 g2 hb)
  all_goals go_ret
  all_goals exact ⟨rfl, HB1.out.alloc HB1.out.size _⟩

theorem pairs_nil_left (vs : List Vl) : pairsOf [] vs = [] := by cases vs <;> rfl
theorem pairs_next : ∀ {ks vs : List Vl} {k : Nat} {x y : Vl}, ks[k]? = some x → vs[k]? = some y → pairsOf (ks.take (k + 1)) (vs.take (k + 1)) = pairsOf (ks.take k) (vs.take k) ++ [x, y]
  | [], vs, k, x, y, h, _ => by simp at h
  | a :: ks, [], k, x, y, _, h => by simp at h
  | a :: ks, b :: vs, 0, x, y, h, h' => by
    simp only [List.getElem?_cons_zero, Option.some.injEq] at h h'
    subst h h'
    simp [pairsOf]
  | a :: ks, b :: vs, k + 1, x, y, h, h' => by
    have ih := pairs_next (ks := ks) (vs := vs) (k := k) (by simpa using h) (by simpa using h')
    simp only [List.take_succ_cons, pairsOf, ih, List.cons_append]
theorem pairs_length : ∀ (ks vs : List Vl), ks.length = vs.length → (pairsOf ks vs).length = 2 * ks.length
  | [], vs, h => by rw [pairs_nil_left]; rfl
  | a :: ks, [], h => by simp at h
  | a :: ks, b :: vs, h => by
    have ih := pairs_length ks vs (by simpa using h)
    simp only [pairsOf, List.length_cons, ih]
    omega
theorem ownV_two {w : World} {B n : Nat} {v : Value} {xs : List Vl} (x y : Vl) (h : w.ownsRow B 37 4 v (n + 2) (cellsV xs ++ [.int .i64 x.k, .int .i64 x.n, .string x.t, .int .i64 x.r, .int .i64 y.k, .int .i64 y.n, .string y.t, .int .i64 y.r])) : OwnV w B v (n + 2) (xs ++ [x, y]) := by
  unfold OwnV
  rw [cellsV_append]
  exact h
theorem ownV_one {w : World} {B n : Nat} {v : Value} {xs : List Vl} (x : Vl) (h : w.ownsRow B 37 4 v (n + 1) (cellsV xs ++ [.int .i64 x.k, .int .i64 x.n, .string x.t, .int .i64 x.r])) : OwnV w B v (n + 1) (xs ++ [x]) := by
  unfold OwnV
  rw [cellsV_append]
  exact h
/-- What contents answers. -/
def ConT (o : Ob) (W : World) (e : Ending) (w' : World) : Prop := ∃ A n c, e = .returned (.slice A n c) ∧ Hid (VI w' w'.heap.size A n (pairsOf o.keys o.vals ++ [o.d]) ∧ Below W.heap.size W w')

/-- The cells of the round. -/
abbrev FlatC (g p : Nat) (xk xn : Int) (xt : ByteArray) (xr : Int) (Av : Option Addr) (nv cv : Nat) (b off : Nat) (yk yn : Int) (yt : ByteArray) (yr : Int) (w : World) : Prop :=
  (w.cell? ⟨g, 0, none⟩ = some (.int .i64 xk) ∧ w.cell? ⟨g, 1, none⟩ = some (.int .i64 xn) ∧ w.cell? ⟨g, 2, none⟩ = some (.string xt) ∧ w.cell? ⟨g, 3, none⟩ = some (.int .i64 xr)) ∧ w.cell? ⟨p, 5, none⟩ = some (.slice Av nv cv) ∧
  (w.cell? ⟨b, off, none⟩ = some (.int .i64 yk) ∧ w.cell? ⟨b, off + 1, none⟩ = some (.int .i64 yn) ∧ w.cell? ⟨b, off + 2, none⟩ = some (.string yt) ∧ w.cell? ⟨b, off + 3, none⟩ = some (.int .i64 yr))

theorem FlatC.far {g p : Nat} {xk xn : Int} {xt : ByteArray} {xr : Int} {Av : Option Addr} {nv cv : Nat} {b off : Nat} {yk yn : Int} {yt : ByteArray} {yr : Int} {w w' : World} {row : Option Nat} (h : FlatC g p xk xn xt xr Av nv cv b off yk yn yt yr w) (hg : w.grownBy w' row)
    (h1 : g < w.heap.size) (h2 : p < w.heap.size) (h3 : b < w.heap.size) (n1 : some g ≠ row) (n2 : some p ≠ row) (n3 : some b ≠ row) : FlatC g p xk xn xt xr Av nv cv b off yk yn yt yr w' := by
  obtain ⟨⟨a0, a1, a2, a3⟩, a4, a5, a6, a7, a8⟩ := h
  exact ⟨⟨(hg.cell_far ⟨g, 0, none⟩ h1 n1).trans a0, (hg.cell_far ⟨g, 1, none⟩ h1 n1).trans a1, (hg.cell_far ⟨g, 2, none⟩ h1 n1).trans a2, (hg.cell_far ⟨g, 3, none⟩ h1 n1).trans a3⟩, (hg.cell_far ⟨p, 5, none⟩ h2 n2).trans a4,
    (hg.cell_far ⟨b, off, none⟩ h3 n3).trans a5, (hg.cell_far ⟨b, off + 1, none⟩ h3 n3).trans a6, (hg.cell_far ⟨b, off + 2, none⟩ h3 n3).trans a7, (hg.cell_far ⟨b, off + 3, none⟩ h3 n3).trans a8⟩

theorem FlatC.below {g p : Nat} {xk xn : Int} {xt : ByteArray} {xr : Int} {Av : Option Addr} {nv cv : Nat} {b off : Nat} {yk yn : Int} {yt : ByteArray} {yr : Int} {B : Nat} {w w' : World} (h : FlatC g p xk xn xt xr Av nv cv b off yk yn yt yr w) (hb : Below B w w')
    (h1 : g < B) (h2 : p < B) (h3 : b < B) : FlatC g p xk xn xt xr Av nv cv b off yk yn yt yr w' := by
  obtain ⟨⟨a0, a1, a2, a3⟩, a4, a5, a6, a7, a8⟩ := h
  exact ⟨⟨(hb.cell (p := ⟨g, 0, none⟩) h1).trans a0, (hb.cell (p := ⟨g, 1, none⟩) h1).trans a1, (hb.cell (p := ⟨g, 2, none⟩) h1).trans a2, (hb.cell (p := ⟨g, 3, none⟩) h1).trans a3⟩, (hb.cell (p := ⟨p, 5, none⟩) h2).trans a4,
    (hb.cell (p := ⟨b, off, none⟩) h3).trans a5, (hb.cell (p := ⟨b, off + 1, none⟩) h3).trans a6, (hb.cell (p := ⟨b, off + 2, none⟩) h3).trans a7, (hb.cell (p := ⟨b, off + 3, none⟩) h3).trans a8⟩

set_option maxHeartbeats 2000000 in
set_option maxRecDepth 100000 in
theorem contents_any (o : Ob) (l : Lay) (W : World) (ho : OV W W.heap.size o l) (hn : o.keys.length ≤ 30) (hl : o.keys.length = o.vals.length) :
    Calls Tryd.prog 83 #[o.ag l] W (ConT o W) := by
  obtain ⟨i0, hi0, hz0, hz1, hz2⟩ := info_parts valInfo
  obtain ⟨id, kind, name, low, ks, vs, ⟨dk, dn, dt, dr⟩⟩ := o
  obtain ⟨Ak, nk, ck, Av, nv, cv, hck, hcv⟩ := l
  obtain ⟨hk, hv, _, hd⟩ := ho
  dsimp only at hk hv hn hl hd
  obtain rfl : nv = nk := by rw [← hv.1, ← hk.1, hl]
  have hnk : nv ≤ 30 := by rw [← hk.1]; exact hn
  have HK := Lib.hid hk
  have HV := Lib.hid hv
  have HD := Lib.hid hd
  have HL := Lib.hid hl
  clear hk hv hn hd hl
  have HC := Lib.hid (fun X (e : X = W.alloc (.cells #[.int .i64 id, .int .i64 kind, .string name, .int .i64 low, .slice Ak nv ck, .slice Av nv cv, .int .i64 dk, .int .i64 dn, .string dt, .int .i64 dr] 106)) => (show RW 106 X W.heap.size #[.int .i64 id, .int .i64 kind, .string name, .int .i64 low, .slice Ak nv ck, .slice Av nv cv, .int .i64 dk, .int .i64 dn, .string dt, .int .i64 dr] ∧ Below W.heap.size W X ∧ X.heap.size = W.heap.size + 1 from by rw [e]; exact ⟨RW.new _ _ _, below_alloc _ _, by simp⟩))
  show Calls Tryd.prog 83 #[.agg #[.int .i64 id, .int .i64 kind, .string name, .int .i64 low, .slice Ak nv ck, .slice Av nv cv, .int .i64 dk, .int .i64 dn, .string dt, .int .i64 dr]] W _
  go_enter Tryd.func83, Tryd.ntmps83
  go_wp2_with fail
  have HX := Lib.hid (HC.out _ rfl)
  clear HC
  go_loopw [3, 9] (fun v i wr => ∃ k : Nat, k ≤ nv ∧ i = .int .i64 k ∧ Hid (OwnV wr (W.heap.size + 1) v (2 * k) (pairsOf (ks.take k) (vs.take k))) ∧ Hid (RW 106 wr W.heap.size #[.int .i64 id, .int .i64 kind, .string name, .int .i64 low, .slice Ak nv ck, .slice Av nv cv, .int .i64 dk, .int .i64 dn, .string dt, .int .i64 dr]) ∧ Hid (Below W.heap.size W wr) ∧ Hid (W.heap.size + 1 ≤ wr.heap.size)) (fun _ i _ => nv - (intOf i).toNat)
  case atStart => exact ⟨0, Nat.zero_le _, rfl, ownV_nil _ _ (by simp), HX.out.1, HX.out.2.1, by show _ ≤ _; simp⟩
  case round =>
    obtain ⟨k, hk, rfl, HO, HR, HW, HZ⟩ := hrel
    rename Value => vv
    obtain ⟨A9, c9, rfl⟩ := ownV_form HO.out
    by_cases hlt : k < nv
    · obtain ⟨bb1, off1, x, hAk, hg1, hx, h1, hxs⟩ := (HK.out.below HW.out).at_ hlt
      obtain ⟨b2, off2, y, hAv, hg2, hy, h2, hys⟩ := (HV.out.below HW.out).at_ hlt
      subst hAk hAv
      obtain ⟨xk, xn, xt, xr⟩ := x
      obtain ⟨yk, yn, yt, yr⟩ := y
      obtain ⟨p0, p1, p2, p3⟩ := h1
      obtain ⟨q0, q1, q2, q3⟩ := h2
      dsimp only at p0 p1 p2 p3 q0 q1 q2 q3
      have HX := Lib.hid hx
      have HY := Lib.hid hy
      have HG2 := Lib.hid hg2
      have HF := Lib.hid (fun X (e : X = wr.alloc (.cells #[.int .i64 xk, .int .i64 xn, .string xt, .int .i64 xr] 37)) => (show FlatC wr.heap.size W.heap.size xk xn xt xr (some ⟨b2, off2, none⟩) nv cv b2 (off2 + k * 4) yk yn yt yr X ∧ OwnV X (W.heap.size + 1) (.slice A9 (2 * k) c9) (2 * k) (pairsOf (ks.take k) (vs.take k)) ∧ Below wr.heap.size wr X ∧ X.heap.size = wr.heap.size + 1 from by
        subst e
        have hb := below_alloc wr (.cells #[.int .i64 xk, .int .i64 xn, .string xt, .int .i64 xr] 37)
        have hr := RW.new wr #[.int .i64 xk, .int .i64 xn, .string xt, .int .i64 xr] 37
        have hlt := Nat.lt_of_lt_of_le hg2 HW.out.size
        exact ⟨⟨⟨hr.cell 0, hr.cell 1, hr.cell 2, hr.cell 3⟩, (HR.out.alloc _).cell 5, V4o.below (x := ⟨yk, yn, yt, yr⟩) ⟨q0, q1, q2, q3⟩ hb hlt⟩, ownV_keep HO.out hb, hb, by simp⟩))
      have b0 : (0 : Int) ≤ (k : Int) := by omega
      have b1 : (k : Int) < (nv : Int) := by omega
      clear hx hy hg1 hg2 hxs hys q0 q1 q2 q3
      go_wp2_with fail
      obtain ⟨wa, hwa⟩ : ∃ wa, wa = wr.alloc (.cells #[.int .i64 xk, .int .i64 xn, .string xt, .int .i64 xr] 37) := ⟨_, rfl⟩
      rw [← hwa]
      obtain ⟨f1, f2, f3, f4⟩ := HF.out wa hwa
      have HFL := Lib.hid f1
      have HO2 := Lib.hid f2
      have HB2 := Lib.hid f3
      have HS2 := Lib.hid f4
      have N0 : Hid (some wr.heap.size ≠ (Value.slice A9 (2 * k) c9).ownBlock) := fun e => by have := (HO.out.lt _ e.symm).2; omega
      have N1 : Hid (some W.heap.size ≠ (Value.slice A9 (2 * k) c9).ownBlock) := fun e => by have := (HO.out.lt _ e.symm).1; omega
      have N2 : Hid (some b2 ≠ (Value.slice A9 (2 * k) c9).ownBlock) := fun e => by have := (HO.out.lt _ e.symm).1; have := HG2.out; omega
      clear f1 f2 f3 f4 HF p0 p1 p2 p3 hwa
      have G0 : Hid (wr.heap.size < wa.heap.size) := by have := HS2.out; show _ < _; omega
      have G1 : Hid (W.heap.size < wa.heap.size) := by have := HS2.out; have := HZ.out; show _ < _; omega
      have G2 : Hid (b2 < wa.heap.size) := by have := HS2.out; have := HZ.out; have := HG2.out; show _ < _; omega
      have HD3 : Hid (∀ cs T, FlatC wr.heap.size W.heap.size xk xn xt xr (some ⟨b2, off2, none⟩) nv cv b2 (off2 + k * 4) yk yn yt yr (wa.alloc (.cells cs T)).drew) := fun cs T => HFL.out.below (below_alloc wa (.cells cs T)).drew G0.out G1.out G2.out
      have HD2 : Hid (FlatC wr.heap.size W.heap.size xk xn xt xr (some ⟨b2, off2, none⟩) nv cv b2 (off2 + k * 4) yk yn yt yr wa.drew) := HFL.out
      go_region_held3 (fun w' => FlatC wr.heap.size W.heap.size xk xn xt xr (some ⟨b2, off2, none⟩) nv cv b2 (off2 + k * 4) yk yn yt yr w')
        (first | exact HD2.out | exact HD3.out _ _ | exact (HD3.out _ _).far hgr1 (Nat.lt_of_lt_of_le G0.out (by simp)) (Nat.lt_of_lt_of_le G1.out (by simp)) (Nat.lt_of_lt_of_le G2.out (by simp)) N0.out N1.out N2.out | go_keep)
        ((refine step_append_lies _ (by rfl) _ _ _ (by rfl) (W.heap.size + 1) 37 i0 (.agg #[.int .i64 0, .int .i64 0, .string ⟨#[]⟩, .int .i64 0]) 4 40 Tryd.underlying44 hi0 hz0 hz1 hz2 (by rfl) (by decide) (.slice A9 (2 * k) c9) (2 * k) (cellsV (pairsOf (ks.take k) (vs.take k))) (by rfl) ((show OwnV wa.drew (W.heap.size + 1) _ _ _ from HO2.out).alloc _) ⟨wa.heap.size, 0, none⟩ 2 2 [.int .i64 xk, .int .i64 xn, .string xt, .int .i64 xr, .int .i64 yk, .int .i64 yn, .string yt, .int .i64 yr] (by rfl) (by rfl) (fun j u hu => World.news_of_block (B := wa.heap.size) (cs := #[.int .i64 xk, .int .i64 xn, .string xt, .int .i64 xr, .int .i64 yk, .int .i64 yn, .string yt, .int .i64 yr]) (heap_alloc_new wa.drew _) j u (by simpa using hu)) (fun x hx => by simp at hx; rcases hx with rfl | rfl | rfl | rfl | rfl | rfl | rfl | rfl <;> rfl) (by decide) (by unfold maxLen; omega) (by omega) (by have := HS2.out; have := HZ.out; simp; omega) (wa.heap.size + 1) (by simp) ?_; intro g9 cap9 w7 hown1 hgr1 hat hlt9))
      have HROW : Hid (RW 106 w7 W.heap.size #[.int .i64 id, .int .i64 kind, .string name, .int .i64 low, .slice (some ⟨bb1, off1, none⟩) nv ck, .slice (some ⟨b2, off2, none⟩) nv cv, .int .i64 dk, .int .i64 dn, .string dt, .int .i64 dr]) := (hgr1.block W.heap.size (Nat.lt_of_lt_of_le G1.out (by simp)) N1.out).trans (show RW _ (wa.alloc (.cells _ _)) _ _ from ((HR.out.below HB2.out HR.out.lt).alloc _))
      have HBEL : Hid (Below W.heap.size W w7) := ((HW.out.trans (HB2.out.mono HW.out.size)).alloc (Nat.le_of_lt G1.out) _).drew.grown hgr1 (Nat.le_trans (Nat.le_of_lt G1.out) (by simp)) (fun b hb => by have := (HO.out.lt b hb).1; omega)
      have HSZ : Hid (W.heap.size + 1 ≤ w7.heap.size) := Nat.le_trans G1.out (Nat.le_trans (by simp) hgr1.size)
      have HOW : Hid (OwnV w7 (W.heap.size + 1) (.slice (some ⟨g9, 0, none⟩) (2 * k + 2) cap9) (2 * (k + 1)) (pairsOf (ks.take (k + 1)) (vs.take (k + 1)))) := by
        rw [pairs_next HX.out HY.out]
        exact ownV_two ⟨xk, xn, xt, xr⟩ ⟨yk, yn, yt, yr⟩ hown1
      clear hown1 hgr1 hat hlt9 HD2 HD3 HFL HO2
      go_wp2_with fail
      go_roundw
      case rel => exact ⟨k + 1, by omega, by go_num, HOW, HROW, HBEL, HSZ⟩
      case measure => simp [intOf]; omega
    · have hkn : k = nv := by omega
      have HOE : Hid (OwnV wr (W.heap.size + 1) (.slice A9 (2 * k) c9) (2 * k) (pairsOf ks vs)) := by
        have h := HO.out
        rw [List.take_of_length_le (by have := HK.out.1; omega), List.take_of_length_le (by have := HV.out.1; omega)] at h
        exact h
      have HN : Hid (2 * k ≤ 60) := by show _ ≤ _; omega
      have HLN : Hid ((pairsOf ks vs ++ [(⟨dk, dn, dt, dr⟩ : Vl)]).length = 2 * k + 1) := by
        show _ = _
        rw [List.length_append, pairs_length ks vs HL.out, HK.out.1, hkn]
        rfl
      have HSZ : Hid (∀ x ∈ pairsOf ks vs ++ [(⟨dk, dn, dt, dr⟩ : Vl)], x.t.size ≤ maxLen) := by
        intro x hx
        rcases List.mem_append.1 hx with h | h
        · rcases (mem_pairs HL.out).1 h with h | h
          · obtain ⟨j, hj⟩ := List.getElem?_of_mem h
            have hjl : j < nv := by rw [← HK.out.1]; exact (List.getElem?_eq_some_iff.1 hj).1
            obtain ⟨_, _, z, _, _, hz, _, hs⟩ := HK.out.at_ hjl
            rw [hj, Option.some.injEq] at hz
            rw [hz]; exact hs
          · obtain ⟨j, hj⟩ := List.getElem?_of_mem h
            have hjl : j < nv := by rw [← HV.out.1]; exact (List.getElem?_eq_some_iff.1 hj).1
            obtain ⟨_, _, z, _, _, hz, _, hs⟩ := HV.out.at_ hjl
            rw [hj, Option.some.injEq] at hz
            rw [hz]; exact hs
        · rw [List.mem_singleton] at h
          rw [h]; exact HD.out
      have q6 : wr.cell? ⟨W.heap.size, 6, none⟩ = some (.int .i64 dk) := HR.out.cell 6
      have q7 : wr.cell? ⟨W.heap.size, 7, none⟩ = some (.int .i64 dn) := HR.out.cell 7
      have q8 : wr.cell? ⟨W.heap.size, 8, none⟩ = some (.string dt) := HR.out.cell 8
      have q9 : wr.cell? ⟨W.heap.size, 9, none⟩ = some (.int .i64 dr) := HR.out.cell 9
      have HBE : Hid (∀ cs T w1, (wr.alloc (.cells cs T)).grownBy w1 (Value.slice A9 (2 * k) c9).ownBlock → Below W.heap.size W w1) := fun cs T w1 hg => (HW.out.alloc HW.out.size (.cells cs T)).grown hg (Nat.le_trans HW.out.size (by simp)) (fun b hb => by have := (HO.out.lt b hb).1; omega)
      clear hkn
      go_wp2_with (at_builtin; refine wpList_append_lies _ rfl _ _ 44 rfl (W.heap.size + 1) 37 i0 (.agg #[.int .i64 0, .int .i64 0, .string ⟨#[]⟩, .int .i64 0]) 4 40 Tryd.underlying44 hi0 hz0 hz1 hz2 rfl (by decide) (.slice A9 (2 * k) c9) (2 * k) (cellsV (pairsOf ks vs)) rfl (HOE.out.alloc _) ⟨wr.heap.size, 0, none⟩ 1 1 [.int .i64 dk, .int .i64 dn, .string dt, .int .i64 dr] rfl rfl (fun j u hu => World.news_of_block (B := wr.heap.size) (cs := #[.int .i64 dk, .int .i64 dn, .string dt, .int .i64 dr]) (heap_alloc_new wr _) j u (by simpa using hu)) (fun x hx => by simp at hx; rcases hx with rfl | rfl | rfl | rfl <;> rfl) (by decide) (by have := HN.out; unfold maxLen; omega) (by have := HN.out; omega) (by have := HZ.out; simp; omega) _ rfl ?_; intro g9 cap9 w7 hown1 hgr1 hat hlt9)
      go_ret
      refine ⟨_, _, _, rfl, Lib.hid ⟨?_, HBE.out _ _ _ hgr1⟩⟩
      exact ownV_VI (ownV_one ⟨dk, dn, dt, dr⟩ hown1) HLN.out (by have := HN.out; unfold maxLen; omega) HSZ.out

/-- What valuesOf answers at a valid object. -/
def VOfT (o : Ob) (W : World) (e : Ending) (w' : World) : Prop := ∃ A n c, e = .returned (.slice A n c) ∧ Hid (VI w' w'.heap.size A n (contents o) ∧ Below W.heap.size W w')

set_option maxHeartbeats 2000000 in
set_option maxRecDepth 100000 in
theorem valuesOf_2 (o : Ob) (l : Lay) (W : World) (k1 : o.kind = 2) (ho : OV W W.heap.size o l) (hn : o.keys.length ≤ 30) (hl : o.keys.length = o.vals.length) :
    Calls Tryd.prog 60 #[o.ag l] W (VOfT o W) := by
  have HK : Hid (kindV o l = .iface 106 (o.ag l)) := by show _ = _; unfold kindV; simp [k1]
  have HE : Hid (contents o = pairsOf o.keys o.vals ++ [o.d]) := by show _ = _; unfold contents; rw [if_pos k1]
  have HC := Lib.hid (one_new W 49 (o.vs l).toArray)
  have HO := Lib.hid ho
  have HN := Lib.hid hn
  have HL := Lib.hid hl
  clear k1 ho hn hl
  have a0 := as_tableObject_arrayObject o l
  have a1 := as_tableObject_tableObject o l
  have a2 := as_tableObject_recordObject o l
  show Calls Tryd.prog 60 #[.agg #[.int .i64 o.id, .int .i64 o.kind, .string o.name, .int .i64 o.low, .slice l.Ak l.nk l.ck, .slice l.Av l.nv l.cv, .int .i64 o.d.k, .int .i64 o.d.n, .string o.d.t, .int .i64 o.d.r]] W _
  go_enter Tryd.func60, Tryd.ntmps60
  go_wp2_with (first
    | (go_at_call 82; obtain ⟨g0, g1, g2⟩ := HC.out _ rfl; refine (ofKind_any o l _).mono ?_; rintro e w1 ⟨rfl, hb⟩; rw [HK.out]; have HB1 := Lib.hid (g1.trans (hb.mono g1.size)); clear g0 g1 g2 hb)
    | (go_at_call 83; have hba := below_alloc w1 (.cells #[.int .i64 o.id, .int .i64 o.kind, .string o.name, .int .i64 o.low, .slice l.Ak l.nk l.ck, .slice l.Av l.nv l.cv, .int .i64 o.d.k, .int .i64 o.d.n, .string o.d.t, .int .i64 o.d.r] 106); have hbx := HB1.out.trans (hba.mono HB1.out.size); refine Calls.mono (contents_any o l _ (HO.out.go hbx) HN.out HL.out) ?_; rintro e w2 ⟨A9, n9, c9, rfl, h⟩; have H2 := Lib.hid (show VI w2 w2.heap.size A9 n9 (contents o) ∧ Below W.heap.size W w2 from ⟨by rw [HE.out]; exact h.out.1, hbx.trans (h.out.2.mono hbx.size)⟩); clear hba hbx h))
  all_goals go_ret
  all_goals exact ⟨_, _, _, rfl, H2⟩

theorem valuesOf_any (o : Ob) (l : Lay) (W : World) (hv : ValidO o) (ho : OV W W.heap.size o l) :
    Calls Tryd.prog 60 #[o.ag l] W (VOfT o W) := by
  obtain ⟨_, h1 | h2 | h3⟩ := hv
  · exact (valuesOf_1 o l W h1.1).mono fun e w' h => ⟨_, _, _, h.1, Lib.hid ⟨by rw [contents, if_neg (by have := h1.1; omega)]; exact (ho.go h.2).2.1, h.2⟩⟩
  · exact valuesOf_2 o l W h2.1 ho h2.2.2.2.2.1 h2.2.2.2.2.2.1
  · exact (valuesOf_3 o l W h3.1).mono fun e w' h => ⟨_, _, _, h.1, Lib.hid ⟨by rw [contents, if_neg (by have := h3.1; omega)]; exact (ho.go h.2).2.1, h.2⟩⟩
end Go.Proofs.YtbdmanadmckjjaaDoor
