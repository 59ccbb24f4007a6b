/- Contract: countNext of the program. No condition. -/
import Derived.Test.YtbaadphgbhaboaaCoNx
import Derived.Deep.LoopGhost
import Derived.Deep.RegionHeld3
import Derived.Deep.Cut
import Derived.Deep.CutRange
import Derived.Deep.CutBlock
namespace Go.Proofs.Ytbaadphgbhaboaa
open Go Go.RowKit

theorem wlN_len1 (l : List Pt) : l.length ≤ sN l := by
  induction l with
  | nil => exact Nat.zero_le _
  | cons a r ih =>
    have := sN_kids a
    simp only [sN, List.map_cons, List.sum_cons, List.length_cons] at ih ⊢
    omega
theorem PtAt.frC {w1 w : World} {B b p : Nat} {x : Pt} {A : Option Addr} {n c : Nat} (h : PtAt w1 b p x A n c) (hf : FrG w1 B w) (hb : b < B) (hG : Good w1 b) : PtAt w b p x A n c := by
  have k : ∀ i, w.cell? ⟨b, i, none⟩ = w1.cell? ⟨b, i, none⟩ := fun i => World.cell?_of_block (hf.2 b hb hG)
  exact ⟨(k _).trans h.1, (k _).trans h.2.1, (k _).trans h.2.2.1, (k _).trans h.2.2.2⟩
theorem keysC {w1 w : World} {B d : Nat} {kvs : List (Value × Value)} (h : ∀ q ∈ kvs, ∃ e : Ky, q.1 = e.key ∧ e.Ok w1 B d) (hf : FrG w1 B w) {e : Ky} (he : e.Ok w1 B d) : ∀ p ∈ kvs, (Op.equal 94 e.key p.1).run Try.prog w = .ok (tt (p.1 = e.key)) w := by
  intro p hp
  obtain ⟨e', h1, h2⟩ := h p hp
  rw [h1]
  exact run_equal_keyC (he.fr hf) (h2.fr hf)
theorem lookC {w1 w : World} {B d bm : Nat} {kvs : List (Value × Value)} (hm : AMap w bm kvs) (h : ∀ q ∈ kvs, ∃ e : Ky, q.1 = e.key ∧ e.Ok w1 B d) (hf : FrG w1 B w) {e : Ky} (he : e.Ok w1 B d) :
    (Instr.lookup 87 (.map (some bm)) e.key true).run Try.prog w = .ok (.tuple #[(getA kvs e.key).getD (.int .i64 0), .bool (getA kvs e.key).isSome]) w :=
  (hm.look (P := Try.prog) (z := .int .i64 0) Try.underlying87 under_keyC (by kernel_rfl) (fun em => run_check_keyC w e.A e.n em) (keysC h hf he)).2
theorem putC {w1 w : World} {B d bm : Nat} {kvs : List (Value × Value)} (hm : AMap w bm kvs) (h : ∀ q ∈ kvs, ∃ e : Ky, q.1 = e.key ∧ e.Ok w1 B d) (hf : FrG w1 B w) {e : Ky} (he : e.Ok w1 B d) (hno : getA kvs e.key = none) (v : Value) :
    ∃ w', (Instr.mapUpdate 87 (.map (some bm)) e.key v).run Try.prog w = .ok () w' ∧ AMap w' bm (kvs ++ [(e.key, v)]) ∧ w.grownBy w' (some bm) ∧ w'.heap.size = w.heap.size :=
  hm.put (P := Try.prog) Try.underlying87 under_keyC (fun em => run_check_keyC w e.A e.n em) (keysC h hf he) hno v
theorem setC {w1 w : World} {B d bm : Nat} {kvs : List (Value × Value)} (hm : AMap w bm kvs) (h : ∀ q ∈ kvs, ∃ e : Ky, q.1 = e.key ∧ e.Ok w1 B d) (hf : FrG w1 B w) {e : Ky} (he : e.Ok w1 B d) {v0 : Value} (hyes : getA kvs e.key = some v0) (v : Value) :
    ∃ w', (Instr.mapUpdate 87 (.map (some bm)) e.key v).run Try.prog w = .ok () w' ∧ AMap w' bm (setA kvs e.key v) ∧ w.grownBy w' (some bm) ∧ w'.heap.size = w.heap.size :=
  hm.set (P := Try.prog) Try.underlying87 under_keyC (fun em => run_check_keyC w e.A e.n em) (keysC h hf he) (by simp [Ky.key, keyL, Instr.sameBits]) hyes v

theorem InvC.below {w1 w w' : World} {B d bm : Nat} {p : Pt} {T : Fm} {R : List Fm} {kvs : List (Value × Value)} {back : Bool} {v : Value} (h : InvC w1 B d bm p T R kvs back v w) (hb : Below w.heap.size w w') : InvC w1 B d bm p T R kvs back v w' := by
  obtain ⟨h1, h2, h3, h4, h5, h6, h7, h8, h9⟩ := h
  refine ⟨h1.below hb, h2, h3, h4, h5, h6, ⟨h7.1, h7.2.1, h7.2.2.below hb h7.2.2.lt⟩, ?_, h9⟩
  obtain ⟨k0, k1 | ⟨g, cap, cur, k1, k2, k3, k4⟩⟩ := h8
  · exact ⟨k0, .inl k1⟩
  · exact ⟨k0, .inr ⟨g, cap, cur, k1, k2, (hb.block g (RW.lt k3)).trans k3, k4⟩⟩

theorem drewN_below (w : World) (n : Nat) : Below w.heap.size w (w.drewN n) := ⟨rfl, rfl, rfl, Nat.le_refl _, fun _ _ => rfl⟩
theorem row_formC {w : World} {base T s n : Nat} {v : Value} {xs : List Value} (h : w.ownsRow base T s v n xs) (hn : 0 < n) : ∃ g c, v = .slice (some ⟨g, 0, none⟩) n c := by
  obtain ⟨_, h1 | ⟨g, cap, cur, h1, _⟩⟩ := h
  · omega
  · exact ⟨g, cap, h1⟩
theorem rowC_grown {w w' : World} {base T s n b : Nat} {v : Value} {xs : List Value} (h : w.ownsRow base T s v n xs) (hgr : w.grownBy w' (some b)) (hb : b < base) : w'.ownsRow base T s v n xs := by
  obtain ⟨k0, k1 | ⟨g, cap, cur, k1, k2, k3, k4⟩⟩ := h
  · exact ⟨k0, .inl k1⟩
  · exact ⟨k0, .inr ⟨g, cap, cur, k1, k2, (hgr.block g (RW.lt k3) (by simp only [ne_eq, Option.some.injEq]; omega)).trans k3, k4⟩⟩
theorem nc_alloc {w : World} {base T s n : Nat} {v : Value} {xs : List Value} (h : w.ownsRow base T s v n xs) (o : Obj) : (w.alloc o).ownsRow base T s v n xs := by
  obtain ⟨k0, k1 | ⟨g, cap, cur, k1, k2, k3, k4⟩⟩ := h
  · exact ⟨k0, .inl k1⟩
  · exact ⟨k0, .inr ⟨g, cap, cur, k1, k2, ((below_alloc w o).block g (RW.lt k3)).trans k3, k4⟩⟩
/-- What the map says of the Kids at hand. -/
theorem known_sum {w1 w : World} {B d bm : Nat} {p : Pt} {T : Fm} {R : List Fm} {kvs : List (Value × Value)} {back : Bool} {v u : Value} {z : Pt} {A : Option Addr} {n : Nat} (h : InvC w1 B d bm p T R kvs back v w) (hz : T.l[T.i]? = some z) (he : (⟨A, n, z.kids⟩ : Ky).Ok w1 B d) (hu : getA kvs (keyL A n) = some u) : u = .int .i64 ((sN z.kids : Nat) : Int) := by
  obtain ⟨h1, h2, h3, h4, h5, h6, _⟩ := h
  rcases h6 _ he with k | k | ⟨f, hf, k⟩
  · rw [show Ky.key ⟨A, n, z.kids⟩ = keyL A n from rfl, hu] at k
    cases k
  · rw [show Ky.key ⟨A, n, z.kids⟩ = keyL A n from rfl, hu] at k
    exact Option.some.inj k
  · exfalso
    have hf' := h2 f hf
    have e := ky_det (e := ⟨f.A, f.l.length, f.l⟩) ⟨hf'.1, hf'.2.2⟩ he k
    dsimp only at e
    have s1 := sN_mem (List.mem_of_getElem? hz)
    have s2 := sN_kids z
    have s3 : sN T.l ≤ sN f.l := by
      rcases List.mem_cons.1 hf with rfl | hf
      · exact Nat.le_refl _
      · exact Nat.le_of_lt (chn_sum h3 f hf)
    rw [e] at s3
    omega
theorem next_push {w1 w w' : World} {B d bm : Nat} {p : Pt} {T : Fm} {R : List Fm} {kvs : List (Value × Value)} {back : Bool} {z : Pt} {A : Option Addr} {n c : Nat} {v v' u : Value} (h : InvC w1 B d bm p T R kvs back v w) (hc : CurAt w1 T z A n c) (he : (⟨A, n, z.kids⟩ : Ky).Ok w1 B d) (hl : z.kids.length = n)
    (hno : getA kvs (keyL A n) = none) (hfr : FrG w1 B w') (hm : AMap w' bm (kvs ++ [(keyL A n, u)])) (hr : w'.ownsRow B 89 3 v' (R.length + 1 + 1) ((T :: R).reverse.flatMap Fm.vs ++ [.slice A n c, .int .i64 0, .int .i64 0])) :
    InvC w1 B d bm p ⟨A, c, z.kids, 0⟩ (T :: R) (kvs ++ [(keyL A n, u)]) false v' w' ∧ phi1 ⟨A, c, z.kids, 0⟩ false + phiR (T :: R) < phi1 T back + phiR R := by
  obtain ⟨h1, h2, h3, h4, h5, h6, h7, h8, h9, h10, h11⟩ := h
  have hkey : Fm.key ⟨A, c, z.kids, 0⟩ = keyL A n := by unfold Fm.key; rw [hl]
  have hpos : 0 < z.kids.length := by rw [hl]; exact he.1
  refine ⟨⟨hfr, ?_, ⟨⟨z, n, c, hc, rfl, hl.symm⟩, h3⟩, ⟨?_, fnd_mono (fun k hk => ?_) h4⟩, ?_, ?_, ⟨h7.1, h7.2.1, hm⟩, ?_, h9, h10, fun h => by cases h⟩, ?_⟩
  · intro f hf
    rcases List.mem_cons.1 hf with rfl | hf
    · exact ⟨hpos, Nat.zero_le _, by rw [hl]; exact he.2⟩
    · exact h2 f hf
  · rw [hkey, getA_append kvs _ _ hno, tt_true rfl]
    simp
  · rw [getA_append kvs _ _ hno]
    split
    · simp
    · exact hk
  · intro q hq
    rcases List.mem_append.1 hq with hq | hq
    · exact h5 q hq
    · rw [List.mem_singleton.1 hq]
      exact ⟨_, rfl, he⟩
  · intro e hE
    by_cases hk : keyL A n = e.key
    · exact .inr (.inr ⟨⟨A, c, z.kids, 0⟩, by simp, by rw [hkey]; exact hk⟩)
    · rw [getA_append kvs _ _ hno, tt_false hk]
      rcases h6 e hE with k | k | ⟨f, hf, k⟩
      · exact .inl k
      · exact .inr (.inl k)
      · exact .inr (.inr ⟨f, List.mem_cons_of_mem _ hf, k⟩)
  · rw [List.reverse_cons, List.flatMap_append]
    simpa [Fm.vs, hl, sN] using hr
  · have hb : back = false := by
      cases back
      · rfl
      · obtain ⟨z', A', n', c', k1, k2⟩ := h11 rfl
        obtain ⟨_, rfl, rfl, _⟩ := hc.det k1
        rw [hno] at k2
        cases k2
    subst hb
    have e := sN_drop hc.1
    have := sN_kids z
    simp only [phi1, phiR, Bool.false_eq_true, if_false, List.map_cons, List.sum_cons, List.drop_zero]
    omega
set_option maxHeartbeats 4000000 in
set_option maxRecDepth 100000 in
theorem countNext_any {w1 : World} {B d bm : Nat} {p : Pt} {T : Fm} {R : List Fm} {kvs : List (Value × Value)} {back : Bool} {A : Option Addr} {m c : Nat} (W0 W : World) (hI : InvC w1 B (d + 1) bm p T R kvs back (.slice A m c) W) (hm : m = R.length + 1) (hlt : T.i < T.l.length)
    (hB0 : Below W0.heap.size W0 W) (hWB : W0.heap.size ≤ B) (hBM : W0.heap.size ≤ bm) :
    Calls Try.prog 40 #[.slice A m c, .map (some bm)] W fun e w' => NextC W0 w1 B (d + 1) bm p (phi1 T back + phiR R) e w' := by
  subst hm
  have HI := Lib.hid hI
  have HB0 := Lib.hid hB0
  have HWB := Lib.hid hWB
  have HBM := Lib.hid hBM
  have HLT := Lib.hid hlt
  obtain ⟨h1, h2, _, _, _, _, _, h8, _, hpn, _⟩ := hI
  have hT := h2 T (by simp)
  obtain ⟨b, o, z, A', n', c', eA, _, gb, G1, hz, hnc, at1, sz1, k1⟩ := hT.2.2.at_ hlt
  obtain ⟨q0, q1, q2, q3⟩ := at1.frC h1 gb G1
  have hl : (R.reverse.flatMap Fm.vs).length = R.length * 3 := by rw [fm_len, List.length_reverse]
  rw [List.reverse_cons, List.flatMap_append] at h8
  have h8' := h8
  simp only [List.flatMap_cons, List.flatMap_nil, List.append_nil, Fm.vs] at h8'
  obtain ⟨g, hA, hgB, ⟨hc1, hc2⟩, v0, v1, v2, hfr, _⟩ := ownsRow_cells h8' hl
  subst hA
  have HZ : Hid (T.l[T.i]? = some z) := hz
  have HAT : Hid (CurAt w1 T z A' n' c') := ⟨hz, b, o, eA, at1⟩
  have HK : Hid (PtU w1 0 B (d + 1) A' n' z.kids ∧ n' ≤ c') := ⟨k1.deeper, hnc⟩
  have HKL : Hid (z.kids.length = n') := k1.len.1
  have HKM : Hid (n' ≤ maxLen) := k1.len.2
  have hsum : sN T.l ≤ 2000000 := by
    have e1 := root_sum HI.out.2.2.1
    have e2 := HI.out.2.2.2.2.2.2.2.2.1
    rw [e2] at e1
    have e3 : sN [p] = ptN p := by simp [sN]
    omega
  have hsz : sN z.kids ≤ 2000000 := by have := sN_mem (List.mem_of_getElem? hz); have := sN_kids z; omega
  have HS := Lib.hid hsz
  have HTT : Hid (sN (T.l.take T.i) ≤ 2000000) := Nat.le_trans (sN_take_le _ _) hsum
  have HTI : Hid (T.i ≤ 2000000) := by
    show T.i ≤ 2000000
    have := wlN_len1 T.l
    exact Nat.le_trans (Nat.le_of_lt hlt) (Nat.le_trans this hsum)
  have HTM : Hid (T.l.length ≤ maxLen) := hT.2.2.len.2
  have HFR : Hid (W.frozen? ⟨g, R.length * 3 + 1, none⟩ = false ∧ W.frozen? ⟨g, R.length * 3 + 2, none⟩ = false) := ⟨hfr _, hfr _⟩
  have HV : Hid (W.cell? ⟨g, R.length * 3 + 1, none⟩ = some (.int .i64 (T.i : Int)) ∧ W.cell? ⟨g, R.length * 3 + 2, none⟩ = some (.int .i64 (sN (T.l.take T.i) : Nat))) := ⟨v1, v2⟩
  clear h1 h2 h8 h8' hpn hT at1 sz1 k1 hl hfr hsum hsz hz hgB gb G1 hnc
  obtain ⟨k, hk⟩ : ∃ k, R.length = k := ⟨_, rfl⟩
  obtain ⟨tl, htl⟩ : ∃ tl, T.l.length = tl := ⟨_, rfl⟩
  obtain ⟨ti, hti⟩ : ∃ ti, T.i = ti := ⟨_, rfl⟩
  have HKK := Lib.hid hk
  have HTL := Lib.hid htl
  have HTE := Lib.hid hti
  rw [htl, eA, hk] at v0
  rw [hti, hk] at v1
  rw [hti] at q0 q1 q2 q3
  rw [hti, htl] at hlt
  rw [hk] at hc1
  clear v2
  rw [hk]
  clear hk htl hti eA
  unfold maxLen at hc2
  have hkm : ((k + 1 : Nat) : Int) - 1 = (k : Int) := by omega
  have hk0 : (0 : Int) ≤ (k : Int) := by omega
  have hk1 : (k : Int) < ((k + 1 : Nat) : Int) := by omega
  have hi0 : (0 : Int) ≤ (ti : Int) := by omega
  have hi1 : (ti : Int) < (tl : Int) := by omega
  have HTL2 : Hid (tl ≤ maxLen) := by rw [← HTL.out]; exact HTM.out
  go_enter Try.func40, Try.ntmps40
  go_wp2_with fail
  go_quiet (fail)
  by_cases h0 : n' = 0
  · subst h0
    have HC : Hid (∀ nq, Calls Try.prog 61 #[.pointer (some ⟨g, k * 3, none⟩), .int .i64 0] (W.drewN nq) fun e w' => e = .returned (.tuple #[]) ∧ AddP g (k * 3) ti (sN (T.l.take ti)) 0 (W.drewN nq) w') := fun nq =>
      add_any g (k * 3) ti (sN (T.l.take ti)) 0 (W.drewN nq) (by rw [← HKK.out, ← HTE.out]; exact HV.out.1) (by rw [← HKK.out, ← HTE.out]; exact HV.out.2) (by rw [← HKK.out]; exact HFR.out.1) (by rw [← HKK.out]; exact HFR.out.2) (by rw [← HTE.out]; exact HTI.out) (by rw [← HTE.out]; exact HTT.out) (Nat.zero_le _)
    go_wp2_with (go_at_call 61; refine Calls.mono (HC.out _) ?_; rintro e w2 ⟨rfl, ha⟩; have HA2 := Lib.hid ha; clear ha)
    go_ret
    have hs : sN z.kids = 0 := by rw [List.eq_nil_of_length_eq_zero HKL.out]; rfl
    have ha := HA2.out
    rw [← HKK.out, ← HTE.out, ← hs] at ha
    rw [← HKK.out]
    obtain ⟨T', j1, j2, j3⟩ := next_add (HI.out.below (drewN_below W _)) HZ.out ha (HB0.out.trans ((drewN_below W _).mono HB0.out.size)) HWB.out
    exact ⟨T', R, kvs, _, _, _, rfl, ⟨rfl, j1, j2, j3⟩⟩
  · rename_i nq
    have HBD : Hid (Below W.heap.size W (W.drewN nq)) := drewN_below W nq
    have hfd : W.heap.size = (W.drewN nq).heap.size := rfl
    have HCD : Hid (∀ i, (W.drewN nq).cell? ⟨g, i, none⟩ = W.cell? ⟨g, i, none⟩) := fun _ => rfl
    have HFD : Hid (∀ i, (W.drewN nq).frozen? ⟨g, i, none⟩ = W.frozen? ⟨g, i, none⟩) := fun _ => rfl
    clear q0 q1 q2 q3 v0 v1 hi0 hi1 hk0 hk1 hkm
    generalize W.drewN nq = wd at HBD HCD HFD hfd ⊢
    have HSZ := Lib.hid hfd
    clear hfd
    have hn0 : ((n' : Int) == 0) = false := by simp; omega
    obtain ⟨b3, o3, hA1⟩ : ∃ b3 o3, A' = some ⟨b3, o3, none⟩ := by
      obtain ⟨b3, o3, _, _, _, _, e, _⟩ := HK.out.1.at_ (show 0 < n' by omega)
      exact ⟨b3, o3, e⟩
    subst hA1
    have hpos : (0 : Int) < (n' : Int) := by omega
    have hposN : 0 < n' := by omega
    go_upto_region 7 with fail
    have hb3 : Below wd.heap.size wd (wd.alloc (.cells #[.pointer (some ⟨b3, o3, none⟩), .int .i64 (n' : Int)] 94)) := below_alloc wd _
    have hbW : Below W.heap.size W (wd.alloc (.cells #[.pointer (some ⟨b3, o3, none⟩), .int .i64 (n' : Int)] 94)) := HBD.out.trans (hb3.mono HBD.out.size)
    have HI3 := Lib.hid (HI.out.below hbW)
    have HB3 := Lib.hid (HB0.out.trans (hbW.mono HB0.out.size))
    have hbox : RW 94 (wd.alloc (.cells #[.pointer (some ⟨b3, o3, none⟩), .int .i64 (n' : Int)] 94)) wd.heap.size #[.pointer (some ⟨b3, o3, none⟩), .int .i64 (n' : Int)] := RW.new wd _ _
    have e0 := hbox.cell 0
    have e1 := hbox.cell 1
    have HBX := Lib.hid hbox
    have HGL : Hid (g < W.heap.size) := (ncRow_lt HI.out.2.2.2.2.2.2.2.1 (g := g) rfl).2
    have hgl : g < wd.heap.size := Nat.lt_of_lt_of_le HGL.out HBD.out.size
    have HV3 : Hid (∀ i, (wd.alloc (.cells #[.pointer (some ⟨b3, o3, none⟩), .int .i64 (n' : Int)] 94)).cell? ⟨g, i, none⟩ = W.cell? ⟨g, i, none⟩) := fun i => (World.cell?_of_block (hb3.block g hgl)).trans (HCD.out i)
    have HF3 : Hid (∀ i, (wd.alloc (.cells #[.pointer (some ⟨b3, o3, none⟩), .int .i64 (n' : Int)] 94)).frozen? ⟨g, i, none⟩ = W.frozen? ⟨g, i, none⟩) := fun i => (World.frozen?_of_block (hb3.block g hgl)).trans (HFD.out i)
    clear hb3 hbW hbox hgl HCD HFD
    generalize wd.alloc (.cells #[.pointer (some ⟨b3, o3, none⟩), .int .i64 (n' : Int)] 94) = w3 at HI3 HB3 e0 e1 HBX HV3 HF3 ⊢
    have hke : (⟨some ⟨b3, o3, none⟩, n', z.kids⟩ : Ky).Ok w1 B (d + 1) := ⟨hposN, HK.out.1⟩
    have HKE := Lib.hid hke
    have HM3 : Hid (AMap w3 bm kvs) := HI3.out.2.2.2.2.2.2.1.2.2
    have hlk := lookC HM3.out HI3.out.2.2.2.2.1 HI3.out.1 hke
    have hg0 : getA kvs (Ky.key ⟨some ⟨b3, o3, none⟩, n', z.kids⟩) = getA kvs (keyL (some ⟨b3, o3, none⟩) n') := rfl
    rcases hgt : getA kvs (keyL (some ⟨b3, o3, none⟩) n') with _ | u
    · rw [hg0, hgt] at hlk
      obtain ⟨w4, hput, u1, u2, u3⟩ := putC HM3.out HI3.out.2.2.2.2.1 HI3.out.1 hke (hg0.trans hgt) (.int .i64 9223372036854775807)
      simp only [Option.getD_none, Option.isSome_none, Ky.key, keyL] at hlk hput
      have HGT := Lib.hid hgt
      have HU := Lib.hid u1
      have HG4 := Lib.hid u2
      have HO4 : Hid (w4.ownsRow B 89 3 (.slice (some ⟨g, 0, none⟩) (k + 1) c) (k + 1) ((T :: R).reverse.flatMap Fm.vs)) := by
        have h := rowC_grown HI3.out.2.2.2.2.2.2.2.1 u2 HI3.out.2.2.2.2.2.2.1.1
        rw [HKK.out] at h
        exact h
      have HF4 : Hid (FrG w1 B w4) := HI3.out.1.grown u2 (fun k hk _ => by cases hk; exact HI3.out.2.2.2.2.2.2.1.2.1)
      have HB4 : Hid (Below W0.heap.size W0 w4) := HB3.out.grown u2 HB3.out.size (fun k hk => by cases hk; exact HBM.out)
      have HCN : Hid (k + 1 + 1 ≤ 2000002) := by
        have e1 := stack_len HI.out.2.2.1
        have e2 := HI.out.2.2.2.2.2.2.2.2.1
        have e4 := HI.out.2.2.2.2.2.2.2.2.2.1
        rw [e2] at e1
        have e3 : sN [p] = ptN p := by simp [sN]
        have e5 := HKK.out
        show _ ≤ _
        omega
      obtain ⟨i0, hi, hz0, hz1, hz2⟩ := info_parts infoNc
      have HI0 : Hid (Try.prog.info? 89 = some i0 ∧ i0.zero = some (.agg #[.slice none 0 0, .int .i64 0, .int .i64 0]) ∧ i0.size = 3 ∧ i0.bytes = 40) := ⟨hi, hz0, hz1, hz2⟩
      clear hi hz0 hz1 hz2 hgt hg0 hke u1 u2 u3
      go_wp2_with (at_builtin; refine wpList_append_own_at _ rfl _ _ 90 rfl B 89 i0 (.agg #[.slice none 0 0, .int .i64 0, .int .i64 0]) 3 40 Try.underlying90 HI0.out.1 HI0.out.2.1 HI0.out.2.2.1 HI0.out.2.2.2 rfl (by decide) (.slice (some ⟨g, 0, none⟩) (k + 1) c) (k + 1) ((T :: R).reverse.flatMap Fm.vs) rfl (nc_alloc HO4.out _) ⟨w4.heap.size, 0, none⟩ 1 1 [.slice (some ⟨b3, o3, none⟩) n' c', .int .i64 0, .int .i64 0] rfl rfl (cells_new w4 #[.slice (some ⟨b3, o3, none⟩) n' c', .int .i64 0, .int .i64 0] _) (fun x hx => by simp at hx; rcases hx with rfl | rfl <;> rfl) (by have := HCN.out; unfold maxLen; omega) (by have := HCN.out; omega) (by have := HF4.out.1; simp; omega) ?_; intro v7 w7 hown7 hgr7 _ hor7; obtain ⟨g9, c9, rfl⟩ := row_formC hown7 (Nat.succ_pos _))
      go_ret
      have hgr8 : Below W0.heap.size W0 w7 := (HB4.out.alloc HB4.out.size _).grown hgr7 (by have := HB4.out.size; simp; omega) (fun k hk => by have h1 := (ncRow_lt HO4.out hk).1; have h2 := HWB.out; omega)
      have hf7 : FrG w1 B w7 := (HF4.out.below (below_alloc w4 _)).grown hgr7 (fun k hk hkB => by have h1 := (ncRow_lt HO4.out hk).1; omega)
      obtain ⟨j1, j2⟩ := next_push HI3.out HAT.out HKE.out HKL.out HGT.out hf7 (AMap.kept (HU.out.below (below_alloc w4 _) HU.out.lt) hgr7 (fun e => by have h1 := (ncRow_lt HO4.out e.symm).1; have h2 := HI3.out.2.2.2.2.2.2.1.1; omega)) (by rw [HKK.out]; exact hown7)
      refine ⟨_, _, _, _, _, _, rfl, ⟨?_, j1, j2, hgr8⟩⟩
      rw [List.length_cons, HKK.out]
    · have hu := known_sum HI3.out HZ.out hke hgt
      subst hu
      rw [hg0, hgt] at hlk
      simp only [Option.getD_some, Option.isSome_some, Ky.key, keyL] at hlk
      clear hgt hg0 hke
      have HC : Hid (Calls Try.prog 61 #[.pointer (some ⟨g, k * 3, none⟩), .int .i64 (sN z.kids : Nat)] w3 fun e w' => e = .returned (.tuple #[]) ∧ AddP g (k * 3) ti (sN (T.l.take ti)) (sN z.kids) w3 w') :=
        add_any g (k * 3) ti (sN (T.l.take ti)) (sN z.kids) w3 (by rw [HV3.out, ← HKK.out, ← HTE.out]; exact HV.out.1) (by rw [HV3.out, ← HKK.out, ← HTE.out]; exact HV.out.2) (by rw [HF3.out, ← HKK.out]; exact HFR.out.1) (by rw [HF3.out, ← HKK.out]; exact HFR.out.2) (by rw [← HTE.out]; exact HTI.out) (by rw [← HTE.out]; exact HTT.out) HS.out
      go_wp2_with (go_at_call 61; refine Calls.mono HC.out ?_; rintro e w2 ⟨rfl, ha⟩; have HA2 := Lib.hid ha; clear ha)
      go_ret
      have ha := HA2.out
      rw [← HKK.out, ← HTE.out] at ha
      rw [← HKK.out]
      obtain ⟨T', j1, j2, j3⟩ := next_add HI3.out HZ.out ha HB3.out HWB.out
      exact ⟨T', R, kvs, _, _, _, rfl, ⟨rfl, j1, j2, j3⟩⟩
end Go.Proofs.Ytbaadphgbhaboaa
