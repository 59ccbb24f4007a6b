/- Contract: clonePattern of the program at trees of few nodes: the copy is a tree of one's own. No condition but that. -/
import Derived.Test.YtjeiiljdhnmofaaDoorClone
namespace Go.Proofs.YtjeiiljdhnmofaaDoor
open Go Go.RowKit

theorem pcntK_ge (xs : List Pt) : ∀ (j : Nat), j ≤ xs.length → j ≤ pcntK xs j
  | 0, _ => Nat.zero_le _
  | j + 1, h => by
    have h1 := pcntK_ge xs j (by omega)
    have h2 := pcntK_next (xs := xs) (k := j) (x := xs[j]'(by omega)) (List.getElem?_eq_getElem (by omega))
    have h3 := ptCnt_pos (xs[j]'(by omega))
    omega
def CloneAt (d : Nat) : Prop := ∀ (x : Pt) (A : Option Addr) (n c : Nat) (W : World), x.t.size ≤ maxLen → n ≤ c → PtD W 0 W.heap.size d A n x.kids → ptCnt x ≤ 1000 →
  Calls Tryd.prog 61 #[x.ag A n c] W (ToCl d n x W)

set_option maxHeartbeats 4000000 in
set_option maxRecDepth 100000 in
theorem clone_step (d : Nat) (x : Pt) (A : Option Addr) (n c : Nat) (W : World) (ih : 0 < n → CloneAt d) (ht : x.t.size ≤ maxLen) (hnc : n ≤ c) (hd : PtD W 0 W.heap.size (d + 1) A n x.kids) (hc : ptCnt x ≤ 1000) :
    Calls Tryd.prog 61 #[x.ag A n c] W (ToCl (d + 1) n x W) := by
  obtain ⟨i0, hi, hz0, hz1, hz2⟩ := info_parts infoPt
  have HI := Lib.hid (And.intro hi (And.intro hz0 (And.intro hz1 hz2)))
  clear hi hz0 hz1 hz2
  obtain ⟨k, m, t, ks⟩ := x
  change t.size ≤ maxLen at ht
  change PtD W 0 W.heap.size (d + 1) A n ks at hd
  have HT := Lib.hid ht
  have HD := Lib.hid hd
  have HIH := Lib.hid ih
  have hlen := hd.1
  have HL := Lib.hid hlen
  rw [ptCnt, ptCnts_eq, hlen] at hc
  have hn1 : n ≤ 1000 := by have := pcntK_ge ks n (by omega); omega
  clear hd ht ih
  show Calls Tryd.prog 61 #[.agg #[.int .i64 k, .int .i64 m, .string t, .slice A n c]] W _
  rcases Nat.eq_zero_or_pos n with hn0 | hn0
  · subst hn0
    obtain rfl : ks = [] := List.eq_nil_of_length_eq_zero hlen
    rcases A with _ | ⟨ab, ao, asp⟩
    · go_enter Tryd.func61, Tryd.ntmps61
      go_wp2_with fail
      go_loopw [12] (fun i wr => i = .int .i64 0 ∧ Hid (RW 29 wr W.heap.size #[.int .i64 k, .int .i64 m, .string t, .slice none 0 0]) ∧ Hid (RW 29 wr (W.heap.size + 1) #[.int .i64 0, .int .i64 0, .string ⟨#[]⟩, .slice none 0 0]) ∧ Hid (Below W.heap.size W wr)) (fun _ _ => 0)
      case atStart =>
        obtain ⟨z0, z1, z2, _⟩ := two_new W 29 #[.int .i64 k, .int .i64 m, .string t, .slice none 0 0] #[.int .i64 0, .int .i64 0, .string ⟨#[]⟩, .slice none 0 0] _ rfl
        exact ⟨rfl, z0, z1, z2⟩
      case round =>
        obtain ⟨rfl, HBB, HRR, HWW⟩ := hrel
        have p0 : wr.cell? ⟨W.heap.size, 0, none⟩ = some (.int .i64 k) := HBB.out.cell 0
        have p1 : wr.cell? ⟨W.heap.size, 1, none⟩ = some (.int .i64 m) := HBB.out.cell 1
        have p2 : wr.cell? ⟨W.heap.size, 2, none⟩ = some (.string t) := HBB.out.cell 2
        have p3 : wr.cell? ⟨W.heap.size, 3, none⟩ = some (.slice none 0 0) := HBB.out.cell 3
        have s0 := HRR.out.cell 0
        have s1 := HRR.out.cell 1
        have s2 := HRR.out.cell 2
        have s3 := HRR.out.cell 3
        have f0 := HRR.out.frozen 0
        have f1 := HRR.out.frozen 1
        have f2 := HRR.out.frozen 2
        have f3 := HRR.out.frozen 3
        go_wp2_with fail
        refine bodyPost_ret (v := .agg #[.int .i64 k, .int .i64 m, .string t, .slice none 0 0]) (results_cell_row Tryd.results61 _ _ (W.heap.size + 1) 29 _ (0, 0) _ rfl ((((HRR.out.set_ 0 (.int .i64 k)).set_ 1 (.int .i64 m)).set_ 2 (.string t)).set_ 3 (.slice none 0 0)) Tryd.underlying29 rfl (by kernel_rfl)) rfl ⟨none, 0, Nat.le_refl _, rfl, Lib.hid ⟨⟨HT.out, ?_⟩, HWW.out.trans ((((below_set _ (p := ⟨W.heap.size + 1, 0, none⟩) (by simp) _).setCell (by simp) _).setCell (by simp) _).setCell (by simp) _)⟩⟩
        exact ⟨rfl, Nat.zero_le _, fun h => absurd h (by omega)⟩
    · go_enter Tryd.func61, Tryd.ntmps61
      go_wp2_with fail
      go_loopw [12] (fun i wr => i = .int .i64 0 ∧ Hid (RW 29 wr W.heap.size #[.int .i64 k, .int .i64 m, .string t, .slice none 0 0]) ∧ Hid (RW 29 wr (W.heap.size + 1) #[.int .i64 0, .int .i64 0, .string ⟨#[]⟩, .slice none 0 0]) ∧ Hid (Below W.heap.size W wr)) (fun _ _ => 0)
      case atStart =>
        obtain ⟨z0, z1, z2, _⟩ := two_new W 29 #[.int .i64 k, .int .i64 m, .string t, .slice none 0 0] #[.int .i64 0, .int .i64 0, .string ⟨#[]⟩, .slice none 0 0] _ rfl
        exact ⟨rfl, z0, z1, z2⟩
      case round =>
        obtain ⟨rfl, HBB, HRR, HWW⟩ := hrel
        have p0 : wr.cell? ⟨W.heap.size, 0, none⟩ = some (.int .i64 k) := HBB.out.cell 0
        have p1 : wr.cell? ⟨W.heap.size, 1, none⟩ = some (.int .i64 m) := HBB.out.cell 1
        have p2 : wr.cell? ⟨W.heap.size, 2, none⟩ = some (.string t) := HBB.out.cell 2
        have p3 : wr.cell? ⟨W.heap.size, 3, none⟩ = some (.slice none 0 0) := HBB.out.cell 3
        have s0 := HRR.out.cell 0
        have s1 := HRR.out.cell 1
        have s2 := HRR.out.cell 2
        have s3 := HRR.out.cell 3
        have f0 := HRR.out.frozen 0
        have f1 := HRR.out.frozen 1
        have f2 := HRR.out.frozen 2
        have f3 := HRR.out.frozen 3
        go_wp2_with fail
        refine bodyPost_ret (v := .agg #[.int .i64 k, .int .i64 m, .string t, .slice none 0 0]) (results_cell_row Tryd.results61 _ _ (W.heap.size + 1) 29 _ (0, 0) _ rfl ((((HRR.out.set_ 0 (.int .i64 k)).set_ 1 (.int .i64 m)).set_ 2 (.string t)).set_ 3 (.slice none 0 0)) Tryd.underlying29 rfl (by kernel_rfl)) rfl ⟨none, 0, Nat.le_refl _, rfl, Lib.hid ⟨⟨HT.out, ?_⟩, HWW.out.trans ((((below_set _ (p := ⟨W.heap.size + 1, 0, none⟩) (by simp) _).setCell (by simp) _).setCell (by simp) _).setCell (by simp) _)⟩⟩
        exact ⟨rfl, Nat.zero_le _, fun h => absurd h (by omega)⟩
  · go_enter Tryd.func61, Tryd.ntmps61
    obtain ⟨b, off, news, rfl, hbB, hnl, hnc', hno, hnx⟩ := HD.out.flat hn0
    have HNX := Lib.hid hnx
    have HNC := Lib.hid hnc'
    go_wp2_with (at_builtin; refine wpList_append_own_at _ rfl _ _ 27 rfl W.heap.size 29 i0 (.agg #[.int .i64 0, .int .i64 0, .string ⟨#[]⟩, .slice none 0 0]) 4 56 Tryd.underlying27 HI.out.1 HI.out.2.1 HI.out.2.2.1 HI.out.2.2.2 rfl (by decide) _ _ _ rfl (World.ownsRow_nil _ _ _ _) ⟨b, off, none⟩ n c news rfl hnl (fun j u hj => by rw [Addr.add_lit]; exact (Below.cell ((below_alloc W _).trans ((below_alloc _ _).mono (by simp))) (p := ⟨b, off + j, none⟩) hbB).trans (HNC.out j u hj)) hno (by unfold maxLen; omega) (by omega) (by simp; omega) ?_; intro v1 w1 hown1 hgr1 _ hor; obtain ⟨X0, hX0⟩ : ∃ X0, (W.alloc (.cells #[.int .i64 k, .int .i64 m, .string t, .slice (some ⟨b, off, none⟩) n c] 29)).alloc (.cells #[.int .i64 0, .int .i64 0, .string ⟨#[]⟩, .slice none 0 0] 29) = X0 := ⟨_, rfl⟩; rw [hX0] at hgr1 hor; obtain ⟨hq0, hq1, hq2, hq3⟩ := two_new W 29 _ _ X0 hX0.symm; obtain ⟨cap, cs, hv1, hcap, hrw, hcs, hnw⟩ := own_row4 hn0 hown1 hor rfl; rw [hq3] at hv1 hrw; have hbb := below_grown_none hgr1; have HBX := Lib.hid (hq0.below hbb hq0.lt); have HRS := Lib.hid (hq1.below hbb hq1.lt); have HB1 := Lib.hid (hq2.trans (hbb.mono hq2.size)); have HF1 := Lib.hid (FilledCo.start hrw hcs hnw HL.out HB1.out HNX.out); have HCAP := Lib.hid hcap; have r3 := HBX.out.cell 3; have z3 := HBX.out.frozen 3; subst hv1; clear hX0 hown1 hgr1 hor hq0 hq1 hq2 hq3 hcap hrw hcs hnw hbb)
    have HBX2 := Lib.hid (HBX.out.set_ 3 (.slice (some ⟨W.heap.size + 2, 0, none⟩) n cap))
    have HRS2 := Lib.hid (HRS.out.other (p := ⟨W.heap.size, 3, none⟩) (by simp) (.slice (some ⟨W.heap.size + 2, 0, none⟩) n cap))
    have HB2 := Lib.hid (HB1.out.trans (below_set w1 (p := ⟨W.heap.size, 3, none⟩) (Nat.le_refl _) (.slice (some ⟨W.heap.size + 2, 0, none⟩) n cap)))
    have HF2 := Lib.hid (HF1.out.other (q := ⟨W.heap.size, 3, none⟩) (Nat.le_refl _) (by simp) (.slice (some ⟨W.heap.size + 2, 0, none⟩) n cap))
    clear HBX HRS HB1 HF1 r3 z3
    go_loopw [12] (fun i wr => ∃ j : Nat, j ≤ n ∧ i = .int .i64 j ∧ Hid (RW 29 wr W.heap.size #[.int .i64 k, .int .i64 m, .string t, .slice (some ⟨W.heap.size + 2, 0, none⟩) n cap]) ∧ Hid (RW 29 wr (W.heap.size + 1) #[.int .i64 0, .int .i64 0, .string ⟨#[]⟩, .slice none 0 0]) ∧ Hid (Below W.heap.size W wr) ∧ Hid (FilledCo W wr (W.heap.size + 2) d j n ks)) (fun i _ => n - (intOf i).toNat)
    case atStart => exact ⟨0, Nat.zero_le _, rfl, HBX2, HRS2, HB2, HF2⟩
    case round =>
      obtain ⟨j, hj, rfl, HBB, HRR, HWW, HFF⟩ := hrel
      by_cases hlt : j < n
      · obtain ⟨y, hy⟩ : ∃ y, ks[j]? = some y := ⟨_, List.getElem?_eq_getElem (by have := HL.out; omega)⟩
        obtain ⟨A1, n1, c1, hn1c, ⟨q0, q1, q2, q3⟩, hyt, hyd⟩ := HFF.out.cur hy
        have HY := Lib.hid hy
        have HYT := Lib.hid hyt
        have HNC1 := Lib.hid hn1c
        have hcy : ptCnt y ≤ 1000 := by
          have h1 := pcntK_next hy
          have h2 := pcntK_mono (xs := ks) (show j + 1 ≤ n by omega)
          omega
        have HREC := Lib.hid (fun w (h : PtD w 0 W.heap.size d A1 n1 y.kids) (hs : W.heap.size ≤ w.heap.size) => HIH.out hn0 y A1 n1 c1 w hyt hn1c (h.more (Nat.le_refl _) hs) hcy)
        have H0 : Hid (ClSt W k m t ks n cap d j wr.heap.size y A1 n1 c1 (wr.alloc (.cells #[.int .i64 y.k, .int .i64 y.n, .string y.t, .slice A1 n1 c1] 29))) :=
          ⟨HBB.out.alloc _, HRR.out.alloc _, HFF.out.below (below_alloc _ _) HWW.out.size, HWW.out.alloc HWW.out.size _, RW.new _ _ _, hyd.below ((below_alloc wr _).mono HWW.out.size)⟩
        have b0 : (0 : Int) ≤ (j : Int) := by omega
        have b1 : (j : Int) < (n : Int) := by omega
        have HLT := Lib.hid hlt
        obtain ⟨yk, ym, yt, yks⟩ := y
        change wr.cell? ⟨W.heap.size + 2, j * 4, none⟩ = some (.int .i64 yk) at q0
        change wr.cell? ⟨W.heap.size + 2, j * 4 + 1, none⟩ = some (.int .i64 ym) at q1
        change wr.cell? ⟨W.heap.size + 2, j * 4 + 2, none⟩ = some (.string yt) at q2
        clear hy hyt hyd hn1c hcy
        go_wp2_with fail
        have HD0 := Lib.hid (H0.out.grow (Below.refl _ _).drew)
        have HNN := Lib.hid hn0
        clear q0 q1 q2 q3
        go_region_held3 (fun w => FlatC2 W k m t n cap wr.heap.size (.node yk ym yt yks) A1 n1 c1 w)
          (first | exact HD0.out.flat2 | exact H1.out.flat2 | exact H2.out | go_keep)
          ((first
            | (go_at_call 61; refine Calls.mono (HREC.out _ HD0.out.2.2.2.2.2 HD0.out.2.2.2.1.size) ?_; rintro e w3 ⟨A', c', hnc2, he, h⟩; have HNC2 := Lib.hid hnc2; obtain rfl : e = .returned (.agg #[.int .i64 yk, .int .i64 ym, .string yt, .slice A' n1 c']) := he; have H1 : Hid (ClSt W k m t ks n cap d j wr.heap.size (.node yk ym yt yks) A1 n1 c1 w3) := HD0.out.grow h.out.2; have HV := h; have H2 : Hid (FlatC2 W k m t n cap wr.heap.size (.node yk ym yt yks) A1 n1 c1 (w3.setCells (W.heap.size + 2) (j * 4) [.int .i64 yk, .int .i64 ym, .string yt, .slice A' n1 c'])) := H1.out.flat3 (by have := HFF.out.lt; omega) _ _; obtain ⟨u0, u1, u2, u3, ⟨e0, e1, e2, e3⟩, z0, z1, z2, z3⟩ := H1.out.2.2.1.there HLT.out; clear h hnc2)))
        go_split_ands
        clear e0 e1 e2 e3 z0 z1 z2 z3
        have HB3 : Hid (RW 29 (w3.setCells (W.heap.size + 2) (j * 4) [.int .i64 yk, .int .i64 ym, .string yt, .slice A' n1 c']) W.heap.size #[.int .i64 k, .int .i64 m, .string t, .slice (some ⟨W.heap.size + 2, 0, none⟩) n cap]) := RW.others (by omega) H1.out.1
        have HR3 : Hid (RW 29 (w3.setCells (W.heap.size + 2) (j * 4) [.int .i64 yk, .int .i64 ym, .string yt, .slice A' n1 c']) (W.heap.size + 1) #[.int .i64 0, .int .i64 0, .string ⟨#[]⟩, .slice none 0 0]) := RW.others (by omega) H1.out.2.1
        have HW3 : Hid (Below W.heap.size W (w3.setCells (W.heap.size + 2) (j * 4) [.int .i64 yk, .int .i64 ym, .string yt, .slice A' n1 c'])) := H1.out.2.2.2.1.trans (below_cells (b := W.heap.size + 2) (by omega) _ _ _)
        have HF3 : Hid (FilledCo W (w3.setCells (W.heap.size + 2) (j * 4) [.int .i64 yk, .int .i64 ym, .string yt, .slice A' n1 c']) (W.heap.size + 2) d (j + 1) n ks) := by
          have k := HD0.out.2.2.1.store (by omega) HV.out.2 HY.out HLT.out HNC2.out HYT.out HV.out.1.2
          unfold Pt.vs at k
          exact k
        rw [sets4]
        clear H1 H2 HV HD0 H0 HREC
        generalize w3.setCells (W.heap.size + 2) (j * 4) [.int .i64 yk, .int .i64 ym, .string yt, .slice A' n1 c'] = w5 at HB3 HR3 HW3 HF3 ⊢
        go_wp2_with fail
        go_roundw
        case rel => exact ⟨j + 1, by omega, by go_num, HB3, HR3, HW3, HF3⟩
        case measure => simp [intOf]; omega
      · have HN : Hid (j = n) := by show _ = _; omega
        have p0 : wr.cell? ⟨W.heap.size, 0, none⟩ = some (.int .i64 k) := HBB.out.cell 0
        have p1 : wr.cell? ⟨W.heap.size, 1, none⟩ = some (.int .i64 m) := HBB.out.cell 1
        have p2 : wr.cell? ⟨W.heap.size, 2, none⟩ = some (.string t) := HBB.out.cell 2
        have p3 : wr.cell? ⟨W.heap.size, 3, none⟩ = some (.slice (some ⟨W.heap.size + 2, 0, none⟩) n cap) := HBB.out.cell 3
        have s0 := HRR.out.cell 0
        have s1 := HRR.out.cell 1
        have s2 := HRR.out.cell 2
        have s3 := HRR.out.cell 3
        have f0 := HRR.out.frozen 0
        have f1 := HRR.out.frozen 1
        have f2 := HRR.out.frozen 2
        have f3 := HRR.out.frozen 3
        go_wp2_with fail
        refine bodyPost_ret (v := .agg #[.int .i64 k, .int .i64 m, .string t, .slice (some ⟨W.heap.size + 2, 0, none⟩) n cap]) (results_cell_row Tryd.results61 _ _ (W.heap.size + 1) 29 _ (0, 0) _ rfl ((((HRR.out.set_ 0 (.int .i64 k)).set_ 1 (.int .i64 m)).set_ 2 (.string t)).set_ 3 (.slice (some ⟨W.heap.size + 2, 0, none⟩) n cap)) Tryd.underlying29 rfl (by kernel_rfl)) rfl ⟨(some ⟨W.heap.size + 2, 0, none⟩), cap, HCAP.out, rfl, Lib.hid ⟨⟨HT.out, ?_⟩, HWW.out.trans ((((below_set _ (p := ⟨W.heap.size + 1, 0, none⟩) (by simp) _).setCell (by simp) _).setCell (by simp) _).setCell (by simp) _)⟩⟩
        have h := HFF.out
        rw [HN.out] at h
        have hzz : ((((wr.setCell ⟨W.heap.size + 1, 0, none⟩ (.int .i64 k)).setCell ⟨W.heap.size + 1, 1, none⟩ (.int .i64 m)).setCell ⟨W.heap.size + 1, 2, none⟩ (.string t)).setCell ⟨W.heap.size + 1, 3, none⟩ (.slice (some ⟨W.heap.size + 2, 0, none⟩) n cap)).heap.size = wr.heap.size := by simp [World.setCell]
        rw [hzz]
        exact ((h.all HL.out HD.out.2.1).keep (a := W.heap.size + 1) (b := W.heap.size + 2) ((((KeepO.set wr (p := ⟨W.heap.size + 1, 0, none⟩) (by dsimp only; omega) (by dsimp only; omega) _).trans (KeepO.set _ (p := ⟨W.heap.size + 1, 1, none⟩) (by dsimp only; omega) (by dsimp only; omega) _)).trans (KeepO.set _ (p := ⟨W.heap.size + 1, 2, none⟩) (by dsimp only; omega) (by dsimp only; omega) _)).trans (KeepO.set _ (p := ⟨W.heap.size + 1, 3, none⟩) (by dsimp only; omega) (by dsimp only; omega) _)) (.inr (Nat.le_refl _))).mono (by omega) (Nat.le_refl _)
theorem clone_any : ∀ d, CloneAt d
  | 0 => fun x A n c W ht hnc hd hc => by
    have := clone_step 0 x A n c W (fun hn => absurd hn (by have := hd.2; omega)) ht hnc hd.deeper hc
    refine this.mono ?_
    rintro e w' ⟨A', c', h1, h2, h3⟩
    obtain ⟨hk, hn⟩ := hd
    exact ⟨A', c', h1, h2, Lib.hid ⟨⟨h3.out.1.1, hk, hn⟩, h3.out.2⟩⟩
  | d + 1 => fun x A n c W ht hnc hd hc => clone_step d x A n c W (fun _ => clone_any d) ht hnc hd hc
end Go.Proofs.YtjeiiljdhnmofaaDoor
