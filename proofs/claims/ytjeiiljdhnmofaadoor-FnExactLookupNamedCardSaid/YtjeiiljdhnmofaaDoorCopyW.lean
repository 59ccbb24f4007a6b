/- Contract: l11Copy of the model at trees of few nodes. No condition but that. -/
import Derived.Test.YtjeiiljdhnmofaaDoorCloneW
import Derived.Test.YtjeiiljdhnmofaaDoorCopy
namespace Go.Proofs.YtjeiiljdhnmofaaDoor
open Go Go.RowKit

def CopyAt (d : Nat) : Prop := ∀ (x : Pt) (A : Option Addr) (n c : Nat) (W : World), x.t.size ≤ maxLen → n ≤ c → PtD W 0 W.heap.size d A n x.kids → ptCnt x ≤ 1000 →
  Calls Tryd.prog 60 #[x.ag A n c] W (ToCo d n x W)
/-- The three boxes. -/
def CoBox (W : World) (k m : Int) (t : ByteArray) (A : Option Addr) (n c : Nat) (v : Value) (w : World) : Prop :=
  RW 29 w W.heap.size #[.int .i64 k, .int .i64 m, .string t, .slice A n c] ∧ RW 29 w (W.heap.size + 1) #[.int .i64 0, .int .i64 0, .string ⟨#[]⟩, .slice none 0 0] ∧ RW 29 w (W.heap.size + 2) #[.int .i64 k, .int .i64 m, .string t, v] ∧ Below W.heap.size W w
theorem CoBox.grow {W w w' : World} {k m : Int} {t : ByteArray} {A : Option Addr} {n c : Nat} {v : Value} (h : CoBox W k m t A n c v w) (hb : Below w.heap.size w w') : CoBox W k m t A n c v w' :=
  ⟨h.1.below hb h.1.lt, h.2.1.below hb h.2.1.lt, h.2.2.1.below hb h.2.2.1.lt, h.2.2.2.trans (hb.mono h.2.2.2.size)⟩
theorem CoBox.grown {W w w' : World} {k m : Int} {t : ByteArray} {A : Option Addr} {n c : Nat} {v : Value} {r : Option Nat} (h : CoBox W k m t A n c v w) (hg : w.grownBy w' r) (hr : ∀ b, r = some b → W.heap.size + 3 ≤ b) : CoBox W k m t A n c v w' := by
  have hne : ∀ b, b < W.heap.size + 3 → some b ≠ r := fun b hb e => by have := hr b e.symm; omega
  refine ⟨(hg.block _ h.1.lt (hne _ (by omega))).trans h.1, (hg.block _ h.2.1.lt (hne _ (by omega))).trans h.2.1, (hg.block _ h.2.2.1.lt (hne _ (by omega))).trans h.2.2.1, h.2.2.2.grown hg h.2.2.2.size (fun b e => by have := hr b e; omega)⟩
theorem CoBox.put {W w : World} {k m : Int} {t : ByteArray} {A : Option Addr} {n c : Nat} {v : Value} (h : CoBox W k m t A n c v w) (v' : Value) : CoBox W k m t A n c v' (w.setCell ⟨W.heap.size + 2, 3, none⟩ v') :=
  ⟨h.1.other (by simp) v', h.2.1.other (by simp) v', h.2.2.1.set_ 3 v', h.2.2.2.trans (below_set _ (p := ⟨W.heap.size + 2, 3, none⟩) (by simp) v')⟩
theorem three_new (W : World) (c0 c1 c2 : Array Value) (T : TypeId) (X : World) (e : X = ((W.alloc (.cells c0 T)).alloc (.cells c1 T)).alloc (.cells c2 T)) : RW T X W.heap.size c0 ∧ RW T X (W.heap.size + 1) c1 ∧ RW T X (W.heap.size + 2) c2 ∧ Below W.heap.size W X ∧ X.heap.size = W.heap.size + 3 := by
  obtain ⟨h0, h1, h2, h3⟩ := two_new W T c0 c1 _ rfl
  subst e
  refine ⟨h0.alloc _, h1.alloc _, ?_, h2.alloc (by rw [h3]; omega) _, by simp⟩
  have := RW.new ((W.alloc (.cells c0 T)).alloc (.cells c1 T)) c2 T
  rw [h3] at this
  exact this

set_option maxHeartbeats 4000000 in
set_option maxRecDepth 100000 in
theorem copy_step (d : Nat) (x : Pt) (A : Option Addr) (n c : Nat) (W : World) (ih : 0 < n → CopyAt d) (ht : x.t.size ≤ maxLen) (hnc : n ≤ c) (hd : PtD W 0 W.heap.size (d + 1) A n x.kids) (hc : ptCnt x ≤ 1000) :
    Calls Tryd.prog 60 #[x.ag A n c] W (ToCo (d + 1) n x W) := by
  obtain ⟨i0, hi, hz0, hz1, hz2⟩ := info_parts infoPt
  have HI := Lib.hid (And.intro hi (And.intro hz0 (And.intro hz1 hz2)))
  clear hi hz0 hz1 hz2
  obtain ⟨k, m, t, ks⟩ := x
  change t.size ≤ maxLen at ht
  change PtD W 0 W.heap.size (d + 1) A n ks at hd
  have HT := Lib.hid ht
  have HD := Lib.hid hd
  have HIH := Lib.hid ih
  have hlen := hd.1
  have HL := Lib.hid hlen
  rw [ptCnt, ptCnts_eq, hlen] at hc
  have hn1 : n ≤ 1000 := by have := pcntK_ge ks n (by omega); omega
  clear hd ht ih hnc hlen
  show Calls Tryd.prog 60 #[.agg #[.int .i64 k, .int .i64 m, .string t, .slice A n c]] W _
  go_enter Tryd.func60, Tryd.ntmps60
  go_wp2_with fail
  go_loopw [4] (fun i wr => ∃ (j : Nat) (v : Value) (vals : List Value), j ≤ n ∧ i = .int .i64 j ∧ Hid (CoBox W k m t A n c v wr) ∧ Hid (wr.ownsRow (W.heap.size + 3) 29 4 v j vals) ∧ Hid (CopyEls (W.heap.size + 3) wr v d j ks vals)) (fun i _ => n - (intOf i).toNat)
  case atStart =>
    obtain ⟨g0, g1, g2, g3, _⟩ := three_new W #[.int .i64 k, .int .i64 m, .string t, .slice A n c] #[.int .i64 0, .int .i64 0, .string ⟨#[]⟩, .slice none 0 0] #[.int .i64 k, .int .i64 m, .string t, .slice none 0 0] 29 _ rfl
    exact ⟨0, .slice none 0 0, [], Nat.zero_le _, rfl, ⟨g0, g1, g2, g3⟩, World.ownsRow_nil _ _ _ _, fun i x hi => absurd hi (by omega)⟩
  case round =>
    obtain ⟨j, v, vals, hj, rfl, HBB, HOW, HEL⟩ := hrel
    have r3 := HBB.out.1.cell 3
    have o3 := HBB.out.2.2.1.cell 3
    change wr.cell? ⟨W.heap.size, 3, none⟩ = some (.slice A n c) at r3
    change wr.cell? ⟨W.heap.size + 2, 3, none⟩ = some v at o3
    by_cases hlt : j < n
    · obtain ⟨b, off, y, A1, n1, c1, rfl, _, hbB, hy, hn1c, ⟨q0, q1, q2, q3⟩, hyt, hyd⟩ := (HD.out.go HBB.out.2.2.2).at_ hlt
      have HY := Lib.hid hy
      have HYT := Lib.hid hyt
      have hcy : ptCnt y ≤ 1000 := by
        have h1 := pcntK_next hy
        have h2 := pcntK_mono (xs := ks) (show j + 1 ≤ n by omega)
        omega
      have HREC := Lib.hid (fun w (hb : Below wr.heap.size wr w) => HIH.out (by omega) y A1 n1 c1 w hyt hn1c (hyd.go hb) hcy)
      have HVL : Hid (vals.length = j * 4) := HOW.out.1
      have b0 : (0 : Int) ≤ (j : Int) := by omega
      have b1 : (j : Int) < (n : Int) := by omega
      have HLT := Lib.hid hlt
      have HBS : Hid (W.heap.size + 2 < wr.heap.size) := HBB.out.2.2.1.lt
      obtain ⟨yk, ym, yt, yks⟩ := y
      change wr.cell? ⟨b, off + j * 4, none⟩ = some (.int .i64 yk) at q0
      change wr.cell? ⟨b, off + j * 4 + 1, none⟩ = some (.int .i64 ym) at q1
      change wr.cell? ⟨b, off + j * 4 + 2, none⟩ = some (.string yt) at q2
      change Hid (∀ w, Below wr.heap.size wr w → Calls Tryd.prog 60 #[.agg #[.int .i64 yk, .int .i64 ym, .string yt, .slice A1 n1 c1]] w (ToCo d n1 (.node yk ym yt yks) w)) at HREC
      clear hy hyt hyd hn1c hcy hbB
      go_wp2_with fail
      go_region_law (first
        | (go_simp; go_at_call 60; refine Calls.mono (HREC.out _ (Below.refl _ _).drew) ?_; rintro e w3 ⟨A', c', hnc2, he, h⟩; obtain rfl : e = .returned (.agg #[.int .i64 yk, .int .i64 ym, .string yt, .slice A' n1 c']) := he; have HNC2 := Lib.hid hnc2; have HV := h; have HB3 : Hid (CoBox W k m t (some ⟨b, off, none⟩) n c v w3) := (HBB.out.grow (Below.refl _ _).drew).grow h.out.2; have o33 : w3.cell? ⟨W.heap.size + 2, 3, none⟩ = some v := HB3.out.2.2.1.cell 3; have o34 : ∀ o, (w3.alloc o).cell? ⟨W.heap.size + 2, 3, none⟩ = some v := (fun o => (HB3.out.2.2.1.alloc o).cell 3); clear h hnc2)
        | (refine step_append_lies _ (by rfl) _ _ _ (by rfl) (W.heap.size + 3) 29 i0 (.agg #[.int .i64 0, .int .i64 0, .string ⟨#[]⟩, .slice none 0 0]) 4 56 Tryd.underlying27 HI.out.1 HI.out.2.1 HI.out.2.2.1 HI.out.2.2.2 (by rfl) (by decide) v j vals (by rfl) ((row4_keep (row4_keep HOW.out (Below.refl _ _).drew) HV.out.2).alloc _) ⟨w3.heap.size, 0, none⟩ 1 1 [.int .i64 yk, .int .i64 ym, .string yt, .slice A' n1 c'] (by rfl) (by rfl) (fun j u hu => World.news_of_block (B := w3.heap.size) (cs := #[.int .i64 yk, .int .i64 ym, .string yt, .slice A' n1 c']) (heap_alloc_new w3 _) j u (by simpa using hu)) (fun x hx => by simp at hx; rcases hx with rfl | rfl | rfl | rfl <;> rfl) (by decide) (by unfold maxLen; omega) (by omega) (by have := HB3.out.2.2.1.lt; simp; omega) (w3.heap.size + 1) (by simp) ?_; intro g9 cap9 w7 hown1 hgr1 hat hlt9; have HOWN := Lib.hid hown1; have HGR := Lib.hid hgr1; have HAT := Lib.hid hat; have HB7 : Hid (CoBox W k m t (some ⟨b, off, none⟩) n c v w7) := (HB3.out.grow (below_alloc _ _)).grown hgr1 (fun b hb => (row4_lt HOW.out b hb).1); have o7 : w7.cell? ⟨W.heap.size + 2, 3, none⟩ = some v := HB7.out.2.2.1.cell 3; have f7 : w7.frozen? ⟨W.heap.size + 2, 3, none⟩ = false := HB7.out.2.2.1.frozen 3; clear hown1 hgr1 hat hlt9))
      all_goals
        have HB8 : Hid (CoBox W k m t (some ⟨b, off, none⟩) n c (.slice (some ⟨g9, 0, none⟩) (j + 1) cap9) (w7.setCell ⟨W.heap.size + 1 + 1, 3, none⟩ (.slice (some ⟨g9, 0, none⟩) (j + 1) cap9))) := HB7.out.put _
        have HO8 : Hid ((w7.setCell ⟨W.heap.size + 1 + 1, 3, none⟩ (.slice (some ⟨g9, 0, none⟩) (j + 1) cap9)).ownsRow (W.heap.size + 3) 29 4 (.slice (some ⟨g9, 0, none⟩) (j + 1) cap9) (j + 1) (vals ++ [.int .i64 yk, .int .i64 ym, .string yt, .slice A' n1 c'])) := row4_set HOWN.out (by simp) _
        have HE8 : Hid (CopyEls (W.heap.size + 3) (w7.setCell ⟨W.heap.size + 1 + 1, 3, none⟩ (.slice (some ⟨g9, 0, none⟩) (j + 1) cap9)) (.slice (some ⟨g9, 0, none⟩) (j + 1) cap9) d (j + 1) ks (vals ++ [.int .i64 yk, .int .i64 ym, .string yt, .slice A' n1 c'])) := by
          have k := (CopyEls.snoc (cap := cap9) (HEL.out.below (Below.refl _ _).drew) HVL.out HV.out.2 (fun g hg => (row4_lt HOW.out g hg).2) HBS.out HY.out HNC2.out HYT.out HV.out.1.2 (below_alloc w3 _) HGR.out HAT.out (Nat.le_succ _)).set (q := ⟨W.heap.size + 1 + 1, 3, none⟩) (by simp) (.slice (some ⟨g9, 0, none⟩) (j + 1) cap9)
          unfold Pt.vs at k
          exact k
        clear o3 r3 o33 o34 o7 f7 HB7 HOWN HGR HAT HV HB3 HREC
        generalize (w7.setCell ⟨W.heap.size + 1 + 1, 3, none⟩ (.slice (some ⟨g9, 0, none⟩) (j + 1) cap9)) = w8 at HB8 HO8 HE8 ⊢
        go_wp2_with fail
        go_roundw
        case rel => exact ⟨j + 1, _, _, by omega, by go_num, HB8, HO8, HE8⟩
        case measure => simp [intOf]; omega
    · have HN : Hid (j = n) := by show _ = _; omega
      obtain ⟨A9, c9, hv9, hnc9, hpd9⟩ : ∃ A c, v = .slice A n c ∧ n ≤ c ∧ PtD wr (W.heap.size + 2) wr.heap.size (d + 1) A n ks := by
        have h1 := HOW.out
        have h2 := HEL.out
        rw [HN.out] at h1 h2
        exact CopyEls.all h1 h2 HL.out (by have := HD.out.2.1; exact this) (by omega)
      subst hv9
      have HNC9 := Lib.hid hnc9
      have HPD := Lib.hid hpd9
      have o0 : wr.cell? ⟨W.heap.size + 2, 0, none⟩ = some (.int .i64 k) := HBB.out.2.2.1.cell 0
      have o1 : wr.cell? ⟨W.heap.size + 2, 1, none⟩ = some (.int .i64 m) := HBB.out.2.2.1.cell 1
      have o2 : wr.cell? ⟨W.heap.size + 2, 2, none⟩ = some (.string t) := HBB.out.2.2.1.cell 2
      have s0 := HBB.out.2.1.cell 0
      have s1 := HBB.out.2.1.cell 1
      have s2 := HBB.out.2.1.cell 2
      have s3 := HBB.out.2.1.cell 3
      have f0 := HBB.out.2.1.frozen 0
      have f1 := HBB.out.2.1.frozen 1
      have f2 := HBB.out.2.1.frozen 2
      have f3 := HBB.out.2.1.frozen 3
      clear hnc9 hpd9
      go_wp2_with fail
      refine bodyPost_ret (v := .agg #[.int .i64 k, .int .i64 m, .string t, .slice A9 n c9]) (results_cell_row Tryd.results60 _ _ (W.heap.size + 1) 29 _ (0, 0) _ rfl ((((HBB.out.2.1.set_ 0 (.int .i64 k)).set_ 1 (.int .i64 m)).set_ 2 (.string t)).set_ 3 (.slice A9 n c9)) Tryd.underlying29 rfl (by kernel_rfl)) rfl ⟨A9, c9, HNC9.out, rfl, Lib.hid ⟨⟨HT.out, ?_⟩, HBB.out.2.2.2.trans ((((below_set _ (p := ⟨W.heap.size + 1, 0, none⟩) (by simp) _).setCell (by simp) _).setCell (by simp) _).setCell (by simp) _)⟩⟩
      have hzz : ((((wr.setCell ⟨W.heap.size + 1, 0, none⟩ (.int .i64 k)).setCell ⟨W.heap.size + 1, 1, none⟩ (.int .i64 m)).setCell ⟨W.heap.size + 1, 2, none⟩ (.string t)).setCell ⟨W.heap.size + 1, 3, none⟩ (.slice A9 n c9)).heap.size = wr.heap.size := by simp [World.setCell]
      rw [hzz]
      exact ((((HPD.out.other (q := ⟨W.heap.size + 1, 0, none⟩) (.inl (by simp)) _).other (q := ⟨W.heap.size + 1, 1, none⟩) (.inl (by simp)) _).other (q := ⟨W.heap.size + 1, 2, none⟩) (.inl (by simp)) _).other (q := ⟨W.heap.size + 1, 3, none⟩) (.inl (by simp)) _).more (by omega) (Nat.le_refl _)

theorem copy_any : ∀ d, CopyAt d
  | 0 => fun x A n c W ht hnc hd hc => by
    have := copy_step 0 x A n c W (fun hn => absurd hn (by have := hd.2; omega)) ht hnc hd.deeper hc
    refine this.mono ?_
    rintro e w' ⟨A', c', h1, h2, h3⟩
    obtain ⟨hk, hn⟩ := hd
    exact ⟨A', c', h1, h2, Lib.hid ⟨⟨h3.out.1.1, hk, hn⟩, h3.out.2⟩⟩
  | d + 1 => fun x A n c W ht hnc hd hc => copy_step d x A n c W (fun _ => copy_any d) ht hnc hd hc
end Go.Proofs.YtjeiiljdhnmofaaDoor
