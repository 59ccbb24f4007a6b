/- Contracts: laws.markPatternS, markPattern on trees of one's own. No condition but a bound on the number. -/
import Derived.Test.YtjeiiljdhnmofaaDoorPtOwn
namespace Go.Proofs.YtjeiiljdhnmofaaDoor
open Go Go.RowKit

/-- Element j in a row: marked ahead of i. -/
def mixT (k : Nat) (xs : List Pt) (i j : Nat) (x : Pt) : Pt := if j < i then mkT (k + 3 * pcntK xs j) x else x
/-- The rows while they are marked: those ahead of i are. -/
def MarkP (w : World) (d g n k i : Nat) (ls : Nat → Nat) (xs : List Pt) : Prop :=
  ∃ cs, RW 29 w g cs ∧ n * 4 ≤ cs.size ∧ ∀ (j : Nat) (x : Pt), xs[j]? = some x → ∃ (A' : Option Addr) (n' c' : Nat), n' ≤ c' ∧ Row4 cs j (mixT k xs i j x) A' n' c' ∧ (mixT k xs i j x).t.size ≤ maxLen ∧ PtO w d (ls j) (ls (j + 1)) A' n' (mixT k xs i j x).kids
/-- The contract of markPatternS at depth d. -/
def MarkAt (d : Nat) : Prop := ∀ (lo hi : Nat) (A : Option Addr) (n c k : Nat) (xs : List Pt) (W : World), PtO W d lo hi A n xs → hi ≤ W.heap.size → 0 < k → k + 3 * ptCnts xs ≤ 16777000 →
  Calls Tryd.prog 34 #[.slice A n c, .int .i64 (k : Int)] W fun e w' => e = .returned (.int .i64 ((k + 3 * ptCnts xs : Nat) : Int)) ∧ Hid (PtO w' d lo hi A n (mkTs k xs) ∧ KeepO lo hi W w')

theorem row4_set3 {cs : Array Value} {j : Nat} {x : Pt} {A : Option Addr} {n c : Nat} {v0 v1 v2 : Value} (h : Row4 cs j x A n c) (hs : j * 4 + 3 < cs.size) : ∀ (q : Nat) (v : Value), [v0, v1, v2, .slice A n c][q]? = some v → (((cs.setIfInBounds (j * 4) v0).setIfInBounds (j * 4 + 1) v1).setIfInBounds (j * 4 + 2) v2)[j * 4 + q]? = some v
  | 0, v, e => by
    simp only [List.getElem?_cons_zero, Option.some.injEq] at e
    subst e
    simp only [Nat.add_zero]
    rw [Array.getElem?_setIfInBounds_ne (by omega), Array.getElem?_setIfInBounds_ne (by omega), Array.getElem?_setIfInBounds_self_of_lt (by omega)]
  | 1, v, e => by
    simp only [List.getElem?_cons_zero, List.getElem?_cons_succ, Option.some.injEq] at e
    subst e
    rw [Array.getElem?_setIfInBounds_ne (by omega), Array.getElem?_setIfInBounds_self_of_lt (by simp only [Array.size_setIfInBounds]; omega)]
  | 2, v, e => by
    simp only [List.getElem?_cons_zero, List.getElem?_cons_succ, Option.some.injEq] at e
    subst e
    rw [Array.getElem?_setIfInBounds_self_of_lt (by simp only [Array.size_setIfInBounds]; omega)]
  | 3, v, e => by
    simp only [List.getElem?_cons_zero, List.getElem?_cons_succ, Option.some.injEq] at e
    subst e
    rw [Array.getElem?_setIfInBounds_ne (by omega), Array.getElem?_setIfInBounds_ne (by omega), Array.getElem?_setIfInBounds_ne (by omega)]
    exact h 3 _ rfl
  | q + 4, v, e => by simp at e
theorem set3_old {cs : Array Value} {b i : Nat} {v0 v1 v2 : Value} (h : i < b ∨ b + 2 < i) : (((cs.setIfInBounds b v0).setIfInBounds (b + 1) v1).setIfInBounds (b + 2) v2)[i]? = cs[i]? := by
  rw [Array.getElem?_setIfInBounds_ne (by omega), Array.getElem?_setIfInBounds_ne (by omega), Array.getElem?_setIfInBounds_ne (by omega)]

set_option maxHeartbeats 4000000 in
set_option maxRecDepth 100000 in
theorem mark_step (d : Nat) (lo hi : Nat) (A : Option Addr) (n c k : Nat) (xs : List Pt) (W : World) (ih : 0 < n → MarkAt d) (h : PtO W (d + 1) lo hi A n xs) (hh : hi ≤ W.heap.size) (h0 : 0 < k) (hk : k + 3 * ptCnts xs ≤ 16777000) :
    Calls Tryd.prog 34 #[.slice A n c, .int .i64 (k : Int)] W fun e w' => e = .returned (.int .i64 ((k + 3 * ptCnts xs : Nat) : Int)) ∧ Hid (PtO w' (d + 1) lo hi A n (mkTs k xs) ∧ KeepO lo hi W w') := by
  rw [ptCnts_eq, h.1] at hk ⊢
  rcases Nat.eq_zero_or_pos n with hn0 | hn0
  · subst hn0
    obtain rfl : xs = [] := List.eq_nil_of_length_eq_zero h.1
    go_enter Tryd.func34, Tryd.ntmps34
    go_wp2
    go_loopw [1, 5] (fun q i wr => i = .int .i64 0 ∧ q = .int .i64 (k : Int) ∧ wr = W) (fun _ _ _ => 0)
    case atStart => exact ⟨rfl, rfl, rfl⟩
    case round =>
      obtain ⟨rfl, rfl, rfl⟩ := hrel
      go_wp2_with fail
      go_ret
      exact ⟨by simp [pcntK], Lib.hid ⟨by rw [mkTs]; exact ⟨rfl, Nat.zero_le _, fun h => absurd h (by omega)⟩, KeepO.refl _ _ _⟩⟩
  · obtain ⟨g, cs0, ls, rfl, k1, k2, k3, k4, k5, k6, k7⟩ := h.2.2 hn0
    have HLEN := Lib.hid h.1
    have hnm := h.2.1
    have h0n := ls_mono k4 (show 0 ≤ n by omega) (Nat.le_refl _)
    have HLS := Lib.hid k4
    have HLO := Lib.hid (show lo ≤ g ∧ g < ls 0 ∧ ls n ≤ hi ∧ ls 0 ≤ ls n from ⟨k1, k2, k3, h0n⟩)
    have HHI := Lib.hid hh
    have HIH := Lib.hid (ih hn0)
    have HM : Hid (MarkP W d g n k 0 ls xs) := ⟨cs0, k5, k6, fun j x hx => by
      obtain ⟨A', n', c', m1, m2, m3, m4⟩ := k7 j x hx
      have e : mixT k xs 0 j x = x := by rw [mixT, if_neg (by omega)]
      rw [e]
      exact ⟨A', n', c', m1, m2, m3, m4⟩⟩
    have HNM := Lib.hid hnm
    unfold maxLen at hnm
    clear h ih k1 k2 k3 k4 k5 k6 k7 h0n hh
    go_enter Tryd.func34, Tryd.ntmps34
    go_wp2
    go_loopw [1, 5] (fun q i wr => ∃ j : Nat, j ≤ n ∧ i = .int .i64 j ∧ q = .int .i64 ((k + 3 * pcntK xs j : Nat) : Int) ∧ Hid (KeepO lo hi W wr) ∧ Hid (MarkP wr d g n k j ls xs)) (fun _ i _ => n - (intOf i).toNat)
    case atStart => exact ⟨0, Nat.zero_le _, rfl, by simp [pcntK], KeepO.refl _ _ _, HM⟩
    case round =>
      obtain ⟨j, hj, rfl, rfl, HW, HJ⟩ := hrel
      by_cases hlt : j < n
      · obtain ⟨cs, hs, hcs, hm⟩ := HJ.out
        obtain ⟨x, hx⟩ : ∃ x, xs[j]? = some x := ⟨_, List.getElem?_eq_getElem (by have := HLEN.out; omega)⟩
        obtain ⟨A1, n1, c1, m1, m2, m3, m4⟩ := hm j x hx
        have ex : mixT k xs j j x = x := by rw [mixT, if_neg (by omega)]
        rw [ex] at m2 m3 m4
        have HX := Lib.hid hx
        have HNX := Lib.hid (pcntK_next hx)
        have hmo := pcntK_mono (xs := xs) (show j + 1 ≤ n by omega)
        have HSB := Lib.hid hs
        have HMM := Lib.hid hm
        have HM2 := Lib.hid m2
        have HM4 := Lib.hid m4
        have HM1 := Lib.hid m1
        have HCS := Lib.hid hcs
        have l3 : j * 4 + 3 < cs.size := by omega
        have p0 := (hs.cell (j * 4)).trans (Array.getElem?_eq_getElem (show j * 4 < cs.size by omega))
        have p1 := (hs.cell (j * 4 + 1)).trans (Array.getElem?_eq_getElem (show j * 4 + 1 < cs.size by omega))
        have z0 := hs.frozen (j * 4)
        have z1 := hs.frozen (j * 4 + 1)
        have b0 : (0 : Int) ≤ (j : Int) := by omega
        have b1 : (j : Int) < (n : Int) := by omega
        obtain ⟨t, ht⟩ : ∃ t, k + 3 * pcntK xs j = t := ⟨_, rfl⟩
        have HT := Lib.hid ht
        rw [ht]
        have hnx := HNX.out
        have hcp := ptCnt_pos x
        have ht0 : 0 < t := by omega
        have htx : t + 3 * ptCnt x ≤ 16777000 := by omega
        have ht1 : t < 16777000 := by omega
        have HTX := Lib.hid htx
        clear ht hmo hs hm m1 m2 m4 hx ex hnx htx hcs
        have HMT : Hid (∀ w, Calls Tryd.prog 62 #[.int .i64 ((t : Int) + 1 + 1)] w fun e w' => e = .returned (.string (markT (t + 2))) ∧ Below w.heap.size w w') := fun w => by
          have := markText_any (t + 2) w (by omega) (by omega)
          rw [show ((t + 2 : Nat) : Int) = (t : Int) + 1 + 1 by omega] at this
          exact this
        have HRW : Hid (∀ w1, Below ((wr.setCell ⟨g, j * 4, none⟩ (.int .i64 (t : Int))).setCell ⟨g, j * 4 + 1, none⟩ (.int .i64 ((t : Int) + 1))).heap.size ((wr.setCell ⟨g, j * 4, none⟩ (.int .i64 (t : Int))).setCell ⟨g, j * 4 + 1, none⟩ (.int .i64 ((t : Int) + 1))) w1 →
            RW 29 w1 g ((cs.setIfInBounds (j * 4) (.int .i64 (t : Int))).setIfInBounds (j * 4 + 1) (.int .i64 ((t : Int) + 1))) ∧ KeepO g (g + 1) wr w1) := by
          show ∀ w1, _ → _
          intro w1 hb
          refine ⟨((HSB.out.set_ _ _).set_ _ _).below hb (by simp [World.setCell]; exact HSB.out.lt), ?_⟩
          exact ((KeepO.set wr (p := ⟨g, j * 4, none⟩) (Nat.le_refl _) (Nat.lt_succ_self _) _).trans (KeepO.set _ (p := ⟨g, j * 4 + 1, none⟩) (Nat.le_refl _) (Nat.lt_succ_self _) _)).trans (KeepO.of_below hb)
        have HREC : Hid (∀ w1, KeepO g (g + 1) wr w1 → Calls Tryd.prog 34 #[.slice A1 n1 c1, .int .i64 ((t : Int) + 1 + 1 + 1)] w1 fun e w' => e = .returned (.int .i64 ((t + 3 * ptCnt x : Nat) : Int)) ∧ Hid (PtO w' d (ls j) (ls (j + 1)) A1 n1 (mkTs (t + 3) x.kids) ∧ KeepO (ls j) (ls (j + 1)) w1 w')) := by
          show ∀ w1, _ → _
          intro w1 hkp
          have q0 := ls_mono HLS.out (show 0 ≤ j by omega) (by omega)
          have q1 := ls_mono HLS.out (show j + 1 ≤ n by omega) (Nat.le_refl _)
          obtain ⟨o1, o2, o3, o4⟩ := HLO.out
          have e1 := ptCnt_eq x
          have := HIH.out (ls j) (ls (j + 1)) A1 n1 c1 (t + 3) x.kids w1 (HM4.out.keep hkp (.inr (by omega))) (by have := HHI.out; have := HW.out.size; have := hkp.size; omega) (by omega) (by have := HTX.out; omega)
          rw [show ((t + 3 : Nat) : Int) = (t : Int) + 1 + 1 + 1 from by omega, show t + 3 + 3 * ptCnts x.kids = t + 3 * ptCnt x from by omega] at this
          exact this
        go_wp2_with (first
          | (go_at_call 62; refine (HMT.out _).mono ?_; rintro e w1 ⟨rfl, hb⟩; obtain ⟨hr1, hk1⟩ := HRW.out w1 hb; have HR1 := Lib.hid hr1; have HK1 := Lib.hid hk1; have y2 := (hr1.cell (j * 4 + 2)).trans (Array.getElem?_eq_getElem (show j * 4 + 2 < _ by simp only [Array.size_setIfInBounds]; omega)); have x2 := hr1.frozen (j * 4 + 2); have y3 : (w1.setCell ⟨g, j * 4 + 2, none⟩ (.string (markT (t + 2)))).cell? ⟨g, j * 4 + 3, none⟩ = some (.slice A1 n1 c1) := ((hr1.set_ (j * 4 + 2) (.string (markT (t + 2)))).cell (j * 4 + 3)).trans (row4_set3 HM2.out l3 3 _ rfl); clear hb hr1 hk1 p0 p1 z0 z1 HRW)
          | (go_at_call 34; have hk2 := HK1.out.trans (KeepO.set w1 (p := ⟨g, j * 4 + 2, none⟩) (Nat.le_refl g) (Nat.lt_succ_self g) (.string (markT (t + 2)))); refine Calls.mono (HREC.out _ hk2) ?_; rintro e w3 ⟨rfl, hp⟩; have HK2 := Lib.hid hk2; have HP3 := Lib.hid hp.out.1; have HK3 := Lib.hid hp.out.2; have HR3 : Hid (RW 29 w3 g (((cs.setIfInBounds (j * 4) (.int .i64 (t : Int))).setIfInBounds (j * 4 + 1) (.int .i64 ((t : Int) + 1))).setIfInBounds (j * 4 + 2) (.string (markT (t + 2))))) := HK3.out.row (HR1.out.set_ _ _) (.inl (by have q0 := ls_mono HLS.out (show 0 ≤ j by omega) (by omega); have := HLO.out.2.1; omega)); clear hk2 hp HREC y3))
        go_roundw
        case rel =>
          refine ⟨j + 1, by omega, by go_num, ?_, ?_, ?_⟩
          · have e1 := HNX.out
            have e2 := HT.out
            congr 2
            omega
          · have q0 := ls_mono HLS.out (show 0 ≤ j by omega) (by omega)
            have q1 := ls_mono HLS.out (show j + 1 ≤ n by omega) (Nat.le_refl _)
            obtain ⟨o1, o2, o3, o4⟩ := HLO.out
            exact HW.out.trans ((HK2.out.mono (by omega) (by omega)).trans (HK3.out.mono (by omega) (by omega)))
          · refine ⟨_, HR3.out, by simpa using HCS.out, fun jj y hy => ?_⟩
            have hjj : jj < n := by have := (List.getElem?_eq_some_iff.1 hy).1; have := HLEN.out; omega
            by_cases e : jj = j
            · subst e
              rw [HX.out, Option.some.injEq] at hy
              subst hy
              have em : mixT k xs (jj + 1) jj x = mkT t x := by rw [mixT, if_pos (by omega), HT.out]
              rw [em]
              obtain ⟨xk, xm, xt, xks⟩ := x
              rw [mkT]
              exact ⟨A1, n1, c1, HM1.out, row4_set3 HM2.out l3, mark_size (by omega), HP3.out⟩
            · have em : mixT k xs (j + 1) jj y = mixT k xs j jj y := by
                unfold mixT
                by_cases h1 : jj < j
                · rw [if_pos (by omega), if_pos h1]
                · rw [if_neg (by omega), if_neg h1]
              rw [em]
              obtain ⟨A', n', c', m1, m2, m3, m4⟩ := HMM.out jj y hy
              obtain ⟨o1, o2, o3, o4⟩ := HLO.out
              have q0 := ls_mono HLS.out (show 0 ≤ jj by omega) (by omega)
              refine ⟨A', n', c', m1, fun q v hq => ?_, m3, (m4.keep HK2.out (.inr (by omega))).keep HK3.out ?_⟩
              · have hq4 : q < 4 := (List.getElem?_eq_some_iff.1 hq).1
                rw [set3_old (by omega)]
                exact m2 q v hq
              · rcases Nat.lt_or_gt_of_ne e with h1 | h1
                · exact .inl (ls_mono HLS.out (show jj + 1 ≤ j by omega) (by omega))
                · exact .inr (ls_mono HLS.out (show j + 1 ≤ jj by omega) (by omega))
        case measure => simp [intOf]; omega
      · have HN : Hid (j = n) := by show _ = _; omega
        go_wp2_with fail
        go_ret
        refine ⟨by rw [HN.out]; rfl, Lib.hid ⟨⟨by rw [mkTs_len]; exact HLEN.out, HNM.out, fun _ => ?_⟩, HW.out⟩⟩
        obtain ⟨o1, o2, o3, o4⟩ := HLO.out
        obtain ⟨cs, hs, hcs, hm⟩ := HJ.out
        refine ⟨g, cs, ls, rfl, o1, o2, o3, HLS.out, hs, hcs, fun i y hy => ?_⟩
        rw [mkTs_at] at hy
        obtain ⟨x, hx, hxy⟩ := Option.map_eq_some_iff.1 hy
        have hi : i < n := by have := (List.getElem?_eq_some_iff.1 hx).1; have := HLEN.out; omega
        have em : mixT k xs j i x = y := by rw [mixT, if_pos (by have := HN.out; omega)]; exact hxy
        have := hm i x hx
        rw [em] at this
        exact this

theorem markPatternS_all : ∀ d, MarkAt d
  | 0 => fun lo hi A n c k xs W h hh h0 hk => by
    have := mark_step 0 lo hi A n c k xs W (fun hn => absurd hn (by have := h.2; omega)) h.deeper hh h0 hk
    refine this.mono ?_
    rintro e w' ⟨rfl, hp⟩
    obtain ⟨rfl, rfl⟩ := h
    exact ⟨rfl, Lib.hid ⟨by rw [mkTs]; exact ⟨rfl, rfl⟩, hp.out.2⟩⟩
  | d + 1 => fun lo hi A n c k xs W h hh h0 hk => mark_step d lo hi A n c k xs W (fun _ => markPatternS_all d) h hh h0 hk
theorem markPattern_any (d lo hi : Nat) (x : Pt) (A : Option Addr) (n c : Nat) (W : World) (h : PtO W d lo hi A n x.kids) (hh : hi ≤ W.heap.size) (hk : 1 + 3 * ptCnts x.kids ≤ 16777000) :
    Calls Tryd.prog 27 #[x.ag A n c, .int .i64 1] W fun e w' => e = .returned (.int .i64 ((1 + 3 * ptCnts x.kids : Nat) : Int)) ∧ Hid (PtO w' d lo hi A n (mkTs 1 x.kids) ∧ KeepO lo hi W w') := by
  obtain ⟨k, m, t, ks⟩ := x
  change PtO W d lo hi A n ks at h
  have HBX := Lib.hid (fun X (e : X = W.alloc (.cells #[.int .i64 k, .int .i64 m, .string t, .slice A n c] 29)) => (show Below W.heap.size W X from by rw [e]; exact below_alloc _ _))
  have HQ := Lib.hid (fun X (hb : Below W.heap.size W X) => markPatternS_all d lo hi A n c 1 ks X (h.below hb hh (Nat.le_refl _)) (Nat.le_trans hh hb.size) (by decide) hk)
  clear h hk
  show Calls Tryd.prog 27 #[.agg #[.int .i64 k, .int .i64 m, .string t, .slice A n c], .int .i64 1] W fun e w' => e = .returned (.int .i64 ((1 + 3 * ptCnts ks : Nat) : Int)) ∧ Hid (PtO w' d lo hi A n (mkTs 1 ks) ∧ KeepO lo hi W w')
  obtain ⟨q, hq⟩ : ∃ q, 1 + 3 * ptCnts ks = q := ⟨_, rfl⟩
  rw [hq] at HQ ⊢
  clear hq
  go_enter Tryd.func27, Tryd.ntmps27
  go_wp2_with (go_at_call 34; have g := HBX.out _ rfl; refine Calls.mono (HQ.out _ g) ?_; rintro e w1 ⟨rfl, hp⟩; have HP := Lib.hid hp.out.1; have HK := Lib.hid ((KeepO.of_below (lo := lo) (hi := hi) g).trans hp.out.2); clear g hp)
  go_ret
  exact ⟨rfl, Lib.hid ⟨HP.out, HK.out⟩⟩
end Go.Proofs.YtjeiiljdhnmofaaDoor
