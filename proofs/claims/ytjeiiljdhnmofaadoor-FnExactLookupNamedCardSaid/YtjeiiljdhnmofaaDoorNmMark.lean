/- Contract: laws.markNamedS on named patterns of one's own: what it keeps. No condition but a bound on the number. -/
import Derived.Test.YtjeiiljdhnmofaaDoorNmsToO
import Derived.Test.YtjeiiljdhnmofaaDoorPtMark
namespace Go.Proofs.YtjeiiljdhnmofaaDoor
open Go Go.RowKit

/-- The numbers that the first ones take. -/
def mkN (xs : List Nm) : Nat → Nat
  | 0 => 0
  | j + 1 => mkN xs j + ((xs[j]?.map fun x => 1 + 3 * ptCnt x.pt).getD 0)
theorem mkN_next {xs : List Nm} {k : Nat} {x : Nm} (h : xs[k]? = some x) : mkN xs (k + 1) = mkN xs k + (1 + 3 * ptCnt x.pt) := by
  rw [mkN, h]
  rfl
theorem mkN_mono {xs : List Nm} {j : Nat} : ∀ {k : Nat}, j ≤ k → mkN xs j ≤ mkN xs k
  | 0, h => by obtain rfl : j = 0 := by omega
               exact Nat.le_refl _
  | k + 1, h => by
    by_cases e : j = k + 1
    · rw [e]; exact Nat.le_refl _
    · have := mkN_mono (xs := xs) (show j ≤ k by omega)
      rw [mkN]
      omega
theorem mkN_sz (xs : List Nm) : ∀ (j : Nat), j ≤ xs.length → mkN xs j ≤ 4 * j + 3 * sumNm xs j
  | 0, _ => by rw [mkN]; exact Nat.zero_le _
  | j + 1, h => by
    have h1 := mkN_sz xs j (by omega)
    have hx : xs[j]? = some (xs[j]'(by omega)) := List.getElem?_eq_getElem (by omega)
    rw [mkN_next hx, sumNm_next hx]
    have h2 := pcnt_le_sz (xs[j]'(by omega)).pt
    have h3 : szNm1 (xs[j]'(by omega)) = (xs[j]'(by omega)).name.size + ptSz (xs[j]'(by omega)).pt := rfl
    omega
/-- The rows that are not marked yet. -/
def MkI (w : World) (d g n j : Nat) (ls : Nat → Nat) (xs : List Nm) : Prop :=
  ∃ cs : Array Value, RW 78 w g cs ∧ n * 5 ≤ cs.size ∧ ∀ (i : Nat) (x : Nm), j ≤ i → xs[i]? = some x → ∃ (A' : Option Addr) (n' c' : Nat), cs[i * 5 + 4]? = some (.slice A' n' c') ∧ PtO w d (ls i) (ls (i + 1)) A' n' x.pt.kids
theorem set4_old {cs : Array Value} {b i : Nat} {v0 v1 v2 v3 : Value} (h : i < b ∨ b + 3 < i) : ((((cs.setIfInBounds b v0).setIfInBounds (b + 1) v1).setIfInBounds (b + 2) v2).setIfInBounds (b + 3) v3)[i]? = cs[i]? := by
  rw [Array.getElem?_setIfInBounds_ne (by omega), Array.getElem?_setIfInBounds_ne (by omega), Array.getElem?_setIfInBounds_ne (by omega), Array.getElem?_setIfInBounds_ne (by omega)]

set_option maxHeartbeats 4000000 in
set_option maxRecDepth 100000 in
theorem markNamedS_any (d lo hi : Nat) (A : Option Addr) (n c : Nat) (xs : List Nm) (W : World) (h : NmO W d lo hi A n xs) (hh : hi ≤ W.heap.size) (hk : 1 + mkN xs n ≤ 16777000) :
    Calls Tryd.prog 26 #[.slice A n c, .int .i64 1] W fun e w' => e = .returned (.int .i64 ((1 + mkN xs n : Nat) : Int)) ∧ KeepO lo hi W w' := by
  rcases Nat.eq_zero_or_pos n with hn0 | hn0
  · subst hn0
    go_enter Tryd.func26, Tryd.ntmps26
    go_wp2
    go_loopw [1, 5] (fun q i wr => i = .int .i64 0 ∧ q = .int .i64 1 ∧ wr = W) (fun _ _ _ => 0)
    case atStart => exact ⟨rfl, rfl, rfl⟩
    case round =>
      obtain ⟨rfl, rfl, rfl⟩ := hrel
      go_wp2_with fail
      go_ret
      exact ⟨by simp [mkN], KeepO.refl _ _ _⟩
  · obtain ⟨g, cs0, ls, rfl, k1, k2, k3, k4, k5, k6, k7⟩ := h.2.2 hn0
    have HLEN := Lib.hid h.1
    have hnm := h.2.1
    have h0n := ls_mono k4 (show 0 ≤ n by omega) (Nat.le_refl _)
    have HLS := Lib.hid k4
    have HLO := Lib.hid (show lo ≤ g ∧ g < ls 0 ∧ ls n ≤ hi ∧ ls 0 ≤ ls n from ⟨k1, k2, k3, h0n⟩)
    have HHI := Lib.hid hh
    have HM : Hid (MkI W d g n 0 ls xs) := ⟨cs0, k5, k6, fun j x _ hx => by
      obtain ⟨A', n', c', m1, m2, m3, m4⟩ := k7 j x hx
      exact ⟨A', n', c', m2 4 _ rfl, m4⟩⟩
    unfold maxLen at hnm
    clear h k1 k2 k3 k4 k5 k6 k7 h0n hh
    go_enter Tryd.func26, Tryd.ntmps26
    go_wp2
    go_loopw [1, 5] (fun q i wr => ∃ j : Nat, j ≤ n ∧ i = .int .i64 j ∧ q = .int .i64 ((1 + mkN xs j : Nat) : Int) ∧ Hid (KeepO lo hi W wr) ∧ Hid (MkI wr d g n j ls xs)) (fun _ i _ => n - (intOf i).toNat)
    case atStart => exact ⟨0, Nat.zero_le _, rfl, by simp [mkN], KeepO.refl _ _ _, HM⟩
    case round =>
      obtain ⟨j, hj, rfl, rfl, HW, HJ⟩ := hrel
      by_cases hlt : j < n
      · obtain ⟨cs, hs, hcs, hm⟩ := HJ.out
        obtain ⟨x, hx⟩ : ∃ x, xs[j]? = some x := ⟨_, List.getElem?_eq_getElem (by have := HLEN.out; omega)⟩
        obtain ⟨A1, n1, c1, m1, m2⟩ := hm j x (Nat.le_refl _) hx
        have HNX := Lib.hid (mkN_next hx)
        have hmo := mkN_mono (xs := xs) (show j + 1 ≤ n by omega)
        have HS := Lib.hid hs
        have HMM := Lib.hid hm
        have HM1 := Lib.hid m1
        have HM2 := Lib.hid m2
        have HCS := Lib.hid hcs
        have b0 : (0 : Int) ≤ (j : Int) := by omega
        have b1 : (j : Int) < (n : Int) := by omega
        have hnx := HNX.out
        have hcp := ptCnt_pos x.pt
        obtain ⟨t, ht⟩ : ∃ t, 1 + mkN xs j = t := ⟨_, rfl⟩
        have HT := Lib.hid ht
        rw [ht]
        have ht0 : 0 < t := by omega
        have htx : t + 1 + 3 * ptCnt x.pt ≤ 16777000 := by omega
        have ht1 : t < 16777000 := by omega
        have HTX := Lib.hid htx
        clear ht hmo hs hm m1 m2 hx hnx htx hcs
        have HT1 : Hid (∀ w, Calls Tryd.prog 62 #[.int .i64 (t : Int)] w fun e w' => e = .returned (.string (markT t)) ∧ Below w.heap.size w w') := fun w => markText_any t w (by omega) (by omega)
        have HT2 : Hid (∀ w, Calls Tryd.prog 62 #[.int .i64 ((t : Int) + 1 + 1 + 1)] w fun e w' => e = .returned (.string (markT (t + 3))) ∧ Below w.heap.size w w') := fun w => by
          have := markText_any (t + 3) w (by omega) (by omega)
          rw [show ((t + 3 : Nat) : Int) = (t : Int) + 1 + 1 + 1 by omega] at this
          exact this
        have HREC : Hid (∀ w1, KeepO g (g + 1) wr w1 → Calls Tryd.prog 34 #[.slice A1 n1 c1, .int .i64 ((t : Int) + 1 + 1 + 1 + 1)] w1 fun e w' => e = .returned (.int .i64 ((t + (1 + 3 * ptCnt x.pt) : Nat) : Int)) ∧ KeepO (ls j) (ls (j + 1)) w1 w') := by
          show ∀ w1, _ → _
          intro w1 hkp
          have q0 := ls_mono HLS.out (show 0 ≤ j by omega) (by omega)
          have q1 := ls_mono HLS.out (show j + 1 ≤ n by omega) (Nat.le_refl _)
          obtain ⟨o1, o2, o3, o4⟩ := HLO.out
          have e1 := ptCnt_eq x.pt
          have := markPatternS_all d (ls j) (ls (j + 1)) A1 n1 c1 (t + 4) x.pt.kids w1 (HM2.out.keep hkp (.inr (by omega))) (by have := HHI.out; have := HW.out.size; have := hkp.size; omega) (by omega) (by have := HTX.out; omega)
          rw [show ((t + 4 : Nat) : Int) = (t : Int) + 1 + 1 + 1 + 1 from by omega, show t + 4 + 3 * ptCnts x.pt.kids = t + (1 + 3 * ptCnt x.pt) from by omega] at this
          exact this.mono fun e w' ⟨h1, h2⟩ => ⟨h1, h2.out.2⟩
        have tk1 : True := trivial
        have tk2 : True := trivial
        go_wp2_with (first
          | (go_at_call 62; have tk := tk1; refine (HT1.out _).mono ?_; rintro e w1 ⟨rfl, hb⟩; have hr1 := HS.out.below hb HS.out.lt; have HR1 := Lib.hid hr1; have HB1 := Lib.hid hb; have y0 := (hr1.cell (j * 5)).trans (Array.getElem?_eq_getElem (show j * 5 < _ by have := HCS.out; omega)); have z0 := hr1.frozen (j * 5); have y1 := (hr1.cell (j * 5 + 1)).trans (Array.getElem?_eq_getElem (show j * 5 + 1 < _ by have := HCS.out; omega)); have z1 := hr1.frozen (j * 5 + 1); have y2 := (hr1.cell (j * 5 + 2)).trans (Array.getElem?_eq_getElem (show j * 5 + 2 < _ by have := HCS.out; omega)); have z2 := hr1.frozen (j * 5 + 2); clear hb hr1 tk tk1)
          | (go_at_call 62; have tk := tk2; refine (HT2.out _).mono ?_; rintro e w2 ⟨rfl, hb⟩; have hr2 := (((HR1.out.set_ (j * 5) (.string (markT t))).set_ (j * 5 + 1) (.int .i64 ((t : Int) + 1))).set_ (j * 5 + 2) (.int .i64 ((t : Int) + 1 + 1))).below hb (by simp [World.setCell]; exact HR1.out.lt); have HR2 := Lib.hid hr2; have HK2 : Hid (KeepO g (g + 1) wr w2) := ((KeepO.of_below HB1.out).trans (((KeepO.set w1 (p := ⟨g, j * 5, none⟩) (Nat.le_refl _) (Nat.lt_succ_self _) (.string (markT t))).trans (KeepO.set _ (p := ⟨g, j * 5 + 1, none⟩) (Nat.le_refl _) (Nat.lt_succ_self _) (.int .i64 ((t : Int) + 1)))).trans (KeepO.set _ (p := ⟨g, j * 5 + 2, none⟩) (Nat.le_refl _) (Nat.lt_succ_self _) (.int .i64 ((t : Int) + 1 + 1))))).trans (KeepO.of_below hb); have y3 := (hr2.cell (j * 5 + 3)).trans (Array.getElem?_eq_getElem (show j * 5 + 3 < _ by have := HCS.out; simp only [Array.size_setIfInBounds]; omega)); have z3 := hr2.frozen (j * 5 + 3); have y4 : (w2.setCell ⟨g, j * 5 + 3, none⟩ (.string (markT (t + 3)))).cell? ⟨g, j * 5 + 4, none⟩ = some (.slice A1 n1 c1) := ((hr2.set_ (j * 5 + 3) (.string (markT (t + 3)))).cell (j * 5 + 4)).trans ((set4_old (by omega)).trans HM1.out); clear hb hr2 tk tk2 y0 y1 y2 z0 z1 z2)
          | (go_at_call 34; have hk3 := HK2.out.trans (KeepO.set w2 (p := ⟨g, j * 5 + 3, none⟩) (Nat.le_refl g) (Nat.lt_succ_self g) (.string (markT (t + 3)))); refine Calls.mono (HREC.out _ hk3) ?_; rintro e w3 ⟨rfl, hp⟩; have HK3 := Lib.hid hk3; have HP3 := Lib.hid hp; have HR3 : Hid (RW 78 w3 g ((((cs.setIfInBounds (j * 5) (.string (markT t))).setIfInBounds (j * 5 + 1) (.int .i64 ((t : Int) + 1))).setIfInBounds (j * 5 + 2) (.int .i64 ((t : Int) + 1 + 1))).setIfInBounds (j * 5 + 3) (.string (markT (t + 3))))) := HP3.out.row (HR2.out.set_ _ _) (.inl (by have q0 := ls_mono HLS.out (show 0 ≤ j by omega) (by omega); have := HLO.out.2.1; omega)); clear hk3 hp HREC y3 z3 y4))
        go_roundw
        case rel =>
          refine ⟨j + 1, by omega, by go_num, ?_, ?_, ?_⟩
          · have e1 := HNX.out
            have e2 := HT.out
            congr 2
            omega
          · have q0 := ls_mono HLS.out (show 0 ≤ j by omega) (by omega)
            have q1 := ls_mono HLS.out (show j + 1 ≤ n by omega) (Nat.le_refl _)
            obtain ⟨o1, o2, o3, o4⟩ := HLO.out
            exact HW.out.trans ((HK3.out.mono (by omega) (by omega)).trans (HP3.out.mono (by omega) (by omega)))
          · refine ⟨_, HR3.out, by simpa using HCS.out, fun i y hi hy => ?_⟩
            have hin : i < n := by have := (List.getElem?_eq_some_iff.1 hy).1; have := HLEN.out; omega
            obtain ⟨A', n', c', m1, m2⟩ := HMM.out i y (by omega) hy
            obtain ⟨o1, o2, o3, o4⟩ := HLO.out
            have q0 := ls_mono HLS.out (show 0 ≤ i by omega) (by omega)
            exact ⟨A', n', c', (set4_old (by omega)).trans m1, (m2.keep HK3.out (.inr (by omega))).keep HP3.out (.inr (ls_mono HLS.out (show j + 1 ≤ i by omega) (by omega)))⟩
        case measure => simp [intOf]; omega
      · have HN : Hid (j = n) := by show _ = _; omega
        go_wp2_with fail
        go_ret
        exact ⟨by rw [HN.out]; rfl, HW.out⟩
end Go.Proofs.YtjeiiljdhnmofaaDoor
