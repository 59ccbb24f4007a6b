/- The law's walk: FnExactLookupNamed. Condition: the tables hold what the program's text lays. -/
import Derived.Test.YtjeiiljdhnmofaaDoorScLaw
import Derived.Test.YtjeiiljdhnmofaaDoorLkImpl
import Derived.Test.YtjeiiljdhnmofaaDoorNmMark
import Derived.Test.YtjeiiljdhnmofaaDoorNmsEq
import Derived.Test.YtjeiiljdhnmofaaDoorCards
import Derived.Stop.LaidErr
namespace Go.Proofs.YtjeiiljdhnmofaaDoor
open Go Go.RowKit

set_option maxHeartbeats 4000000 in
set_option maxRecDepth 100000 in
theorem walk_FnExactLookupNamed (d : Nat) (A : Option Addr) (n c : Nat) (xs : List Nm) (nm : ByteArray) (w1 : nm.size ≤ maxLen) (W : World) (ha : NmI W 0 W.heap.size d A n xs) (hL : laidMetH Tryd.prog Rows.fnExactLookupNamedRow.laid W) :
    Calls Tryd.prog 6 #[.slice A n c, .string nm] W fun e w' => e = .returned (.bool true) ∧ Below W.heap.size W w' := by
  have h1 : laidMet Tryd.prog [("loop.example/g00873/impl.byteClasses", Rows.laid_loop_example_g00873_impl_byteClasses), ("loop.example/g00873/impl.patternForms", Rows.laid_loop_example_g00873_impl_patternForms)] W := hL
  have hT : Classes W := Lib.tabIs_of_head (rest := [("loop.example/g00873/impl.patternForms", Rows.laid_loop_example_g00873_impl_patternForms)]) gClasses (by kernel_rfl) Tryd.underlying112 Tryd.underlying5 (by kernel_rfl) (by kernel_rfl) h1
  have hF : Forms W := forms_of h1.tail
  have HT := Lib.hid hT
  have HFM := Lib.hid hF
  clear hL hT hF h1
  have HA := Lib.hid ha
  by_cases c0 : (nm.size : Int) ≤ 1048576
  rotate_left
  · have d0 : decide (1048576 < (nm.size : Int)) = true := by simp; omega
    go_enter Tryd.func6, Tryd.ntmps6
    go_wp2_with fail
    go_ret
    exact ⟨rfl, Below.refl _ _⟩
  have d0 : decide (1048576 < (nm.size : Int)) = false := by simp; omega
  have HNMS := Lib.hid w1
  clear c0 w1
  by_cases c1 : (szNm xs : Int) ≤ 1048576
  · have C1 := Lib.hid c1
    have hsm := small_Nm c1
    have TA := Lib.hid (fun (w : World) (hb : Below W.heap.size W w) => toNamedSO_any d A n c xs w (ha.go hb) hsm.1 (by have := hsm.2; have := ha.1; omega))
    have hcx : mkN xs n ≤ 4 * 1048576 := by
      have h1 := mkN_sz xs n (by rw [ha.1]; exact Nat.le_refl _)
      have h2 : szNm xs = xs.length + sumNm xs xs.length := rfl
      rw [ha.1] at h2
      omega
    obtain ⟨y, hy⟩ : ∃ y, lkA xs nm = y := ⟨_, rfl⟩
    obtain ⟨bb, hbb⟩ : ∃ b, lkB xs nm = b := ⟨_, rfl⟩
    have hcy : ptCnts y.kids ≤ 60 := by
      rw [← hy]
      by_cases h : EnvOk xs ∧ 0 ≤ placeI xs nm
      · rcases place_cases xs nm with e | ⟨k, x, hx, e⟩
        · rw [e] at h
          exact absurd h.2 (by decide)
        · rw [(lk_yes h.1 e hx).1]
          have h1 := (h.1.2 k x hx).2.1.1
          rw [ptCnt_eq] at h1
          omega
      · rw [(lk_no h).1, zero_pt, ptCnts]
        omega
    have HUP := Lib.hid (fun (w : World) (A' : Option Addr) (lo hi : Nat) (h : NmO w d lo hi A' n xs) (hh : hi ≤ w.heap.size) => (show NmI w 0 w.heap.size d A' n xs from h.tree.more (Nat.zero_le _) hh))
    have HSP := Lib.hid (fun (w : World) (A' : Option Addr) (c' : Nat) (h : NmI w 0 w.heap.size d A' n xs) => spec_LookupNamed_any d A' n c' xs nm w h)
    have HIM := Lib.hid (fun (w : World) (A' : Option Addr) (c' : Nat) (h : NmI w 0 w.heap.size d A' n xs) (hT : Classes w) (hF : Forms w) => impl_LookupNamed_any d A' n c' xs nm w h hT hF)
    rw [hy, hbb] at HSP HIM
    obtain ⟨mx, hmx⟩ : ∃ m : Nat, 1 + mkN xs n = m := ⟨_, rfl⟩
    obtain ⟨my, hmy⟩ : ∃ m : Nat, 1 + 3 * ptCnts y.kids = m := ⟨_, rfl⟩
    have HMX : Hid (∀ (A' : Option Addr) (c' lo hi : Nat) w, NmO w d lo hi A' n xs → hi ≤ w.heap.size → Calls Tryd.prog 26 #[.slice A' n c', .int .i64 1] w fun e w' => e = .returned (.int .i64 (mx : Int)) ∧ KeepO lo hi w w') := by
      show ∀ (A' : Option Addr) (c' lo hi : Nat) w, _ → _ → _
      intro A' c' lo hi w h hh
      rw [← hmx]
      exact markNamedS_any d lo hi A' n c' xs w h hh (by omega)
    obtain ⟨yk, ym, yt, yks⟩ := y
    change ptCnts yks ≤ 60 at hcy
    change 1 + 3 * ptCnts yks = my at hmy
    have HMY : Hid (∀ (A' : Option Addr) (n' c' lo hi : Nat) w, PtO w d lo hi A' n' yks → hi ≤ w.heap.size → Calls Tryd.prog 27 #[.agg #[.int .i64 yk, .int .i64 ym, .string yt, .slice A' n' c'], .int .i64 1] w fun e w' => e = .returned (.int .i64 (my : Int)) ∧ PtO w' d lo hi A' n' (mkTs 1 yks) ∧ KeepO lo hi w w') := by
      show ∀ (A' : Option Addr) (n' c' lo hi : Nat) w, _ → _ → _
      intro A' n' c' lo hi w h hh
      rw [← hmy]
      exact (markPattern_any d lo hi (.node yk ym yt yks) A' n' c' w h hh (by show 1 + 3 * ptCnts yks ≤ _; omega)).mono fun e w' ⟨h1, h2⟩ => ⟨h1, h2.out⟩
    have HHE : Hid (∀ (A' : Option Addr) (n' c' : Nat) w, PtD w 0 w.heap.size d A' n' (mkTs 1 yks) → Calls Tryd.prog 28 #[.agg #[.int .i64 yk, .int .i64 ym, .string yt, .slice A' n' c'], .int .i64 1] w fun e w' => e = .returned (.int .i64 (my : Int)) ∧ Below w.heap.size w w') := by
      show ∀ (A' : Option Addr) (n' c' : Nat) w, _ → _
      intro A' n' c' w h
      rw [← hmy]
      exact heldPattern_any d (.node yk ym yt yks) A' n' c' w h (by show 1 + 3 * ptCnts yks ≤ _; omega)
    have HEQ : Hid (∀ (A' A'' : Option Addr) (n' n'' c' c'' : Nat) w, PtV w 0 w.heap.size d (.node yk ym yt yks) A' n' → PtV w 0 w.heap.size d (.node yk ym yt yks) A'' n'' → n' = n'' → Calls Tryd.prog 14 #[.agg #[.int .i64 yk, .int .i64 ym, .string yt, .slice A' n' c'], .agg #[.int .i64 yk, .int .i64 ym, .string yt, .slice A'' n'' c'']] w fun e w' => e = .returned (.bool true) ∧ Below w.heap.size w w') := by
      show ∀ (A' A'' : Option Addr) (n' n'' c' c'' : Nat) w, _ → _ → _ → _
      intro A' A'' n' n'' c' c'' w h h' e
      subst e
      exact eqPattern_same d (.node yk ym yt yks) A' A'' n' c' c'' w h h'
    have dx : decide ((mx : Int) < 0) = false := by first | (simp; done) | (simp; omega)
    have dy : decide ((my : Int) < 0) = false := by first | (simp; done) | (simp; omega)
    have HXA := HA
    clear c1 hcx hcy hy hbb hmx hmy ha hsm
    cases bb
    all_goals
      go_enter Tryd.func6, Tryd.ntmps6
      go_wp2_with (go_at_call 19; have HQ := szNamedS_any d A n c xs 1048576 W HA.out (by decide) (by decide); refine Calls.mono HQ ?_; clear HQ; intro e w1 h; obtain ⟨z1, rfl, hz1, l1, u1, hb⟩ := h.fits C1.out (by decide); have d1 : decide (z1 < 0) = false := (by simp; omega); have B1 := Lib.hid hb; clear h hb hz1)
      go_wp2_with (go_at_call 21; refine Calls.mono (TA.out _ B1.out) ?_; rintro e w2 ⟨rfl, h⟩; have B2 := Lib.hid (B1.out.trans (h.out.2.mono B1.out.size)); have T2 := Lib.hid (HUP.out _ _ _ _ h.out.1 (Nat.le_refl _)); clear h)
      go_wp2_with (go_at_call 24; refine Calls.mono (HSP.out _ _ _ T2.out) ?_; rintro e w3 ⟨A0, n0, c0, hnc, he, h⟩; have EV := Lib.hid (show e = .returned (.tuple #[.agg #[.int .i64 yk, .int .i64 ym, .string yt, .slice A0 n0 c0], _]) from he); obtain rfl := EV.out; have HS : Hid (SC0 W w2.heap.size w3.heap.size d (.node yk ym yt yks) A0 n0 c0 (w3.alloc (.cells #[.int .i64 yk, .int .i64 ym, .string yt, .slice A0 n0 c0] 29))) := ⟨(B2.out.trans (h.out.2.mono B2.out.size)).trans ((below_alloc _ _).mono (Nat.le_trans B2.out.size h.out.2.size)), RW.new _ _ _, ⟨h.out.1.1, h.out.1.2.below (below_alloc _ _)⟩, B2.out.size, h.out.2.size, by simp⟩; have HN0 : Hid (yks.length = n0) := h.out.1.2.len.1; clear h hnc T2 EV)
      go_wp2_with (go_at_call 21; refine Calls.mono (TA.out _ HS.out.1) ?_; rintro e w4 ⟨rfl, h⟩; have HS4 : Hid (SC0 W w2.heap.size w3.heap.size d (.node yk ym yt yks) A0 n0 c0 w4) := HS.out.below h.out.2 (by simp); have HX4 : Hid (NmO w4 d (w3.heap.size + 1) w4.heap.size (some ⟨w3.heap.size + 1, 0, none⟩) n xs) := (by have k := h.out.1; simp only [World.size_alloc] at k; exact k); have HG4 : Hid (w3.heap.size < w4.heap.size) := HS4.out.2.2.2.2.2; clear h)
      go_wp2_with (go_at_call 25; refine Calls.mono (HIM.out _ _ _ (HUP.out _ _ _ _ HX4.out (Nat.le_refl _)) (classes_go HT.out HS4.out.1) (HFM.out.go HS4.out.1)) ?_; rintro e w5 ⟨A1, n1, c1, hnc, he, h⟩; have EV := Lib.hid (show e = .returned (.tuple #[.agg #[.int .i64 yk, .int .i64 ym, .string yt, .slice A1 n1 c1], _]) from he); obtain rfl := EV.out; have HS5 : Hid (SC1 W w2.heap.size w3.heap.size w4.heap.size w5.heap.size d (.node yk ym yt yks) yks A0 n0 c0 A1 n1 c1 (w5.alloc (.cells #[.int .i64 yk, .int .i64 ym, .string yt, .slice A1 n1 c1] 29))) := ⟨(HS4.out.below h.out.2 HG4.out).below (below_alloc _ _) (Nat.lt_of_lt_of_le HG4.out h.out.2.size), RW.new _ _ _, h.out.1.2.below (below_alloc _ _) (Nat.le_refl _) (Nat.le_refl _), HG4.out, h.out.2.size, by simp⟩; have HX5 : Hid (NmO (w5.alloc (.cells #[.int .i64 yk, .int .i64 ym, .string yt, .slice A1 n1 c1] 29)) d (w3.heap.size + 1) w4.heap.size (some ⟨w3.heap.size + 1, 0, none⟩) n xs) := (HX4.out.below h.out.2 (Nat.le_refl _) (Nat.le_refl _)).below (below_alloc _ _) h.out.2.size (Nat.le_refl _); have HN1 : Hid (yks.length = n1) := h.out.1.2.len.1; have HNN : Hid (n1 = n0) := HN1.out.symm.trans HN0.out; have p0 : ∀ o, (w5.alloc o).cell? ⟨w3.heap.size, 0, none⟩ = some (.int .i64 yk) := (fun o => ((HS4.out.below h.out.2 HG4.out).2.1.alloc o).cell 0); have p1 : ∀ o, (w5.alloc o).cell? ⟨w3.heap.size, 1, none⟩ = some (.int .i64 ym) := (fun o => ((HS4.out.below h.out.2 HG4.out).2.1.alloc o).cell 1); have p2 : ∀ o, (w5.alloc o).cell? ⟨w3.heap.size, 2, none⟩ = some (.string yt) := (fun o => ((HS4.out.below h.out.2 HG4.out).2.1.alloc o).cell 2); have p3 : ∀ o, (w5.alloc o).cell? ⟨w3.heap.size, 3, none⟩ = some (.slice A0 n0 c0) := (fun o => ((HS4.out.below h.out.2 HG4.out).2.1.alloc o).cell 3); clear h hnc EV)
      go_wp2_with (go_at_call 14; refine Calls.mono (HEQ.out A1 A0 n1 n0 c1 c0 _ HS5.out.tree HS5.out.1.tree HNN.out) ?_; rintro e w6 ⟨rfl, hb⟩; have HS6 := Lib.hid (HS5.out.grow hb); have HX6 := Lib.hid (HX5.out.below hb (by have := HS5.out.2.2.2; omega) (Nat.le_refl _)); clear hb p0 p1 p2 p3)
      go_wp2_with (go_at_call 21; refine Calls.mono (TA.out _ HS6.out.1.1) ?_; rintro e w7 ⟨rfl, h⟩; have HS7 := Lib.hid (HS6.out.grow h.out.2); have HX7 := Lib.hid (HX6.out.below h.out.2 (by have := HS6.out.2.2.2; omega) (Nat.le_refl _)); have T7 := Lib.hid (HUP.out _ _ _ _ h.out.1 (Nat.le_refl _)); clear h)
      go_wp2_with (go_at_call 23; refine Calls.mono (eqNamedS_same d _ _ n n n xs w7 (HUP.out _ _ _ _ HX7.out (by have := HS7.out.2.2.2; omega)) T7.out) ?_; rintro e w8 ⟨rfl, hb⟩; have HS8 := Lib.hid (HS7.out.grow hb); have HX8 := Lib.hid (HX7.out.below hb (by have := HS7.out.2.2.2; omega) (Nat.le_refl _)); clear hb T7)
      go_wp2_with (go_at_call 26; refine Calls.mono (HMX.out _ _ _ _ _ HX8.out (by have := HS8.out.2.2.2; omega)) ?_; rintro e w9 ⟨rfl, hk⟩; have HS9 := Lib.hid (HS8.out.keepX hk (Nat.lt_succ_self _) (Nat.le_refl _)); have q0 : w9.cell? ⟨w5.heap.size, 0, none⟩ = some (.int .i64 yk) := HS9.out.2.1.cell 0; have q1 : w9.cell? ⟨w5.heap.size, 1, none⟩ = some (.int .i64 ym) := HS9.out.2.1.cell 1; have q2 : w9.cell? ⟨w5.heap.size, 2, none⟩ = some (.string yt) := HS9.out.2.1.cell 2; have q3 : w9.cell? ⟨w5.heap.size, 3, none⟩ = some (.slice A1 n1 c1) := HS9.out.2.1.cell 3; have p0 : w9.cell? ⟨w3.heap.size, 0, none⟩ = some (.int .i64 yk) := HS9.out.1.2.1.cell 0; have p1 : w9.cell? ⟨w3.heap.size, 1, none⟩ = some (.int .i64 ym) := HS9.out.1.2.1.cell 1; have p2 : w9.cell? ⟨w3.heap.size, 2, none⟩ = some (.string yt) := HS9.out.1.2.1.cell 2; have p3 : w9.cell? ⟨w3.heap.size, 3, none⟩ = some (.slice A0 n0 c0) := HS9.out.1.2.1.cell 3; clear hk)
      go_wp2_with (go_at_call 14; refine Calls.mono (HEQ.out A1 A0 n1 n0 c1 c0 _ HS9.out.tree HS9.out.1.tree HNN.out) ?_; clear p0 p1 p2 p3 q0 q1 q2 q3; rintro e w10 ⟨rfl, hb⟩; have HS10 := Lib.hid (HS9.out.grow hb); have q0 : w10.cell? ⟨w5.heap.size, 0, none⟩ = some (.int .i64 yk) := HS10.out.2.1.cell 0; have q1 : w10.cell? ⟨w5.heap.size, 1, none⟩ = some (.int .i64 ym) := HS10.out.2.1.cell 1; have q2 : w10.cell? ⟨w5.heap.size, 2, none⟩ = some (.string yt) := HS10.out.2.1.cell 2; have q3 : w10.cell? ⟨w5.heap.size, 3, none⟩ = some (.slice A1 n1 c1) := HS10.out.2.1.cell 3; have p0 : w10.cell? ⟨w3.heap.size, 0, none⟩ = some (.int .i64 yk) := HS10.out.1.2.1.cell 0; have p1 : w10.cell? ⟨w3.heap.size, 1, none⟩ = some (.int .i64 ym) := HS10.out.1.2.1.cell 1; have p2 : w10.cell? ⟨w3.heap.size, 2, none⟩ = some (.string yt) := HS10.out.1.2.1.cell 2; have p3 : w10.cell? ⟨w3.heap.size, 3, none⟩ = some (.slice A0 n0 c0) := HS10.out.1.2.1.cell 3; clear hb)
      go_wp2_with (go_at_call 27; refine Calls.mono (HMY.out A1 n1 c1 _ _ _ HS10.out.2.2.1 (by have := HS10.out.2.2.2; omega)) ?_; clear p0 p1 p2 p3 q0 q1 q2 q3; rintro e w11 ⟨rfl, hp, hk⟩; have HS11 : Hid (SC1 W w2.heap.size w3.heap.size w4.heap.size w5.heap.size d (.node yk ym yt yks) (mkTs 1 yks) A0 n0 c0 A1 n1 c1 w11) := ⟨HS10.out.1.keepO hk HS10.out.2.2.2.1, hk.row HS10.out.2.1 (.inr (Nat.le_refl _)), hp, by have := HS10.out.2.2.2; have := hk.size; omega⟩; have q0 : w11.cell? ⟨w5.heap.size, 0, none⟩ = some (.int .i64 yk) := HS11.out.2.1.cell 0; have q1 : w11.cell? ⟨w5.heap.size, 1, none⟩ = some (.int .i64 ym) := HS11.out.2.1.cell 1; have q2 : w11.cell? ⟨w5.heap.size, 2, none⟩ = some (.string yt) := HS11.out.2.1.cell 2; have q3 : w11.cell? ⟨w5.heap.size, 3, none⟩ = some (.slice A1 n1 c1) := HS11.out.2.1.cell 3; have p0 : w11.cell? ⟨w3.heap.size, 0, none⟩ = some (.int .i64 yk) := HS11.out.1.2.1.cell 0; have p1 : w11.cell? ⟨w3.heap.size, 1, none⟩ = some (.int .i64 ym) := HS11.out.1.2.1.cell 1; have p2 : w11.cell? ⟨w3.heap.size, 2, none⟩ = some (.string yt) := HS11.out.1.2.1.cell 2; have p3 : w11.cell? ⟨w3.heap.size, 3, none⟩ = some (.slice A0 n0 c0) := HS11.out.1.2.1.cell 3; clear hp hk)
      go_wp2_with (go_at_call 28; refine Calls.mono (HHE.out A1 n1 c1 _ HS11.out.read) ?_; clear p0 p1 p2 p3 q0 q1 q2 q3; rintro e w12 ⟨rfl, hb⟩; have HS12 := Lib.hid (HS11.out.grow hb); clear hb)
      go_wp2_with (go_at_call 21; refine Calls.mono (TA.out _ HS12.out.1.1) ?_; rintro e w13 ⟨rfl, h⟩; have HS13 := Lib.hid (HS12.out.grow h.out.2); have T13 := Lib.hid (HUP.out _ _ _ _ h.out.1 (Nat.le_refl _)); clear h)
      go_wp2_with (go_at_call 25; refine Calls.mono (HIM.out _ _ _ T13.out (classes_go HT.out HS13.out.1.1) (HFM.out.go HS13.out.1.1)) ?_; rintro e w14 ⟨A2, n2, c2, hnc, he, h⟩; have EV := Lib.hid (show e = .returned (.tuple #[.agg #[.int .i64 yk, .int .i64 ym, .string yt, .slice A2 n2 c2], _]) from he); obtain rfl := EV.out; have HS14 : Hid (∀ o, SC1 W w2.heap.size w3.heap.size w4.heap.size w5.heap.size d (.node yk ym yt yks) (mkTs 1 yks) A0 n0 c0 A1 n1 c1 (w14.alloc o)) := (fun o => (HS13.out.grow h.out.2).grow (below_alloc _ _)); have T14 : Hid (∀ o, PtV (w14.alloc o) 0 (w14.alloc o).heap.size d (.node yk ym yt yks) A2 n2) := (fun o => ⟨h.out.1.1, (h.out.1.2.below (below_alloc _ o) (Nat.le_refl _) (Nat.le_refl _)).tree.more (Nat.zero_le _) (below_alloc _ o).size⟩); have HN2 : Hid (n2 = n0) := (h.out.1.2.len.1.symm.trans HN0.out); have p0 : ∀ o, (w14.alloc o).cell? ⟨w3.heap.size, 0, none⟩ = some (.int .i64 yk) := (fun o => (HS14.out o).1.2.1.cell 0); have p1 : ∀ o, (w14.alloc o).cell? ⟨w3.heap.size, 1, none⟩ = some (.int .i64 ym) := (fun o => (HS14.out o).1.2.1.cell 1); have p2 : ∀ o, (w14.alloc o).cell? ⟨w3.heap.size, 2, none⟩ = some (.string yt) := (fun o => (HS14.out o).1.2.1.cell 2); have p3 : ∀ o, (w14.alloc o).cell? ⟨w3.heap.size, 3, none⟩ = some (.slice A0 n0 c0) := (fun o => (HS14.out o).1.2.1.cell 3); clear h hnc EV T13)
      go_wp2_with (go_at_call 14; refine Calls.mono (HEQ.out A2 A0 n2 n0 c2 c0 _ (T14.out _) (HS14.out _).1.tree HN2.out) ?_; clear p0 p1 p2 p3; rintro e w15 ⟨rfl, hb⟩; have HS15 := Lib.hid ((HS14.out _).grow hb); have q0 : w15.cell? ⟨w5.heap.size, 0, none⟩ = some (.int .i64 yk) := HS15.out.2.1.cell 0; have q1 : w15.cell? ⟨w5.heap.size, 1, none⟩ = some (.int .i64 ym) := HS15.out.2.1.cell 1; have q2 : w15.cell? ⟨w5.heap.size, 2, none⟩ = some (.string yt) := HS15.out.2.1.cell 2; have q3 : w15.cell? ⟨w5.heap.size, 3, none⟩ = some (.slice A1 n1 c1) := HS15.out.2.1.cell 3; have p0 : w15.cell? ⟨w3.heap.size, 0, none⟩ = some (.int .i64 yk) := HS15.out.1.2.1.cell 0; have p1 : w15.cell? ⟨w3.heap.size, 1, none⟩ = some (.int .i64 ym) := HS15.out.1.2.1.cell 1; have p2 : w15.cell? ⟨w3.heap.size, 2, none⟩ = some (.string yt) := HS15.out.1.2.1.cell 2; have p3 : w15.cell? ⟨w3.heap.size, 3, none⟩ = some (.slice A0 n0 c0) := HS15.out.1.2.1.cell 3; clear hb)
      go_wp2_with (go_at_call 28; refine Calls.mono (HHE.out A1 n1 c1 _ HS15.out.read) ?_; clear p0 p1 p2 p3 q0 q1 q2 q3; rintro e w16 ⟨rfl, hb⟩; have HS16 := Lib.hid (HS15.out.grow hb); clear hb)
      go_ret
      exact ⟨rfl, HS16.out.1.1⟩
  · have C1 := Lib.hid c1
    clear c1
    go_enter Tryd.func6, Tryd.ntmps6
    go_wp2_with (go_at_call 19; have HQ := szNamedS_any d A n c xs 1048576 W HA.out (by decide) (by decide); refine Calls.mono HQ ?_; clear HQ; intro e w1 h; obtain ⟨rfl, hb⟩ := h.long C1.out; have HB1 := Lib.hid hb; clear h hb)
    go_ret
    exact ⟨rfl, HB1.out⟩
end Go.Proofs.YtjeiiljdhnmofaaDoor
