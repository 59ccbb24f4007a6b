/- Contract: hasFieldsOfKind of the program. Condition: the tables hold what the program's text lays. -/
import Derived.Test.YtjeiiljdhnmofaaDoorPtNode
import Derived.Deep.QuietTactic
import Derived.BigQuiet
namespace Go.Proofs.YtjeiiljdhnmofaaDoor
open Go Go.RowKit Go.Sort

set_option maxHeartbeats 4000000 in
set_option maxRecDepth 100000 in
theorem hasFieldsOfKind_any (k n : Int) (t : ByteArray) (ks : List Pt) (A : Option Addr) (nk c : Nat) (W : World) (hs : t.size ≤ maxLen) (hl : ks.length = nk) (hm : nk ≤ maxLen) (hT : Classes W) (hF : Forms W) :
    Calls Tryd.prog 44 #[.agg #[.int .i64 k, .int .i64 n, .string t, .slice A nk c]] W fun e w' => e = .returned (.bool (Pt.node k n t ks).proper) ∧ Below W.heap.size W w' := by
  have HS := Lib.hid hs
  unfold maxLen at hm
  have HT := Lib.hid hT
  have HF := Lib.hid hF
  have HC := Lib.hid (fun X (e : X = W.alloc (.cells #[.int .i64 k, .int .i64 n, .string t, .slice A nk c] 29)) => (show RW 29 X W.heap.size #[.int .i64 k, .int .i64 n, .string t, .slice A nk c] ∧ Below W.heap.size W X ∧ W.heap.size < X.heap.size from by rw [e]; exact ⟨RW.new _ _ _, below_alloc _ _, lt_alloc _ _⟩))
  rw [show (Pt.node k n t ks).proper = (decide (1 ≤ k ∧ k ≤ 24) && (((nk : Int) == kidsK k) && (textFits k t && ((n == 0) || (hasNum k && decide (0 ≤ n ∧ n ≤ 200)))))) from by rw [← hl]; rfl]
  clear hs hT hF hl
  by_cases hk : 1 ≤ k ∧ k ≤ 24
  · rw [show decide (1 ≤ k ∧ k ≤ 24) = true from by simp [hk], Bool.true_and]
    have HK : Hid (decide (1 ≤ k ∧ k ≤ 24) = true) := by show _ = _; simp [hk]
    obtain ⟨j, rfl⟩ := Int.eq_ofNat_of_zero_le (show 0 ≤ k by omega)
    have hj : j < 25 := by omega
    clear hk
    obtain ⟨c0, c1⟩ := HF.out.at_ hj
    have hlt : 0 < W.heap.size := HF.out.lt
    have b0 : (0 : Int) ≤ (j : Int) := by omega
    have b1 : (j : Int) < 25 := by omega
    have HN := Lib.hid (has_num hj)
    unfold HasAt at HN
    have HQ := Lib.hid (fun w => count_parts hj w)
    have HX := Lib.hid (fun w h1 h2 => isTextOfKind_any j t w hj HS.out h1 h2)
    generalize wordK j = a at c0 HN
    generalize partsK j = p at c1 HN HQ
    generalize kidsK j = q at HQ ⊢
    generalize hasNum j = h at HN ⊢
    generalize textFits j t = f at HX ⊢
    clear hj
    obtain ⟨z1, h1⟩ : ∃ z, ((nk : Int) == q) = z := ⟨_, rfl⟩
    obtain ⟨z2, h2⟩ : ∃ z, (n == 0) = z := ⟨_, rfl⟩
    rw [h1, h2]
    obtain ⟨z3, h3⟩ : ∃ z, decide (0 ≤ n ∧ n ≤ 200) = z := ⟨_, rfl⟩
    rw [h3]
    have H3 := Lib.hid h3
    clear h3
    have HW : Hid (∀ X, X = (W.alloc (.cells #[.int .i64 (j : Int), .int .i64 n, .string t, .slice A nk c] 29)).alloc (.cells #[.string a, .string p] 71) → RW 29 X W.heap.size #[.int .i64 (j : Int), .int .i64 n, .string t, .slice A nk c] ∧ RW 71 X (W.heap.size + 1) #[.string a, .string p] ∧ Below W.heap.size W X) := by
      show ∀ X, _
      rintro X rfl
      obtain ⟨g0, g1, g2⟩ := HC.out _ rfl
      have g3 := RW.new (W.alloc (.cells #[.int .i64 (j : Int), .int .i64 n, .string t, .slice A nk c] 29)) #[.string a, .string p] 71
      rw [World.size_alloc] at g3
      exact ⟨g0.alloc _, g3, g1.trans ((below_alloc _ _).mono g1.size)⟩
    clear HC
    cases z1
    · have hne : ((nk : Int) != q) = true := by rw [bne, h1]; rfl
      clear h1
      go_enter Tryd.func44, Tryd.ntmps44
      go_wp2_with (go_at_call 54; refine (withinB_i64 _ _ _ _).mono ?_; rintro e w1 ⟨rfl, rfl⟩; rw [HK.out])
      obtain ⟨w0, hw0⟩ : ∃ w0, (W.alloc (.cells #[.int .i64 (j : Int), .int .i64 n, .string t, .slice A nk c] 29)).alloc (.cells #[.string a, .string p] 71) = w0 := ⟨_, rfl⟩
      rw [hw0]
      obtain ⟨g0, g1, g2⟩ := HW.out _ hw0.symm
      have HG0 := Lib.hid g0
      have HG1 := Lib.hid g1
      have HB0 := Lib.hid g2
      clear hw0 c0 c1
      have x0 := cell_regrown (g0.cell 0)
      have x1 := cell_regrown (g0.cell 1)
      have x2 := cell_regrown (g0.cell 2)
      have x3 := cell_regrown (g0.cell 3)
      have y0 := cell_regrown (g1.cell 0)
      have y1 := cell_regrown (g1.cell 1)
      have cQ : ∀ d os', Calls Tryd.prog 70 #[.string p, .string ⟨#[80]⟩] (grow (redrawn w0 d) os') (fun e w'' => e = .returned (.int .i64 q) ∧ ∃ r : Regrown, w'' = grow (redrawn w0 r.d) r.os) := fun d os' => (HQ.out _).mono fun e w' ⟨he, hw⟩ => ⟨he, ⟨d, os'⟩, hw⟩
      have cX : ∀ d os', Calls Tryd.prog 71 #[.int .i64 (j : Int), .string t] (grow (redrawn w0 d) os') (fun e w'' => e = .returned (.bool f) ∧ ∃ r : Regrown, w'' = grow (redrawn w0 r.d) r.os) := fun d os' => Calls.regrown_of (w := w0) (HX.out _ ((classes_go HT.out HB0.out).below (below_regrown w0 d os') (heap_pos ((classes_go HT.out HB0.out).at_ 0 (by decide)))) ((HF.out.go HB0.out).go (below_regrown w0 d os')))
      clear g0 g1 g2
      refine wp_region_quiet_below (by kernel_rfl) (by kernel_rfl) ?_
      repeat (first | go_big_quiet_step (first | with_reducible exact cQ _ _ | with_reducible exact cX _ _) | quiet_step (first | with_reducible exact cQ _ _ | with_reducible exact cX _ _))
      refine wpQuiet_nil ?_
      intro w4 hw'
      obtain ⟨⟨dq, osq⟩, hw''⟩ := hw'
      have HB4 : Hid (Below W.heap.size W w4) := by show Below _ _ _; rw [hw'']; exact HB0.out.trans ((below_regrown w0 dq osq).mono HB0.out.size)
      clear x0 x1 x2 x3 y0 y1 cQ cX hw''
      go_wp2_with fail
      go_ret
      exact ⟨rfl, HB4.out⟩
    · have hne : ((nk : Int) != q) = false := by rw [bne, h1]; rfl
      clear h1
      cases f
      · go_enter Tryd.func44, Tryd.ntmps44
        go_wp2_with (go_at_call 54; refine (withinB_i64 _ _ _ _).mono ?_; rintro e w1 ⟨rfl, rfl⟩; rw [HK.out])
        obtain ⟨w0, hw0⟩ : ∃ w0, (W.alloc (.cells #[.int .i64 (j : Int), .int .i64 n, .string t, .slice A nk c] 29)).alloc (.cells #[.string a, .string p] 71) = w0 := ⟨_, rfl⟩
        rw [hw0]
        obtain ⟨g0, g1, g2⟩ := HW.out _ hw0.symm
        have HG0 := Lib.hid g0
        have HG1 := Lib.hid g1
        have HB0 := Lib.hid g2
        clear hw0 c0 c1
        have x0 := cell_regrown (g0.cell 0)
        have x1 := cell_regrown (g0.cell 1)
        have x2 := cell_regrown (g0.cell 2)
        have x3 := cell_regrown (g0.cell 3)
        have y0 := cell_regrown (g1.cell 0)
        have y1 := cell_regrown (g1.cell 1)
        have cQ : ∀ d os', Calls Tryd.prog 70 #[.string p, .string ⟨#[80]⟩] (grow (redrawn w0 d) os') (fun e w'' => e = .returned (.int .i64 q) ∧ ∃ r : Regrown, w'' = grow (redrawn w0 r.d) r.os) := fun d os' => (HQ.out _).mono fun e w' ⟨he, hw⟩ => ⟨he, ⟨d, os'⟩, hw⟩
        have cX : ∀ d os', Calls Tryd.prog 71 #[.int .i64 (j : Int), .string t] (grow (redrawn w0 d) os') (fun e w'' => e = .returned (.bool false) ∧ ∃ r : Regrown, w'' = grow (redrawn w0 r.d) r.os) := fun d os' => Calls.regrown_of (w := w0) (HX.out _ ((classes_go HT.out HB0.out).below (below_regrown w0 d os') (heap_pos ((classes_go HT.out HB0.out).at_ 0 (by decide)))) ((HF.out.go HB0.out).go (below_regrown w0 d os')))
        clear g0 g1 g2
        refine wp_region_quiet_below (by kernel_rfl) (by kernel_rfl) ?_
        repeat (first | go_big_quiet_step (first | with_reducible exact cQ _ _ | with_reducible exact cX _ _) | quiet_step (first | with_reducible exact cQ _ _ | with_reducible exact cX _ _))
        refine wpQuiet_nil ?_
        intro w4 hw'
        obtain ⟨⟨dq, osq⟩, hw''⟩ := hw'
        have HB4 : Hid (Below W.heap.size W w4) := by show Below _ _ _; rw [hw'']; exact HB0.out.trans ((below_regrown w0 dq osq).mono HB0.out.size)
        clear x0 x1 x2 x3 y0 y1 cQ cX hw''
        go_wp2_with fail
        go_ret
        exact ⟨rfl, HB4.out⟩
      · go_enter Tryd.func44, Tryd.ntmps44
        go_wp2_with (go_at_call 54; refine (withinB_i64 _ _ _ _).mono ?_; rintro e w1 ⟨rfl, rfl⟩; rw [HK.out])
        obtain ⟨w0, hw0⟩ : ∃ w0, (W.alloc (.cells #[.int .i64 (j : Int), .int .i64 n, .string t, .slice A nk c] 29)).alloc (.cells #[.string a, .string p] 71) = w0 := ⟨_, rfl⟩
        rw [hw0]
        obtain ⟨g0, g1, g2⟩ := HW.out _ hw0.symm
        have HG0 := Lib.hid g0
        have HG1 := Lib.hid g1
        have HB0 := Lib.hid g2
        clear hw0 c0 c1
        have x0 := cell_regrown (g0.cell 0)
        have x1 := cell_regrown (g0.cell 1)
        have x2 := cell_regrown (g0.cell 2)
        have x3 := cell_regrown (g0.cell 3)
        have y0 := cell_regrown (g1.cell 0)
        have y1 := cell_regrown (g1.cell 1)
        have cQ : ∀ d os', Calls Tryd.prog 70 #[.string p, .string ⟨#[80]⟩] (grow (redrawn w0 d) os') (fun e w'' => e = .returned (.int .i64 q) ∧ ∃ r : Regrown, w'' = grow (redrawn w0 r.d) r.os) := fun d os' => (HQ.out _).mono fun e w' ⟨he, hw⟩ => ⟨he, ⟨d, os'⟩, hw⟩
        have cX : ∀ d os', Calls Tryd.prog 71 #[.int .i64 (j : Int), .string t] (grow (redrawn w0 d) os') (fun e w'' => e = .returned (.bool true) ∧ ∃ r : Regrown, w'' = grow (redrawn w0 r.d) r.os) := fun d os' => Calls.regrown_of (w := w0) (HX.out _ ((classes_go HT.out HB0.out).below (below_regrown w0 d os') (heap_pos ((classes_go HT.out HB0.out).at_ 0 (by decide)))) ((HF.out.go HB0.out).go (below_regrown w0 d os')))
        clear g0 g1 g2
        refine wp_region_quiet_below (by kernel_rfl) (by kernel_rfl) ?_
        repeat (first | go_big_quiet_step (first | with_reducible exact cQ _ _ | with_reducible exact cX _ _) | quiet_step (first | with_reducible exact cQ _ _ | with_reducible exact cX _ _))
        refine wpQuiet_nil ?_
        intro w4 hw'
        obtain ⟨⟨dq, osq⟩, hw''⟩ := hw'
        have HB4 : Hid (Below W.heap.size W w4) := by show Below _ _ _; rw [hw'']; exact HB0.out.trans ((below_regrown w0 dq osq).mono HB0.out.size)
        have HR4 : Hid (RW 29 w4 W.heap.size #[.int .i64 (j : Int), .int .i64 n, .string t, .slice A nk c] ∧ RW 71 w4 (W.heap.size + 1) #[.string a, .string p]) := by show _ ∧ _; rw [hw'']; exact ⟨HG0.out.below (below_regrown w0 dq osq) HG0.out.lt, HG1.out.below (below_regrown w0 dq osq) HG1.out.lt⟩
        clear x0 x1 x2 x3 y0 y1 cQ cX hw''
        have s1 : w4.cell? ⟨W.heap.size, 1, none⟩ = some (.int .i64 n) := HR4.out.1.cell 1
        have u0 : w4.cell? ⟨W.heap.size + 1, 0, none⟩ = some (.string a) := HR4.out.2.cell 0
        have u1 : w4.cell? ⟨W.heap.size + 1, 1, none⟩ = some (.string p) := HR4.out.2.cell 1
        cases z2
        · cases h
          · go_wp2_with (first
              | (go_at_call 52; refine (HN.out _).mono ?_; rintro e w5 ⟨rfl, hb⟩; have HB5 := Lib.hid (HB4.out.trans (hb.mono HB4.out.size)); have s5 : w5.cell? ⟨W.heap.size, 1, none⟩ = some (.int .i64 n) := (HR4.out.1.below hb HR4.out.1.lt).cell 1; clear hb)
              | (go_at_call 54; refine (withinB_i64 _ _ _ _).mono ?_; rintro e w6 ⟨rfl, rfl⟩; rw [H3.out]))
            go_ret
            exact ⟨rfl, HB5.out⟩
          · cases z3
            all_goals
              go_wp2_with (first
                | (go_at_call 52; refine (HN.out _).mono ?_; rintro e w5 ⟨rfl, hb⟩; have HB5 := Lib.hid (HB4.out.trans (hb.mono HB4.out.size)); have s5 : w5.cell? ⟨W.heap.size, 1, none⟩ = some (.int .i64 n) := (HR4.out.1.below hb HR4.out.1.lt).cell 1; clear hb)
                | (go_at_call 54; refine (withinB_i64 _ _ _ _).mono ?_; rintro e w6 ⟨rfl, rfl⟩; rw [H3.out]))
              go_ret
              exact ⟨rfl, HB5.out⟩
        · go_wp2_with (first
            | (go_at_call 52; refine (HN.out _).mono ?_; rintro e w5 ⟨rfl, hb⟩; have HB5 := Lib.hid (HB4.out.trans (hb.mono HB4.out.size)); have s5 : w5.cell? ⟨W.heap.size, 1, none⟩ = some (.int .i64 n) := (HR4.out.1.below hb HR4.out.1.lt).cell 1; clear hb)
            | (go_at_call 54; refine (withinB_i64 _ _ _ _).mono ?_; rintro e w6 ⟨rfl, rfl⟩; rw [H3.out]))
          go_ret
          exact ⟨rfl, HB4.out⟩
  · rw [show decide (1 ≤ k ∧ k ≤ 24) = false from by simp only [decide_eq_false_iff_not]; exact hk, Bool.false_and]
    have HK : Hid (decide (1 ≤ k ∧ k ≤ 24) = false) := by show _ = _; simp only [decide_eq_false_iff_not]; exact hk
    clear hk
    go_enter Tryd.func44, Tryd.ntmps44
    go_wp2_with (go_at_call 54; refine (withinB_i64 _ _ _ _).mono ?_; rintro e w1 ⟨rfl, rfl⟩; rw [HK.out])
    go_ret
    exact ⟨rfl, (HC.out _ rfl).2.1⟩
end Go.Proofs.YtjeiiljdhnmofaaDoor
