/- Contracts of the scanner's readers of names. Conditions: the scanner's block, the table. -/
import Derived.Test.YtdfikepfjdoooaaDoorTake
namespace Go.Proofs.YtdfikepfjdoooaaDoor
open Go Go.RowKit

theorem Five.kept {w w' : World} {b g : Nat} {x0 x1 x2 x3 x4 : Value} (h : Five w b x0 x1 x2 x3 x4) (hw : w.grownBy w' (some g)) (hb : b ≠ g) : Five w' b x0 x1 x2 x3 x4 := by
  have hlt : b < w.heap.size := by
    rcases Nat.lt_or_ge b w.heap.size with h1 | h1
    · exact h1
    · unfold Five at h; rw [Array.getElem?_eq_none h1] at h; cases h
  unfold Five at h ⊢
  rw [← h]
  exact hw.block b hlt (by simpa using hb)

set_option maxHeartbeats 1000000 in
set_option maxRecDepth 100000 in
theorem readName_any (g k : Nat) (s : ByteArray) (W : World) (hs : Scan W g s k) (hk : k < s.size) (hl : s.size ≤ 1048576) (hT : Classes W) (hg : 0 < g) :
    Calls Tryd.prog 113 #[.pointer (some ⟨g, 0, none⟩)] W fun e w' => e = (if runEnd contB s k - k ≤ 12 then TokRes 1 0 (s.extract k (runEnd contB s k)) true else TokRes 0 0 ⟨#[]⟩ false) ∧ Hid (Scan w' g s (runEnd contB s k) ∧ W.grownBy w' (some g)) := by
  have HS := Lib.hid hs
  have HA : Hid (Scan (W.alloc (.cells #[.int .i64 0, .int .i64 0, .string ⟨#[]⟩, .bool false, .bool false] 46)) g s k) := hs.alloc _
  have HG0 : Hid (W.grownBy (W.alloc (.cells #[.int .i64 0, .int .i64 0, .string ⟨#[]⟩, .bool false, .bool false] 46)) (some g)) := World.grownBy_alloc W _ _
  have HF : Hid (Five (W.alloc (.cells #[.int .i64 0, .int .i64 0, .string ⟨#[]⟩, .bool false, .bool false] 46)) W.heap.size (.int .i64 0) (.int .i64 0) (.string ⟨#[]⟩) (.bool false) (.bool false)) := Five.new W _ _ _ _ _
  have HN : Hid (W.heap.size ≠ g) := Nat.ne_of_gt hs.lt
  have HT : Hid (Classes (W.alloc (.cells #[.int .i64 0, .int .i64 0, .string ⟨#[]⟩, .bool false, .bool false] 46))) := hT.below (below_of HG0.out (Nat.le_of_lt hs.lt)) hg
  have HC := Lib.hid (takeWhile_any 108 contB (fun _ _ => rfl) (fun r V h => continuesName_any r V h) (fun r h => contB_high h) g k s _ HA.out hk hl HT.out hg)
  clear hs hT
  have h5 := runEnd_le (p := contB) (Nat.le_of_lt hk)
  have h6 := runEnd_ge contB s k
  obtain ⟨m, hm⟩ : ∃ m, runEnd contB s k = m := ⟨_, rfl⟩
  rw [hm] at h5 h6 HC ⊢
  obtain ⟨y, hy⟩ : ∃ y, s.extract k m = y := ⟨_, rfl⟩
  have hys : y.size = m - k := by rw [← hy]; simp; omega
  rw [hy] at HC ⊢
  rw [← hys]
  clear hm hy hys h5 h6
  by_cases hc : y.size ≤ 12
  · have d1 : decide (12 < (y.size : Int)) = false := by simp; omega
    rw [if_pos hc]
    clear hc
    go_enter Tryd.func113, Tryd.ntmps113
    go_wp2_with (go_at_call 126; refine HC.out.mono ?_; rintro e w' ⟨rfl, HW⟩; have HF1 := Lib.hid (HF.out.kept HW.out.2 HN.out); obtain ⟨c0, c1, c2, c3, c4⟩ := HF1.out.c; have e0 := HF1.out.f 0; have e1 := HF1.out.f 1; have e2 := HF1.out.f 2; have e3 := HF1.out.f 3; have e4 := HF1.out.f 4)
    have hF := HF1.out.put (.int .i64 1) (.int .i64 0) (.string y) (.bool false) (.bool false)
    have hB := HW.out.1.put (Ne.symm HN.out) (.int .i64 1) (.int .i64 0) (.string y) (.bool false) (.bool false)
    have hG := only_new (only_trans HG0.out HW.out.2) (Nat.le_refl _) (grown_put5 w' W.heap.size (.int .i64 1) (.int .i64 0) (.string y) (.bool false) (.bool false))
    change bodyPost _ _ _ _ _ (put5 w' W.heap.size (.int .i64 1) (.int .i64 0) (.string y) (.bool false) (.bool false))
    generalize put5 w' W.heap.size (.int .i64 1) (.int .i64 0) (.string y) (.bool false) (.bool false) = w3 at hF hB hG ⊢
    clear c0 c1 c2 c3 c4 e0 e1 e2 e3 e4 d1
    obtain ⟨c0, c1, c2, c3, c4⟩ := hF.c
    refine bodyPost_ret (v := .tuple #[.agg #[.int .i64 1, .int .i64 0, .string y, .bool false, .bool false], .bool true]) (by rw [results_cell_tmp rfl]; go_simp) rfl ⟨rfl, Lib.hid ⟨hB, hG⟩⟩
  · have d1 : decide (12 < (y.size : Int)) = true := by simp; omega
    rw [if_neg hc]
    clear hc
    go_enter Tryd.func113, Tryd.ntmps113
    go_wp2_with (go_at_call 126; refine HC.out.mono ?_; rintro e w' ⟨rfl, HW⟩; have HF1 := Lib.hid (HF.out.kept HW.out.2 HN.out); obtain ⟨c0, c1, c2, c3, c4⟩ := HF1.out.c; have e0 := HF1.out.f 0; have e1 := HF1.out.f 1; have e2 := HF1.out.f 2; have e3 := HF1.out.f 3; have e4 := HF1.out.f 4)
    have hF := HF1.out.put (.int .i64 0) (.int .i64 0) (.string ⟨#[]⟩) (.bool false) (.bool false)
    have hB := HW.out.1.put (Ne.symm HN.out) (.int .i64 0) (.int .i64 0) (.string ⟨#[]⟩) (.bool false) (.bool false)
    have hG := only_new (only_trans HG0.out HW.out.2) (Nat.le_refl _) (grown_put5 w' W.heap.size (.int .i64 0) (.int .i64 0) (.string ⟨#[]⟩) (.bool false) (.bool false))
    change bodyPost _ _ _ _ _ (put5 w' W.heap.size (.int .i64 0) (.int .i64 0) (.string ⟨#[]⟩) (.bool false) (.bool false))
    generalize put5 w' W.heap.size (.int .i64 0) (.int .i64 0) (.string ⟨#[]⟩) (.bool false) (.bool false) = w3 at hF hB hG ⊢
    clear c0 c1 c2 c3 c4 e0 e1 e2 e3 e4 d1
    obtain ⟨c0, c1, c2, c3, c4⟩ := hF.c
    refine bodyPost_ret (v := .tuple #[.agg #[.int .i64 0, .int .i64 0, .string ⟨#[]⟩, .bool false, .bool false], .bool false]) (by rw [results_cell_tmp rfl]; go_simp) rfl ⟨rfl, Lib.hid ⟨hB, hG⟩⟩
end Go.Proofs.YtdfikepfjdoooaaDoor
