/- Contracts of the scanner's reader of integers. Conditions: the scanner's block, the table. -/
import Derived.Test.YtdfikepfjdoooaaDoorRead3
namespace Go.Proofs.YtdfikepfjdoooaaDoor
open Go Go.RowKit

def digB (c : Int) : Bool := cls c == 2
theorem digB_high {r : Int} (h : 128 ≤ r) : digB r = false := by
  unfold digB
  rw [cls_out (.inr h)]
  rfl
theorem digB_bd {c : Int} (h0 : 0 ≤ c) (h1 : c ≤ 255) (h : digB c = true) : 48 ≤ c ∧ c ≤ 57 := by
  have := all_small (p := fun c => !digB c || decide (48 ≤ c ∧ c ≤ 57)) (by decide +kernel) h0 h1
  simpa [h] using this
theorem isDigit_any (r : Int) (W : World) (hT : Classes W) :
    Calls Tryd.prog 127 #[.int .i32 r] W fun e w' => e = .returned (.bool (digB r)) ∧ W = w' := by
  unfold digB
  have HT := Lib.hid hT
  clear hT
  go_enter Tryd.func127, Tryd.ntmps127
  go_wp2_with (go_at_call 92; refine (classOf_any _ _ HT.out).mono ?_; rintro e w' ⟨rfl, rfl⟩)
  go_ret
  exact ⟨rfl, rfl⟩
theorem bt_part (s : ByteArray) (k m j : Nat) (hj : k + j < m) (hm : m ≤ s.size) : PlainAid.bt (s.extract k m) j = PlainAid.bt s (k + j) := by
  have h0 : (s.extract k m).size = m - k := by simp; omega
  have h1 : j < (s.extract k m).data.toList.length := by rw [← Lib.size_eq, h0]; omega
  have h2 : k + j < s.data.toList.length := by rw [← Lib.size_eq]; omega
  rw [bt_data _ j h1, bt_data s (k + j) h2]
  congr 2
  simp only [Lib.extract_data, List.getElem_take, List.getElem_drop]
/-- The number that the first j digits of y write. -/
def numB (y : ByteArray) : Nat → Nat
  | 0 => 0
  | j + 1 => 10 * numB y j + (PlainAid.bt y j - 48).toNat
theorem numB_lt {y : ByteArray} (n : Nat) (h : ∀ j, j < n → PlainAid.bt y j ≤ 57) : ∀ j, j ≤ n → numB y j < 10 ^ j
  | 0, _ => by simp [numB]
  | j + 1, hj => by
    have h1 := numB_lt n h j (by omega)
    have h2 := h j (by omega)
    rw [numB, Nat.pow_succ]
    omega
set_option maxHeartbeats 2000000 in
set_option maxRecDepth 100000 in
theorem readInteger_any (g k : Nat) (s : ByteArray) (W : World) (hs : Scan W g s k) (hk : k < s.size) (hl : s.size ≤ 1048576) (hT : Classes W) (hg : 0 < g) :
    Calls Tryd.prog 114 #[.pointer (some ⟨g, 0, none⟩)] W fun e w' =>
      e = (if runEnd digB s k - k ≤ 13 then (if numB (s.extract k (runEnd digB s k)) (runEnd digB s k - k) ≤ 1000000000000 then TokRes 2 (numB (s.extract k (runEnd digB s k)) (runEnd digB s k - k)) ⟨#[]⟩ true else TokRes 0 0 ⟨#[]⟩ false) else TokRes 0 0 ⟨#[]⟩ false) ∧ Hid (Scan w' g s (runEnd digB s k) ∧ W.grownBy w' (some g)) := by
  have HS := Lib.hid hs
  have HA : Hid (Scan (W.alloc (.cells #[.int .i64 0, .int .i64 0, .string ⟨#[]⟩, .bool false, .bool false] 46)) g s k) := hs.alloc _
  have HG0 : Hid (W.grownBy (W.alloc (.cells #[.int .i64 0, .int .i64 0, .string ⟨#[]⟩, .bool false, .bool false] 46)) (some g)) := World.grownBy_alloc W _ _
  have HF : Hid (Five (W.alloc (.cells #[.int .i64 0, .int .i64 0, .string ⟨#[]⟩, .bool false, .bool false] 46)) W.heap.size (.int .i64 0) (.int .i64 0) (.string ⟨#[]⟩) (.bool false) (.bool false)) := Five.new W _ _ _ _ _
  have HN : Hid (W.heap.size ≠ g) := Nat.ne_of_gt hs.lt
  have HT : Hid (Classes (W.alloc (.cells #[.int .i64 0, .int .i64 0, .string ⟨#[]⟩, .bool false, .bool false] 46))) := hT.below (below_of HG0.out (Nat.le_of_lt hs.lt)) hg
  have HC := Lib.hid (takeWhile_any 127 digB (fun _ _ => rfl) (fun r V h => isDigit_any r V h) (fun r h => digB_high h) g k s _ HA.out hk hl HT.out hg)
  clear hs hT
  have h5 := runEnd_le (p := digB) (Nat.le_of_lt hk)
  have h6 := runEnd_ge digB s k
  have h7 : ∀ j, k ≤ j → j < runEnd digB s k → digB (PlainAid.bt s j) = true := fun j => runEnd_in j
  obtain ⟨m, hm⟩ : ∃ m, runEnd digB s k = m := ⟨_, rfl⟩
  rw [hm] at h5 h6 h7 HC ⊢
  have h8 : ∀ j, j < (s.extract k m).size → digB (PlainAid.bt (s.extract k m) j) = true := fun j hj => by
    have hz : (s.extract k m).size = m - k := by simp; omega
    rw [bt_part s k m j (by omega) h5]
    exact h7 _ (by omega) (by omega)
  obtain ⟨y, hy⟩ : ∃ y, s.extract k m = y := ⟨_, rfl⟩
  have hys : y.size = m - k := by rw [← hy]; simp; omega
  rw [hy] at HC h8 ⊢
  rw [← hys]
  have H8 := Lib.hid h8
  clear hm hy hys h5 h6 h7 h8
  by_cases hc : y.size ≤ 13
  · have d1 : decide (13 < (y.size : Int)) = false := by simp; omega
    rw [if_pos hc]
    have HL := Lib.hid hc
    clear hc
    obtain ⟨q, hq⟩ : ∃ q, numB y y.size = q := ⟨_, rfl⟩
    rw [hq]
    have HQ := Lib.hid hq
    clear hq
    obtain ⟨E, hE⟩ : ∃ E, (if q ≤ 1000000000000 then TokRes 2 q ⟨#[]⟩ true else TokRes 0 0 ⟨#[]⟩ false) = E := ⟨_, rfl⟩
    rw [hE]
    have HE := Lib.hid hE
    clear hE
    go_enter Tryd.func114, Tryd.ntmps114
    go_wp2_with (go_at_call 126; refine HC.out.mono ?_; rintro e w' ⟨rfl, HW⟩)
    go_loopw [5] (fun a wr => ∃ j : Nat, j ≤ y.size ∧ a = .int .i64 (numB y j : Nat) ∧ wr = w'.iter y j) (fun _ wr => y.size - wr.iterPos w'.heap.size)
    case atStart => exact ⟨0, Nat.zero_le _, rfl, rfl⟩
    case round =>
      obtain ⟨j, hj, rfl, rfl⟩ := hrel
      by_cases hlt : j < y.size
      · have b0 := PlainAid.bt_nonneg y j
        have b1 := PlainAid.bt_le y j
        have hb := PlainAid.get_bt y j hlt
        have hx := digB_bd b0 b1 (H8.out j hlt)
        have hd := decode_ascii y j hlt (by omega)
        have hnx : ∀ ty, (Instr.next (.pointer (some ⟨w'.heap.size, 0, none⟩)) true ty).run Tryd.prog (w'.iter y j) = .ok (.tuple #[.bool true, .int .i64 j, .int .i32 (PlainAid.bt y j)]) (w'.iter y (j + 1)) := fun ty => by
          rw [run_next_any w' y j ty hlt, hd]
          simp only [hb]
        have hn : numB y j < 10 ^ 12 := Nat.lt_of_lt_of_le (numB_lt y.size (fun i hi => (digB_bd (PlainAid.bt_nonneg y i) (PlainAid.bt_le y i) (H8.out i hi)).2) j hj) (Nat.pow_le_pow_right (by decide) (by have := HL.out; omega))
        have hv : numB y (j + 1) = 10 * numB y j + (PlainAid.bt y j - 48).toNat := rfl
        clear hd hb b0 b1
        have HV : Hid (numB y (j + 1) = numB y (j + 1)) := rfl
        obtain ⟨n', hn'⟩ : ∃ n', numB y (j + 1) = n' := ⟨_, rfl⟩
        rw [hn'] at hv
        have HV := Lib.hid hn'
        clear hn'
        generalize numB y j = n at hn hv ⊢
        generalize PlainAid.bt y j = x at hx hv hnx
        have f1 : IntKind.i32.wrap (x - 48) = x - 48 := IntWalk.i32_in _ (by omega)
        have f2 : IntKind.i64.wrap (x - 48) = x - 48 := IntWalk.i64_in _ (by omega)
        have f3 : IntKind.i64.wrap (10 * (n : Int)) = 10 * (n : Int) := IntWalk.i64_in _ (by omega)
        have f4 : IntKind.i64.wrap (10 * (n : Int) + (x - 48)) = (n' : Int) := by rw [IntWalk.i64_in _ (by omega)]; omega
        clear hv hx hn
        go_wp2_with fail
        go_roundw
        case rel => exact ⟨j + 1, by omega, by rw [HV.out], rfl⟩
        case measure => simp; omega
      · obtain rfl : j = y.size := by omega
        have hnx : ∀ ty, (Instr.next (.pointer (some ⟨w'.heap.size, 0, none⟩)) true ty).run Tryd.prog (w'.iter y y.size) = _ := fun ty => run_next_end w' y y.size ty hlt
        have hlow : Below w'.heap.size w' (w'.iter y y.size) := below_iter (Below.refl _ _) (Nat.le_refl _) _ _
        have HB2 : Hid (Scan (w'.iter y y.size) g s m) := HW.out.1.below hlow HW.out.1.lt
        have HG2 : Hid (W.grownBy (w'.iter y y.size) (some g)) := only_trans (only_trans HG0.out HW.out.2) (World.grownBy_alloc w' _ _)
        have HF2 : Hid (Five (w'.iter y y.size) W.heap.size (.int .i64 0) (.int .i64 0) (.string ⟨#[]⟩) (.bool false) (.bool false)) := (HF.out.kept HW.out.2 HN.out).kept (World.grownBy_alloc w' _ (some g)) HN.out
        clear hlow
        rw [HQ.out]
        clear HQ
        generalize w'.iter y y.size = w2 at hnx HB2 HG2 HF2 ⊢
        obtain ⟨c0, c1, c2, c3, c4⟩ := HF2.out.c
        have e0 := HF2.out.f 0
        have e1 := HF2.out.f 1
        have e2 := HF2.out.f 2
        have e3 := HF2.out.f 3
        have e4 := HF2.out.f 4
        by_cases hq : q ≤ 1000000000000
        · have HQ : Hid (TokRes 2 q ⟨#[]⟩ true = E) := (if_pos hq).symm.trans HE.out
          have d2 : decide (1000000000000 < (q : Int)) = false := by simp; omega
          clear hq
          go_wp2_with fail
          have hF := HF2.out.put (.int .i64 2) (.int .i64 (q : Int)) (.string ⟨#[]⟩) (.bool false) (.bool false)
          have hB := HB2.out.put (Ne.symm HN.out) (.int .i64 2) (.int .i64 (q : Int)) (.string ⟨#[]⟩) (.bool false) (.bool false)
          have hG := only_new HG2.out (Nat.le_refl _) (grown_put5 w2 W.heap.size (.int .i64 2) (.int .i64 (q : Int)) (.string ⟨#[]⟩) (.bool false) (.bool false))
          change bodyPost _ _ _ _ _ (put5 w2 W.heap.size (.int .i64 2) (.int .i64 (q : Int)) (.string ⟨#[]⟩) (.bool false) (.bool false))
          generalize put5 w2 W.heap.size (.int .i64 2) (.int .i64 (q : Int)) (.string ⟨#[]⟩) (.bool false) (.bool false) = w3 at hF hB hG ⊢
          clear c0 c1 c2 c3 c4 e0 e1 e2 e3 e4 d1
          obtain ⟨c0, c1, c2, c3, c4⟩ := hF.c
          refine bodyPost_ret (v := .tuple #[.agg #[.int .i64 2, .int .i64 (q : Int), .string ⟨#[]⟩, .bool false, .bool false], .bool true]) (by rw [results_cell_tmp rfl]; go_simp) rfl ⟨HQ.out, Lib.hid ⟨hB, hG⟩⟩
        · have HQ : Hid (TokRes 0 0 ⟨#[]⟩ false = E) := (if_neg hq).symm.trans HE.out
          have d2 : decide (1000000000000 < (q : Int)) = true := by simp; omega
          clear hq
          go_wp2_with fail
          have hF := HF2.out.put (.int .i64 0) (.int .i64 0) (.string ⟨#[]⟩) (.bool false) (.bool false)
          have hB := HB2.out.put (Ne.symm HN.out) (.int .i64 0) (.int .i64 0) (.string ⟨#[]⟩) (.bool false) (.bool false)
          have hG := only_new HG2.out (Nat.le_refl _) (grown_put5 w2 W.heap.size (.int .i64 0) (.int .i64 0) (.string ⟨#[]⟩) (.bool false) (.bool false))
          change bodyPost _ _ _ _ _ (put5 w2 W.heap.size (.int .i64 0) (.int .i64 0) (.string ⟨#[]⟩) (.bool false) (.bool false))
          generalize put5 w2 W.heap.size (.int .i64 0) (.int .i64 0) (.string ⟨#[]⟩) (.bool false) (.bool false) = w3 at hF hB hG ⊢
          clear c0 c1 c2 c3 c4 e0 e1 e2 e3 e4 d1
          obtain ⟨c0, c1, c2, c3, c4⟩ := hF.c
          refine bodyPost_ret (v := .tuple #[.agg #[.int .i64 0, .int .i64 0, .string ⟨#[]⟩, .bool false, .bool false], .bool false]) (by rw [results_cell_tmp rfl]; go_simp) rfl ⟨HQ.out, Lib.hid ⟨hB, hG⟩⟩
  · have d1 : decide (13 < (y.size : Int)) = true := by simp; omega
    rw [if_neg hc]
    clear hc
    go_enter Tryd.func114, Tryd.ntmps114
    go_wp2_with (go_at_call 126; refine HC.out.mono ?_; rintro e w' ⟨rfl, HW⟩; have HF1 := Lib.hid (HF.out.kept HW.out.2 HN.out); obtain ⟨c0, c1, c2, c3, c4⟩ := HF1.out.c; have e0 := HF1.out.f 0; have e1 := HF1.out.f 1; have e2 := HF1.out.f 2; have e3 := HF1.out.f 3; have e4 := HF1.out.f 4)
    have hF := HF1.out.put (.int .i64 0) (.int .i64 0) (.string ⟨#[]⟩) (.bool false) (.bool false)
    have hB := HW.out.1.put (Ne.symm HN.out) (.int .i64 0) (.int .i64 0) (.string ⟨#[]⟩) (.bool false) (.bool false)
    have hG := only_new (only_trans HG0.out HW.out.2) (Nat.le_refl _) (grown_put5 w' W.heap.size (.int .i64 0) (.int .i64 0) (.string ⟨#[]⟩) (.bool false) (.bool false))
    change bodyPost _ _ _ _ _ (put5 w' W.heap.size (.int .i64 0) (.int .i64 0) (.string ⟨#[]⟩) (.bool false) (.bool false))
    generalize put5 w' W.heap.size (.int .i64 0) (.int .i64 0) (.string ⟨#[]⟩) (.bool false) (.bool false) = w3 at hF hB hG ⊢
    clear c0 c1 c2 c3 c4 e0 e1 e2 e3 e4 d1
    obtain ⟨c0, c1, c2, c3, c4⟩ := hF.c
    refine bodyPost_ret (v := .tuple #[.agg #[.int .i64 0, .int .i64 0, .string ⟨#[]⟩, .bool false, .bool false], .bool false]) (by rw [results_cell_tmp rfl]; go_simp) rfl ⟨rfl, Lib.hid ⟨hB, hG⟩⟩
end Go.Proofs.YtdfikepfjdoooaaDoor
