/- Contract of the model's reader of one token: numbers. No condition. -/
import Derived.Test.YtdfikepfjdoooaaDoorOneSpec
namespace Go.Proofs.YtdfikepfjdoooaaDoor
open Go Go.RowKit

set_option maxHeartbeats 2000000 in
set_option maxRecDepth 100000 in
theorem l02One_digit (s : ByteArray) (k : Nat) (W : World) (hk : k < s.size) (hl : s.size ≤ 1048576) (hv : cls (PlainAid.bt s k) = 2) :
    Calls Tryd.prog 89 #[.string s, .int .i64 k] W fun e w' => e = oneE s k ∧ Below W.heap.size W w' := by
  have hb := PlainAid.get_bt s
  have b0 := PlainAid.bt_nonneg s k
  have b1 := PlainAid.bt_le s k
  have i0 : (0 : Int) ≤ (k : Int) := by omega
  have i1 : (k : Int) < (s.size : Int) := by omega
  have HL : Hid (letterB (PlainAid.bt s k) = false) := by show _ = _; unfold letterB; rw [hv]; rfl
  have HD : Hid (digitB (PlainAid.bt s k) = true) := by show _ = _; unfold digitB; rw [hv]; rfl
  have h5 := runEnd_le (p := digB) (Nat.le_of_lt hk)
  have h6 := runEnd_ge digB s k
  have h7 : ∀ j, k ≤ j → j < runEnd digB s k → digB (PlainAid.bt s j) = true := fun j => runEnd_in j
  have h8 : runEnd digB s k < s.size → digB (PlainAid.bt s (runEnd digB s k)) = false := runEnd_at
  have HE : Hid (oneE s k = if runEnd digB s k - k ≤ 13 then (if numB (s.extract k (runEnd digB s k)) (runEnd digB s k - k) ≤ 1000000000000 then OneRes 2 (numB (s.extract k (runEnd digB s k)) (runEnd digB s k - k) : Nat) ⟨#[]⟩ (runEnd digB s k : Nat) else OneRes 0 0 ⟨#[]⟩ (-1)) else OneRes 0 0 ⟨#[]⟩ (-1)) := by
    show _ = _
    have n1 : ¬ cls (PlainAid.bt s k) = 1 := by rw [hv]; decide
    by_cases h : runEnd digB s k - k ≤ 13
    · rw [if_pos h]
      by_cases h2 : numB (s.extract k (runEnd digB s k)) (runEnd digB s k - k) ≤ 1000000000000
      · rw [if_pos h2]; exact oneE_some (by unfold oneT; rw [if_neg n1, if_pos hv, if_pos h, if_pos h2])
      · rw [if_neg h2]; exact oneE_none (by unfold oneT; rw [if_neg n1, if_pos hv, if_pos h, if_neg h2])
    · rw [if_neg h]; exact oneE_none (by unfold oneT; rw [if_neg n1, if_pos hv, if_neg h])
  obtain ⟨E, hE⟩ : ∃ E, oneE s k = E := ⟨_, rfl⟩
  have he := HE.out
  rw [hE] at he ⊢
  clear HE hv hE
  obtain ⟨m, hm⟩ : ∃ m, runEnd digB s k = m := ⟨_, rfl⟩
  rw [hm] at h5 h6 h7 h8 he
  have h9 : ∀ j, k + j < m → PlainAid.bt (s.extract k m) j = PlainAid.bt s (k + j) := fun j hj => bt_part s k m j hj h5
  obtain ⟨y, hy⟩ : ∃ y, s.extract k m = y := ⟨_, rfl⟩
  rw [hy] at h9 he
  have hys : y.size = m - k := by rw [← hy]; simp; omega
  have h10 : ∀ j, j < y.size → PlainAid.bt y j ≤ 57 := fun j hj => by rw [h9 j (by omega)]; exact (digB_bd (PlainAid.bt_nonneg s _) (PlainAid.bt_le s _) (h7 (k + j) (by omega) (by omega))).2
  have h11 : ∀ j, j ≤ y.size → numB y j < 10 ^ j := numB_lt y.size h10
  have H7 := Lib.hid h7
  have H8 := Lib.hid h8
  have H9 := Lib.hid h9
  have H11 := Lib.hid h11
  have HYS := Lib.hid hys
  have HE := Lib.hid he
  clear hm hy hys h7 h8 h9 h10 h11 he
  go_enter Tryd.func89, Tryd.ntmps89
  go_wp2_with (first | (go_at_call 110; refine (l02Letter_any _ _ b0 b1).mono ?_; rintro e w' ⟨rfl, rfl⟩; rw [HL.out]) | (go_at_call 111; refine (l02Digit_any _ _ b0 b1).mono ?_; rintro e w' ⟨rfl, rfl⟩; rw [HD.out]))
  clear HL HD b0 b1
  go_loop [8, 9] (fun n e => ∃ q : Nat, k ≤ q ∧ q ≤ m ∧ q - k ≤ 14 ∧ n = .int .i64 (numB y (q - k) : Nat) ∧ e = .int .i64 q) (fun _ e => s.size - (intOf e).toNat)
  case atStart => exact ⟨k, Nat.le_refl _, h6, by omega, by rw [Nat.sub_self]; rfl, rfl⟩
  case round =>
    obtain ⟨q, q1, q2, q3, rfl, rfl⟩ := hrel
    have j0 : (0 : Int) ≤ (q : Int) := by omega
    have jw : IntKind.i64.wrap ((q : Int) - (k : Int)) = (q : Int) - (k : Int) := IntWalk.i64_in _ (by omega)
    by_cases hlt : q < s.size
    · have c0 := PlainAid.bt_nonneg s q
      have c1 := PlainAid.bt_le s q
      have i3 : decide ((q : Int) < (s.size : Int)) = true := by simp; omega
      have i4 : (q : Int) < (s.size : Int) := by omega
      have hbq := hb q hlt
      clear hb
      by_cases hd : q < m
      · have HX : Hid (digitB (PlainAid.bt s q) = true) := H7.out q q1 hd
        have hx := digB_bd c0 c1 HX.out
        by_cases h14 : q - k < 14
        · have i5 : decide ((q : Int) - (k : Int) < 14) = true := by simp; omega
          have hn : numB y (q - k) < 10 ^ 13 := Nat.lt_of_lt_of_le (H11.out (q - k) (by have := HYS.out; omega)) (Nat.pow_le_pow_right (by decide) (by omega))
          have hv : numB y (q + 1 - k) = 10 * numB y (q - k) + (PlainAid.bt s q - 48).toNat := by
            rw [show q + 1 - k = (q - k) + 1 by omega]
            show 10 * numB y (q - k) + (PlainAid.bt y (q - k) - 48).toNat = _
            rw [H9.out (q - k) (by omega), show k + (q - k) = q by omega]
          obtain ⟨n', hn'⟩ : ∃ n', numB y (q + 1 - k) = n' := ⟨_, rfl⟩
          rw [hn'] at hv
          have HV := Lib.hid hn'
          clear hn'
          generalize numB y (q - k) = n at hn hv ⊢
          generalize PlainAid.bt s q = x at hx hv hbq HX c0 c1
          have f1 : IntKind.u8.wrap (x - 48) = x - 48 := IntWalk.u8_in _ (by omega)
          have f2 : IntKind.i64.wrap (x - 48) = x - 48 := IntWalk.i64_in _ (by omega)
          have f3 : IntKind.i64.wrap (10 * (n : Int)) = 10 * (n : Int) := IntWalk.i64_in _ (by omega)
          have f4 : IntKind.i64.wrap (10 * (n : Int) + (x - 48)) = (n' : Int) := by rw [IntWalk.i64_in _ (by omega)]; omega
          have f5 : IntKind.i64.wrap ((q : Int) + 1) = (q : Int) + 1 := IntWalk.i64_in _ (by omega)
          clear hv hx hn
          go_wp2_with (go_at_call 111; refine (l02Digit_any _ _ c0 c1).mono ?_; rintro e w' ⟨rfl, rfl⟩; rw [HX.out])
          go_round
          case rel => exact ⟨q + 1, by omega, by omega, by omega, by rw [HV.out], by go_num⟩
          case measure => simp [intOf]; omega
        · have i5 : decide ((q : Int) - (k : Int) < 14) = false := by simp; omega
          have i6 : decide (13 < (q : Int) - (k : Int)) = true := by simp; omega
          have HM : Hid (¬ m - k ≤ 13) := by show ¬ _; omega
          generalize numB y (q - k) = n
          clear hx
          go_wp2_with (go_at_call 111; refine (l02Digit_any _ _ c0 c1).mono ?_; rintro e w' ⟨rfl, rfl⟩; rw [HX.out])
          have hF := Five.new W (.int .i64 0) (.int .i64 0) (.string ⟨#[]⟩) (.bool false) (.bool false)
          have hG : Below W.heap.size W (W.alloc (.cells #[.int .i64 0, .int .i64 0, .string ⟨#[]⟩, .bool false, .bool false] 46)) := (Below.refl W.heap.size W).alloc (Nat.le_refl _) _
          change bodyPost _ _ _ _ _ (W.alloc (.cells #[.int .i64 0, .int .i64 0, .string ⟨#[]⟩, .bool false, .bool false] 46))
          generalize W.alloc (.cells #[.int .i64 0, .int .i64 0, .string ⟨#[]⟩, .bool false, .bool false] 46) = w3 at hF hG ⊢
          obtain ⟨c0, c1, c2, c3, c4⟩ := hF.c
          exact bodyPost_ret (v := .tuple #[.agg #[.int .i64 0, .int .i64 0, .string ⟨#[]⟩, .bool false, .bool false], .int .i64 (-1)]) (by rw [results_cell_tmp rfl]; go_simp) rfl ⟨by rw [HE.out, if_neg HM.out]; rfl, hG⟩
      · have hqm : q = m := by omega
        subst hqm
        have HX : Hid (digitB (PlainAid.bt s q) = false) := H8.out hlt
        clear hd
        by_cases h13 : q - k ≤ 13
        · have i6 : decide (13 < (q : Int) - (k : Int)) = false := by simp; omega
          have HP := Lib.hid h13
          obtain ⟨n, hn⟩ : ∃ n, numB y (q - k) = n := ⟨_, rfl⟩
          have HQ := Lib.hid hn
          rw [hn]
          clear hn
          by_cases hle : n ≤ 1000000000000
          · have HR := Lib.hid hle
            have i7 : decide (1000000000000 < (n : Int)) = false := by simp; omega
            clear hle h13
            go_wp2_with (go_at_call 111; refine (l02Digit_any _ _ c0 c1).mono ?_; rintro e w' ⟨rfl, rfl⟩; rw [HX.out])
            have hF := Five.new W (.int .i64 2) (.int .i64 (n : Int)) (.string ⟨#[]⟩) (.bool false) (.bool false)
            have hG : Below W.heap.size W (W.alloc (.cells #[.int .i64 2, .int .i64 (n : Int), .string ⟨#[]⟩, .bool false, .bool false] 46)) := (Below.refl W.heap.size W).alloc (Nat.le_refl _) _
            change bodyPost _ _ _ _ _ (W.alloc (.cells #[.int .i64 2, .int .i64 (n : Int), .string ⟨#[]⟩, .bool false, .bool false] 46))
            generalize W.alloc (.cells #[.int .i64 2, .int .i64 (n : Int), .string ⟨#[]⟩, .bool false, .bool false] 46) = w3 at hF hG ⊢
            obtain ⟨c0, c1, c2, c3, c4⟩ := hF.c
            exact bodyPost_ret (v := .tuple #[.agg #[.int .i64 2, .int .i64 (n : Int), .string ⟨#[]⟩, .bool false, .bool false], .int .i64 (q : Int)]) (by rw [results_cell_tmp rfl]; go_simp) rfl ⟨by rw [HE.out, if_pos HP.out, HQ.out, if_pos HR.out]; rfl, hG⟩
          · have HR := Lib.hid hle
            have i7 : decide (1000000000000 < (n : Int)) = true := by simp; omega
            clear hle h13
            go_wp2_with (go_at_call 111; refine (l02Digit_any _ _ c0 c1).mono ?_; rintro e w' ⟨rfl, rfl⟩; rw [HX.out])
            have hF := Five.new W (.int .i64 0) (.int .i64 0) (.string ⟨#[]⟩) (.bool false) (.bool false)
            have hG : Below W.heap.size W (W.alloc (.cells #[.int .i64 0, .int .i64 0, .string ⟨#[]⟩, .bool false, .bool false] 46)) := (Below.refl W.heap.size W).alloc (Nat.le_refl _) _
            change bodyPost _ _ _ _ _ (W.alloc (.cells #[.int .i64 0, .int .i64 0, .string ⟨#[]⟩, .bool false, .bool false] 46))
            generalize W.alloc (.cells #[.int .i64 0, .int .i64 0, .string ⟨#[]⟩, .bool false, .bool false] 46) = w3 at hF hG ⊢
            obtain ⟨c0, c1, c2, c3, c4⟩ := hF.c
            exact bodyPost_ret (v := .tuple #[.agg #[.int .i64 0, .int .i64 0, .string ⟨#[]⟩, .bool false, .bool false], .int .i64 (-1)]) (by rw [results_cell_tmp rfl]; go_simp) rfl ⟨by rw [HE.out, if_pos HP.out, HQ.out, if_neg HR.out]; rfl, hG⟩
        · have i6 : decide (13 < (q : Int) - (k : Int)) = true := by simp; omega
          have HP := Lib.hid h13
          generalize numB y (q - k) = n
          clear h13
          go_wp2_with (go_at_call 111; refine (l02Digit_any _ _ c0 c1).mono ?_; rintro e w' ⟨rfl, rfl⟩; rw [HX.out])
          have hF := Five.new W (.int .i64 0) (.int .i64 0) (.string ⟨#[]⟩) (.bool false) (.bool false)
          have hG : Below W.heap.size W (W.alloc (.cells #[.int .i64 0, .int .i64 0, .string ⟨#[]⟩, .bool false, .bool false] 46)) := (Below.refl W.heap.size W).alloc (Nat.le_refl _) _
          change bodyPost _ _ _ _ _ (W.alloc (.cells #[.int .i64 0, .int .i64 0, .string ⟨#[]⟩, .bool false, .bool false] 46))
          generalize W.alloc (.cells #[.int .i64 0, .int .i64 0, .string ⟨#[]⟩, .bool false, .bool false] 46) = w3 at hF hG ⊢
          obtain ⟨c0, c1, c2, c3, c4⟩ := hF.c
          exact bodyPost_ret (v := .tuple #[.agg #[.int .i64 0, .int .i64 0, .string ⟨#[]⟩, .bool false, .bool false], .int .i64 (-1)]) (by rw [results_cell_tmp rfl]; go_simp) rfl ⟨by rw [HE.out, if_neg HP.out]; rfl, hG⟩
    · have i3 : decide ((q : Int) < (s.size : Int)) = false := by simp; omega
      have hqm : q = m := by omega
      subst hqm
      by_cases h13 : q - k ≤ 13
      · have i6 : decide (13 < (q : Int) - (k : Int)) = false := by simp; omega
        have HP := Lib.hid h13
        obtain ⟨n, hn⟩ : ∃ n, numB y (q - k) = n := ⟨_, rfl⟩
        have HQ := Lib.hid hn
        rw [hn]
        clear hn
        by_cases hle : n ≤ 1000000000000
        · have HR := Lib.hid hle
          have i7 : decide (1000000000000 < (n : Int)) = false := by simp; omega
          clear hle h13
          go_wp2_with fail
          have hF := Five.new W (.int .i64 2) (.int .i64 (n : Int)) (.string ⟨#[]⟩) (.bool false) (.bool false)
          have hG : Below W.heap.size W (W.alloc (.cells #[.int .i64 2, .int .i64 (n : Int), .string ⟨#[]⟩, .bool false, .bool false] 46)) := (Below.refl W.heap.size W).alloc (Nat.le_refl _) _
          change bodyPost _ _ _ _ _ (W.alloc (.cells #[.int .i64 2, .int .i64 (n : Int), .string ⟨#[]⟩, .bool false, .bool false] 46))
          generalize W.alloc (.cells #[.int .i64 2, .int .i64 (n : Int), .string ⟨#[]⟩, .bool false, .bool false] 46) = w3 at hF hG ⊢
          obtain ⟨c0, c1, c2, c3, c4⟩ := hF.c
          exact bodyPost_ret (v := .tuple #[.agg #[.int .i64 2, .int .i64 (n : Int), .string ⟨#[]⟩, .bool false, .bool false], .int .i64 (q : Int)]) (by rw [results_cell_tmp rfl]; go_simp) rfl ⟨by rw [HE.out, if_pos HP.out, HQ.out, if_pos HR.out]; rfl, hG⟩
        · have HR := Lib.hid hle
          have i7 : decide (1000000000000 < (n : Int)) = true := by simp; omega
          clear hle h13
          go_wp2_with fail
          have hF := Five.new W (.int .i64 0) (.int .i64 0) (.string ⟨#[]⟩) (.bool false) (.bool false)
          have hG : Below W.heap.size W (W.alloc (.cells #[.int .i64 0, .int .i64 0, .string ⟨#[]⟩, .bool false, .bool false] 46)) := (Below.refl W.heap.size W).alloc (Nat.le_refl _) _
          change bodyPost _ _ _ _ _ (W.alloc (.cells #[.int .i64 0, .int .i64 0, .string ⟨#[]⟩, .bool false, .bool false] 46))
          generalize W.alloc (.cells #[.int .i64 0, .int .i64 0, .string ⟨#[]⟩, .bool false, .bool false] 46) = w3 at hF hG ⊢
          obtain ⟨c0, c1, c2, c3, c4⟩ := hF.c
          exact bodyPost_ret (v := .tuple #[.agg #[.int .i64 0, .int .i64 0, .string ⟨#[]⟩, .bool false, .bool false], .int .i64 (-1)]) (by rw [results_cell_tmp rfl]; go_simp) rfl ⟨by rw [HE.out, if_pos HP.out, HQ.out, if_neg HR.out]; rfl, hG⟩
      · have i6 : decide (13 < (q : Int) - (k : Int)) = true := by simp; omega
        have HP := Lib.hid h13
        generalize numB y (q - k) = n
        clear h13
        go_wp2_with fail
        have hF := Five.new W (.int .i64 0) (.int .i64 0) (.string ⟨#[]⟩) (.bool false) (.bool false)
        have hG : Below W.heap.size W (W.alloc (.cells #[.int .i64 0, .int .i64 0, .string ⟨#[]⟩, .bool false, .bool false] 46)) := (Below.refl W.heap.size W).alloc (Nat.le_refl _) _
        change bodyPost _ _ _ _ _ (W.alloc (.cells #[.int .i64 0, .int .i64 0, .string ⟨#[]⟩, .bool false, .bool false] 46))
        generalize W.alloc (.cells #[.int .i64 0, .int .i64 0, .string ⟨#[]⟩, .bool false, .bool false] 46) = w3 at hF hG ⊢
        obtain ⟨c0, c1, c2, c3, c4⟩ := hF.c
        exact bodyPost_ret (v := .tuple #[.agg #[.int .i64 0, .int .i64 0, .string ⟨#[]⟩, .bool false, .bool false], .int .i64 (-1)]) (by rw [results_cell_tmp rfl]; go_simp) rfl ⟨by rw [HE.out, if_neg HP.out]; rfl, hG⟩
end Go.Proofs.YtdfikepfjdoooaaDoor
