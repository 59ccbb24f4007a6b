/- Contract of the model's reader of one token: strings. No condition. -/
import Derived.Test.YtdfikepfjdoooaaDoorOneSpec
namespace Go.Proofs.YtdfikepfjdoooaaDoor
open Go Go.RowKit

set_option maxHeartbeats 2000000 in
set_option maxRecDepth 100000 in
theorem l02One_single (s : ByteArray) (k : Nat) (W : World) (hk : k < s.size) (hl : s.size ≤ 1048576) (hv : PlainAid.bt s k = 39) :
    Calls Tryd.prog 89 #[.string s, .int .i64 k] W fun e w' => e = oneE s k ∧ Below W.heap.size W w' := by
  have hb := PlainAid.get_bt s
  have b0 := PlainAid.bt_nonneg s k
  have b1 := PlainAid.bt_le s k
  have i0 : (0 : Int) ≤ (k : Int) := by omega
  have i1 : (k : Int) < (s.size : Int) := by omega
  have h3 : cls (PlainAid.bt s k) = 3 := by rw [hv]; decide +kernel
  have HL : Hid (letterB (PlainAid.bt s k) = false) := by show _ = _; unfold letterB; rw [h3]; rfl
  have HD : Hid (digitB (PlainAid.bt s k) = false) := by show _ = _; unfold digitB; rw [h3]; rfl
  have h5 : runEnd (notB 39) s (k + 1) ≤ s.size := runEnd_le (by omega)
  have h6 := runEnd_ge (notB 39) s (k + 1)
  have h7 : ∀ j, k + 1 ≤ j → j < runEnd (notB 39) s (k + 1) → notB 39 (PlainAid.bt s j) = true := fun j => runEnd_in j
  have h8 : runEnd (notB 39) s (k + 1) < s.size → notB 39 (PlainAid.bt s (runEnd (notB 39) s (k + 1))) = false := runEnd_at
  have HE : Hid (oneE s k = if runEnd (notB 39) s (k + 1) < s.size ∧ runEnd (notB 39) s (k + 1) - (k + 1) ≤ 200 then OneRes 3 0 (s.extract (k + 1) (runEnd (notB 39) s (k + 1))) (runEnd (notB 39) s (k + 1) + 1 : Nat) else OneRes 0 0 ⟨#[]⟩ (-1)) := by
    show _ = _
    have n1 : ¬ cls (PlainAid.bt s k) = 1 := by rw [h3]; decide
    have n2 : ¬ cls (PlainAid.bt s k) = 2 := by rw [h3]; decide
    by_cases h : runEnd (notB 39) s (k + 1) < s.size ∧ runEnd (notB 39) s (k + 1) - (k + 1) ≤ 200
    · rw [if_pos h]; exact oneE_some (by unfold oneT; rw [if_neg n1, if_neg n2, if_pos h3, hv, if_pos h])
    · rw [if_neg h]; exact oneE_none (by unfold oneT; rw [if_neg n1, if_neg n2, if_pos h3, hv, if_neg h])
  obtain ⟨E, hE⟩ : ∃ E, oneE s k = E := ⟨_, rfl⟩
  have he := HE.out
  rw [hE] at he ⊢
  clear HE h3 hE
  generalize runEnd (notB 39) s (k + 1) = m at h5 h6 h7 h8 he
  have HE := Lib.hid he
  clear he
  have H7 := Lib.hid h7
  have H8 := Lib.hid h8
  have d1 : (PlainAid.bt s k == 39) = true := by rw [hv]; rfl
  have d2 : (PlainAid.bt s k == 34) = false := by rw [hv]; rfl
  have HV := Lib.hid hv
  clear h7 h8 hv
  go_enter Tryd.func89, Tryd.ntmps89
  go_wp2_with (first | (go_at_call 110; refine (l02Letter_any _ _ b0 b1).mono ?_; rintro e w' ⟨rfl, rfl⟩; rw [HL.out]) | (go_at_call 111; refine (l02Digit_any _ _ b0 b1).mono ?_; rintro e w' ⟨rfl, rfl⟩; rw [HD.out]))
  rw [HV.out]
  clear HL HD b0 b1 d1 d2
  go_loop [10] (fun e => ∃ j : Nat, k + 1 ≤ j ∧ j ≤ m ∧ e = .int .i64 j) (fun e => s.size - (intOf e).toNat)
  case atStart => exact ⟨k + 1, Nat.le_refl _, h6, by go_num⟩
  case round =>
    obtain ⟨j, q1, q2, rfl⟩ := hrel
    have j0 : (0 : Int) ≤ (j : Int) := by omega
    have jw : IntKind.i64.wrap ((j : Int) - (k : Int)) = (j : Int) - (k : Int) := IntWalk.i64_in _ (by omega)
    have jw2 : IntKind.i64.wrap ((j : Int) - (k : Int) - 1) = (j : Int) - (k : Int) - 1 := IntWalk.i64_in _ (by omega)
    by_cases hlt : j < s.size
    · have c0 := PlainAid.bt_nonneg s j
      have c1 := PlainAid.bt_le s j
      have i3 : decide ((j : Int) < (s.size : Int)) = true := by simp; omega
      have i4 : (j : Int) < (s.size : Int) := by omega
      have hbq := hb j hlt
      by_cases hd : j < m
      · have HX := H7.out j q1 hd
        have d3 : (PlainAid.bt s j == 39) = false := by unfold notB at HX; simpa using HX
        have d4 : (PlainAid.bt s j != 39) = true := by simp only [bne, d3]; rfl
        have f5 : IntKind.i64.wrap ((j : Int) + 1) = (j : Int) + 1 := IntWalk.i64_in _ (by omega)
        clear HX
        go_wp2_with fail
        go_round
        case rel => exact ⟨j + 1, by omega, by omega, by go_num⟩
        case measure => simp [intOf]; omega
      · have hjm : j = m := by omega
        subst hjm
        have HX := H8.out hlt
        have d3 : (PlainAid.bt s j == 39) = true := by unfold notB at HX; simpa using HX
        have d4 : (PlainAid.bt s j != 39) = false := by simp only [bne, d3]; rfl
        have d5 : ((j : Int) == (s.size : Int)) = false := by simp; omega
        have d6 : ((s.size : Int) == (j : Int)) = false := by simp; omega
        clear HX hd
        by_cases h2 : j - (k + 1) ≤ 200
        · have HC : Hid (j < s.size ∧ j - (k + 1) ≤ 200) := ⟨hlt, h2⟩
          have i6 : decide (200 < (j : Int) - (k : Int) - 1) = false := by simp; omega
          have i7 : (k : Int) + 1 ≤ (j : Int) := by omega
          have i8 : (j : Int) ≤ (s.size : Int) := by omega
          have i9 : ((k : Int) + 1).toNat = k + 1 := by omega
          clear h2
          go_wp2_with fail
          have hF := Five.new W (.int .i64 3) (.int .i64 0) (.string (s.extract (k + 1) j)) (.bool false) (.bool false)
          have hG : Below W.heap.size W (W.alloc (.cells #[.int .i64 3, .int .i64 0, .string (s.extract (k + 1) j), .bool false, .bool false] 46)) := (Below.refl W.heap.size W).alloc (Nat.le_refl _) _
          change bodyPost _ _ _ _ _ (W.alloc (.cells #[.int .i64 3, .int .i64 0, .string (s.extract (k + 1) j), .bool false, .bool false] 46))
          generalize W.alloc (.cells #[.int .i64 3, .int .i64 0, .string (s.extract (k + 1) j), .bool false, .bool false] 46) = w3 at hF hG ⊢
          obtain ⟨c0, c1, c2, c3, c4⟩ := hF.c
          exact bodyPost_ret (v := .tuple #[.agg #[.int .i64 3, .int .i64 0, .string (s.extract (k + 1) j), .bool false, .bool false], .int .i64 ((j + 1 : Nat) : Int)]) (by rw [results_cell_tmp rfl]; go_simp) rfl ⟨by rw [HE.out, if_pos HC.out]; rfl, hG⟩
        · have HC : Hid (¬ (j < s.size ∧ j - (k + 1) ≤ 200)) := fun h => h2 h.2
          have i6 : decide (200 < (j : Int) - (k : Int) - 1) = true := by simp; omega
          clear h2
          go_wp2_with fail
          have hF := Five.new W (.int .i64 0) (.int .i64 0) (.string ⟨#[]⟩) (.bool false) (.bool false)
          have hG : Below W.heap.size W (W.alloc (.cells #[.int .i64 0, .int .i64 0, .string ⟨#[]⟩, .bool false, .bool false] 46)) := (Below.refl W.heap.size W).alloc (Nat.le_refl _) _
          change bodyPost _ _ _ _ _ (W.alloc (.cells #[.int .i64 0, .int .i64 0, .string ⟨#[]⟩, .bool false, .bool false] 46))
          generalize W.alloc (.cells #[.int .i64 0, .int .i64 0, .string ⟨#[]⟩, .bool false, .bool false] 46) = w3 at hF hG ⊢
          obtain ⟨c0, c1, c2, c3, c4⟩ := hF.c
          exact bodyPost_ret (v := .tuple #[.agg #[.int .i64 0, .int .i64 0, .string ⟨#[]⟩, .bool false, .bool false], .int .i64 (-1)]) (by rw [results_cell_tmp rfl]; go_simp) rfl ⟨by rw [HE.out, if_neg HC.out]; rfl, hG⟩
    · have hjm : j = s.size := by omega
      have i3 : decide ((j : Int) < (s.size : Int)) = false := by simp; omega
      have d5 : ((j : Int) == (s.size : Int)) = true := by simp; omega
      have hm2 : m = s.size := by omega
      have HC : Hid (¬ (m < s.size ∧ m - (k + 1) ≤ 200)) := fun h => by have := h.1; omega
      subst hjm
      clear q1 q2 h5 h6 hm2
      go_wp2_with fail
      have hF := Five.new W (.int .i64 0) (.int .i64 0) (.string ⟨#[]⟩) (.bool false) (.bool false)
      have hG : Below W.heap.size W (W.alloc (.cells #[.int .i64 0, .int .i64 0, .string ⟨#[]⟩, .bool false, .bool false] 46)) := (Below.refl W.heap.size W).alloc (Nat.le_refl _) _
      change bodyPost _ _ _ _ _ (W.alloc (.cells #[.int .i64 0, .int .i64 0, .string ⟨#[]⟩, .bool false, .bool false] 46))
      generalize W.alloc (.cells #[.int .i64 0, .int .i64 0, .string ⟨#[]⟩, .bool false, .bool false] 46) = w3 at hF hG ⊢
      obtain ⟨c0, c1, c2, c3, c4⟩ := hF.c
      exact bodyPost_ret (v := .tuple #[.agg #[.int .i64 0, .int .i64 0, .string ⟨#[]⟩, .bool false, .bool false], .int .i64 (-1)]) (by rw [results_cell_tmp rfl]; go_simp) rfl ⟨by rw [HE.out, if_neg HC.out]; rfl, hG⟩

set_option maxHeartbeats 2000000 in
set_option maxRecDepth 100000 in
theorem l02One_double (s : ByteArray) (k : Nat) (W : World) (hk : k < s.size) (hl : s.size ≤ 1048576) (hv : PlainAid.bt s k = 34) :
    Calls Tryd.prog 89 #[.string s, .int .i64 k] W fun e w' => e = oneE s k ∧ Below W.heap.size W w' := by
  have hb := PlainAid.get_bt s
  have b0 := PlainAid.bt_nonneg s k
  have b1 := PlainAid.bt_le s k
  have i0 : (0 : Int) ≤ (k : Int) := by omega
  have i1 : (k : Int) < (s.size : Int) := by omega
  have h3 : cls (PlainAid.bt s k) = 3 := by rw [hv]; decide +kernel
  have HL : Hid (letterB (PlainAid.bt s k) = false) := by show _ = _; unfold letterB; rw [h3]; rfl
  have HD : Hid (digitB (PlainAid.bt s k) = false) := by show _ = _; unfold digitB; rw [h3]; rfl
  have h5 : runEnd (notB 34) s (k + 1) ≤ s.size := runEnd_le (by omega)
  have h6 := runEnd_ge (notB 34) s (k + 1)
  have h7 : ∀ j, k + 1 ≤ j → j < runEnd (notB 34) s (k + 1) → notB 34 (PlainAid.bt s j) = true := fun j => runEnd_in j
  have h8 : runEnd (notB 34) s (k + 1) < s.size → notB 34 (PlainAid.bt s (runEnd (notB 34) s (k + 1))) = false := runEnd_at
  have HE : Hid (oneE s k = if runEnd (notB 34) s (k + 1) < s.size ∧ runEnd (notB 34) s (k + 1) - (k + 1) ≤ 200 then OneRes 3 0 (s.extract (k + 1) (runEnd (notB 34) s (k + 1))) (runEnd (notB 34) s (k + 1) + 1 : Nat) else OneRes 0 0 ⟨#[]⟩ (-1)) := by
    show _ = _
    have n1 : ¬ cls (PlainAid.bt s k) = 1 := by rw [h3]; decide
    have n2 : ¬ cls (PlainAid.bt s k) = 2 := by rw [h3]; decide
    by_cases h : runEnd (notB 34) s (k + 1) < s.size ∧ runEnd (notB 34) s (k + 1) - (k + 1) ≤ 200
    · rw [if_pos h]; exact oneE_some (by unfold oneT; rw [if_neg n1, if_neg n2, if_pos h3, hv, if_pos h])
    · rw [if_neg h]; exact oneE_none (by unfold oneT; rw [if_neg n1, if_neg n2, if_pos h3, hv, if_neg h])
  obtain ⟨E, hE⟩ : ∃ E, oneE s k = E := ⟨_, rfl⟩
  have he := HE.out
  rw [hE] at he ⊢
  clear HE h3 hE
  generalize runEnd (notB 34) s (k + 1) = m at h5 h6 h7 h8 he
  have HE := Lib.hid he
  clear he
  have H7 := Lib.hid h7
  have H8 := Lib.hid h8
  have d1 : (PlainAid.bt s k == 39) = false := by rw [hv]; rfl
  have d2 : (PlainAid.bt s k == 34) = true := by rw [hv]; rfl
  have HV := Lib.hid hv
  clear h7 h8 hv
  go_enter Tryd.func89, Tryd.ntmps89
  go_wp2_with (first | (go_at_call 110; refine (l02Letter_any _ _ b0 b1).mono ?_; rintro e w' ⟨rfl, rfl⟩; rw [HL.out]) | (go_at_call 111; refine (l02Digit_any _ _ b0 b1).mono ?_; rintro e w' ⟨rfl, rfl⟩; rw [HD.out]))
  rw [HV.out]
  clear HL HD b0 b1 d1 d2
  go_loop [10] (fun e => ∃ j : Nat, k + 1 ≤ j ∧ j ≤ m ∧ e = .int .i64 j) (fun e => s.size - (intOf e).toNat)
  case atStart => exact ⟨k + 1, Nat.le_refl _, h6, by go_num⟩
  case round =>
    obtain ⟨j, q1, q2, rfl⟩ := hrel
    have j0 : (0 : Int) ≤ (j : Int) := by omega
    have jw : IntKind.i64.wrap ((j : Int) - (k : Int)) = (j : Int) - (k : Int) := IntWalk.i64_in _ (by omega)
    have jw2 : IntKind.i64.wrap ((j : Int) - (k : Int) - 1) = (j : Int) - (k : Int) - 1 := IntWalk.i64_in _ (by omega)
    by_cases hlt : j < s.size
    · have c0 := PlainAid.bt_nonneg s j
      have c1 := PlainAid.bt_le s j
      have i3 : decide ((j : Int) < (s.size : Int)) = true := by simp; omega
      have i4 : (j : Int) < (s.size : Int) := by omega
      have hbq := hb j hlt
      by_cases hd : j < m
      · have HX := H7.out j q1 hd
        have d3 : (PlainAid.bt s j == 34) = false := by unfold notB at HX; simpa using HX
        have d4 : (PlainAid.bt s j != 34) = true := by simp only [bne, d3]; rfl
        have f5 : IntKind.i64.wrap ((j : Int) + 1) = (j : Int) + 1 := IntWalk.i64_in _ (by omega)
        clear HX
        go_wp2_with fail
        go_round
        case rel => exact ⟨j + 1, by omega, by omega, by go_num⟩
        case measure => simp [intOf]; omega
      · have hjm : j = m := by omega
        subst hjm
        have HX := H8.out hlt
        have d3 : (PlainAid.bt s j == 34) = true := by unfold notB at HX; simpa using HX
        have d4 : (PlainAid.bt s j != 34) = false := by simp only [bne, d3]; rfl
        have d5 : ((j : Int) == (s.size : Int)) = false := by simp; omega
        have d6 : ((s.size : Int) == (j : Int)) = false := by simp; omega
        clear HX hd
        by_cases h2 : j - (k + 1) ≤ 200
        · have HC : Hid (j < s.size ∧ j - (k + 1) ≤ 200) := ⟨hlt, h2⟩
          have i6 : decide (200 < (j : Int) - (k : Int) - 1) = false := by simp; omega
          have i7 : (k : Int) + 1 ≤ (j : Int) := by omega
          have i8 : (j : Int) ≤ (s.size : Int) := by omega
          have i9 : ((k : Int) + 1).toNat = k + 1 := by omega
          clear h2
          go_wp2_with fail
          have hF := Five.new W (.int .i64 3) (.int .i64 0) (.string (s.extract (k + 1) j)) (.bool false) (.bool false)
          have hG : Below W.heap.size W (W.alloc (.cells #[.int .i64 3, .int .i64 0, .string (s.extract (k + 1) j), .bool false, .bool false] 46)) := (Below.refl W.heap.size W).alloc (Nat.le_refl _) _
          change bodyPost _ _ _ _ _ (W.alloc (.cells #[.int .i64 3, .int .i64 0, .string (s.extract (k + 1) j), .bool false, .bool false] 46))
          generalize W.alloc (.cells #[.int .i64 3, .int .i64 0, .string (s.extract (k + 1) j), .bool false, .bool false] 46) = w3 at hF hG ⊢
          obtain ⟨c0, c1, c2, c3, c4⟩ := hF.c
          exact bodyPost_ret (v := .tuple #[.agg #[.int .i64 3, .int .i64 0, .string (s.extract (k + 1) j), .bool false, .bool false], .int .i64 ((j + 1 : Nat) : Int)]) (by rw [results_cell_tmp rfl]; go_simp) rfl ⟨by rw [HE.out, if_pos HC.out]; rfl, hG⟩
        · have HC : Hid (¬ (j < s.size ∧ j - (k + 1) ≤ 200)) := fun h => h2 h.2
          have i6 : decide (200 < (j : Int) - (k : Int) - 1) = true := by simp; omega
          clear h2
          go_wp2_with fail
          have hF := Five.new W (.int .i64 0) (.int .i64 0) (.string ⟨#[]⟩) (.bool false) (.bool false)
          have hG : Below W.heap.size W (W.alloc (.cells #[.int .i64 0, .int .i64 0, .string ⟨#[]⟩, .bool false, .bool false] 46)) := (Below.refl W.heap.size W).alloc (Nat.le_refl _) _
          change bodyPost _ _ _ _ _ (W.alloc (.cells #[.int .i64 0, .int .i64 0, .string ⟨#[]⟩, .bool false, .bool false] 46))
          generalize W.alloc (.cells #[.int .i64 0, .int .i64 0, .string ⟨#[]⟩, .bool false, .bool false] 46) = w3 at hF hG ⊢
          obtain ⟨c0, c1, c2, c3, c4⟩ := hF.c
          exact bodyPost_ret (v := .tuple #[.agg #[.int .i64 0, .int .i64 0, .string ⟨#[]⟩, .bool false, .bool false], .int .i64 (-1)]) (by rw [results_cell_tmp rfl]; go_simp) rfl ⟨by rw [HE.out, if_neg HC.out]; rfl, hG⟩
    · have hjm : j = s.size := by omega
      have i3 : decide ((j : Int) < (s.size : Int)) = false := by simp; omega
      have d5 : ((j : Int) == (s.size : Int)) = true := by simp; omega
      have hm2 : m = s.size := by omega
      have HC : Hid (¬ (m < s.size ∧ m - (k + 1) ≤ 200)) := fun h => by have := h.1; omega
      subst hjm
      clear q1 q2 h5 h6 hm2
      go_wp2_with fail
      have hF := Five.new W (.int .i64 0) (.int .i64 0) (.string ⟨#[]⟩) (.bool false) (.bool false)
      have hG : Below W.heap.size W (W.alloc (.cells #[.int .i64 0, .int .i64 0, .string ⟨#[]⟩, .bool false, .bool false] 46)) := (Below.refl W.heap.size W).alloc (Nat.le_refl _) _
      change bodyPost _ _ _ _ _ (W.alloc (.cells #[.int .i64 0, .int .i64 0, .string ⟨#[]⟩, .bool false, .bool false] 46))
      generalize W.alloc (.cells #[.int .i64 0, .int .i64 0, .string ⟨#[]⟩, .bool false, .bool false] 46) = w3 at hF hG ⊢
      obtain ⟨c0, c1, c2, c3, c4⟩ := hF.c
      exact bodyPost_ret (v := .tuple #[.agg #[.int .i64 0, .int .i64 0, .string ⟨#[]⟩, .bool false, .bool false], .int .i64 (-1)]) (by rw [results_cell_tmp rfl]; go_simp) rfl ⟨by rw [HE.out, if_neg HC.out]; rfl, hG⟩
end Go.Proofs.YtdfikepfjdoooaaDoor
