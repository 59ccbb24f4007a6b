/- Contract of the model's reader of one token: marks, and no token. No condition. -/
import Derived.Test.YtdfikepfjdoooaaDoorOneSpec
namespace Go.Proofs.YtdfikepfjdoooaaDoor
open Go Go.RowKit

set_option maxHeartbeats 2000000 in
set_option maxRecDepth 100000 in
theorem l02One_mark5 (s : ByteArray) (k : Nat) (W : World) (hk : k < s.size) (hl : s.size ≤ 1048576) (hv : PlainAid.bt s k = 40) :
    Calls Tryd.prog 89 #[.string s, .int .i64 k] W fun e w' => e = oneE s k ∧ Below W.heap.size W w' := by
  have hb := PlainAid.get_bt s
  have b0 := PlainAid.bt_nonneg s k
  have b1 := PlainAid.bt_le s k
  have i0 : (0 : Int) ≤ (k : Int) := by omega
  have i1 : (k : Int) < (s.size : Int) := by omega
  have h3 : cls (PlainAid.bt s k) = 5 := by rw [hv]; decide +kernel
  have HL : Hid (letterB (PlainAid.bt s k) = false) := by show _ = _; unfold letterB; rw [h3]; rfl
  have HD : Hid (digitB (PlainAid.bt s k) = false) := by show _ = _; unfold digitB; rw [h3]; rfl
  have HO : Hid (opB (PlainAid.bt s k) = false) := by show _ = _; unfold opB; rw [h3]; rfl
  have d1 : (PlainAid.bt s k == 39) = false := by rw [hv]; rfl
  have d2 : (PlainAid.bt s k == 34) = false := by rw [hv]; rfl
  have HE : Hid (oneE s k = OneRes 5 0 ⟨#[]⟩ (k + 1 : Nat)) := oneE_some (by unfold oneT; rw [h3]; rfl)
  have HV := Lib.hid hv
  clear hv h3
  rw [HE.out]
  go_enter Tryd.func89, Tryd.ntmps89
  go_wp2_with (first | (go_at_call 110; refine (l02Letter_any _ _ b0 b1).mono ?_; rintro e w' ⟨rfl, rfl⟩; rw [HL.out]) | (go_at_call 111; refine (l02Digit_any _ _ b0 b1).mono ?_; rintro e w' ⟨rfl, rfl⟩; rw [HD.out]) | (go_at_call 112; refine (l02Operator_any _ _ b0 b1).mono ?_; rintro e w' ⟨rfl, rfl⟩; rw [HO.out]))
  rw [HV.out]
  clear HL HD HO b0 b1 d1 d2 hb
  go_loop [12] (fun e => ∃ j : Nat, j ≤ 0 ∧ e = .int .i64 j) (fun e => 6 - (intOf e).toNat)
  case atStart => exact ⟨0, Nat.zero_le _, rfl⟩
  case round =>
    obtain ⟨j, q1, rfl⟩ := hrel
    have hj : j = 0 := by omega
    clear q1
    rcases hj with rfl
    · go_wp2_with fail
      have hF := Five.new W (.int .i64 5) (.int .i64 0) (.string ⟨#[]⟩) (.bool false) (.bool false)
      have hG : Below W.heap.size W (W.alloc (.cells #[.int .i64 5, .int .i64 0, .string ⟨#[]⟩, .bool false, .bool false] 46)) := (Below.refl W.heap.size W).alloc (Nat.le_refl _) _
      change bodyPost _ _ _ _ _ (W.alloc (.cells #[.int .i64 5, .int .i64 0, .string ⟨#[]⟩, .bool false, .bool false] 46))
      generalize W.alloc (.cells #[.int .i64 5, .int .i64 0, .string ⟨#[]⟩, .bool false, .bool false] 46) = w3 at hF hG ⊢
      obtain ⟨c0, c1, c2, c3, c4⟩ := hF.c
      exact bodyPost_ret (v := .tuple #[.agg #[.int .i64 5, .int .i64 0, .string ⟨#[]⟩, .bool false, .bool false], .int .i64 ((k + 1 : Nat) : Int)]) (by rw [results_cell_tmp rfl]; go_simp) rfl ⟨rfl, hG⟩

set_option maxHeartbeats 2000000 in
set_option maxRecDepth 100000 in
theorem l02One_mark6 (s : ByteArray) (k : Nat) (W : World) (hk : k < s.size) (hl : s.size ≤ 1048576) (hv : PlainAid.bt s k = 41) :
    Calls Tryd.prog 89 #[.string s, .int .i64 k] W fun e w' => e = oneE s k ∧ Below W.heap.size W w' := by
  have hb := PlainAid.get_bt s
  have b0 := PlainAid.bt_nonneg s k
  have b1 := PlainAid.bt_le s k
  have i0 : (0 : Int) ≤ (k : Int) := by omega
  have i1 : (k : Int) < (s.size : Int) := by omega
  have h3 : cls (PlainAid.bt s k) = 6 := by rw [hv]; decide +kernel
  have HL : Hid (letterB (PlainAid.bt s k) = false) := by show _ = _; unfold letterB; rw [h3]; rfl
  have HD : Hid (digitB (PlainAid.bt s k) = false) := by show _ = _; unfold digitB; rw [h3]; rfl
  have HO : Hid (opB (PlainAid.bt s k) = false) := by show _ = _; unfold opB; rw [h3]; rfl
  have d1 : (PlainAid.bt s k == 39) = false := by rw [hv]; rfl
  have d2 : (PlainAid.bt s k == 34) = false := by rw [hv]; rfl
  have HE : Hid (oneE s k = OneRes 6 0 ⟨#[]⟩ (k + 1 : Nat)) := oneE_some (by unfold oneT; rw [h3]; rfl)
  have HV := Lib.hid hv
  clear hv h3
  rw [HE.out]
  go_enter Tryd.func89, Tryd.ntmps89
  go_wp2_with (first | (go_at_call 110; refine (l02Letter_any _ _ b0 b1).mono ?_; rintro e w' ⟨rfl, rfl⟩; rw [HL.out]) | (go_at_call 111; refine (l02Digit_any _ _ b0 b1).mono ?_; rintro e w' ⟨rfl, rfl⟩; rw [HD.out]) | (go_at_call 112; refine (l02Operator_any _ _ b0 b1).mono ?_; rintro e w' ⟨rfl, rfl⟩; rw [HO.out]))
  rw [HV.out]
  clear HL HD HO b0 b1 d1 d2 hb
  go_loop [12] (fun e => ∃ j : Nat, j ≤ 1 ∧ e = .int .i64 j) (fun e => 6 - (intOf e).toNat)
  case atStart => exact ⟨0, Nat.zero_le _, rfl⟩
  case round =>
    obtain ⟨j, q1, rfl⟩ := hrel
    have hj : j = 0 ∨ j = 1 := by omega
    clear q1
    rcases hj with rfl | rfl
    · go_wp2_with fail
      go_round
      case rel => exact ⟨1, by decide, rfl⟩
      case measure => simp [intOf]
    · go_wp2_with fail
      have hF := Five.new W (.int .i64 6) (.int .i64 0) (.string ⟨#[]⟩) (.bool false) (.bool false)
      have hG : Below W.heap.size W (W.alloc (.cells #[.int .i64 6, .int .i64 0, .string ⟨#[]⟩, .bool false, .bool false] 46)) := (Below.refl W.heap.size W).alloc (Nat.le_refl _) _
      change bodyPost _ _ _ _ _ (W.alloc (.cells #[.int .i64 6, .int .i64 0, .string ⟨#[]⟩, .bool false, .bool false] 46))
      generalize W.alloc (.cells #[.int .i64 6, .int .i64 0, .string ⟨#[]⟩, .bool false, .bool false] 46) = w3 at hF hG ⊢
      obtain ⟨c0, c1, c2, c3, c4⟩ := hF.c
      exact bodyPost_ret (v := .tuple #[.agg #[.int .i64 6, .int .i64 0, .string ⟨#[]⟩, .bool false, .bool false], .int .i64 ((k + 1 : Nat) : Int)]) (by rw [results_cell_tmp rfl]; go_simp) rfl ⟨rfl, hG⟩

set_option maxHeartbeats 2000000 in
set_option maxRecDepth 100000 in
theorem l02One_mark7 (s : ByteArray) (k : Nat) (W : World) (hk : k < s.size) (hl : s.size ≤ 1048576) (hv : PlainAid.bt s k = 60) :
    Calls Tryd.prog 89 #[.string s, .int .i64 k] W fun e w' => e = oneE s k ∧ Below W.heap.size W w' := by
  have hb := PlainAid.get_bt s
  have b0 := PlainAid.bt_nonneg s k
  have b1 := PlainAid.bt_le s k
  have i0 : (0 : Int) ≤ (k : Int) := by omega
  have i1 : (k : Int) < (s.size : Int) := by omega
  have h3 : cls (PlainAid.bt s k) = 7 := by rw [hv]; decide +kernel
  have HL : Hid (letterB (PlainAid.bt s k) = false) := by show _ = _; unfold letterB; rw [h3]; rfl
  have HD : Hid (digitB (PlainAid.bt s k) = false) := by show _ = _; unfold digitB; rw [h3]; rfl
  have HO : Hid (opB (PlainAid.bt s k) = false) := by show _ = _; unfold opB; rw [h3]; rfl
  have d1 : (PlainAid.bt s k == 39) = false := by rw [hv]; rfl
  have d2 : (PlainAid.bt s k == 34) = false := by rw [hv]; rfl
  have HE : Hid (oneE s k = OneRes 7 0 ⟨#[]⟩ (k + 1 : Nat)) := oneE_some (by unfold oneT; rw [h3]; rfl)
  have HV := Lib.hid hv
  clear hv h3
  rw [HE.out]
  go_enter Tryd.func89, Tryd.ntmps89
  go_wp2_with (first | (go_at_call 110; refine (l02Letter_any _ _ b0 b1).mono ?_; rintro e w' ⟨rfl, rfl⟩; rw [HL.out]) | (go_at_call 111; refine (l02Digit_any _ _ b0 b1).mono ?_; rintro e w' ⟨rfl, rfl⟩; rw [HD.out]) | (go_at_call 112; refine (l02Operator_any _ _ b0 b1).mono ?_; rintro e w' ⟨rfl, rfl⟩; rw [HO.out]))
  rw [HV.out]
  clear HL HD HO b0 b1 d1 d2 hb
  go_loop [12] (fun e => ∃ j : Nat, j ≤ 2 ∧ e = .int .i64 j) (fun e => 6 - (intOf e).toNat)
  case atStart => exact ⟨0, Nat.zero_le _, rfl⟩
  case round =>
    obtain ⟨j, q1, rfl⟩ := hrel
    have hj : j = 0 ∨ j = 1 ∨ j = 2 := by omega
    clear q1
    rcases hj with rfl | rfl | rfl
    · go_wp2_with fail
      go_round
      case rel => exact ⟨1, by decide, rfl⟩
      case measure => simp [intOf]
    · go_wp2_with fail
      go_round
      case rel => exact ⟨2, by decide, rfl⟩
      case measure => simp [intOf]
    · go_wp2_with fail
      have hF := Five.new W (.int .i64 7) (.int .i64 0) (.string ⟨#[]⟩) (.bool false) (.bool false)
      have hG : Below W.heap.size W (W.alloc (.cells #[.int .i64 7, .int .i64 0, .string ⟨#[]⟩, .bool false, .bool false] 46)) := (Below.refl W.heap.size W).alloc (Nat.le_refl _) _
      change bodyPost _ _ _ _ _ (W.alloc (.cells #[.int .i64 7, .int .i64 0, .string ⟨#[]⟩, .bool false, .bool false] 46))
      generalize W.alloc (.cells #[.int .i64 7, .int .i64 0, .string ⟨#[]⟩, .bool false, .bool false] 46) = w3 at hF hG ⊢
      obtain ⟨c0, c1, c2, c3, c4⟩ := hF.c
      exact bodyPost_ret (v := .tuple #[.agg #[.int .i64 7, .int .i64 0, .string ⟨#[]⟩, .bool false, .bool false], .int .i64 ((k + 1 : Nat) : Int)]) (by rw [results_cell_tmp rfl]; go_simp) rfl ⟨rfl, hG⟩

set_option maxHeartbeats 2000000 in
set_option maxRecDepth 100000 in
theorem l02One_mark8 (s : ByteArray) (k : Nat) (W : World) (hk : k < s.size) (hl : s.size ≤ 1048576) (hv : PlainAid.bt s k = 62) :
    Calls Tryd.prog 89 #[.string s, .int .i64 k] W fun e w' => e = oneE s k ∧ Below W.heap.size W w' := by
  have hb := PlainAid.get_bt s
  have b0 := PlainAid.bt_nonneg s k
  have b1 := PlainAid.bt_le s k
  have i0 : (0 : Int) ≤ (k : Int) := by omega
  have i1 : (k : Int) < (s.size : Int) := by omega
  have h3 : cls (PlainAid.bt s k) = 8 := by rw [hv]; decide +kernel
  have HL : Hid (letterB (PlainAid.bt s k) = false) := by show _ = _; unfold letterB; rw [h3]; rfl
  have HD : Hid (digitB (PlainAid.bt s k) = false) := by show _ = _; unfold digitB; rw [h3]; rfl
  have HO : Hid (opB (PlainAid.bt s k) = false) := by show _ = _; unfold opB; rw [h3]; rfl
  have d1 : (PlainAid.bt s k == 39) = false := by rw [hv]; rfl
  have d2 : (PlainAid.bt s k == 34) = false := by rw [hv]; rfl
  have HE : Hid (oneE s k = OneRes 8 0 ⟨#[]⟩ (k + 1 : Nat)) := oneE_some (by unfold oneT; rw [h3]; rfl)
  have HV := Lib.hid hv
  clear hv h3
  rw [HE.out]
  go_enter Tryd.func89, Tryd.ntmps89
  go_wp2_with (first | (go_at_call 110; refine (l02Letter_any _ _ b0 b1).mono ?_; rintro e w' ⟨rfl, rfl⟩; rw [HL.out]) | (go_at_call 111; refine (l02Digit_any _ _ b0 b1).mono ?_; rintro e w' ⟨rfl, rfl⟩; rw [HD.out]) | (go_at_call 112; refine (l02Operator_any _ _ b0 b1).mono ?_; rintro e w' ⟨rfl, rfl⟩; rw [HO.out]))
  rw [HV.out]
  clear HL HD HO b0 b1 d1 d2 hb
  go_loop [12] (fun e => ∃ j : Nat, j ≤ 3 ∧ e = .int .i64 j) (fun e => 6 - (intOf e).toNat)
  case atStart => exact ⟨0, Nat.zero_le _, rfl⟩
  case round =>
    obtain ⟨j, q1, rfl⟩ := hrel
    have hj : j = 0 ∨ j = 1 ∨ j = 2 ∨ j = 3 := by omega
    clear q1
    rcases hj with rfl | rfl | rfl | rfl
    · go_wp2_with fail
      go_round
      case rel => exact ⟨1, by decide, rfl⟩
      case measure => simp [intOf]
    · go_wp2_with fail
      go_round
      case rel => exact ⟨2, by decide, rfl⟩
      case measure => simp [intOf]
    · go_wp2_with fail
      go_round
      case rel => exact ⟨3, by decide, rfl⟩
      case measure => simp [intOf]
    · go_wp2_with fail
      have hF := Five.new W (.int .i64 8) (.int .i64 0) (.string ⟨#[]⟩) (.bool false) (.bool false)
      have hG : Below W.heap.size W (W.alloc (.cells #[.int .i64 8, .int .i64 0, .string ⟨#[]⟩, .bool false, .bool false] 46)) := (Below.refl W.heap.size W).alloc (Nat.le_refl _) _
      change bodyPost _ _ _ _ _ (W.alloc (.cells #[.int .i64 8, .int .i64 0, .string ⟨#[]⟩, .bool false, .bool false] 46))
      generalize W.alloc (.cells #[.int .i64 8, .int .i64 0, .string ⟨#[]⟩, .bool false, .bool false] 46) = w3 at hF hG ⊢
      obtain ⟨c0, c1, c2, c3, c4⟩ := hF.c
      exact bodyPost_ret (v := .tuple #[.agg #[.int .i64 8, .int .i64 0, .string ⟨#[]⟩, .bool false, .bool false], .int .i64 ((k + 1 : Nat) : Int)]) (by rw [results_cell_tmp rfl]; go_simp) rfl ⟨rfl, hG⟩

set_option maxHeartbeats 2000000 in
set_option maxRecDepth 100000 in
theorem l02One_mark9 (s : ByteArray) (k : Nat) (W : World) (hk : k < s.size) (hl : s.size ≤ 1048576) (hv : PlainAid.bt s k = 44) :
    Calls Tryd.prog 89 #[.string s, .int .i64 k] W fun e w' => e = oneE s k ∧ Below W.heap.size W w' := by
  have hb := PlainAid.get_bt s
  have b0 := PlainAid.bt_nonneg s k
  have b1 := PlainAid.bt_le s k
  have i0 : (0 : Int) ≤ (k : Int) := by omega
  have i1 : (k : Int) < (s.size : Int) := by omega
  have h3 : cls (PlainAid.bt s k) = 9 := by rw [hv]; decide +kernel
  have HL : Hid (letterB (PlainAid.bt s k) = false) := by show _ = _; unfold letterB; rw [h3]; rfl
  have HD : Hid (digitB (PlainAid.bt s k) = false) := by show _ = _; unfold digitB; rw [h3]; rfl
  have HO : Hid (opB (PlainAid.bt s k) = false) := by show _ = _; unfold opB; rw [h3]; rfl
  have d1 : (PlainAid.bt s k == 39) = false := by rw [hv]; rfl
  have d2 : (PlainAid.bt s k == 34) = false := by rw [hv]; rfl
  have HE : Hid (oneE s k = OneRes 9 0 ⟨#[]⟩ (k + 1 : Nat)) := oneE_some (by unfold oneT; rw [h3]; rfl)
  have HV := Lib.hid hv
  clear hv h3
  rw [HE.out]
  go_enter Tryd.func89, Tryd.ntmps89
  go_wp2_with (first | (go_at_call 110; refine (l02Letter_any _ _ b0 b1).mono ?_; rintro e w' ⟨rfl, rfl⟩; rw [HL.out]) | (go_at_call 111; refine (l02Digit_any _ _ b0 b1).mono ?_; rintro e w' ⟨rfl, rfl⟩; rw [HD.out]) | (go_at_call 112; refine (l02Operator_any _ _ b0 b1).mono ?_; rintro e w' ⟨rfl, rfl⟩; rw [HO.out]))
  rw [HV.out]
  clear HL HD HO b0 b1 d1 d2 hb
  go_loop [12] (fun e => ∃ j : Nat, j ≤ 4 ∧ e = .int .i64 j) (fun e => 6 - (intOf e).toNat)
  case atStart => exact ⟨0, Nat.zero_le _, rfl⟩
  case round =>
    obtain ⟨j, q1, rfl⟩ := hrel
    have hj : j = 0 ∨ j = 1 ∨ j = 2 ∨ j = 3 ∨ j = 4 := by omega
    clear q1
    rcases hj with rfl | rfl | rfl | rfl | rfl
    · go_wp2_with fail
      go_round
      case rel => exact ⟨1, by decide, rfl⟩
      case measure => simp [intOf]
    · go_wp2_with fail
      go_round
      case rel => exact ⟨2, by decide, rfl⟩
      case measure => simp [intOf]
    · go_wp2_with fail
      go_round
      case rel => exact ⟨3, by decide, rfl⟩
      case measure => simp [intOf]
    · go_wp2_with fail
      go_round
      case rel => exact ⟨4, by decide, rfl⟩
      case measure => simp [intOf]
    · go_wp2_with fail
      have hF := Five.new W (.int .i64 9) (.int .i64 0) (.string ⟨#[]⟩) (.bool false) (.bool false)
      have hG : Below W.heap.size W (W.alloc (.cells #[.int .i64 9, .int .i64 0, .string ⟨#[]⟩, .bool false, .bool false] 46)) := (Below.refl W.heap.size W).alloc (Nat.le_refl _) _
      change bodyPost _ _ _ _ _ (W.alloc (.cells #[.int .i64 9, .int .i64 0, .string ⟨#[]⟩, .bool false, .bool false] 46))
      generalize W.alloc (.cells #[.int .i64 9, .int .i64 0, .string ⟨#[]⟩, .bool false, .bool false] 46) = w3 at hF hG ⊢
      obtain ⟨c0, c1, c2, c3, c4⟩ := hF.c
      exact bodyPost_ret (v := .tuple #[.agg #[.int .i64 9, .int .i64 0, .string ⟨#[]⟩, .bool false, .bool false], .int .i64 ((k + 1 : Nat) : Int)]) (by rw [results_cell_tmp rfl]; go_simp) rfl ⟨rfl, hG⟩

set_option maxHeartbeats 2000000 in
set_option maxRecDepth 100000 in
theorem l02One_mark10 (s : ByteArray) (k : Nat) (W : World) (hk : k < s.size) (hl : s.size ≤ 1048576) (hv : PlainAid.bt s k = 58) :
    Calls Tryd.prog 89 #[.string s, .int .i64 k] W fun e w' => e = oneE s k ∧ Below W.heap.size W w' := by
  have hb := PlainAid.get_bt s
  have b0 := PlainAid.bt_nonneg s k
  have b1 := PlainAid.bt_le s k
  have i0 : (0 : Int) ≤ (k : Int) := by omega
  have i1 : (k : Int) < (s.size : Int) := by omega
  have h3 : cls (PlainAid.bt s k) = 10 := by rw [hv]; decide +kernel
  have HL : Hid (letterB (PlainAid.bt s k) = false) := by show _ = _; unfold letterB; rw [h3]; rfl
  have HD : Hid (digitB (PlainAid.bt s k) = false) := by show _ = _; unfold digitB; rw [h3]; rfl
  have HO : Hid (opB (PlainAid.bt s k) = false) := by show _ = _; unfold opB; rw [h3]; rfl
  have d1 : (PlainAid.bt s k == 39) = false := by rw [hv]; rfl
  have d2 : (PlainAid.bt s k == 34) = false := by rw [hv]; rfl
  have HE : Hid (oneE s k = OneRes 10 0 ⟨#[]⟩ (k + 1 : Nat)) := oneE_some (by unfold oneT; rw [h3]; rfl)
  have HV := Lib.hid hv
  clear hv h3
  rw [HE.out]
  go_enter Tryd.func89, Tryd.ntmps89
  go_wp2_with (first | (go_at_call 110; refine (l02Letter_any _ _ b0 b1).mono ?_; rintro e w' ⟨rfl, rfl⟩; rw [HL.out]) | (go_at_call 111; refine (l02Digit_any _ _ b0 b1).mono ?_; rintro e w' ⟨rfl, rfl⟩; rw [HD.out]) | (go_at_call 112; refine (l02Operator_any _ _ b0 b1).mono ?_; rintro e w' ⟨rfl, rfl⟩; rw [HO.out]))
  rw [HV.out]
  clear HL HD HO b0 b1 d1 d2 hb
  go_loop [12] (fun e => ∃ j : Nat, j ≤ 5 ∧ e = .int .i64 j) (fun e => 6 - (intOf e).toNat)
  case atStart => exact ⟨0, Nat.zero_le _, rfl⟩
  case round =>
    obtain ⟨j, q1, rfl⟩ := hrel
    have hj : j = 0 ∨ j = 1 ∨ j = 2 ∨ j = 3 ∨ j = 4 ∨ j = 5 := by omega
    clear q1
    rcases hj with rfl | rfl | rfl | rfl | rfl | rfl
    · go_wp2_with fail
      go_round
      case rel => exact ⟨1, by decide, rfl⟩
      case measure => simp [intOf]
    · go_wp2_with fail
      go_round
      case rel => exact ⟨2, by decide, rfl⟩
      case measure => simp [intOf]
    · go_wp2_with fail
      go_round
      case rel => exact ⟨3, by decide, rfl⟩
      case measure => simp [intOf]
    · go_wp2_with fail
      go_round
      case rel => exact ⟨4, by decide, rfl⟩
      case measure => simp [intOf]
    · go_wp2_with fail
      go_round
      case rel => exact ⟨5, by decide, rfl⟩
      case measure => simp [intOf]
    · go_wp2_with fail
      have hF := Five.new W (.int .i64 10) (.int .i64 0) (.string ⟨#[]⟩) (.bool false) (.bool false)
      have hG : Below W.heap.size W (W.alloc (.cells #[.int .i64 10, .int .i64 0, .string ⟨#[]⟩, .bool false, .bool false] 46)) := (Below.refl W.heap.size W).alloc (Nat.le_refl _) _
      change bodyPost _ _ _ _ _ (W.alloc (.cells #[.int .i64 10, .int .i64 0, .string ⟨#[]⟩, .bool false, .bool false] 46))
      generalize W.alloc (.cells #[.int .i64 10, .int .i64 0, .string ⟨#[]⟩, .bool false, .bool false] 46) = w3 at hF hG ⊢
      obtain ⟨c0, c1, c2, c3, c4⟩ := hF.c
      exact bodyPost_ret (v := .tuple #[.agg #[.int .i64 10, .int .i64 0, .string ⟨#[]⟩, .bool false, .bool false], .int .i64 ((k + 1 : Nat) : Int)]) (by rw [results_cell_tmp rfl]; go_simp) rfl ⟨rfl, hG⟩
end Go.Proofs.YtdfikepfjdoooaaDoor
