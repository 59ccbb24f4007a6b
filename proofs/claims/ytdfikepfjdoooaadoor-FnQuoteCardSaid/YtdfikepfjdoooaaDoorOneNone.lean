/- Contract of the model's reader of one token: no token. No condition. -/
import Derived.Test.YtdfikepfjdoooaaDoorOneSpec
namespace Go.Proofs.YtdfikepfjdoooaaDoor
open Go Go.RowKit

set_option maxHeartbeats 2000000 in
set_option maxRecDepth 100000 in
theorem l02One_none0 (s : ByteArray) (k : Nat) (W : World) (hk : k < s.size) (hl : s.size ≤ 1048576) (hv : cls (PlainAid.bt s k) = 0) :
    Calls Tryd.prog 89 #[.string s, .int .i64 k] W fun e w' => e = oneE s k ∧ Below W.heap.size W w' := by
  have hb := PlainAid.get_bt s
  have b0 := PlainAid.bt_nonneg s k
  have b1 := PlainAid.bt_le s k
  have i0 : (0 : Int) ≤ (k : Int) := by omega
  have i1 : (k : Int) < (s.size : Int) := by omega
  have HL : Hid (letterB (PlainAid.bt s k) = false) := by show _ = _; unfold letterB; rw [hv]; rfl
  have HD : Hid (digitB (PlainAid.bt s k) = false) := by show _ = _; unfold digitB; rw [hv]; rfl
  have HO : Hid (opB (PlainAid.bt s k) = false) := by show _ = _; unfold opB; rw [hv]; rfl
  have d1 : (PlainAid.bt s k == 39) = false := not_byte (by rw [hv]; decide +kernel)
  have d2 : (PlainAid.bt s k == 34) = false := not_byte (by rw [hv]; decide +kernel)
  have e0 : ((40 : Int) == PlainAid.bt s k) = false := by have : (PlainAid.bt s k == 40) = false := not_byte (by rw [hv]; decide +kernel); rw [BEq.comm]; exact this
  have m0 : (PlainAid.bt s k == 40) = false := not_byte (by rw [hv]; decide +kernel)
  have n0 : ¬ PlainAid.bt s k = 40 := by simpa using m0
  have o0 : ¬ (40 : Int) = PlainAid.bt s k := fun h => n0 h.symm
  have g0 : (((⟨#[40, 41, 60, 62, 44, 58]⟩ : ByteArray)[0]'(by decide)).toNat : Int) = 40 := by decide
  have e1 : ((41 : Int) == PlainAid.bt s k) = false := by have : (PlainAid.bt s k == 41) = false := not_byte (by rw [hv]; decide +kernel); rw [BEq.comm]; exact this
  have m1 : (PlainAid.bt s k == 41) = false := not_byte (by rw [hv]; decide +kernel)
  have n1 : ¬ PlainAid.bt s k = 41 := by simpa using m1
  have o1 : ¬ (41 : Int) = PlainAid.bt s k := fun h => n1 h.symm
  have g1 : (((⟨#[40, 41, 60, 62, 44, 58]⟩ : ByteArray)[1]'(by decide)).toNat : Int) = 41 := by decide
  have e2 : ((60 : Int) == PlainAid.bt s k) = false := by have : (PlainAid.bt s k == 60) = false := not_byte (by rw [hv]; decide +kernel); rw [BEq.comm]; exact this
  have m2 : (PlainAid.bt s k == 60) = false := not_byte (by rw [hv]; decide +kernel)
  have n2 : ¬ PlainAid.bt s k = 60 := by simpa using m2
  have o2 : ¬ (60 : Int) = PlainAid.bt s k := fun h => n2 h.symm
  have g2 : (((⟨#[40, 41, 60, 62, 44, 58]⟩ : ByteArray)[2]'(by decide)).toNat : Int) = 60 := by decide
  have e3 : ((62 : Int) == PlainAid.bt s k) = false := by have : (PlainAid.bt s k == 62) = false := not_byte (by rw [hv]; decide +kernel); rw [BEq.comm]; exact this
  have m3 : (PlainAid.bt s k == 62) = false := not_byte (by rw [hv]; decide +kernel)
  have n3 : ¬ PlainAid.bt s k = 62 := by simpa using m3
  have o3 : ¬ (62 : Int) = PlainAid.bt s k := fun h => n3 h.symm
  have g3 : (((⟨#[40, 41, 60, 62, 44, 58]⟩ : ByteArray)[3]'(by decide)).toNat : Int) = 62 := by decide
  have e4 : ((44 : Int) == PlainAid.bt s k) = false := by have : (PlainAid.bt s k == 44) = false := not_byte (by rw [hv]; decide +kernel); rw [BEq.comm]; exact this
  have m4 : (PlainAid.bt s k == 44) = false := not_byte (by rw [hv]; decide +kernel)
  have n4 : ¬ PlainAid.bt s k = 44 := by simpa using m4
  have o4 : ¬ (44 : Int) = PlainAid.bt s k := fun h => n4 h.symm
  have g4 : (((⟨#[40, 41, 60, 62, 44, 58]⟩ : ByteArray)[4]'(by decide)).toNat : Int) = 44 := by decide
  have e5 : ((58 : Int) == PlainAid.bt s k) = false := by have : (PlainAid.bt s k == 58) = false := not_byte (by rw [hv]; decide +kernel); rw [BEq.comm]; exact this
  have m5 : (PlainAid.bt s k == 58) = false := not_byte (by rw [hv]; decide +kernel)
  have n5 : ¬ PlainAid.bt s k = 58 := by simpa using m5
  have o5 : ¬ (58 : Int) = PlainAid.bt s k := fun h => n5 h.symm
  have g5 : (((⟨#[40, 41, 60, 62, 44, 58]⟩ : ByteArray)[5]'(by decide)).toNat : Int) = 58 := by decide
  have HE : Hid (oneE s k = OneRes 0 0 ⟨#[]⟩ (-1)) := oneE_none (by unfold oneT; rw [hv]; rfl)
  clear hv
  rw [HE.out]
  go_enter Tryd.func89, Tryd.ntmps89
  go_wp2_with (first | (go_at_call 110; refine (l02Letter_any _ _ b0 b1).mono ?_; rintro e w' ⟨rfl, rfl⟩; rw [HL.out]) | (go_at_call 111; refine (l02Digit_any _ _ b0 b1).mono ?_; rintro e w' ⟨rfl, rfl⟩; rw [HD.out]) | (go_at_call 112; refine (l02Operator_any _ _ b0 b1).mono ?_; rintro e w' ⟨rfl, rfl⟩; rw [HO.out]))
  clear HL HD HO d1 d2 hb
  go_loop [12] (fun e => ∃ j : Nat, j ≤ 6 ∧ e = .int .i64 j) (fun e => 6 - (intOf e).toNat)
  case atStart => exact ⟨0, Nat.zero_le _, rfl⟩
  case round =>
    obtain ⟨j, q1, rfl⟩ := hrel
    have hj : j = 0 ∨ j = 1 ∨ j = 2 ∨ j = 3 ∨ j = 4 ∨ j = 5 ∨ j = 6 := by omega
    clear q1
    rcases hj with rfl | rfl | rfl | rfl | rfl | rfl | rfl
    · go_wp2_with fail
      go_round
      case rel => exact ⟨1, by decide, rfl⟩
      case measure => simp [intOf]
    · go_wp2_with fail
      go_round
      case rel => exact ⟨2, by decide, rfl⟩
      case measure => simp [intOf]
    · go_wp2_with fail
      go_round
      case rel => exact ⟨3, by decide, rfl⟩
      case measure => simp [intOf]
    · go_wp2_with fail
      go_round
      case rel => exact ⟨4, by decide, rfl⟩
      case measure => simp [intOf]
    · go_wp2_with fail
      go_round
      case rel => exact ⟨5, by decide, rfl⟩
      case measure => simp [intOf]
    · go_wp2_with fail
      go_round
      case rel => exact ⟨6, by decide, rfl⟩
      case measure => simp [intOf]
    · go_wp2_with fail
      have hF := Five.new W (.int .i64 0) (.int .i64 0) (.string ⟨#[]⟩) (.bool false) (.bool false)
      have hG : Below W.heap.size W (W.alloc (.cells #[.int .i64 0, .int .i64 0, .string ⟨#[]⟩, .bool false, .bool false] 46)) := (Below.refl W.heap.size W).alloc (Nat.le_refl _) _
      change bodyPost _ _ _ _ _ (W.alloc (.cells #[.int .i64 0, .int .i64 0, .string ⟨#[]⟩, .bool false, .bool false] 46))
      generalize W.alloc (.cells #[.int .i64 0, .int .i64 0, .string ⟨#[]⟩, .bool false, .bool false] 46) = w3 at hF hG ⊢
      obtain ⟨c0, c1, c2, c3, c4⟩ := hF.c
      exact bodyPost_ret (v := .tuple #[.agg #[.int .i64 0, .int .i64 0, .string ⟨#[]⟩, .bool false, .bool false], .int .i64 (-1)]) (by rw [results_cell_tmp rfl]; go_simp) rfl ⟨rfl, hG⟩

set_option maxHeartbeats 2000000 in
set_option maxRecDepth 100000 in
theorem l02One_none11 (s : ByteArray) (k : Nat) (W : World) (hk : k < s.size) (hl : s.size ≤ 1048576) (hv : cls (PlainAid.bt s k) = 11) :
    Calls Tryd.prog 89 #[.string s, .int .i64 k] W fun e w' => e = oneE s k ∧ Below W.heap.size W w' := by
  have hb := PlainAid.get_bt s
  have b0 := PlainAid.bt_nonneg s k
  have b1 := PlainAid.bt_le s k
  have i0 : (0 : Int) ≤ (k : Int) := by omega
  have i1 : (k : Int) < (s.size : Int) := by omega
  have HL : Hid (letterB (PlainAid.bt s k) = false) := by show _ = _; unfold letterB; rw [hv]; rfl
  have HD : Hid (digitB (PlainAid.bt s k) = false) := by show _ = _; unfold digitB; rw [hv]; rfl
  have HO : Hid (opB (PlainAid.bt s k) = false) := by show _ = _; unfold opB; rw [hv]; rfl
  have d1 : (PlainAid.bt s k == 39) = false := not_byte (by rw [hv]; decide +kernel)
  have d2 : (PlainAid.bt s k == 34) = false := not_byte (by rw [hv]; decide +kernel)
  have e0 : ((40 : Int) == PlainAid.bt s k) = false := by have : (PlainAid.bt s k == 40) = false := not_byte (by rw [hv]; decide +kernel); rw [BEq.comm]; exact this
  have m0 : (PlainAid.bt s k == 40) = false := not_byte (by rw [hv]; decide +kernel)
  have n0 : ¬ PlainAid.bt s k = 40 := by simpa using m0
  have o0 : ¬ (40 : Int) = PlainAid.bt s k := fun h => n0 h.symm
  have g0 : (((⟨#[40, 41, 60, 62, 44, 58]⟩ : ByteArray)[0]'(by decide)).toNat : Int) = 40 := by decide
  have e1 : ((41 : Int) == PlainAid.bt s k) = false := by have : (PlainAid.bt s k == 41) = false := not_byte (by rw [hv]; decide +kernel); rw [BEq.comm]; exact this
  have m1 : (PlainAid.bt s k == 41) = false := not_byte (by rw [hv]; decide +kernel)
  have n1 : ¬ PlainAid.bt s k = 41 := by simpa using m1
  have o1 : ¬ (41 : Int) = PlainAid.bt s k := fun h => n1 h.symm
  have g1 : (((⟨#[40, 41, 60, 62, 44, 58]⟩ : ByteArray)[1]'(by decide)).toNat : Int) = 41 := by decide
  have e2 : ((60 : Int) == PlainAid.bt s k) = false := by have : (PlainAid.bt s k == 60) = false := not_byte (by rw [hv]; decide +kernel); rw [BEq.comm]; exact this
  have m2 : (PlainAid.bt s k == 60) = false := not_byte (by rw [hv]; decide +kernel)
  have n2 : ¬ PlainAid.bt s k = 60 := by simpa using m2
  have o2 : ¬ (60 : Int) = PlainAid.bt s k := fun h => n2 h.symm
  have g2 : (((⟨#[40, 41, 60, 62, 44, 58]⟩ : ByteArray)[2]'(by decide)).toNat : Int) = 60 := by decide
  have e3 : ((62 : Int) == PlainAid.bt s k) = false := by have : (PlainAid.bt s k == 62) = false := not_byte (by rw [hv]; decide +kernel); rw [BEq.comm]; exact this
  have m3 : (PlainAid.bt s k == 62) = false := not_byte (by rw [hv]; decide +kernel)
  have n3 : ¬ PlainAid.bt s k = 62 := by simpa using m3
  have o3 : ¬ (62 : Int) = PlainAid.bt s k := fun h => n3 h.symm
  have g3 : (((⟨#[40, 41, 60, 62, 44, 58]⟩ : ByteArray)[3]'(by decide)).toNat : Int) = 62 := by decide
  have e4 : ((44 : Int) == PlainAid.bt s k) = false := by have : (PlainAid.bt s k == 44) = false := not_byte (by rw [hv]; decide +kernel); rw [BEq.comm]; exact this
  have m4 : (PlainAid.bt s k == 44) = false := not_byte (by rw [hv]; decide +kernel)
  have n4 : ¬ PlainAid.bt s k = 44 := by simpa using m4
  have o4 : ¬ (44 : Int) = PlainAid.bt s k := fun h => n4 h.symm
  have g4 : (((⟨#[40, 41, 60, 62, 44, 58]⟩ : ByteArray)[4]'(by decide)).toNat : Int) = 44 := by decide
  have e5 : ((58 : Int) == PlainAid.bt s k) = false := by have : (PlainAid.bt s k == 58) = false := not_byte (by rw [hv]; decide +kernel); rw [BEq.comm]; exact this
  have m5 : (PlainAid.bt s k == 58) = false := not_byte (by rw [hv]; decide +kernel)
  have n5 : ¬ PlainAid.bt s k = 58 := by simpa using m5
  have o5 : ¬ (58 : Int) = PlainAid.bt s k := fun h => n5 h.symm
  have g5 : (((⟨#[40, 41, 60, 62, 44, 58]⟩ : ByteArray)[5]'(by decide)).toNat : Int) = 58 := by decide
  have HE : Hid (oneE s k = OneRes 0 0 ⟨#[]⟩ (-1)) := oneE_none (by unfold oneT; rw [hv]; rfl)
  clear hv
  rw [HE.out]
  go_enter Tryd.func89, Tryd.ntmps89
  go_wp2_with (first | (go_at_call 110; refine (l02Letter_any _ _ b0 b1).mono ?_; rintro e w' ⟨rfl, rfl⟩; rw [HL.out]) | (go_at_call 111; refine (l02Digit_any _ _ b0 b1).mono ?_; rintro e w' ⟨rfl, rfl⟩; rw [HD.out]) | (go_at_call 112; refine (l02Operator_any _ _ b0 b1).mono ?_; rintro e w' ⟨rfl, rfl⟩; rw [HO.out]))
  clear HL HD HO d1 d2 hb
  go_loop [12] (fun e => ∃ j : Nat, j ≤ 6 ∧ e = .int .i64 j) (fun e => 6 - (intOf e).toNat)
  case atStart => exact ⟨0, Nat.zero_le _, rfl⟩
  case round =>
    obtain ⟨j, q1, rfl⟩ := hrel
    have hj : j = 0 ∨ j = 1 ∨ j = 2 ∨ j = 3 ∨ j = 4 ∨ j = 5 ∨ j = 6 := by omega
    clear q1
    rcases hj with rfl | rfl | rfl | rfl | rfl | rfl | rfl
    · go_wp2_with fail
      go_round
      case rel => exact ⟨1, by decide, rfl⟩
      case measure => simp [intOf]
    · go_wp2_with fail
      go_round
      case rel => exact ⟨2, by decide, rfl⟩
      case measure => simp [intOf]
    · go_wp2_with fail
      go_round
      case rel => exact ⟨3, by decide, rfl⟩
      case measure => simp [intOf]
    · go_wp2_with fail
      go_round
      case rel => exact ⟨4, by decide, rfl⟩
      case measure => simp [intOf]
    · go_wp2_with fail
      go_round
      case rel => exact ⟨5, by decide, rfl⟩
      case measure => simp [intOf]
    · go_wp2_with fail
      go_round
      case rel => exact ⟨6, by decide, rfl⟩
      case measure => simp [intOf]
    · go_wp2_with fail
      have hF := Five.new W (.int .i64 0) (.int .i64 0) (.string ⟨#[]⟩) (.bool false) (.bool false)
      have hG : Below W.heap.size W (W.alloc (.cells #[.int .i64 0, .int .i64 0, .string ⟨#[]⟩, .bool false, .bool false] 46)) := (Below.refl W.heap.size W).alloc (Nat.le_refl _) _
      change bodyPost _ _ _ _ _ (W.alloc (.cells #[.int .i64 0, .int .i64 0, .string ⟨#[]⟩, .bool false, .bool false] 46))
      generalize W.alloc (.cells #[.int .i64 0, .int .i64 0, .string ⟨#[]⟩, .bool false, .bool false] 46) = w3 at hF hG ⊢
      obtain ⟨c0, c1, c2, c3, c4⟩ := hF.c
      exact bodyPost_ret (v := .tuple #[.agg #[.int .i64 0, .int .i64 0, .string ⟨#[]⟩, .bool false, .bool false], .int .i64 (-1)]) (by rw [results_cell_tmp rfl]; go_simp) rfl ⟨rfl, hG⟩
end Go.Proofs.YtdfikepfjdoooaaDoor
