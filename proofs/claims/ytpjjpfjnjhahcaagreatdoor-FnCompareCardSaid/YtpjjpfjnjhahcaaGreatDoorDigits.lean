/- Contract: l10Digits of the model. Condition: the string is not longer than the law lets it be. -/
import Derived.Test.YtpjjpfjnjhahcaaGreatDoorNumVal
import Derived.IntWalk
namespace Go.Proofs.YtpjjpfjnjhahcaaGreatDoor
open Go Go.RowKit

open Classical in
/-- What l10Digits answers: the number, and whether there is one. -/
noncomputable def dgE (s : ByteArray) : Ending := if numP s ∧ valK s (atB s) s.size ≤ 1000000000000 then .returned (.tuple #[.int .i64 (numV s), .bool true]) else .returned (.tuple #[.int .i64 0, .bool false])
theorem dgE_no {s : ByteArray} (h : ¬ numP s) : dgE s = .returned (.tuple #[.int .i64 0, .bool false]) := by unfold dgE; rw [if_neg (fun x => h x.1)]
theorem dgE_big {s : ByteArray} (h : 1000000000000 < valK s (atB s) s.size) : dgE s = .returned (.tuple #[.int .i64 0, .bool false]) := by unfold dgE; rw [if_neg (fun x => by omega)]
theorem dgE_yes {s : ByteArray} (h : numP s) (h1 : valK s (atB s) s.size ≤ 1000000000000) : dgE s = .returned (.tuple #[.int .i64 (numV s), .bool true]) := by unfold dgE; rw [if_pos ⟨h, h1⟩]

theorem valK_upto (s : ByteArray) (a k : Nat) (hak : a ≤ k) (hk : k ≤ s.size) (hd : ∀ j, a ≤ j → j < k → 48 ≤ PlainAid.bt s j ∧ PlainAid.bt s j ≤ 57) (h13 : s.size ≤ a + 13) : valK s a k < 10000000000000 := by
  have key : ∀ d, a + d ≤ k → valK s a (a + d) < 10 ^ d := by
    intro d
    induction d with
    | zero => intro _; rw [Nat.add_zero, valK_start]; decide
    | succ d ih =>
      intro h
      have ih := ih (by omega)
      have hb := hd (a + d) (by omega) (by omega)
      rw [show a + (d + 1) = (a + d) + 1 by omega, valK_succ s a (a + d) (by omega), Nat.pow_succ]
      omega
  have h := key (k - a) (by omega)
  rw [show a + (k - a) = k by omega] at h
  have hp13 : (10 : Nat) ^ (k - a) ≤ 10 ^ 13 := Nat.pow_le_pow_right (by decide) (by omega)
  have hpe : (10 : Nat) ^ 13 = 10000000000000 := by decide
  omega

set_option maxHeartbeats 4000000 in
set_option maxRecDepth 100000 in
theorem l10_plus (s : ByteArray) (W : World) (hs : s.size ≤ 1048576) (hp : 0 < s.size) (hpp : (PlainAid.bt s 0 == 43) = true) (hqq : (PlainAid.bt s 0 == 45) = false) :
    Calls Tryz.prog 45 #[.string s] W fun e w' => e = dgE s ∧ W = w' := by
  have e1 := ne_nil_of_size hp
  have e2 := not_isEmpty_of_size hp
  have hs0 : decide (0 < s.size) = true := decide_eq_true hp
  have hat : atB s = 1 := by unfold atB sgnB; rw [hs0, hpp, hqq]; rfl
  have hnv : numV s = (valK s 1 s.size : Int) := by unfold numV; rw [hs0, hqq, hat]; rfl
  obtain ⟨E, hE⟩ : ∃ E, dgE s = E := ⟨_, rfl⟩
  have HE0 : Hid (¬ numP s → E = .returned (.tuple #[.int .i64 0, .bool false])) := fun h => hE.symm.trans (dgE_no h)
  have HE1 : Hid (1000000000000 < valK s 1 s.size → E = .returned (.tuple #[.int .i64 0, .bool false])) := fun h => hE.symm.trans (dgE_big (by rw [hat]; exact h))
  have HE2 : Hid (numP s → valK s 1 s.size ≤ 1000000000000 → E = .returned (.tuple #[.int .i64 ((valK s 1 s.size : Int)), .bool true])) := fun h h1 => by rw [← hnv]; exact hE.symm.trans (dgE_yes h (by rw [hat]; exact h1))
  have HNP : Hid (numP s ↔ (1 + 1 ≤ s.size ∧ s.size ≤ 1 + 13 ∧ ∀ j, 1 ≤ j → j < s.size → 48 ≤ PlainAid.bt s j ∧ PlainAid.bt s j ≤ 57)) := by
    show _ ↔ _
    unfold numP
    rw [hat]
  rw [hE]
  have hb := PlainAid.get_bt s
  have hb0 := hb 0 hp
  clear hE hnv hat hs0
  by_cases hl1 : s.size = 1
  · have HF := Lib.hid (HE0.out (fun h => by have := (HNP.out.1 h).1; omega))
    have l1 : (s.size : Int) = 1 := by omega
    clear hl1
    go_enter Tryz.func45, Tryz.ntmps45
    go_wp2_with fail
    go_ret2
    exact ⟨by rw [HF.out]; rfl, rfl⟩
  have l1 : ((s.size : Int) == 1) = false := by rw [beq_eq_false_iff_ne]; omega
  by_cases hl2 : 1 + 13 < s.size
  · have HF := Lib.hid (HE0.out (fun h => by have := (HNP.out.1 h).2.1; omega))
    have l2 : (13 : Int) < (s.size : Int) - 1 := by omega
    skip
    clear hl1 hl2
    go_enter Tryz.func45, Tryz.ntmps45
    go_wp2_with fail
    go_ret2
    exact ⟨by rw [HF.out]; rfl, rfl⟩
  have l2 : ¬ (13 : Int) < (s.size : Int) - 1 := by omega
  skip
  have HZ : Hid (1 + 1 ≤ s.size ∧ s.size ≤ 1 + 13) := ⟨by omega, by omega⟩
  clear hl1 hl2
  go_enter Tryz.func45, Tryz.ntmps45
  go_wp2_with fail
  go_loop [5, 6] (fun v q => ∃ k : Nat, q = .int .i64 k ∧ v = .int .i64 (valK s 1 k) ∧ 1 ≤ k ∧ k ≤ s.size ∧ Hid (∀ j, 1 ≤ j → j < k → 48 ≤ PlainAid.bt s j ∧ PlainAid.bt s j ≤ 57)) (fun _ q => s.size - (intOf q).toNat)
  case atStart => exact ⟨1, rfl, by rw [valK_start]; rfl, Nat.le_refl _, by omega, fun j h1 h2 => by omega⟩
  case round =>
    obtain ⟨k, rfl, rfl, hak, hk, HD⟩ := hrel
    by_cases hlt : k < s.size
    · have b0 := PlainAid.bt_nonneg s k
      have b1 := PlainAid.bt_le s k
      have hbk := hb k hlt
      by_cases hd : 48 ≤ PlainAid.bt s k ∧ PlainAid.bt s k ≤ 57
      · obtain ⟨d, hdd⟩ : ∃ d : Nat, PlainAid.bt s k = 48 + (d : Int) := ⟨(PlainAid.bt s k - 48).toNat, by omega⟩
        have hd9 : d ≤ 9 := by omega
        have HN : Hid (∀ j, 1 ≤ j → j < k + 1 → 48 ≤ PlainAid.bt s j ∧ PlainAid.bt s j ≤ 57) := fun j h1 h2 => by
          rcases Nat.lt_or_ge j k with h3 | h3
          · exact HD.out j h1 h3
          · obtain rfl : j = k := by omega
            exact hd
        have HVS : Hid (valK s 1 (k + 1) = valK s 1 k * 10 + d) := by
          show _ = _
          rw [valK_succ s 1 k hak]
          omega
        have hvb := valK_upto s 1 k hak hk HD.out HZ.out.2
        obtain ⟨V, hV⟩ : ∃ V, valK s 1 k = V := ⟨_, rfl⟩
        rw [hV] at HVS hvb
        have c1 : ¬ PlainAid.bt s k < 48 := by omega
        have c2 : ¬ 57 < PlainAid.bt s k := by omega
        have c3 : IntKind.u8.wrap (PlainAid.bt s k - 48) = (d : Int) := by rw [IntWalk.u8_in _ (by omega)]; omega
        have c4 : IntKind.i64.wrap ((V : Int) * 10) = (V : Int) * 10 := IntWalk.i64_in _ (by omega)
        have c5 : IntKind.i64.wrap ((V : Int) * 10 + d) = (V : Int) * 10 + d := IntWalk.i64_in _ (by omega)
        have c6 : IntKind.i64.wrap (d : Int) = d := IntWalk.i64_in _ (by omega)
        have c7 : PlainAid.bt s k - 48 = (d : Int) := by omega
        clear hd hb hdd b0 b1
        rw [hV]
        go_wp2_with fail
        go_round
        case rel => exact ⟨k + 1, by go_num, by rw [HVS.out, Int.natCast_add, Int.natCast_mul]; rfl, by omega, hlt, HN⟩
        case measure => first | (simp [intOf]; done) | (simp [intOf]; omega)
      · have HF := Lib.hid (HE0.out (fun h => hd ((HNP.out.1 h).2.2 k hak hlt)))
        rcases (show PlainAid.bt s k < 48 ∨ (¬ PlainAid.bt s k < 48 ∧ 57 < PlainAid.bt s k) by omega) with c1 | ⟨c1, c2⟩
        all_goals
          clear hd hb
          go_wp2_with fail
          go_ret2
          exact ⟨by rw [HF.out]; rfl, rfl⟩
    · obtain rfl : k = s.size := by omega
      have HNN : Hid (numP s) := HNP.out.2 ⟨HZ.out.1, HZ.out.2, HD.out⟩
      obtain ⟨V, hV⟩ : ∃ V, valK s 1 s.size = V := ⟨_, rfl⟩
      have hvb := valK_upto s 1 s.size hak hk HD.out HZ.out.2
      rw [hV] at hvb HE1 HE2 ⊢
      clear HD hb
      by_cases hbig : (1000000000000 : Int) < (V : Int)
      · have HF := Lib.hid (HE1.out (by omega))
        go_wp2_with fail
        go_ret2
        exact ⟨by rw [HF.out]; rfl, rfl⟩
      · have HF := Lib.hid (HE2.out HNN.out (by omega))
        have c5 : IntKind.i64.wrap (-(V : Int)) = -(V : Int) := IntWalk.i64_in _ (by omega)
        go_wp2_with fail
        go_ret2
        exact ⟨by rw [HF.out]; rfl, rfl⟩

set_option maxHeartbeats 4000000 in
set_option maxRecDepth 100000 in
theorem l10_minus (s : ByteArray) (W : World) (hs : s.size ≤ 1048576) (hp : 0 < s.size) (hpp : (PlainAid.bt s 0 == 43) = false) (hqq : (PlainAid.bt s 0 == 45) = true) :
    Calls Tryz.prog 45 #[.string s] W fun e w' => e = dgE s ∧ W = w' := by
  have e1 := ne_nil_of_size hp
  have e2 := not_isEmpty_of_size hp
  have hs0 : decide (0 < s.size) = true := decide_eq_true hp
  have hat : atB s = 1 := by unfold atB sgnB; rw [hs0, hpp, hqq]; rfl
  have hnv : numV s = -(valK s 1 s.size : Int) := by unfold numV; rw [hs0, hqq, hat]; rfl
  obtain ⟨E, hE⟩ : ∃ E, dgE s = E := ⟨_, rfl⟩
  have HE0 : Hid (¬ numP s → E = .returned (.tuple #[.int .i64 0, .bool false])) := fun h => hE.symm.trans (dgE_no h)
  have HE1 : Hid (1000000000000 < valK s 1 s.size → E = .returned (.tuple #[.int .i64 0, .bool false])) := fun h => hE.symm.trans (dgE_big (by rw [hat]; exact h))
  have HE2 : Hid (numP s → valK s 1 s.size ≤ 1000000000000 → E = .returned (.tuple #[.int .i64 (-(valK s 1 s.size : Int)), .bool true])) := fun h h1 => by rw [← hnv]; exact hE.symm.trans (dgE_yes h (by rw [hat]; exact h1))
  have HNP : Hid (numP s ↔ (1 + 1 ≤ s.size ∧ s.size ≤ 1 + 13 ∧ ∀ j, 1 ≤ j → j < s.size → 48 ≤ PlainAid.bt s j ∧ PlainAid.bt s j ≤ 57)) := by
    show _ ↔ _
    unfold numP
    rw [hat]
  rw [hE]
  have hb := PlainAid.get_bt s
  have hb0 := hb 0 hp
  clear hE hnv hat hs0
  by_cases hl1 : s.size = 1
  · have HF := Lib.hid (HE0.out (fun h => by have := (HNP.out.1 h).1; omega))
    have l1 : (s.size : Int) = 1 := by omega
    clear hl1
    go_enter Tryz.func45, Tryz.ntmps45
    go_wp2_with fail
    go_ret2
    exact ⟨by rw [HF.out]; rfl, rfl⟩
  have l1 : ((s.size : Int) == 1) = false := by rw [beq_eq_false_iff_ne]; omega
  by_cases hl2 : 1 + 13 < s.size
  · have HF := Lib.hid (HE0.out (fun h => by have := (HNP.out.1 h).2.1; omega))
    have l2 : (13 : Int) < (s.size : Int) - 1 := by omega
    skip
    clear hl1 hl2
    go_enter Tryz.func45, Tryz.ntmps45
    go_wp2_with fail
    go_ret2
    exact ⟨by rw [HF.out]; rfl, rfl⟩
  have l2 : ¬ (13 : Int) < (s.size : Int) - 1 := by omega
  skip
  have HZ : Hid (1 + 1 ≤ s.size ∧ s.size ≤ 1 + 13) := ⟨by omega, by omega⟩
  clear hl1 hl2
  go_enter Tryz.func45, Tryz.ntmps45
  go_wp2_with fail
  go_loop [5, 6] (fun v q => ∃ k : Nat, q = .int .i64 k ∧ v = .int .i64 (valK s 1 k) ∧ 1 ≤ k ∧ k ≤ s.size ∧ Hid (∀ j, 1 ≤ j → j < k → 48 ≤ PlainAid.bt s j ∧ PlainAid.bt s j ≤ 57)) (fun _ q => s.size - (intOf q).toNat)
  case atStart => exact ⟨1, rfl, by rw [valK_start]; rfl, Nat.le_refl _, by omega, fun j h1 h2 => by omega⟩
  case round =>
    obtain ⟨k, rfl, rfl, hak, hk, HD⟩ := hrel
    by_cases hlt : k < s.size
    · have b0 := PlainAid.bt_nonneg s k
      have b1 := PlainAid.bt_le s k
      have hbk := hb k hlt
      by_cases hd : 48 ≤ PlainAid.bt s k ∧ PlainAid.bt s k ≤ 57
      · obtain ⟨d, hdd⟩ : ∃ d : Nat, PlainAid.bt s k = 48 + (d : Int) := ⟨(PlainAid.bt s k - 48).toNat, by omega⟩
        have hd9 : d ≤ 9 := by omega
        have HN : Hid (∀ j, 1 ≤ j → j < k + 1 → 48 ≤ PlainAid.bt s j ∧ PlainAid.bt s j ≤ 57) := fun j h1 h2 => by
          rcases Nat.lt_or_ge j k with h3 | h3
          · exact HD.out j h1 h3
          · obtain rfl : j = k := by omega
            exact hd
        have HVS : Hid (valK s 1 (k + 1) = valK s 1 k * 10 + d) := by
          show _ = _
          rw [valK_succ s 1 k hak]
          omega
        have hvb := valK_upto s 1 k hak hk HD.out HZ.out.2
        obtain ⟨V, hV⟩ : ∃ V, valK s 1 k = V := ⟨_, rfl⟩
        rw [hV] at HVS hvb
        have c1 : ¬ PlainAid.bt s k < 48 := by omega
        have c2 : ¬ 57 < PlainAid.bt s k := by omega
        have c3 : IntKind.u8.wrap (PlainAid.bt s k - 48) = (d : Int) := by rw [IntWalk.u8_in _ (by omega)]; omega
        have c4 : IntKind.i64.wrap ((V : Int) * 10) = (V : Int) * 10 := IntWalk.i64_in _ (by omega)
        have c5 : IntKind.i64.wrap ((V : Int) * 10 + d) = (V : Int) * 10 + d := IntWalk.i64_in _ (by omega)
        have c6 : IntKind.i64.wrap (d : Int) = d := IntWalk.i64_in _ (by omega)
        have c7 : PlainAid.bt s k - 48 = (d : Int) := by omega
        clear hd hb hdd b0 b1
        rw [hV]
        go_wp2_with fail
        go_round
        case rel => exact ⟨k + 1, by go_num, by rw [HVS.out, Int.natCast_add, Int.natCast_mul]; rfl, by omega, hlt, HN⟩
        case measure => first | (simp [intOf]; done) | (simp [intOf]; omega)
      · have HF := Lib.hid (HE0.out (fun h => hd ((HNP.out.1 h).2.2 k hak hlt)))
        rcases (show PlainAid.bt s k < 48 ∨ (¬ PlainAid.bt s k < 48 ∧ 57 < PlainAid.bt s k) by omega) with c1 | ⟨c1, c2⟩
        all_goals
          clear hd hb
          go_wp2_with fail
          go_ret2
          exact ⟨by rw [HF.out]; rfl, rfl⟩
    · obtain rfl : k = s.size := by omega
      have HNN : Hid (numP s) := HNP.out.2 ⟨HZ.out.1, HZ.out.2, HD.out⟩
      obtain ⟨V, hV⟩ : ∃ V, valK s 1 s.size = V := ⟨_, rfl⟩
      have hvb := valK_upto s 1 s.size hak hk HD.out HZ.out.2
      rw [hV] at hvb HE1 HE2 ⊢
      clear HD hb
      by_cases hbig : (1000000000000 : Int) < (V : Int)
      · have HF := Lib.hid (HE1.out (by omega))
        go_wp2_with fail
        go_ret2
        exact ⟨by rw [HF.out]; rfl, rfl⟩
      · have HF := Lib.hid (HE2.out HNN.out (by omega))
        have c5 : IntKind.i64.wrap (-(V : Int)) = -(V : Int) := IntWalk.i64_in _ (by omega)
        go_wp2_with fail
        go_ret2
        exact ⟨by rw [HF.out]; rfl, rfl⟩

set_option maxHeartbeats 4000000 in
set_option maxRecDepth 100000 in
theorem l10_none (s : ByteArray) (W : World) (hs : s.size ≤ 1048576) (hp : 0 < s.size) (hpp : (PlainAid.bt s 0 == 43) = false) (hqq : (PlainAid.bt s 0 == 45) = false) :
    Calls Tryz.prog 45 #[.string s] W fun e w' => e = dgE s ∧ W = w' := by
  have e1 := ne_nil_of_size hp
  have e2 := not_isEmpty_of_size hp
  have hs0 : decide (0 < s.size) = true := decide_eq_true hp
  have hat : atB s = 0 := by unfold atB sgnB; rw [hs0, hpp, hqq]; rfl
  have hnv : numV s = (valK s 0 s.size : Int) := by unfold numV; rw [hs0, hqq, hat]; rfl
  obtain ⟨E, hE⟩ : ∃ E, dgE s = E := ⟨_, rfl⟩
  have HE0 : Hid (¬ numP s → E = .returned (.tuple #[.int .i64 0, .bool false])) := fun h => hE.symm.trans (dgE_no h)
  have HE1 : Hid (1000000000000 < valK s 0 s.size → E = .returned (.tuple #[.int .i64 0, .bool false])) := fun h => hE.symm.trans (dgE_big (by rw [hat]; exact h))
  have HE2 : Hid (numP s → valK s 0 s.size ≤ 1000000000000 → E = .returned (.tuple #[.int .i64 ((valK s 0 s.size : Int)), .bool true])) := fun h h1 => by rw [← hnv]; exact hE.symm.trans (dgE_yes h (by rw [hat]; exact h1))
  have HNP : Hid (numP s ↔ (0 + 1 ≤ s.size ∧ s.size ≤ 0 + 13 ∧ ∀ j, 0 ≤ j → j < s.size → 48 ≤ PlainAid.bt s j ∧ PlainAid.bt s j ≤ 57)) := by
    show _ ↔ _
    unfold numP
    rw [hat]
  rw [hE]
  have hb := PlainAid.get_bt s
  have hb0 := hb 0 hp
  clear hE hnv hat hs0
  by_cases hl1 : s.size = 0
  · exfalso; omega
  have l1 : ((s.size : Int) == 0) = false := by rw [beq_eq_false_iff_ne]; omega
  by_cases hl2 : 0 + 13 < s.size
  · have HF := Lib.hid (HE0.out (fun h => by have := (HNP.out.1 h).2.1; omega))
    have l2 : (13 : Int) < (s.size : Int) - 0 := by omega
    have l3 : (13 : Int) < (s.size : Int) := by omega
    clear hl1 hl2
    go_enter Tryz.func45, Tryz.ntmps45
    go_wp2_with fail
    go_ret2
    exact ⟨by rw [HF.out]; rfl, rfl⟩
  have l2 : ¬ (13 : Int) < (s.size : Int) - 0 := by omega
  have l3 : ¬ (13 : Int) < (s.size : Int) := by omega
  have HZ : Hid (0 + 1 ≤ s.size ∧ s.size ≤ 0 + 13) := ⟨by omega, by omega⟩
  clear hl1 hl2
  go_enter Tryz.func45, Tryz.ntmps45
  go_wp2_with fail
  go_loop [5, 6] (fun v q => ∃ k : Nat, q = .int .i64 k ∧ v = .int .i64 (valK s 0 k) ∧ 0 ≤ k ∧ k ≤ s.size ∧ Hid (∀ j, 0 ≤ j → j < k → 48 ≤ PlainAid.bt s j ∧ PlainAid.bt s j ≤ 57)) (fun _ q => s.size - (intOf q).toNat)
  case atStart => exact ⟨0, rfl, by rw [valK_start]; rfl, Nat.le_refl _, by omega, fun j h1 h2 => by omega⟩
  case round =>
    obtain ⟨k, rfl, rfl, hak, hk, HD⟩ := hrel
    by_cases hlt : k < s.size
    · have b0 := PlainAid.bt_nonneg s k
      have b1 := PlainAid.bt_le s k
      have hbk := hb k hlt
      by_cases hd : 48 ≤ PlainAid.bt s k ∧ PlainAid.bt s k ≤ 57
      · obtain ⟨d, hdd⟩ : ∃ d : Nat, PlainAid.bt s k = 48 + (d : Int) := ⟨(PlainAid.bt s k - 48).toNat, by omega⟩
        have hd9 : d ≤ 9 := by omega
        have HN : Hid (∀ j, 0 ≤ j → j < k + 1 → 48 ≤ PlainAid.bt s j ∧ PlainAid.bt s j ≤ 57) := fun j h1 h2 => by
          rcases Nat.lt_or_ge j k with h3 | h3
          · exact HD.out j h1 h3
          · obtain rfl : j = k := by omega
            exact hd
        have HVS : Hid (valK s 0 (k + 1) = valK s 0 k * 10 + d) := by
          show _ = _
          rw [valK_succ s 0 k hak]
          omega
        have hvb := valK_upto s 0 k hak hk HD.out HZ.out.2
        obtain ⟨V, hV⟩ : ∃ V, valK s 0 k = V := ⟨_, rfl⟩
        rw [hV] at HVS hvb
        have c1 : ¬ PlainAid.bt s k < 48 := by omega
        have c2 : ¬ 57 < PlainAid.bt s k := by omega
        have c3 : IntKind.u8.wrap (PlainAid.bt s k - 48) = (d : Int) := by rw [IntWalk.u8_in _ (by omega)]; omega
        have c4 : IntKind.i64.wrap ((V : Int) * 10) = (V : Int) * 10 := IntWalk.i64_in _ (by omega)
        have c5 : IntKind.i64.wrap ((V : Int) * 10 + d) = (V : Int) * 10 + d := IntWalk.i64_in _ (by omega)
        have c6 : IntKind.i64.wrap (d : Int) = d := IntWalk.i64_in _ (by omega)
        have c7 : PlainAid.bt s k - 48 = (d : Int) := by omega
        clear hd hb hdd b0 b1
        rw [hV]
        go_wp2_with fail
        go_round
        case rel => exact ⟨k + 1, by go_num, by rw [HVS.out, Int.natCast_add, Int.natCast_mul]; rfl, by omega, hlt, HN⟩
        case measure => first | (simp [intOf]; done) | (simp [intOf]; omega)
      · have HF := Lib.hid (HE0.out (fun h => hd ((HNP.out.1 h).2.2 k hak hlt)))
        rcases (show PlainAid.bt s k < 48 ∨ (¬ PlainAid.bt s k < 48 ∧ 57 < PlainAid.bt s k) by omega) with c1 | ⟨c1, c2⟩
        all_goals
          clear hd hb
          go_wp2_with fail
          go_ret2
          exact ⟨by rw [HF.out]; rfl, rfl⟩
    · obtain rfl : k = s.size := by omega
      have HNN : Hid (numP s) := HNP.out.2 ⟨HZ.out.1, HZ.out.2, HD.out⟩
      obtain ⟨V, hV⟩ : ∃ V, valK s 0 s.size = V := ⟨_, rfl⟩
      have hvb := valK_upto s 0 s.size hak hk HD.out HZ.out.2
      rw [hV] at hvb HE1 HE2 ⊢
      clear HD hb
      by_cases hbig : (1000000000000 : Int) < (V : Int)
      · have HF := Lib.hid (HE1.out (by omega))
        go_wp2_with fail
        go_ret2
        exact ⟨by rw [HF.out]; rfl, rfl⟩
      · have HF := Lib.hid (HE2.out HNN.out (by omega))
        have c5 : IntKind.i64.wrap (-(V : Int)) = -(V : Int) := IntWalk.i64_in _ (by omega)
        go_wp2_with fail
        go_ret2
        exact ⟨by rw [HF.out]; rfl, rfl⟩

set_option maxHeartbeats 1000000 in
theorem l10Digits_any (s : ByteArray) (W : World) (hs : s.size ≤ 1048576) :
    Calls Tryz.prog 45 #[.string s] W fun e w' => e = dgE s ∧ W = w' := by
  by_cases hz : s.size = 0
  · have e1 := nil_of_size hz
    have e2 := isEmpty_of_size hz
    have HE := Lib.hid (dgE_no (s := s) (fun h => by have := h.1; omega))
    have hzi : (s.size : Int) = 0 := by omega
    clear hz
    go_enter Tryz.func45, Tryz.ntmps45
    go_wp2_with fail
    go_ret2
    exact ⟨by rw [HE.out]; rfl, rfl⟩
  have hp : 0 < s.size := by omega
  by_cases h1 : PlainAid.bt s 0 = 43
  · exact l10_plus s W hs hp (by simp [h1]) (by simp [h1])
  by_cases h2 : PlainAid.bt s 0 = 45
  · exact l10_minus s W hs hp (by simp [h2]) (by simp [h2])
  · exact l10_none s W hs hp (by simpa using h1) (by simpa using h2)
end Go.Proofs.YtpjjpfjnjhahcaaGreatDoor
