/- Contracts: spec.l01Printable, impl.isPrintable. No condition. -/
import Derived.Test.YtjmiobmfphkdeaaDoorChecked
import Derived.WalkKit
import Derived.WalkLawsBesides
import Derived.Lib.Hide
import Derived.LoopTactic
import Derived.Test.YtjmiobmfphkdeaaDoorPlain
import Derived.Test.YtjmiobmfphkdeaaDoorBase
namespace Go.Proofs.YtjmiobmfphkdeaaDoor
open Go Go.RowKit


theorem isPrintable_any (r : Int) (W : World) :
    Calls Tryd.prog 45 #[.int .i32 r] W fun e w' => e = .returned (.bool (decide (32 ≤ r ∧ r ≤ 126))) ∧ W = w' := by
  by_cases h0 : 32 ≤ r
  · by_cases h1 : r ≤ 126
    · have e : decide (32 ≤ r ∧ r ≤ 126) = true := by simp [h0, h1]
      have d0 : decide (32 ≤ r) = true := by simp [h0]
      have d1 : decide (r ≤ 126) = true := by simp [h1]
      rw [e]
      go_enter Tryd.func45, Tryd.ntmps45
      go_wp2
      all_goals go_ret
      all_goals exact ⟨rfl, rfl⟩
    · have e : decide (32 ≤ r ∧ r ≤ 126) = false := by simp [h1]
      have d0 : decide (32 ≤ r) = true := by simp [h0]
      have d1 : decide (r ≤ 126) = false := by simp [h1]
      rw [e]
      go_enter Tryd.func45, Tryd.ntmps45
      go_wp2
      all_goals go_ret
      all_goals exact ⟨rfl, rfl⟩
  · have e : decide (32 ≤ r ∧ r ≤ 126) = false := by simp [h0]
    have d0 : decide (32 ≤ r) = false := by simp [h0]
    rw [e]
    go_enter Tryd.func45, Tryd.ntmps45
    go_wp2
    all_goals go_ret
    all_goals exact ⟨rfl, rfl⟩

set_option maxHeartbeats 1000000 in
theorem l01Printable_any (s : ByteArray) (nl : Bool) (W : World) (hs : s.size ≤ maxLen) :
    Calls Tryd.prog 43 #[.string s, .bool nl] W fun e w' => e = .returned (.bool (allB (prnB nl) s)) ∧ W = w' := by
  unfold maxLen at hs
  have hb := PlainAid.get_bt s
  go_enter Tryd.func43, Tryd.ntmps43
  go_wp2
  go_loop [5] (fun i => ∃ k : Nat, k ≤ s.size ∧ i = .int .i64 k ∧ Hid (∀ j, j < k → prnB nl (PlainAid.bt s j) = true)) (fun i => s.size - (intOf i).toNat)
  case atStart => exact ⟨0, Nat.zero_le _, rfl, fun _ h => absurd h (by omega)⟩
  case round =>
    obtain ⟨k, hk, rfl, hp⟩ := hrel
    by_cases hlt : k < s.size
    · have b0 := PlainAid.bt_nonneg s k
      have b1 := PlainAid.bt_le s k
      by_cases h1 : 32 ≤ PlainAid.bt s k ∧ PlainAid.bt s k ≤ 126
      · obtain ⟨h1, h2⟩ := h1
        have HP : Hid (prnB nl (PlainAid.bt s k) = true) := prnB_yes h1 h2
        have d1 : decide (PlainAid.bt s k < 32) = false := by simp; omega
        have d2 : decide (126 < PlainAid.bt s k) = false := by simp; omega
        go_wp2
        go_round
        case rel => exact ⟨k + 1, by omega, by go_num, upto_succ hp.out HP.out⟩
        case measure => simp [intOf]; omega
      · by_cases h3 : PlainAid.bt s k = 10 ∧ nl = true
        · obtain ⟨h3, rfl⟩ := h3
          have HP : Hid (prnB true (PlainAid.bt s k) = true) := by rw [h3]; exact prnB_nl
          have d1 : decide (PlainAid.bt s k < 32) = true := by simp; omega
          have d2 : decide (126 < PlainAid.bt s k) = false := by simp; omega
          have d3 : (PlainAid.bt s k == 10) = true := by simp [h3]
          clear h3 h1
          go_wp2
          go_round
          case rel => exact ⟨k + 1, by omega, by go_num, upto_succ hp.out HP.out⟩
          case measure => simp [intOf]; omega
        · have hno : prnB nl (PlainAid.bt s k) = false := by
            cases nl
            · exact prnB_no (by omega)
            · exact prnB_no' (by omega) (by simpa using h3)
          have HF : Hid (allB (prnB nl) s = false) := allB_false k hlt hno
          have d3 : (nl && PlainAid.bt s k == 10) = false := by
            cases nl
            · rfl
            · simpa using h3
          clear hno
          by_cases h4 : PlainAid.bt s k < 32
          · have d1 : decide (PlainAid.bt s k < 32) = true := by simp [h4]
            clear h1 h3
            cases nl
            · go_wp2
              all_goals go_ret
              all_goals exact ⟨bool_ret HF.out.symm, rfl⟩
            · have d4 : (PlainAid.bt s k == 10) = false := by simpa using d3
              clear d3
              go_wp2
              all_goals go_ret
              all_goals exact ⟨bool_ret HF.out.symm, rfl⟩
          · have d1 : decide (PlainAid.bt s k < 32) = false := by simp; omega
            have d2 : decide (126 < PlainAid.bt s k) = true := by simp; omega
            clear h1 h3
            cases nl
            · go_wp2
              all_goals go_ret
              all_goals exact ⟨bool_ret HF.out.symm, rfl⟩
            · have d4 : (PlainAid.bt s k == 10) = false := by simpa using d3
              clear d3
              go_wp2
              all_goals go_ret
              all_goals exact ⟨bool_ret HF.out.symm, rfl⟩
    · obtain rfl : k = s.size := by omega
      have HT : Hid (allB (prnB nl) s = true) := allB_true hp.out
      go_wp2
      go_ret
      exact ⟨bool_ret HT.out.symm, rfl⟩
end Go.Proofs.YtjmiobmfphkdeaaDoor
