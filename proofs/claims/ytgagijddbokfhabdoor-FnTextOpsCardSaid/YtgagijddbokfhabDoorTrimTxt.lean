/- Contracts: TrimText of the model and of the program; the law's walk. Condition: the string is not longer than the law lets it be. -/
import Derived.Test.YtgagijddbokfhabDoorBase
import Derived.Test.YtgagijddbokfhabDoorMark0
import Derived.Test.YtgagijddbokfhabDoorShelf
import Derived.Test.YtgagijddbokfhabDoorCards
import Derived.Lib.SlTrimSet
namespace Go.Proofs.YtgagijddbokfhabDoor
open Go Go.RowKit

/-- The text without the blanks at its end. -/
def trimE (s : ByteArray) : ByteArray := ⟨(Lib.trimRightB s.data.toList 32).toArray⟩
theorem trim_at {s : ByteArray} {k : Nat} (hk : k ≤ s.size) (h1 : ∀ j, k ≤ j → j < s.size → PlainAid.bt s j = 32) (h2 : 0 < k → ¬ PlainAid.bt s (k - 1) = 32) : s.extract 0 k = trimE s := by
  have hl : s.data.toList.length = s.size := (Lib.size_eq s).symm
  unfold trimE
  rw [← Lib.trimRightS_one, Lib.trimRightS_take s.data.toList [32] k (by omega) (fun j b hj hb => ?_) (fun b hk0 hb => ?_)]
  · apply WideShapes.bytes_inj
    rw [← Lib.toList_data, Lib.extract_toList]
    simp
  · obtain ⟨hlt, rfl⟩ := List.getElem?_eq_some_iff.1 hb
    have := h1 j hj (by omega)
    rw [bt_data s j hlt] at this
    have e : s.data.toList[j] = 32 := UInt8.toNat_inj.mp (by have h32 : (32 : UInt8).toNat = 32 := rfl; omega)
    rw [e]; rfl
  · obtain ⟨hlt, rfl⟩ := List.getElem?_eq_some_iff.1 hb
    have := h2 hk0
    rw [bt_data s (k - 1) hlt] at this
    have e : ¬ s.data.toList[k - 1] = 32 := fun e => this (by rw [e]; rfl)
    simpa using e

set_option maxHeartbeats 1000000 in
theorem spec_TrimText_any (s : ByteArray) (W : World) (hs : s.size ≤ 1048576) :
    Calls Tryd.prog 5 #[.string s] W fun e w' => e = .returned (.string (trimE s)) ∧ W = w' := by
  have hb := PlainAid.get_bt s
  go_enter Tryd.func5, Tryd.ntmps5
  go_wp2_with fail
  go_loop [3] (fun q => ∃ (k : Nat), k ≤ s.size ∧ q = .int .i64 k ∧ Hid (∀ j, k ≤ j → j < s.size → PlainAid.bt s j = 32)) (fun q => (intOf q).toNat)
  case atStart => exact ⟨s.size, Nat.le_refl _, rfl, fun j h1 h2 => by omega⟩
  case round =>
    obtain ⟨k, hk, rfl, HA⟩ := hrel
    by_cases h0 : 0 < k
    · obtain ⟨m, rfl⟩ : ∃ m, k = m + 1 := ⟨k - 1, by omega⟩
      have hlt : m < s.size := by omega
      have e1 : ((m + 1 : Nat) : Int) - 1 = (m : Int) := by omega
      have e2 : (0 : Int) < ((m + 1 : Nat) : Int) := by omega
      by_cases h1 : PlainAid.bt s m = 32
      · have d1 : (PlainAid.bt s m == 32) = true := by simpa using h1
        have HN : Hid (∀ j, m ≤ j → j < s.size → PlainAid.bt s j = 32) := fun j hj hj2 => by
          rcases Nat.lt_or_ge m j with h | h
          · exact HA.out j h hj2
          · obtain rfl : j = m := by omega
            exact h1
        clear h1
        go_wp2_with fail
        go_round
        case rel => exact ⟨m, by omega, by go_num, HN⟩
        case measure => first | (simp [intOf]; done) | (simp [intOf]; omega)
      · have d1 : (PlainAid.bt s m == 32) = false := by simpa using h1
        have HE : Hid (s.extract 0 (m + 1) = trimE s) := trim_at hk HA.out (fun _ => h1)
        clear h1
        go_wp2_with fail
        go_ret
        exact ⟨str_ret HE.out, rfl⟩
    · obtain rfl : k = 0 := by omega
      have HE : Hid ((⟨#[]⟩ : ByteArray) = trimE s) := by
        show _ = _
        rw [← trim_at (Nat.zero_le _) HA.out (fun h => by omega)]
        apply WideShapes.bytes_inj
        rw [← Lib.toList_data, ← Lib.toList_data, Lib.extract_toList]
        simp
      go_wp2_with fail
      go_ret
      exact ⟨str_ret HE.out, rfl⟩

theorem impl_TrimText_any (s : ByteArray) (W : World) (hs : s.size ≤ 1048576) :
    Calls Tryd.prog 6 #[.string s] W fun e w' => e = .returned (.string (trimE s)) ∧ W = w' := by
  have HC := Lib.hid (Tryd.strings_TrimRight_one s 32 (by decide) W (by omega))
  go_enter Tryd.func6, Tryd.ntmps6
  go_wp2_with (go_at_call 12; refine HC.out.mono ?_; rintro e w1 ⟨rfl, rfl⟩)
  go_ret
  exact ⟨rfl, rfl⟩

theorem walk_FnExactTrimText (a0 : ByteArray) (w0 : a0.size ≤ maxLen) (W : World) (_hL : laidMetH Tryd.prog Rows.fnExactTrimTextRow.laid W) :
    Calls Tryd.prog 3 #[.string a0] W fun e w' => e = .returned (.bool true) ∧ Below W.heap.size W w' := by
  clear _hL
  unfold maxLen at w0
  obtain ⟨p, hp⟩ : ∃ p, trimE a0 = p := ⟨_, rfl⟩
  have HP := Lib.hid hp
  clear hp
  by_cases h : (a0.size : Int) ≤ 1048576
  · have HS : Hid (a0.size ≤ 1048576) := by show _ ≤ _; omega
    go_enter Tryd.func3, Tryd.ntmps3
    go_wp2_with (first
      | (go_at_call 5; refine (spec_TrimText_any _ _ HS.out).mono ?_; rintro e w' ⟨rfl, rfl⟩; rw [HP.out])
      | (go_at_call 6; refine (impl_TrimText_any _ _ HS.out).mono ?_; rintro e w1 ⟨rfl, rfl⟩; rw [HP.out]))
    all_goals go_ret
    all_goals exact ⟨rfl, Below.refl _ _⟩
  · have h' : 1048576 < (a0.size : Int) := by omega
    clear h
    go_enter Tryd.func3, Tryd.ntmps3
    go_wp2_with fail
    go_ret
    exact ⟨rfl, Below.refl _ _⟩
end Go.Proofs.YtgagijddbokfhabDoor
