/- Contracts of the program: isDigit, firstWhere over code points, isNumeral. Condition: the table of classes. -/
import Derived.Test.YtpjjpfjnjhahcaaGreatDoorRunes
import Derived.Test.YtpjjpfjnjhahcaaGreatDoorClass
import Derived.Test.YtpjjpfjnjhahcaaGreatDoorShelf
namespace Go.Proofs.YtpjjpfjnjhahcaaGreatDoor
open Go Go.RowKit

theorem isDigit_any (r : Int) (W : World) (hT : Classes W) :
    Calls Tryz.prog 70 #[.int .i32 r] W fun e w' => e = .returned (.bool (cls r == 2)) ∧ W = w' := by
  have HC := Lib.hid (classOf_any r W hT)
  clear hT
  go_enter Tryz.func70, Tryz.ntmps70
  go_wp2_with (go_at_call 65; refine HC.out.mono ?_; rintro e w' ⟨rfl, rfl⟩)
  go_ret
  exact ⟨rfl, rfl⟩
theorem notDigit_any (r : Int) (W : World) (hT : Classes W) :
    Calls Tryz.prog 69 #[.int .i32 r] W fun e w' => e = .returned (.bool (!(cls r == 2))) ∧ W = w' := by
  have HC := Lib.hid (isDigit_any r W hT)
  clear hT
  go_enter Tryz.func69, Tryz.ntmps69
  go_wp2_with (go_at_call 70; refine HC.out.mono ?_; rintro e w' ⟨rfl, rfl⟩)
  go_ret
  exact ⟨rfl, rfl⟩
set_option maxHeartbeats 1000000 in
theorem firstWhere_any (g off n c : Nat) (rs : Nat → Int) (W : World) (hn : n ≤ 1048576) (hc : ∀ j, j < n → W.cell? ⟨g, off + j, none⟩ = some (.int .i32 (rs j))) (hT : Classes W) :
    Calls Tryz.prog 68 #[.slice (some ⟨g, off, none⟩) n c, .func (.func 69) #[] #[]] W fun e w' => ∃ z : Int, e = .returned (.int .i64 z) ∧ (Hid (z < 0 ↔ ∀ j, j < n → cls (rs j) = 2) ∧ W = w') := by
  have HC := Lib.hid hc
  have HT := Lib.hid hT
  clear hc hT
  go_enter Tryz.func68, Tryz.ntmps68
  go_wp2_with fail
  go_loop [9] (fun q => ∃ k : Nat, q = .int .i64 k ∧ k ≤ n ∧ Hid (∀ j, j < k → cls (rs j) = 2)) (fun q => n - (intOf q).toNat)
  case atStart => exact ⟨0, rfl, Nat.zero_le _, fun j hj => absurd hj (Nat.not_lt_zero j)⟩
  case round =>
    obtain ⟨k, rfl, hk, HD⟩ := hrel
    by_cases hlt : k < n
    · have ck := HC.out k hlt
      obtain ⟨d, hd⟩ : ∃ d, (cls (rs k) == 2) = d := ⟨_, rfl⟩
      have HDD := Lib.hid hd
      cases d
      · have HF : Hid (((k : Int) < 0) ↔ ∀ j, j < n → cls (rs j) = 2) := ⟨fun h => by omega, fun h => by have := h k hlt; rw [this] at hd; simp at hd⟩
        clear hd
        go_wp2_with (go_at_call 69; refine (notDigit_any _ _ HT.out).mono ?_; rintro e w' ⟨rfl, rfl⟩; rw [HDD.out])
        go_ret
        exact ⟨k, rfl, HF, rfl⟩
      · have HN : Hid (∀ j, j < k + 1 → cls (rs j) = 2) := upto_succ HD.out (by simpa using hd)
        clear hd
        go_wp2_with (go_at_call 69; refine (notDigit_any _ _ HT.out).mono ?_; rintro e w' ⟨rfl, rfl⟩; rw [HDD.out])
        go_round
        case rel => exact ⟨k + 1, by go_num, hlt, HN⟩
        case measure => first | (simp [intOf]; done) | (simp [intOf]; omega)
    · have HF : Hid (((-1 : Int) < 0) ↔ ∀ j, j < n → cls (rs j) = 2) := ⟨fun _ j hj => HD.out j (by omega), fun _ => by decide⟩
      go_wp2_with fail
      go_ret
      exact ⟨-1, rfl, HF, rfl⟩
end Go.Proofs.YtpjjpfjnjhahcaaGreatDoor
