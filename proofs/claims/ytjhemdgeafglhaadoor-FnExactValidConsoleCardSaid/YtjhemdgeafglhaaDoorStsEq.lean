/- laws.eqStringS where both are the same. No condition. -/
import Derived.Test.YtjhemdgeafglhaaDoorSts
import Derived.BigQuiet
namespace Go.Proofs.YtjhemdgeafglhaaDoor
open Go Go.RowKit

set_option maxHeartbeats 1000000 in
set_option maxRecDepth 100000 in
theorem eqStringS_same (A A' : Option Addr) (n c c' : Nat) (xs : List St) (W : World) (ha : StI W W.heap.size A n xs) (hb : StI W W.heap.size A' n xs) :
    Calls Tryd.prog 42 #[.slice A n c, .slice A' n c'] W fun e w' => e = .returned (.bool true) ∧ Below W.heap.size W w' := by
  have HA := Lib.hid ha
  have HB := Lib.hid hb
  have hn := ha.2.1
  unfold maxLen at hn
  clear ha hb
  go_enter Tryd.func42, Tryd.ntmps42
  go_wp2
  go_loopw [5] (fun i wr => ∃ k : Nat, k ≤ n ∧ i = .int .i64 k ∧ Hid (Below W.heap.size W wr)) (fun i _ => n - (intOf i).toNat)
  case atStart => exact ⟨0, Nat.zero_le _, rfl, Below.refl _ _⟩
  case round =>
    obtain ⟨k, hk, rfl, HW⟩ := hrel
    by_cases hlt : k < n
    · obtain ⟨b, off, x, rfl, hg, hx, h1, _⟩ := HA.out.at_ hlt
      obtain ⟨b', off', x', rfl, hg', hx', h2, _⟩ := HB.out.at_ hlt
      obtain rfl : x = x' := Option.some.inj (hx.symm.trans hx')
      have q1 := (HW.out.cell (p := ⟨b, off + k, none⟩) hg).trans h1
      have q2 := (HW.out.cell (p := ⟨b', off' + k, none⟩) hg').trans h2
      have b0 : (0 : Int) ≤ (k : Int) := by omega
      have b1 : (k : Int) < (n : Int) := by omega
      clear h1 h2 hx hx' hg hg'
      go_wp2_with fail
      go_quiet (fail)
      go_wp2_with fail
      go_roundw
      case rel => exact ⟨k + 1, by omega, by go_num, below_drewN HW.out _⟩
      case measure => simp [intOf]; omega
    · go_wp2_with fail
      go_ret
      exact ⟨rfl, HW.out⟩
end Go.Proofs.YtjhemdgeafglhaaDoor
