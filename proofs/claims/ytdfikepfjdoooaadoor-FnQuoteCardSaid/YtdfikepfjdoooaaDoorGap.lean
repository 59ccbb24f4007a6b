/- Contract of isGap. No condition. -/
import Derived.Test.YtdfikepfjdoooaaDoorRead8
namespace Go.Proofs.YtdfikepfjdoooaaDoor
open Go Go.RowKit

/-- Both ends of the text count as blanks. -/
def gapB (s : ByteArray) (a : Int) : Bool := decide (a < 0 ∨ (s.size : Int) ≤ a) || PlainAid.bt s a.toNat == 32
theorem gapB_out {s : ByteArray} {a : Int} (h : a < 0 ∨ (s.size : Int) ≤ a) : gapB s a = true := by
  unfold gapB
  rw [decide_eq_true h]
  rfl
theorem gapB_in {s : ByteArray} {k : Nat} (h : k < s.size) : gapB s (k : Int) = (PlainAid.bt s k == 32) := by
  unfold gapB
  rw [decide_eq_false (by omega)]
  simp
theorem isGap_any (s : ByteArray) (a : Int) (W : World) (hl : s.size ≤ 1048576) :
    Calls Tryd.prog 54 #[.string s, .int .i64 a] W fun e w' => e = .returned (.bool (gapB s a)) ∧ Below W.heap.size W w' := by
  by_cases h0 : a < 0
  · rw [gapB_out (.inl h0)]
    go_enter Tryd.func54, Tryd.ntmps54
    go_wp2_with fail
    go_ret
    exact ⟨rfl, Below.refl _ _⟩
  · by_cases h1 : (s.size : Int) ≤ a
    · rw [gapB_out (.inr h1)]
      go_enter Tryd.func54, Tryd.ntmps54
      go_wp2_with fail
      go_ret
      exact ⟨rfl, Below.refl _ _⟩
    · obtain ⟨k, rfl⟩ : ∃ k : Nat, a = k := ⟨a.toNat, by omega⟩
      rw [gapB_in (by omega)]
      have hb := PlainAid.get_bt s
      have i0 : ¬ (k : Int) < 0 := by omega
      have i1 : (k : Int) < (s.size : Int) := by omega
      have i2 : (0 : Int) ≤ (k : Int) := by omega
      have d0 : decide ((k : Int) < 0) = false := by simp
      have d1 : decide (s.size ≤ k) = false := by simp; omega
      clear h0 h1
      go_enter Tryd.func54, Tryd.ntmps54
      go_wp2_with fail
      go_ret
      exact ⟨bool_ret rfl, Below.refl _ _⟩
end Go.Proofs.YtdfikepfjdoooaaDoor
