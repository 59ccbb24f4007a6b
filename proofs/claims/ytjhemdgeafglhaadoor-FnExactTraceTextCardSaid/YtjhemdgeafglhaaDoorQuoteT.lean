/- Contracts: QuoteText of the model and of the program, doubleQuotes; the law's walk. No condition but the world's shape. -/
import Derived.Test.YtjhemdgeafglhaaDoorDbl
import Derived.Test.YtjhemdgeafglhaaDoorBase
import Derived.Test.YtjhemdgeafglhaaDoorShelf
import Derived.Test.YtjhemdgeafglhaaDoorMark0
namespace Go.Proofs.YtjhemdgeafglhaaDoor
open Go Go.RowKit

set_option maxHeartbeats 1000000 in
set_option maxRecDepth 100000 in
theorem spec_QuoteText_any (s : ByteArray) (W : World) (hs : s.size ≤ 1048576) :
    Calls Tryd.prog 58 #[.string s] W fun e w' => e = .returned (.string (litE s)) ∧ W = w' := by
  have hb := PlainAid.get_bt s
  have b1 : (s.size : Int) ≤ 1048576 := by omega
  go_enter Tryd.func58, Tryd.ntmps58
  go_wp2_with fail
  go_loop [3, 4] (fun q i => ∃ (k : Nat) (X : ByteArray), k ≤ s.size ∧ i = .int .i64 k ∧ q = .string X ∧ X.size ≤ 2 * k + 1 ∧ Hid (X = ⟨#[34]⟩ ++ dblK s k)) (fun _ i => s.size - (intOf i).toNat)
  case atStart => exact ⟨0, _, Nat.zero_le _, rfl, rfl, by decide, by show _ = _; rw [dblK_zero]; rfl⟩
  case round =>
    obtain ⟨k, X, hk, rfl, rfl, hX, HX⟩ := hrel
    have hX2 : X.size ≤ 2097153 := by omega
    by_cases hlt : k < s.size
    · have h1 := dblK_succ s k hlt
      have hsz : (s.extract k (k + 1)).size = 1 := by rw [part_toList s k hlt]; rfl
      have HD := Lib.hid h1
      have HS1 := Lib.hid hsz
      have i2 : (0 : Int) ≤ (k : Int) := by omega
      have i3 : (k : Int) + 1 ≤ (s.size : Int) := by omega
      have i4 : (k : Int) ≤ (k : Int) + 1 := by omega
      have i5 : ((k : Int) + 1).toNat = k + 1 := by omega
      clear h1
      by_cases h34 : PlainAid.bt s k = 34
      · have d0 : (PlainAid.bt s k == 34) = true := by simpa using h34
        have HN : Hid (X ++ ⟨#[34]⟩ ++ s.extract k (k + 1) = ⟨#[34]⟩ ++ dblK s (k + 1)) := by
          show _ = _
          rw [HD.out, if_pos h34, HX.out, ByteArray.append_assoc, ByteArray.append_assoc, ByteArray.append_assoc]
        clear h34
        go_wp2_with fail
        go_round
        case rel => exact ⟨k + 1, _, by omega, by go_num, rfl, by rw [ByteArray.size_append, ByteArray.size_append, HS1.out]; have h1 : (⟨#[34]⟩ : ByteArray).size = 1 := rfl; omega, HN⟩
        case measure => simp [intOf]; omega
      · have d0 : (PlainAid.bt s k == 34) = false := by simpa using h34
        have HN : Hid (X ++ s.extract k (k + 1) = ⟨#[34]⟩ ++ dblK s (k + 1)) := by
          show _ = _
          rw [HD.out, if_neg h34, HX.out, ByteArray.append_assoc]
        clear h34
        go_wp2_with fail
        go_round
        case rel => exact ⟨k + 1, _, by omega, by go_num, rfl, by rw [ByteArray.size_append, HS1.out]; omega, HN⟩
        case measure => simp [intOf]; omega
    · have HE : Hid (X ++ ⟨#[34]⟩ = litE s) := by
        show _ = _
        rw [HX.out, dblK_all (by omega)]
        rfl
      go_wp2_with fail
      go_ret
      exact ⟨str_ret HE.out, rfl⟩

theorem doubleQuotes_any (s : ByteArray) (m : Int) (W : World) (hs : s.size ≤ 1048576) (hm : W.cell? ⟨6, 0, none⟩ = some (.int .i64 m)) :
    Calls Tryd.prog 80 #[.string s] W fun e w' => e = .returned (.string (dblE s)) ∧ Below W.heap.size W w' := by
  have HC : Hid (Calls Tryd.prog 88 #[.string s, .string ⟨#[34]⟩, .string ⟨#[34, 34]⟩] W fun e w' => e = .returned (.string (dblE s)) ∧ Below W.heap.size W w') := by
    have hc := Lib.countB_le ⟨#[34]⟩ (by decide) s.size s (Nat.le_refl _)
    have e2 : (⟨#[34, 34]⟩ : ByteArray).size = 2 := rfl
    have h := Tryd.strings_ReplaceAll s ⟨#[34]⟩ ⟨#[34, 34]⟩ m W (by omega) hm (by decide) (by rw [e2]; omega)
    rw [replace_dbl] at h
    exact h
  clear hm
  go_enter Tryd.func80, Tryd.ntmps80
  go_wp2_with (go_at_call 88; refine HC.out.mono ?_; rintro e w1 ⟨rfl, hb⟩; have HB := Lib.hid hb; clear hb)
  go_ret
  exact ⟨rfl, HB.out⟩
theorem dblE_size (s : ByteArray) : (dblE s).size ≤ 2 * s.size := by rw [← dblK_all (Nat.le_refl _)]; exact dblK_size s _
theorem maxLen_cell {W : World} (h : W.ShapedOpen Tryd.prog) : ∃ m, W.cell? ⟨6, 0, none⟩ = some (.int .i64 m) := Tryd.laysM155.s1_3 W h
end Go.Proofs.YtjhemdgeafglhaaDoor
