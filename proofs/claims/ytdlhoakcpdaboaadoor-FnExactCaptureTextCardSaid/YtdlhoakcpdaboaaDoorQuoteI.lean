/- Contracts: doubleQuotes, QuoteText of the program. No condition but the world's shape. -/
import Derived.Test.YtdlhoakcpdaboaaDoorDbl
import Derived.Test.YtdlhoakcpdaboaaDoorBase
import Derived.Test.YtdlhoakcpdaboaaDoorShelf
import Derived.Test.YtdlhoakcpdaboaaDoorMark0
namespace Go.Proofs.YtdlhoakcpdaboaaDoor
open Go Go.RowKit

theorem doubleQuotes_any (s : ByteArray) (m : Int) (W : World) (hs : s.size ≤ 1048576) (hm : W.cell? ⟨3, 0, none⟩ = some (.int .i64 m)) :
    Calls Tryd.prog 14 #[.string s] W fun e w' => e = .returned (.string (dblE s)) ∧ Below W.heap.size W w' := by
  have HC : Hid (Calls Tryd.prog 16 #[.string s, .string ⟨#[34]⟩, .string ⟨#[34, 34]⟩] W fun e w' => e = .returned (.string (dblE s)) ∧ Below W.heap.size W w') := by
    have hc := Lib.countB_le ⟨#[34]⟩ (by decide) s.size s (Nat.le_refl _)
    have e2 : (⟨#[34, 34]⟩ : ByteArray).size = 2 := rfl
    have h := Tryd.strings_ReplaceAll s ⟨#[34]⟩ ⟨#[34, 34]⟩ m W (by omega) hm (by decide) (by rw [e2]; omega)
    rw [replace_dbl] at h
    exact h
  clear hm
  go_enter Tryd.func14, Tryd.ntmps14
  go_wp2_with (go_at_call 16; refine HC.out.mono ?_; rintro e w1 ⟨rfl, hb⟩; have HB := Lib.hid hb; clear hb)
  go_ret
  exact ⟨rfl, HB.out⟩
theorem dblE_size (s : ByteArray) : (dblE s).size ≤ 2 * s.size := by rw [← dblK_all (Nat.le_refl _)]; exact dblK_size s _
theorem impl_QuoteText_any (s : ByteArray) (m : Int) (W : World) (hs : s.size ≤ 1048576) (hm : W.cell? ⟨3, 0, none⟩ = some (.int .i64 m)) :
    Calls Tryd.prog 10 #[.string s] W fun e w' => e = .returned (.string (litE s)) ∧ Below W.heap.size W w' := by
  have HC := Lib.hid (doubleQuotes_any s m W hs hm)
  have hz := dblE_size s
  have HL : Hid (⟨#[34]⟩ ++ dblE s ++ ⟨#[34]⟩ = litE s) := rfl
  clear hm
  generalize dblE s = x at HC hz HL
  have hx : x.size ≤ 2097152 := by omega
  clear hz
  go_enter Tryd.func10, Tryd.ntmps10
  go_wp2_with (go_at_call 14; refine HC.out.mono ?_; rintro e w1 ⟨rfl, hb⟩; have HB := Lib.hid hb; clear hb)
  go_ret
  exact ⟨str_ret HL.out, HB.out⟩

theorem maxLen_cell {W : World} (h : W.ShapedOpen Tryd.prog) : ∃ m, W.cell? ⟨3, 0, none⟩ = some (.int .i64 m) := Tryd.laysM155.s1_3 W h
end Go.Proofs.YtdlhoakcpdaboaaDoor
