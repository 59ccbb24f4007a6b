/- The laws' walks: FnExactIntegerValue. Condition: the table holds what the program's text lays. -/
import Derived.Test.YtfobjedobojbnaaDoorValOr
import Derived.Test.YtfobjedobojbnaaDoorCards
namespace Go.Proofs.YtfobjedobojbnaaDoor
open Go Go.RowKit

theorem walk_FnExactIntegerValue (a : Int) (_ : (Lit.int .i64 a).wf = true) (W : World) (hL : laidMetH Tryd.prog Rows.fnExactIntegerValueRow.laid W) :
    Calls Tryd.prog 5 #[.int .i64 a] W fun e w' => e = .returned (.bool true) ∧ Below W.heap.size W w' := by
  have hT : Classes W := Lib.tabIs_of_head (rest := []) gClasses (by kernel_rfl) Tryd.underlying68 Tryd.underlying5 (by kernel_rfl) (by kernel_rfl) hL
  have HT := Lib.hid hT
  have HG : Hid (1 < W.heap.size) := heap_pos (hT.at_ 0 (by decide))
  clear hL hT
  obtain ⟨x, hx⟩ : ∃ x, validV 2 a ⟨#[]⟩ 0 = x := ⟨_, rfl⟩
  have HX := Lib.hid hx
  clear hx
  cases x
  · go_enter Tryd.func5, Tryd.ntmps5
    go_wp2_with (go_at_call 18; refine (spec_IntegerValue_any _ _).mono ?_; rintro e w1 ⟨he, hb⟩; rw [HX.out, orV_f] at he; subst he; obtain ⟨hc1, hf1⟩ := bcell hb; have HB1 : Hid (Below W.heap.size W w1) := hb.mono (by first | exact Nat.le_refl _ | simp); clear hb)
    go_wp2_with (go_at_call 19; refine (impl_IntegerValue_any _ _ (HT.out.below (HB1.out.alloc HB1.out.size _) HG.out)).mono ?_; rintro e w2 ⟨he, hb⟩; rw [HX.out, orV_f] at he; subst he; obtain ⟨hc2, hf2⟩ := bcell hb; have hz2 : w1.heap.size < w2.heap.size := Nat.lt_of_lt_of_le (by simp) hb.size; have HB2 : Hid (Below W.heap.size W w2) := (HB1.out.alloc HB1.out.size _).trans (hb.mono (HB1.out.alloc HB1.out.size _).size); clear hb)
    go_wp2_with (go_at_call 17; refine (eqValue_same _ _ _ _ _).mono ?_; rintro e w3 ⟨rfl, hb⟩; have HB3 : Hid (Below W.heap.size W w3) := (HB2.out.alloc HB2.out.size _).trans (hb.mono (HB2.out.alloc HB2.out.size _).size); clear hb)
    all_goals go_ret
    all_goals exact ⟨rfl, HB3.out⟩
  · go_enter Tryd.func5, Tryd.ntmps5
    go_wp2_with (go_at_call 18; refine (spec_IntegerValue_any _ _).mono ?_; rintro e w1 ⟨he, hb⟩; rw [HX.out, orV_t] at he; subst he; obtain ⟨hc1, hf1⟩ := bcell hb; have HB1 : Hid (Below W.heap.size W w1) := hb.mono (by first | exact Nat.le_refl _ | simp); clear hb)
    go_wp2_with (go_at_call 19; refine (impl_IntegerValue_any _ _ (HT.out.below (HB1.out.alloc HB1.out.size _) HG.out)).mono ?_; rintro e w2 ⟨he, hb⟩; rw [HX.out, orV_t] at he; subst he; obtain ⟨hc2, hf2⟩ := bcell hb; have hz2 : w1.heap.size < w2.heap.size := Nat.lt_of_lt_of_le (by simp) hb.size; have HB2 : Hid (Below W.heap.size W w2) := (HB1.out.alloc HB1.out.size _).trans (hb.mono (HB1.out.alloc HB1.out.size _).size); clear hb)
    go_wp2_with (go_at_call 17; refine (eqValue_same _ _ _ _ _).mono ?_; rintro e w3 ⟨rfl, hb⟩; have HB3 : Hid (Below W.heap.size W w3) := (HB2.out.alloc HB2.out.size _).trans (hb.mono (HB2.out.alloc HB2.out.size _).size); clear hb)
    all_goals go_ret
    all_goals exact ⟨rfl, HB3.out⟩
end Go.Proofs.YtfobjedobojbnaaDoor
