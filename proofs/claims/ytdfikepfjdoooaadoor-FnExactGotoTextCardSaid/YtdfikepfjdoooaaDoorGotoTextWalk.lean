/- The law's walk: FnExactGotoText. Condition: the table holds what the program's text lays. -/
import Derived.Test.YtdfikepfjdoooaaDoorGotoText
import Derived.Test.YtdfikepfjdoooaaDoorCards
namespace Go.Proofs.YtdfikepfjdoooaaDoor
open Go Go.RowKit

set_option maxRecDepth 100000 in
theorem walk_FnExactGotoText (a s f : ByteArray) (wa : a.size ≤ maxLen) (ws : s.size ≤ maxLen) (wf : f.size ≤ maxLen) (W : World) (hL : laidMetH Tryd.prog Rows.fnExactGotoTextRow.laid W) :
    Calls Tryd.prog 11 #[.agg #[.string a, .string s, .string f]] W fun e w' => e = .returned (.bool true) ∧ Below W.heap.size W w' := by
  have hT : Classes W := Lib.tabIs_of_head (rest := []) gClasses (by kernel_rfl) Tryd.underlying118 Tryd.underlying5 (by kernel_rfl) (by kernel_rfl) hL
  have HT := Lib.hid hT
  have HG : Hid (0 < W.heap.size) := heap_pos (hT.at_ 0 (by decide))
  clear hL hT
  have HA := Lib.hid wa
  have HS := Lib.hid ws
  have HF := Lib.hid wf
  obtain ⟨p, hp⟩ : ∃ p, gotoT a s f = p := ⟨_, rfl⟩
  have HP := Lib.hid hp
  clear hp
  by_cases h : (a.size : Int) + s.size + f.size ≤ 1048576
  · have HH := Lib.hid h
    have LA : Hid (a.size ≤ 1048576) := by show _ ≤ _; omega
    have LS : Hid (s.size ≤ 1048576) := by show _ ≤ _; omega
    have LF : Hid (f.size ≤ 1048576) := by show _ ≤ _; omega
    have z1 : (0 : Int) ≤ 1048576 - a.size - s.size - f.size := by omega
    clear h wa ws wf
    go_enter Tryd.func11, Tryd.ntmps11
    go_wp2_with (go_at_call 38; refine (szGoto_fits _ _ _ _ HH.out).mono ?_; rintro e w1 ⟨rfl, hb⟩; obtain ⟨hc, hf⟩ := bcell hb; have HB1 : Hid (Below W.heap.size W w1) := ((Below.refl _ _).alloc (Nat.le_refl _) _).trans (hb.mono (by simp)); have hz1 : W.heap.size < w1.heap.size := (by have := hb.size; simp at this; omega); clear hb)
    go_wp2_with (go_at_call 40; refine (toGoto_any _ _ _ _).mono ?_; rintro e w2 ⟨rfl, hb⟩; obtain ⟨hc2, hf2⟩ := bcell hb; have HB2 : Hid (Below W.heap.size W w2) := HB1.out.trans (hb.mono (by omega)); have hz2 : W.heap.size < w2.heap.size := (by have := hb.size; omega); clear hb)
    go_wp2_with (go_at_call 42; refine (spec_GotoText_any _ _ _ _ LA.out LS.out LF.out).mono ?_; rintro e w3 ⟨rfl, hb⟩; rw [HP.out]; obtain ⟨hc3, hf3⟩ := bcell hb; have HB3 : Hid (Below W.heap.size W w3) := HB2.out.trans (hb.mono (by omega)); have hz3 : W.heap.size < w3.heap.size := (by have := hb.size; omega); clear hb)
    go_wp2_with (go_at_call 40; refine (toGoto_any _ _ _ _).mono ?_; rintro e w4 ⟨rfl, hb⟩; have HB4 : Hid (Below W.heap.size W w4) := HB3.out.trans (hb.mono (by omega)); clear hb)
    go_wp2_with (go_at_call 43; refine (impl_GotoText_any _ _ _ _ LA.out LS.out LF.out (HT.out.below HB4.out HG.out)).mono ?_; rintro e w5 ⟨rfl, hb⟩; rw [HP.out]; have HB5 : Hid (Below W.heap.size W w5) := HB4.out.trans (hb.mono HB4.out.size); clear hb)
    all_goals go_ret
    all_goals exact ⟨rfl, HB5.out⟩
  · have HH := Lib.hid h
    clear h wa ws wf
    go_enter Tryd.func11, Tryd.ntmps11
    go_wp2_with (go_at_call 38; refine (szGoto_long _ _ _ _ HH.out HA.out HS.out HF.out).mono ?_; rintro e w1 ⟨rfl, hb⟩; have HB1 : Hid (Below W.heap.size W w1) := ((Below.refl _ _).alloc (Nat.le_refl _) _).trans (hb.mono (by simp)); clear hb)
    go_ret
    exact ⟨rfl, HB1.out⟩
end Go.Proofs.YtdfikepfjdoooaaDoor
