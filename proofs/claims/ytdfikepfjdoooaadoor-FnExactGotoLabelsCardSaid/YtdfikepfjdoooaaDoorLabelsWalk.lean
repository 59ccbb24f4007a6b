/- The law's walk: FnExactGotoLabels. Condition: the table holds what the program's text lays. -/
import Derived.Test.YtdfikepfjdoooaaDoorLabels
import Derived.Test.YtdfikepfjdoooaaDoorCards
namespace Go.Proofs.YtdfikepfjdoooaaDoor
open Go Go.RowKit

theorem labs_len (a s f : ByteArray) : (labsT a s f).length ≤ 3 := by
  unfold labsT
  split
  · exact Nat.le_trans (List.length_filter_le _ _) (by simp)
  · exact Nat.zero_le _
set_option maxHeartbeats 2000000 in
set_option maxRecDepth 100000 in
theorem walk_FnExactGotoLabels (a s f : ByteArray) (wa : a.size ≤ maxLen) (ws : s.size ≤ maxLen) (wf : f.size ≤ maxLen) (W : World) (hL : laidMetH Tryd.prog Rows.fnExactGotoLabelsRow.laid W) :
    Calls Tryd.prog 12 #[.agg #[.string a, .string s, .string f]] W fun e w' => e = .returned (.bool true) ∧ Below W.heap.size W w' := by
  have hT : Classes W := Lib.tabIs_of_head (rest := []) gClasses (by kernel_rfl) Tryd.underlying118 Tryd.underlying5 (by kernel_rfl) (by kernel_rfl) hL
  have HT := Lib.hid hT
  have HG : Hid (0 < W.heap.size) := heap_pos (hT.at_ 0 (by decide))
  clear hL hT
  have HA := Lib.hid wa
  have HS := Lib.hid ws
  have HF := Lib.hid wf
  by_cases h : (a.size : Int) + s.size + f.size ≤ 1048576
  · have HH := Lib.hid h
    have HSp : Hid (∀ w, Calls Tryd.prog 44 #[.agg #[.string a, .string s, .string f]] w (RetsO w (labsT a s f))) := fun w => spec_GotoLabels_any a s f w (by omega) (by omega) (by omega)
    have HIm : Hid (∀ w, Classes w → Calls Tryd.prog 45 #[.agg #[.string a, .string s, .string f]] w (RetsO w (labsT a s f))) := fun w h => impl_GotoLabels_any a s f w (by omega) (by omega) (by omega) h
    have hn := labs_len a s f
    generalize labsT a s f = xs at HSp HIm hn
    have hq0 : (((1 + xs.length : Nat) : Int) < 0) = False := by simp; omega
    have HN : Hid (xs.length ≤ 1048577) := by show _ ≤ _; omega
    have HN2 : Hid (xs.length ≤ 9223372036854775807) := by show _ ≤ _; omega
    have z1 : (0 : Int) ≤ 1048576 - a.size - s.size - f.size := by omega
    clear h wa ws wf hn
    go_enter Tryd.func12, Tryd.ntmps12
    go_wp2_with (go_at_call 38; refine (szGoto_fits _ _ _ _ HH.out).mono ?_; rintro e w1 ⟨rfl, hb⟩; obtain ⟨hc, hf⟩ := bcell hb; have HB1 : Hid (Below W.heap.size W w1) := ((Below.refl _ _).alloc (Nat.le_refl _) _).trans (hb.mono (by simp)); have hz1 : W.heap.size < w1.heap.size := (by have := hb.size; simp at this; omega); clear hb)
    go_wp2_with (go_at_call 40; refine (toGoto_any _ _ _ _).mono ?_; rintro e w2 ⟨rfl, hb⟩; obtain ⟨hc2, hf2⟩ := bcell hb; have HB2 : Hid (Below W.heap.size W w2) := HB1.out.trans (hb.mono (by omega)); have hz2 : W.heap.size < w2.heap.size := (by have := hb.size; omega); clear hb)
    go_wp2_with (go_at_call 44; refine (HSp.out _).mono ?_; rintro e w3 ⟨A0, q0, rfl, hr, hb⟩; obtain ⟨hc3, hf3⟩ := bcell hb; have R0 := Lib.hid hr; have HB3 : Hid (Below W.heap.size W w3) := HB2.out.trans (hb.mono (by omega)); have hz3 : W.heap.size < w3.heap.size := (by have := hb.size; omega); clear hb hr)
    go_wp2_with (go_at_call 40; refine (toGoto_any _ _ _ _).mono ?_; rintro e w4 ⟨rfl, hb⟩; obtain ⟨hc4, hf4⟩ := bcell hb; have R04 := Lib.hid (R0.out.below hb (Nat.le_refl _)); have S4 : Hid (w3.heap.size ≤ w4.heap.size) := hb.size; have HB4 : Hid (Below W.heap.size W w4) := HB3.out.trans (hb.mono (by omega)); have hz4 : W.heap.size < w4.heap.size := (by have := hb.size; omega); clear hb)
    go_wp2_with (go_at_call 45; refine (HIm.out _ (HT.out.below HB4.out HG.out)).mono ?_; rintro e w5 ⟨A1, q1, rfl, hr, hb⟩; obtain ⟨hc5, hf5⟩ := bcell hb; have R1 := Lib.hid hr; have R05 := Lib.hid (R04.out.below hb S4.out); have S5 : Hid (w4.heap.size ≤ w5.heap.size) := hb.size; have HB5 : Hid (Below W.heap.size W w5) := HB4.out.trans (hb.mono (by omega)); have hz5 : W.heap.size < w5.heap.size := (by have := hb.size; omega); clear hb hr)
    go_wp2_with (go_at_call 46; refine (eq_rowsO _ _ R1.out R05.out (Nat.le_refl _) (Nat.le_trans S4.out S5.out) HN2.out).mono ?_; rintro e w6 ⟨rfl, hb⟩; obtain ⟨hc6, hf6⟩ := bcell hb; have R16 := Lib.hid (R1.out.below hb (Nat.le_refl _)); have R06 := Lib.hid (R05.out.below hb (Nat.le_trans S4.out S5.out)); have S6 : Hid (w5.heap.size ≤ w6.heap.size) := hb.size; have HB6 : Hid (Below W.heap.size W w6) := HB5.out.trans (hb.mono (by omega)); have hz6 : W.heap.size < w6.heap.size := (by have := hb.size; omega); clear hb)
    go_wp2_with (go_at_call 47; refine (mark_rowO _ R16.out (Nat.le_trans S5.out S6.out) S6.out HN.out).mono ?_; rintro e w7 ⟨rfl, hb, hm⟩; have hc7 : (∀ b o, b < w4.heap.size → w7.cell? ⟨b, o, none⟩ = w6.cell? ⟨b, o, none⟩) := (fun b o h => hb.cell (p := ⟨b, o, none⟩) h); have M7 := Lib.hid hm; have R07 := Lib.hid (R06.out.below hb S4.out); have S7 : Hid (w6.heap.size ≤ w7.heap.size) := hb.size; have HB7 : Hid (Below W.heap.size W w7) := HB6.out.trans (hb.mono (by omega)); have hz7 : W.heap.size < w7.heap.size := (by have := hb.size; omega); clear hb hm)
    go_wp2_with (go_at_call 48; refine (held_rowO _ M7.out (Nat.le_refl _) HN.out).mono ?_; rintro e w8 ⟨rfl, hb⟩; obtain ⟨hc8, hf8⟩ := bcell hb; have M8 := Lib.hid (M7.out.below hb); have R08 := Lib.hid (R07.out.below hb (Nat.le_trans S4.out (Nat.le_trans S5.out (Nat.le_trans S6.out S7.out)))); have S8 : Hid (w7.heap.size ≤ w8.heap.size) := hb.size; have HB8 : Hid (Below W.heap.size W w8) := HB7.out.trans (hb.mono (by omega)); have hz8 : W.heap.size < w8.heap.size := (by have := hb.size; omega); clear hb)
    go_wp2_with (go_at_call 40; refine (toGoto_any _ _ _ _).mono ?_; rintro e w9 ⟨rfl, hb⟩; have M9 := Lib.hid (M8.out.below (hb.mono S8.out)); have R09 := Lib.hid (R08.out.below hb (Nat.le_trans S4.out (Nat.le_trans S5.out (Nat.le_trans S6.out (Nat.le_trans S7.out S8.out))))); have S9 : Hid (w8.heap.size ≤ w9.heap.size) := hb.size; have HB9 : Hid (Below W.heap.size W w9) := HB8.out.trans (hb.mono (by omega)); clear hb)
    go_wp2_with (go_at_call 45; refine (HIm.out _ (HT.out.below HB9.out HG.out)).mono ?_; rintro e w10 ⟨A2, q2, rfl, hr, hb⟩; have R2 := Lib.hid hr; have M10 := Lib.hid (M9.out.below (hb.mono (Nat.le_trans S8.out S9.out))); have R010 := Lib.hid (R09.out.below hb (Nat.le_trans S4.out (Nat.le_trans S5.out (Nat.le_trans S6.out (Nat.le_trans S7.out (Nat.le_trans S8.out S9.out)))))); have S10 : Hid (w9.heap.size ≤ w10.heap.size) := hb.size; have HB10 : Hid (Below W.heap.size W w10) := HB9.out.trans (hb.mono HB9.out.size); clear hb hr)
    go_wp2_with (go_at_call 46; refine (eq_rowsO _ _ R2.out R010.out (Nat.le_refl _) (Nat.le_trans S4.out (Nat.le_trans S5.out (Nat.le_trans S6.out (Nat.le_trans S7.out (Nat.le_trans S8.out (Nat.le_trans S9.out S10.out)))))) HN2.out).mono ?_; rintro e w11 ⟨rfl, hb⟩; have M11 := Lib.hid (M10.out.below (hb.mono (Nat.le_trans S8.out (Nat.le_trans S9.out S10.out)))); have S11 : Hid (w10.heap.size ≤ w11.heap.size) := hb.size; have HB11 : Hid (Below W.heap.size W w11) := HB10.out.trans (hb.mono HB10.out.size); clear hb)
    go_wp2_with (go_at_call 48; refine (held_rowO _ M11.out (Nat.le_trans S8.out (Nat.le_trans S9.out (Nat.le_trans S10.out S11.out))) HN.out).mono ?_; rintro e w12 ⟨rfl, hb⟩; have HB12 : Hid (Below W.heap.size W w12) := HB11.out.trans (hb.mono HB11.out.size); clear hb)
    go_ret
    exact ⟨rfl, HB12.out⟩
  · have HH := Lib.hid h
    clear h wa ws wf
    go_enter Tryd.func12, Tryd.ntmps12
    go_wp2_with (go_at_call 38; refine (szGoto_long _ _ _ _ HH.out HA.out HS.out HF.out).mono ?_; rintro e w1 ⟨rfl, hb⟩; have HB1 : Hid (Below W.heap.size W w1) := ((Below.refl _ _).alloc (Nat.le_refl _) _).trans (hb.mono (by simp)); clear hb)
    go_ret
    exact ⟨rfl, HB1.out⟩
end Go.Proofs.YtdfikepfjdoooaaDoor
