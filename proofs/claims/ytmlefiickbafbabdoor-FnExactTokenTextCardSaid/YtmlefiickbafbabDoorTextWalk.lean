/- The law's walk: FnExactTokenText. Condition: the tables hold what the program's text lays. -/
import Derived.Test.YtmlefiickbafbabDoorText
namespace Go.Proofs.YtmlefiickbafbabDoor
open Go Go.RowKit

theorem text_tabs {W : World} (hL : laidMetH Tryd.prog Rows.fnExactTokenTextRow.laid W) : Classes W ∧ PowTab W := by
  have h1 : laidMet Tryd.prog [("math/bits.deBruijn32tab", Rows.laid_math_bits_deBruijn32tab), ("math/bits.deBruijn64tab", Rows.laid_math_bits_deBruijn64tab), ("internal/strconv.uint64pow10", Rows.laid_internal_strconv_uint64pow10), ("loop.example/g00873/impl.byteClasses", Rows.laid_loop_example_g00873_impl_byteClasses)] W := hL
  have h2 := h1.tail.tail
  exact ⟨Lib.tabIs_of_head (rest := []) gClasses (by kernel_rfl) Tryd.underlying74 Tryd.underlying5 (by kernel_rfl) (by kernel_rfl) h2.tail,
    Lib.tabIs_of_head gPow (by kernel_rfl) Tryd.underlying100 Tryd.underlying87 (by kernel_rfl) (by kernel_rfl) h2⟩

theorem walk_FnExactTokenText (k n : Int) (t : ByteArray) (b a : Bool) (w0 : t.size ≤ maxLen) (W : World) (hL : laidMetH Tryd.prog Rows.fnExactTokenTextRow.laid W) :
    Calls Tryd.prog 5 #[.agg #[.int .i64 k, .int .i64 n, .string t, .bool b, .bool a]] W fun e w' => e = .returned (.bool true) ∧ Below W.heap.size W w' := by
  obtain ⟨hT, hP⟩ := text_tabs hL
  have HPT := Lib.hid hP
  have HG2 : Hid (1 < W.heap.size) := heap_pos (hP.cell gPow 0 (by decide))
  clear hP
  have HT := Lib.hid hT
  have HG : Hid (0 < W.heap.size) := heap_pos (hT.at_ 0 (by decide))
  clear hL hT
  have HS : Hid (t.size ≤ maxLen) := w0
  unfold maxLen at w0
  obtain ⟨p, hp⟩ : ∃ p, tokText k n t = p := ⟨_, rfl⟩
  have HP := Lib.hid hp
  clear hp
  by_cases h : (t.size : Int) ≤ 1048576
  · go_enter Tryd.func5, Tryd.ntmps5
    go_wp2_with (go_at_call 13; refine (szToken_fits _ _ _ _ _ _ h).mono ?_; rintro e w1 ⟨rfl, hb⟩; obtain ⟨hc, hf⟩ := bcell hb; have HB1 : Hid (Below W.heap.size W w1) := ((Below.refl _ _).alloc (Nat.le_refl _) _).trans (hb.mono (by simp)); have hz1 : W.heap.size < w1.heap.size := (by have := hb.size; simp at this; omega); clear hb)
    go_wp2_with (go_at_call 15; refine (toToken_any _ _ _ _ _ _).mono ?_; rintro e w2 ⟨rfl, hb⟩; obtain ⟨hc2, hf2⟩ := bcell hb; have HB2 : Hid (Below W.heap.size W w2) := HB1.out.trans (hb.mono (by omega)); have hz2 : W.heap.size < w2.heap.size := (by have := hb.size; omega); clear hb)
    go_wp2_with (go_at_call 17; refine (spec_TokenText_any _ _ _ _ _ _ HS.out).mono ?_; rintro e w3 ⟨rfl, hb⟩; rw [HP.out]; obtain ⟨hc3, hf3⟩ := bcell hb; have HB3 : Hid (Below W.heap.size W w3) := HB2.out.trans (hb.mono (by omega)); have hz3 : W.heap.size < w3.heap.size := (by have := hb.size; omega); clear hb)
    go_wp2_with (go_at_call 15; refine (toToken_any _ _ _ _ _ _).mono ?_; rintro e w4 ⟨rfl, hb⟩; have HB4 : Hid (Below W.heap.size W w4) := HB3.out.trans (hb.mono (by omega)); clear hb)
    go_wp2_with (go_at_call 18; refine (impl_TokenText_any _ _ _ _ _ _ HS.out (HT.out.below HB4.out HG.out) (var?_below HB4.out gPow HG2.out HPT.out) (Nat.lt_of_lt_of_le HG2.out HB4.out.size)).mono ?_; rintro e w5 ⟨rfl, hb⟩; rw [HP.out]; have HB5 : Hid (Below W.heap.size W w5) := HB4.out.trans (hb.mono HB4.out.size); clear hb)
    all_goals go_ret
    all_goals exact ⟨rfl, HB5.out⟩
  · have h' : 1048576 < (t.size : Int) := by omega
    have hm : (t.size : Int) ≤ 9223372036854775807 := by omega
    clear h
    go_enter Tryd.func5, Tryd.ntmps5
    go_wp2_with (go_at_call 13; refine (szToken_long _ _ _ _ _ _ h' hm).mono ?_; rintro e w1 ⟨rfl, hb⟩; have HB1 : Hid (Below W.heap.size W w1) := ((Below.refl _ _).alloc (Nat.le_refl _) _).trans (hb.mono (by simp)); clear hb)
    go_ret
    exact ⟨rfl, HB1.out⟩
end Go.Proofs.YtmlefiickbafbabDoor
