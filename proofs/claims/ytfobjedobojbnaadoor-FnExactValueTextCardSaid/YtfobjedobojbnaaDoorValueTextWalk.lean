/- The laws' walks: FnExactValueText. Condition: the table holds what the program's text lays. -/
import Derived.Test.YtfobjedobojbnaaDoorValTxt
import Derived.Test.YtfobjedobojbnaaDoorCards
import Derived.Stop.LaidErr
namespace Go.Proofs.YtfobjedobojbnaaDoor
open Go Go.RowKit

theorem walk_FnExactValueText (k n : Int) (t : ByteArray) (r : Int) (_ : (Lit.int .i64 k).wf = true) (_ : (Lit.int .i64 n).wf = true) (w0 : t.size ≤ maxLen) (_ : (Lit.int .i64 r).wf = true) (W : World) (hL : laidMetH Tryd.prog Rows.fnExactValueTextRow.laid W) (hsh : W.ShapedOpen Tryd.prog) :
    Calls Tryd.prog 9 #[.agg #[.int .i64 k, .int .i64 n, .string t, .int .i64 r]] W fun e w' => e = .returned (.bool true) ∧ Below W.heap.size W w' := by
  obtain ⟨m, hm⟩ := maxLen_cell hsh
  have HM := Lib.hid hm
  have HGM : Hid (3 < W.heap.size) := heap_pos hm
  have h1 : laidMet Tryd.prog [("math/bits.deBruijn32tab", Rows.laid_math_bits_deBruijn32tab), ("math/bits.deBruijn64tab", Rows.laid_math_bits_deBruijn64tab), ("internal/strconv.uint64pow10", Rows.laid_internal_strconv_uint64pow10), ("unicode/utf8.acceptRanges", Rows.laid_unicode_utf8_acceptRanges), ("loop.example/g00873/impl.byteClasses", Rows.laid_loop_example_g00873_impl_byteClasses), ("loop.example/g00873/impl.valueRows", Rows.laid_loop_example_g00873_impl_valueRows), ("unicode/utf8.first", Rows.laid_unicode_utf8_first)] W := hL
  have h3 := h1.tail.tail
  have h5 := h3.tail.tail
  have hP : PowTab W := Lib.tabIs_of_head gPow (by kernel_rfl) Tryd.underlying104 Tryd.underlying91 (by kernel_rfl) (by kernel_rfl) h3
  have hT : Classes W := Lib.tabIs_of_head gClasses (by kernel_rfl) Tryd.underlying68 Tryd.underlying5 (by kernel_rfl) (by kernel_rfl) h5
  have HR : Hid (RowsTab W) := rowsTab_of h5.tail
  have HPT := Lib.hid hP
  have HG2 : Hid (2 < W.heap.size) := heap_pos (hP.cell gPow 0 (by decide))
  have HT := Lib.hid hT
  have HG : Hid (1 < W.heap.size) := heap_pos (hT.at_ 0 (by decide))
  clear hL hT h1 h3 h5 hP hm hsh
  have HS : Hid (t.size ≤ maxLen) := w0
  unfold maxLen at w0
  obtain ⟨p, hp⟩ : ∃ p, textV k n t r = p := ⟨_, rfl⟩
  have HP := Lib.hid hp
  clear hp
  by_cases h : (t.size : Int) ≤ 1048576
  · go_enter Tryd.func9, Tryd.ntmps9
    go_wp2_with (go_at_call 11; refine (szValue_fits _ _ _ _ _ _ h (by omega)).mono ?_; rintro e w1 ⟨rfl, hb⟩; obtain ⟨hc, hf⟩ := bcell hb; have HB1 : Hid (Below W.heap.size W w1) := ((Below.refl _ _).alloc (Nat.le_refl _) _).trans (hb.mono (by simp)); have hz1 : W.heap.size < w1.heap.size := (by have := hb.size; simp at this; omega); clear hb)
    go_wp2_with (go_at_call 13; refine (toValue_any _ _ _ _ _).mono ?_; rintro e w2 ⟨rfl, hb⟩; obtain ⟨hc2, hf2⟩ := bcell hb; have HB2 : Hid (Below W.heap.size W w2) := HB1.out.trans (hb.mono (by omega)); have hz2 : W.heap.size < w2.heap.size := (by have := hb.size; omega); clear hb)
    go_wp2_with (go_at_call 26; refine (spec_ValueText_any _ _ _ _ _ (by have := h; omega)).mono ?_; rintro e w3 ⟨rfl, hb⟩; rw [HP.out]; obtain ⟨hc3, hf3⟩ := bcell hb; have HB3 : Hid (Below W.heap.size W w3) := HB2.out.trans (hb.mono (by omega)); have hz3 : W.heap.size < w3.heap.size := (by have := hb.size; omega); clear hb)
    go_wp2_with (go_at_call 13; refine (toValue_any _ _ _ _ _).mono ?_; rintro e w4 ⟨rfl, hb⟩; have HB4 : Hid (Below W.heap.size W w4) := HB3.out.trans (hb.mono (by omega)); clear hb)
    go_wp2_with (go_at_call 27; refine (impl_ValueText_any _ _ _ _ _ _ (by have := h; omega) (HT.out.below HB4.out HG.out) (HR.out.below HB4.out HR.out.lt) (var?_below HB4.out gPow HG2.out HPT.out) (Nat.lt_of_lt_of_le HG2.out HB4.out.size) ((HB4.out.cell (p := ⟨3, 0, none⟩) HGM.out).trans HM.out)).mono ?_; rintro e w5 ⟨rfl, hb⟩; rw [HP.out]; have HB5 : Hid (Below W.heap.size W w5) := HB4.out.trans (hb.mono HB4.out.size); clear hb)
    all_goals go_ret
    all_goals exact ⟨rfl, HB5.out⟩
  · have h' : 1048576 < (t.size : Int) := by omega
    clear h
    go_enter Tryd.func9, Tryd.ntmps9
    go_wp2_with (go_at_call 11; refine (szValue_long _ _ _ _ _ _ h' (by decide) (by decide) HS.out).mono ?_; rintro e w1 ⟨rfl, hb⟩; have HB1 : Hid (Below W.heap.size W w1) := ((Below.refl _ _).alloc (Nat.le_refl _) _).trans (hb.mono (by simp)); clear hb)
    go_ret
    exact ⟨rfl, HB1.out⟩
end Go.Proofs.YtfobjedobojbnaaDoor
