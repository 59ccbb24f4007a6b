/- The law's walk: FnExactToInteger. Condition: the tables hold what the program's text lays. -/
import Derived.Test.YtgagijddbokfhaaDoorToInt2
import Derived.Test.YtgagijddbokfhaaDoorCards
import Derived.Stop.LaidErr
namespace Go.Proofs.YtgagijddbokfhaaDoor
open Go Go.RowKit

theorem tabs_six {W : World} (hL : laidMetH Tryd.prog Rows.fnExactToIntegerRow.laid W) : Tabs W := by
  have h1 : laidMet Tryd.prog [("math/bits.deBruijn32tab", Rows.laid_math_bits_deBruijn32tab), ("math/bits.deBruijn64tab", Rows.laid_math_bits_deBruijn64tab), ("internal/strconv.uint64pow10", Rows.laid_internal_strconv_uint64pow10), ("strconv.ErrRange", Rows.laid_strconv_ErrRange), ("strconv.ErrSyntax", Rows.laid_strconv_ErrSyntax), ("loop.example/g00873/impl.byteClasses", Rows.laid_loop_example_g00873_impl_byteClasses)] W := hL
  have h3 := h1.tail.tail
  have h5 := h3.tail.tail.tail
  have hP : PowTab W := Lib.tabIs_of_head gPow (by kernel_rfl) Tryd.underlying119 Tryd.underlying96 (by kernel_rfl) (by kernel_rfl) h3
  exact ⟨Lib.tabIs_of_head gClasses (by kernel_rfl) Tryd.underlying116 Tryd.underlying5 (by kernel_rfl) (by kernel_rfl) h5, hP, heap_pos (hP.cell gPow 0 (by decide))⟩

set_option maxHeartbeats 1000000 in
theorem walk_FnExactToInteger (k n : Int) (t : ByteArray) (r : Int) (_ : (Lit.int .i64 k).wf = true) (_ : (Lit.int .i64 n).wf = true) (w0 : t.size ≤ maxLen) (_ : (Lit.int .i64 r).wf = true) (W : World) (hL : laidMetH Tryd.prog Rows.fnExactToIntegerRow.laid W) :
    Calls Tryd.prog 4 #[.agg #[.int .i64 k, .int .i64 n, .string t, .int .i64 r]] W fun e w' => e = .returned (.bool true) ∧ Below W.heap.size W w' := by
  have HT := Lib.hid (tabs_six hL)
  clear hL
  have HS : Hid (t.size ≤ maxLen) := w0
  unfold maxLen at w0
  obtain ⟨p, q, hp⟩ := tiE_ex k n t r
  have HP := Lib.hid hp
  clear hp
  by_cases h : (t.size : Int) ≤ 1048576
  · go_enter Tryd.func4, Tryd.ntmps4
    go_wp2_with (go_at_call 10; refine (szValue_fits _ _ _ _ _ _ h (by omega)).mono ?_; rintro e w1 ⟨rfl, hb⟩; obtain ⟨hc, hf⟩ := bcell hb; have HB1 : Hid (Below W.heap.size W w1) := ((Below.refl _ _).alloc (Nat.le_refl _) _).trans (hb.mono (by simp)); have hz1 : W.heap.size < w1.heap.size := (by have := hb.size; simp at this; omega); clear hb)
    go_wp2_with (go_at_call 12; refine (toValue_any _ _ _ _ _).mono ?_; rintro e w2 ⟨rfl, hb⟩; obtain ⟨hc2, hf2⟩ := bcell hb; have HB2 : Hid (Below W.heap.size W w2) := HB1.out.trans (hb.mono (by omega)); have hz2 : W.heap.size < w2.heap.size := (by have := hb.size; omega); clear hb)
    go_wp2_with (go_at_call 14; refine (spec_ToInteger_any _ _ _ _ _ (by have := h; omega)).mono ?_; rintro e w3 ⟨he, hb⟩; rw [HP.out] at he; subst he; obtain ⟨hc3, hf3⟩ := bcell hb; have HB3 : Hid (Below W.heap.size W w3) := HB2.out.trans (hb.mono (by omega)); have hz3 : W.heap.size < w3.heap.size := (by have := hb.size; omega); clear hb)
    go_wp2_with (go_at_call 12; refine (toValue_any _ _ _ _ _).mono ?_; rintro e w4 ⟨rfl, hb⟩; have HB4 : Hid (Below W.heap.size W w4) := HB3.out.trans (hb.mono (by omega)); clear hb)
    go_wp2_with (go_at_call 15; refine (impl_ToInteger_any _ _ _ _ _ (by have := h; omega) (HT.out.go HB4.out)).mono ?_; rintro e w5 ⟨he, hb⟩; rw [HP.out] at he; subst he; have HB5 : Hid (Below W.heap.size W w5) := HB4.out.trans (hb.mono HB4.out.size); clear hb)
    all_goals go_ret
    all_goals exact ⟨rfl, HB5.out⟩
  · have h' : 1048576 < (t.size : Int) := by omega
    clear h
    go_enter Tryd.func4, Tryd.ntmps4
    go_wp2_with (go_at_call 10; refine (szValue_long _ _ _ _ _ _ h' (by decide) (by decide) HS.out).mono ?_; rintro e w1 ⟨rfl, hb⟩; have HB1 : Hid (Below W.heap.size W w1) := ((Below.refl _ _).alloc (Nat.le_refl _) _).trans (hb.mono (by simp)); clear hb)
    go_ret
    exact ⟨rfl, HB1.out⟩
end Go.Proofs.YtgagijddbokfhaaDoor
