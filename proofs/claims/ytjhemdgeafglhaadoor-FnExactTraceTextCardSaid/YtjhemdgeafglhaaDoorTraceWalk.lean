/- The law's walk: FnExactTraceText. Conditions: the tables hold what the program's text lays; the world's shape. -/
import Derived.Test.YtjhemdgeafglhaaDoorTrace
import Derived.Test.YtjhemdgeafglhaaDoorValSz
import Derived.Test.YtjhemdgeafglhaaDoorCards
import Derived.Stop.LaidErr
namespace Go.Proofs.YtjhemdgeafglhaaDoor
open Go Go.RowKit

set_option maxHeartbeats 1000000 in
theorem walk_FnExactTraceText (ka : Int) (_ : (Lit.int .i64 ka).wf = true) (st : Int) (_ : (Lit.int .i64 st).wf = true) (nm : ByteArray) (wn : nm.size ≤ maxLen) (k n : Int) (t : ByteArray) (r : Int) (_ : (Lit.int .i64 k).wf = true) (_ : (Lit.int .i64 n).wf = true) (w0 : t.size ≤ maxLen) (_ : (Lit.int .i64 r).wf = true) (W : World) (hL : laidMetH Tryd.prog Rows.fnExactTraceTextRow.laid W) (hsh : W.ShapedOpen Tryd.prog) :
    Calls Tryd.prog 4 #[.int .i64 ka, .int .i64 st, .string nm, .agg #[.int .i64 k, .int .i64 n, .string t, .int .i64 r]] W fun e w' => e = .returned (.bool true) ∧ Below W.heap.size W w' := by
  obtain ⟨m, hm⟩ := maxLen_cell hsh
  have h1 : laidMet Tryd.prog [("math/bits.deBruijn32tab", Rows.laid_math_bits_deBruijn32tab), ("math/bits.deBruijn64tab", Rows.laid_math_bits_deBruijn64tab), ("internal/strconv.uint64pow10", Rows.laid_internal_strconv_uint64pow10), ("unicode/utf8.acceptRanges", Rows.laid_unicode_utf8_acceptRanges), ("loop.example/g00873/impl.byteClasses", Rows.laid_loop_example_g00873_impl_byteClasses), ("loop.example/g00873/impl.valueRows", Rows.laid_loop_example_g00873_impl_valueRows), ("loop.example/g00873/impl.traceWords", Rows.laid_loop_example_g00873_impl_traceWords), ("unicode/utf8.first", Rows.laid_unicode_utf8_first)] W := hL
  have h3 := h1.tail.tail
  have h5 := h3.tail.tail
  have hP : PowTab W := Lib.tabIs_of_head gPow (by kernel_rfl) Tryd.underlying106 Tryd.underlying97 (by kernel_rfl) (by kernel_rfl) h3
  have hT : Classes W := Lib.tabIs_of_head gClasses (by kernel_rfl) Tryd.underlying95 Tryd.underlying5 (by kernel_rfl) (by kernel_rfl) h5
  have HT : Hid (TraceTabs m W) := ⟨hT, rowsTab_of h5.tail, hP, heap_pos (hP.cell gPow 0 (by decide)), hm, wordsTab_of h5.tail.tail⟩
  clear hL hT h1 h3 h5 hP hm hsh
  have HS : Hid (t.size ≤ maxLen) := w0
  unfold maxLen at w0 wn
  obtain ⟨p, hp⟩ : ∃ p, traceT ka st nm k n t r = p := ⟨_, rfl⟩
  have HP := Lib.hid hp
  clear hp
  by_cases hn : (nm.size : Int) ≤ 1048576
  rotate_left
  · have d0 : (1048576 : Int) < (nm.size : Int) := by omega
    clear hn
    go_enter Tryd.func4, Tryd.ntmps4
    go_wp2_with fail
    go_ret
    exact ⟨rfl, (Below.refl _ _).alloc (Nat.le_refl _) _⟩
  have d0 : ¬ (1048576 : Int) < (nm.size : Int) := by omega
  have HNM : Hid (nm.size ≤ 1048576) := by show _ ≤ _; omega
  clear hn
  by_cases h : (t.size : Int) ≤ 1048576
  · go_enter Tryd.func4, Tryd.ntmps4
    go_wp2_with (go_at_call 8; refine (szValue_fits _ _ _ _ _ _ h (by omega)).mono ?_; rintro e w1 ⟨rfl, hb⟩; obtain ⟨hc, hf⟩ := bcell hb; have HB1 : Hid (Below W.heap.size W w1) := ((Below.refl _ _).alloc (Nat.le_refl _) _).trans (hb.mono (by simp)); have hz1 : W.heap.size < w1.heap.size := (by have := hb.size; simp at this; omega); clear hb)
    go_wp2_with (go_at_call 10; refine (toValue_any _ _ _ _ _).mono ?_; rintro e w2 ⟨rfl, hb⟩; obtain ⟨hc2, hf2⟩ := bcell hb; have HB2 : Hid (Below W.heap.size W w2) := HB1.out.trans (hb.mono (by omega)); have hz2 : W.heap.size < w2.heap.size := (by have := hb.size; omega); clear hb)
    go_wp2_with (go_at_call 12; refine (spec_TraceText_any _ _ _ _ _ _ _ _ HNM.out (by have := h; omega)).mono ?_; rintro e w3 ⟨rfl, hb⟩; rw [HP.out]; obtain ⟨hc3, hf3⟩ := bcell hb; have HB3 : Hid (Below W.heap.size W w3) := HB2.out.trans (hb.mono (by omega)); have hz3 : W.heap.size < w3.heap.size := (by have := hb.size; omega); clear hb)
    go_wp2_with (go_at_call 10; refine (toValue_any _ _ _ _ _).mono ?_; rintro e w4 ⟨rfl, hb⟩; have HB4 : Hid (Below W.heap.size W w4) := HB3.out.trans (hb.mono (by omega)); clear hb)
    go_wp2_with (go_at_call 13; refine (impl_TraceText_any m _ _ _ _ _ _ _ _ HNM.out (by have := h; omega) (HT.out.go HB4.out)).mono ?_; rintro e w5 ⟨rfl, hb⟩; rw [HP.out]; have HB5 : Hid (Below W.heap.size W w5) := HB4.out.trans (hb.mono HB4.out.size); clear hb)
    all_goals go_ret
    all_goals exact ⟨rfl, HB5.out⟩
  · have h' : 1048576 < (t.size : Int) := by omega
    clear h
    go_enter Tryd.func4, Tryd.ntmps4
    go_wp2_with (go_at_call 8; refine (szValue_long _ _ _ _ _ _ h' (by decide) (by decide) HS.out).mono ?_; rintro e w1 ⟨rfl, hb⟩; have HB1 : Hid (Below W.heap.size W w1) := ((Below.refl _ _).alloc (Nat.le_refl _) _).trans (hb.mono (by simp)); clear hb)
    go_ret
    exact ⟨rfl, HB1.out⟩
end Go.Proofs.YtjhemdgeafglhaaDoor
