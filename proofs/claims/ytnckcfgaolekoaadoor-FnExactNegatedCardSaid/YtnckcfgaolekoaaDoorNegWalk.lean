/- The law's walk: FnExactNegated. Condition: the tables hold what the program's text lays. -/
import Derived.Test.YtnckcfgaolekoaaDoorNegI
import Derived.Test.YtnckcfgaolekoaaDoorCards
import Derived.Stop.LaidErr
namespace Go.Proofs.YtnckcfgaolekoaaDoor
open Go Go.RowKit

theorem tabs_neg {W : World} (hL : laidMetH Tryd.prog Rows.fnExactNegatedRow.laid W) : Tabs W := by
  have h1 : laidMet Tryd.prog [("math/bits.deBruijn32tab", Rows.laid_math_bits_deBruijn32tab), ("math/bits.deBruijn64tab", Rows.laid_math_bits_deBruijn64tab), ("internal/strconv.uint64pow10", Rows.laid_internal_strconv_uint64pow10), ("strconv.ErrRange", Rows.laid_strconv_ErrRange), ("strconv.ErrSyntax", Rows.laid_strconv_ErrSyntax), ("loop.example/g00873/impl.byteClasses", Rows.laid_loop_example_g00873_impl_byteClasses)] W := hL
  have h3 := h1.tail.tail
  have h5 := h3.tail.tail.tail
  have hP : PowTab W := Lib.tabIs_of_head gPow (by kernel_rfl) Tryd.underlying95 Tryd.underlying69 (by kernel_rfl) (by kernel_rfl) h3
  exact ⟨Lib.tabIs_of_head gClasses (by kernel_rfl) Tryd.underlying67 Tryd.underlying5 (by kernel_rfl) (by kernel_rfl) h5, hP, heap_pos (hP.cell gPow 0 (by decide))⟩

set_option maxHeartbeats 1000000 in
theorem walk_FnExactNegated (k n : Int) (t : ByteArray) (r : Int) (_ : (Lit.int .i64 k).wf = true) (_ : (Lit.int .i64 n).wf = true) (w0 : t.size ≤ maxLen) (_ : (Lit.int .i64 r).wf = true) (W : World) (hL : laidMetH Tryd.prog Rows.fnExactNegatedRow.laid W) :
    Calls Tryd.prog 3 #[.agg #[.int .i64 k, .int .i64 n, .string t, .int .i64 r]] W fun e w' => e = .returned (.bool true) ∧ Below W.heap.size W w' := by
  have HT := Lib.hid (tabs_neg hL)
  clear hL
  have HS : Hid (t.size ≤ maxLen) := w0
  unfold maxLen at w0
  by_cases h : (t.size : Int) ≤ 1048576
  · obtain ⟨m, b, hy⟩ := tiE_ex k n t r
    obtain ⟨⟨v, c⟩, hv⟩ : ∃ p, negR (validV k n t r) b (validV 2 (wrap64 (-m)) ⟨#[]⟩ 0) (wrap64 (-m)) = p := ⟨_, rfl⟩
    have h2 : t.size ≤ 1048576 := by omega
    have HSP : Hid (∀ w, Calls Tryd.prog 5 #[.agg #[.int .i64 k, .int .i64 n, .string t, .int .i64 r]] w fun e w' => e = .returned (.tuple #[.agg #[.int .i64 v.k, .int .i64 v.n, .string v.t, .int .i64 v.r], .int .i64 c]) ∧ Below w.heap.size w w') := fun w => by
      have h := spec_Negated_any ⟨k, n, t, r⟩ w h2 m b hy
      rw [show negR (Va.ok ⟨k, n, t, r⟩) b (validV 2 (wrap64 (-m)) ⟨#[]⟩ 0) (wrap64 (-m)) = (v, c) from hv] at h
      exact h
    have HIM : Hid (∀ w, Tabs w → Calls Tryd.prog 7 #[.agg #[.int .i64 k, .int .i64 n, .string t, .int .i64 r]] w fun e w' => e = .returned (.tuple #[.agg #[.int .i64 v.k, .int .i64 v.n, .string v.t, .int .i64 v.r], .int .i64 c]) ∧ Below w.heap.size w w') := fun w ht =>
      impl_Negated_any ⟨k, n, t, r⟩ v c w h2 ht m b hy hv
    clear hy hv h2
    go_enter Tryd.func3, Tryd.ntmps3
    go_wp2_with (go_at_call 4; refine (szValue_fits _ _ _ _ _ _ h (by omega)).mono ?_; rintro e w1 ⟨rfl, hb⟩; obtain ⟨hc, hf⟩ := bcell hb; have HB1 : Hid (Below W.heap.size W w1) := ((Below.refl _ _).alloc (Nat.le_refl _) _).trans (hb.mono (by simp)); have hz1 : W.heap.size < w1.heap.size := (by have := hb.size; simp at this; omega); clear hb)
    go_wp2_with (go_at_call 6; refine (toValue_any _ _ _ _ _).mono ?_; rintro e w2 ⟨rfl, hb⟩; obtain ⟨hc2, hf2⟩ := bcell hb; have HB2 : Hid (Below W.heap.size W w2) := HB1.out.trans (hb.mono (by omega)); have hz2 : W.heap.size < w2.heap.size := (by have := hb.size; omega); clear hb)
    go_wp2_with (go_at_call 5; refine (HSP.out _).mono ?_; rintro e w3 ⟨rfl, hb⟩; obtain ⟨hc3, hf3⟩ := bcell hb; have HB3 : Hid (Below W.heap.size W w3) := HB2.out.trans (hb.mono (by omega)); have hz3 : W.heap.size < w3.heap.size := (by have := hb.size; omega); clear hb)
    go_wp2_with (go_at_call 6; refine (toValue_any _ _ _ _ _).mono ?_; rintro e w4 ⟨rfl, hb⟩; obtain ⟨hc4, hf4⟩ := bcell hb; have HB4 : Hid (Below W.heap.size W w4) := (HB3.out.alloc HB3.out.size _).trans (hb.mono (HB3.out.alloc HB3.out.size _).size); have hz4 : w3.heap.size < w4.heap.size := Nat.lt_of_lt_of_le (by simp) hb.size; clear hb)
    go_wp2_with (go_at_call 7; refine (HIM.out _ (HT.out.go HB4.out)).mono ?_; rintro e w5 ⟨rfl, hb⟩; obtain ⟨hc5, hf5⟩ := bcell hb; have HB5 : Hid (Below W.heap.size W w5) := HB4.out.trans (hb.mono HB4.out.size); have hz5 : w3.heap.size < w5.heap.size := Nat.lt_of_lt_of_le hz4 hb.size; clear hb)
    go_wp2_with (go_at_call 8; refine (eqValue_same _ _ _ _ _).mono ?_; rintro e w6 ⟨rfl, hb⟩; have HB6 : Hid (Below W.heap.size W w6) := (HB5.out.alloc HB5.out.size _).trans (hb.mono (HB5.out.alloc HB5.out.size _).size); clear hb)
    all_goals go_ret
    all_goals exact ⟨rfl, HB6.out⟩
  · have h' : 1048576 < (t.size : Int) := by omega
    clear h
    go_enter Tryd.func3, Tryd.ntmps3
    go_wp2_with (go_at_call 4; refine (szValue_long _ _ _ _ _ _ h' (by decide) (by decide) HS.out).mono ?_; rintro e w1 ⟨rfl, hb⟩; have HB1 : Hid (Below W.heap.size W w1) := ((Below.refl _ _).alloc (Nat.le_refl _) _).trans (hb.mono (by simp)); clear hb)
    go_ret
    exact ⟨rfl, HB1.out⟩
end Go.Proofs.YtnckcfgaolekoaaDoor
