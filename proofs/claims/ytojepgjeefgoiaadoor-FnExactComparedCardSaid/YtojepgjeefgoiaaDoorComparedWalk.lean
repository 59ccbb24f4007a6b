/- The law's walk: FnExactCompared. Condition: the tables hold what the program's text lays. -/
import Derived.Test.YtojepgjeefgoiaaDoorCmpI
import Derived.Test.YtojepgjeefgoiaaDoorCards
import Derived.Stop.LaidErr
namespace Go.Proofs.YtojepgjeefgoiaaDoor
open Go Go.RowKit

theorem tabs_cmp {W : World} (hL : laidMetH Tryd.prog Rows.fnExactComparedRow.laid W) : Tabs W := by
  have h1 : laidMet Tryd.prog [("math/bits.deBruijn32tab", Rows.laid_math_bits_deBruijn32tab), ("math/bits.deBruijn64tab", Rows.laid_math_bits_deBruijn64tab), ("internal/strconv.uint64pow10", Rows.laid_internal_strconv_uint64pow10), ("strconv.ErrRange", Rows.laid_strconv_ErrRange), ("strconv.ErrSyntax", Rows.laid_strconv_ErrSyntax), ("loop.example/g00873/impl.byteClasses", Rows.laid_loop_example_g00873_impl_byteClasses)] W := hL
  have h3 := h1.tail.tail
  have h5 := h3.tail.tail.tail
  have hP : PowTab W := Lib.tabIs_of_head gPow (by kernel_rfl) Tryd.underlying125 Tryd.underlying87 (by kernel_rfl) (by kernel_rfl) h3
  exact ⟨Lib.tabIs_of_head gClasses (by kernel_rfl) Tryd.underlying116 Tryd.underlying5 (by kernel_rfl) (by kernel_rfl) h5, hP, heap_pos (hP.cell gPow 0 (by decide))⟩

set_option maxHeartbeats 4000000 in
set_option maxRecDepth 100000 in
theorem walk_FnExactCompared (op : Int) (_ : (Lit.int .i64 op).wf = true) (k n : Int) (t : ByteArray) (r : Int) (_ : (Lit.int .i64 k).wf = true) (_ : (Lit.int .i64 n).wf = true) (w0 : t.size ≤ maxLen) (_ : (Lit.int .i64 r).wf = true)
    (k' n' : Int) (t' : ByteArray) (r' : Int) (_ : (Lit.int .i64 k').wf = true) (_ : (Lit.int .i64 n').wf = true) (w0' : t'.size ≤ maxLen) (_ : (Lit.int .i64 r').wf = true) (W : World) (hL : laidMetH Tryd.prog Rows.fnExactComparedRow.laid W) :
    Calls Tryd.prog 5 #[.int .i64 op, .agg #[.int .i64 k, .int .i64 n, .string t, .int .i64 r], .agg #[.int .i64 k', .int .i64 n', .string t', .int .i64 r']] W fun e w' => e = .returned (.bool true) ∧ Below W.heap.size W w' := by
  have HT := Lib.hid (tabs_cmp hL)
  clear hL
  obtain ⟨a, rfl, rfl, rfl, rfl⟩ : ∃ a : Va, a.k = k ∧ a.n = n ∧ a.t = t ∧ a.r = r := ⟨⟨k, n, t, r⟩, rfl, rfl, rfl, rfl⟩
  obtain ⟨b, rfl, rfl, rfl, rfl⟩ : ∃ b : Va, b.k = k' ∧ b.n = n' ∧ b.t = t' ∧ b.r = r' := ⟨⟨k', n', t', r'⟩, rfl, rfl, rfl, rfl⟩
  have HS : Hid (a.t.size ≤ maxLen) := w0
  have HS' : Hid (b.t.size ≤ maxLen) := w0'
  unfold maxLen at w0 w0'
  have HV := Lib.hid (L2.new W a b)
  obtain ⟨p, hp⟩ : ∃ p, (cmpV op a b).1 = p := ⟨_, rfl⟩
  obtain ⟨c, hc⟩ : ∃ c, (cmpV op a b).2 = c := ⟨_, rfl⟩
  have HP := Lib.hid hp
  have HQ := Lib.hid hc
  clear hp hc
  by_cases h : (a.t.size : Int) ≤ 1048576
  · by_cases h2 : (b.t.size : Int) ≤ 1048576 - a.t.size
    · have G0 := Lib.hid h
      have HA : Hid (a.t.size ≤ 1048576) := by show _ ≤ _; omega
      have HB : Hid (b.t.size ≤ 1048576) := by show _ ≤ _; omega
      have G2 := Lib.hid h2
      have TKE : True := trivial
      have TKA : True := trivial
      have TKB : True := trivial
      have TKC : True := trivial
      have TKD : True := trivial
      clear h h2
      go_enter Tryd.func5, Tryd.ntmps5
      go_wp2_with (first
        | (go_at_call 8; have tk := TKE; have HH0 := Lib.hid (HV.out _ rfl); refine Calls.mono (szValue_fits a.k a.n a.t a.r 1048576 _ G0.out (by omega)) ?_; clear TKE tk; rintro e w1 ⟨rfl, hb⟩; have HH := Lib.hid (HH0.out.go hb); obtain ⟨⟨x0, x1, x2, x3⟩, ⟨y0, y1, y2, y3⟩, _, _⟩ := HH.out; have h1 := G0.out; clear hb HH0)
        | (go_at_call 8; refine Calls.mono (szValue_fits b.k b.n b.t b.r _ _ G2.out (by omega)) ?_; clear x0 x1 x2 x3 y0 y1 y2 y3; rintro e w2 ⟨rfl, hb⟩; have HH2 := Lib.hid (HH.out.go hb); have h2 := G2.out; clear hb))
      clear HH
      have H0 := Lib.hid (HH2.out.go (Below.refl _ _).drew)
      clear HH2
      go_region_held3 (fun w' => FlatL W a b w')
        (first | exact H0.out.flat | exact S3.out.flat | exact S4.out.flat | exact S5.out.flat | go_keep)
        ((first
          | (go_at_call 10; have tk := TKA; clear tk TKA; refine Calls.mono (toValue_any a.k a.n a.t a.r _) ?_; rintro e w3 ⟨rfl, hb⟩; have S3 := Lib.hid (H0.out.go hb); clear hb)
          | (go_at_call 10; have tk := TKB; clear tk TKB; refine Calls.mono (toValue_any b.k b.n b.t b.r _) ?_; rintro e w4 ⟨rfl, hb⟩; have S4 := Lib.hid (S3.out.go hb); clear hb)
          | (go_at_call 15; refine Calls.mono (spec_Compared_any op a b _ HA.out HB.out) ?_; rintro e w5 ⟨he, hb⟩; rw [HP.out, HQ.out] at he; subst he; have S5 := Lib.hid (S4.out.go hb); clear hb)))
      clear H0 S3 S4
      go_split_ands
      go_wp2_with fail
      have H6 := Lib.hid (S5.out.go (Below.refl _ _).drew)
      clear S5
      go_region_held3 (fun w' => FlatL W a b w')
        (first | exact H6.out.flat | exact S7.out.flat | exact S8.out.flat | exact S9.out.flat | go_keep)
        ((first
          | (go_at_call 10; have tk := TKC; clear tk TKC; refine Calls.mono (toValue_any a.k a.n a.t a.r _) ?_; rintro e w7 ⟨rfl, hb⟩; have S7 := Lib.hid (H6.out.go hb); clear hb)
          | (go_at_call 10; have tk := TKD; clear tk TKD; refine Calls.mono (toValue_any b.k b.n b.t b.r _) ?_; rintro e w8 ⟨rfl, hb⟩; have S8 := Lib.hid (S7.out.go hb); clear hb)
          | (go_at_call 16; refine Calls.mono (impl_Compared_any op a b _ HA.out HB.out (HT.out.go S8.out.2.2.1)) ?_; rintro e w9 ⟨he, hb⟩; rw [HP.out, HQ.out] at he; subst he; have S9 := Lib.hid (S8.out.go hb); clear hb)))
      clear H6 S7 S8
      go_split_ands
      go_wp2_with fail
      all_goals go_ret
      all_goals exact ⟨rfl, S9.out.2.2.1⟩
    · have h3 : (1048576 : Int) - a.t.size < b.t.size := by omega
      have h4 : (0 : Int) ≤ 1048576 - a.t.size := by omega
      have G0 := Lib.hid h
      have G3 := Lib.hid h3
      have G4 := Lib.hid h4
      have TKE : True := trivial
      clear h h2 h3 h4
      go_enter Tryd.func5, Tryd.ntmps5
      go_wp2_with (first
        | (go_at_call 8; have tk := TKE; have HH0 := Lib.hid (HV.out _ rfl); refine Calls.mono (szValue_fits a.k a.n a.t a.r 1048576 _ G0.out (by omega)) ?_; clear TKE tk; rintro e w1 ⟨rfl, hb⟩; have HH := Lib.hid (HH0.out.go hb); obtain ⟨⟨x0, x1, x2, x3⟩, ⟨y0, y1, y2, y3⟩, _, _⟩ := HH.out; have h1 := G0.out; clear hb HH0)
        | (go_at_call 8; refine Calls.mono (szValue_long b.k b.n b.t b.r _ _ G3.out G4.out (by have := G0.out; omega) HS'.out) ?_; clear x0 x1 x2 x3 y0 y1 y2 y3; rintro e w2 ⟨rfl, hb⟩; have HH2 := Lib.hid (HH.out.go hb); clear hb))
      go_ret
      exact ⟨rfl, HH2.out.2.2.1⟩
  · have h' : 1048576 < (a.t.size : Int) := by omega
    clear h
    go_enter Tryd.func5, Tryd.ntmps5
    go_wp2_with (go_at_call 8; refine (szValue_long a.k a.n a.t a.r 1048576 _ h' (by decide) (by decide) HS.out).mono ?_; rintro e w1 ⟨rfl, hb⟩; have HH := Lib.hid ((HV.out _ rfl).go hb); clear hb)
    go_ret
    exact ⟨rfl, HH.out.2.2.1⟩
end Go.Proofs.YtojepgjeefgoiaaDoor
