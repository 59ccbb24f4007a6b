/- The law's walk: FnExactCaptureText. Condition: the tables hold what the program's text lays. -/
import Derived.Test.YtdlhoakcpdaboaaDoorCapT
import Derived.Test.YtdlhoakcpdaboaaDoorCards
import Derived.Stop.LaidErr
import Derived.OpenShut
namespace Go.Proofs.YtdlhoakcpdaboaaDoor
open Go Go.RowKit

theorem heap_lt {W : World} {p : Addr} {v : Value} (h : W.cell? p = some v) : p.block < W.heap.size := by
  rcases Nat.lt_or_ge p.block W.heap.size with hl | hl
  · exact hl
  · simp [World.cell?, Array.getElem?_eq_none hl] at h

set_option maxHeartbeats 4000000 in
set_option maxRecDepth 100000 in
theorem walk_FnExactCaptureText (x : Cp) (W : World) (hsz : x.name_.size ≤ maxLen ∧ x.text_.size ≤ maxLen ∧ (Lit.int .i64 x.cursor_).wf = true ∧ (Lit.int .i64 x.kind_).wf = true) (hL : laidMetH Tryd.prog Rows.fnExactCaptureTextRow.laid W) (hsh : W.ShapedOpen Tryd.prog) :
    Calls Tryd.prog 3 #[x.ag] W fun e w' => e = .returned (.bool true) ∧ Below W.heap.size W w' := by
  obtain ⟨m, hm⟩ := maxLen_cell hsh
  have HM := Lib.hid hm
  have HGM : Hid (3 < W.heap.size) := heap_lt hm
  have h1 : laidMet Tryd.prog [("math/bits.deBruijn32tab", Rows.laid_math_bits_deBruijn32tab), ("math/bits.deBruijn64tab", Rows.laid_math_bits_deBruijn64tab), ("internal/strconv.uint64pow10", Rows.laid_internal_strconv_uint64pow10), ("unicode/utf8.acceptRanges", Rows.laid_unicode_utf8_acceptRanges), ("unicode/utf8.first", Rows.laid_unicode_utf8_first)] W := hL
  have hP : PowTab W := Lib.tabIs_of_head gPow (by kernel_rfl) Tryd.underlying44 Tryd.underlying36 (by kernel_rfl) (by kernel_rfl) h1.tail.tail
  have HPT := Lib.hid hP
  have HGP : Hid (0 < W.heap.size) := heap_lt (hP.cell gPow 0 (by decide))
  clear hL h1 hP hm hsh
  obtain ⟨nm, tx, cu, k⟩ := x
  obtain ⟨hn, ht, hwf, _⟩ := hsz
  have hc := bounds_i64 hwf
  dsimp only at hn ht
  have HZ := Lib.hid (fun w => szCapture_any ⟨nm, tx, cu, k⟩ 1048576 w (by decide) (by decide) hn ht)
  have HC := Lib.hid (fun X (e : X = W.alloc (.cells #[.string nm, .string tx, .int .i64 cu, .int .i64 k] 23)) => (show RW 23 X W.heap.size #[.string nm, .string tx, .int .i64 cu, .int .i64 k] ∧ Below W.heap.size W X ∧ W.heap.size < X.heap.size from by rw [e]; exact ⟨RW.new _ _ _, below_alloc _ _, lt_alloc _ _⟩))
  have HTO := Lib.hid (fun w => toCapture_any ⟨nm, tx, cu, k⟩ w)
  have HCU := Lib.hid hc
  clear hn ht hc hwf
  show Calls Tryd.prog 3 #[.agg #[.string nm, .string tx, .int .i64 cu, .int .i64 k]] W _
  by_cases c1 : (szCp1 ⟨nm, tx, cu, k⟩ : Int) ≤ 1048576
  · have C1 := Lib.hid c1
    have HS : Hid (nm.size ≤ 1048576 ∧ tx.size ≤ 1048576) := by unfold szCp1 at c1; dsimp only at c1; exact ⟨by omega, by omega⟩
    clear c1
    obtain ⟨E, hE⟩ : ∃ E, capT nm tx cu k = E := ⟨_, rfl⟩
    have HE := Lib.hid hE
    clear hE
    have tk1 : True := trivial
    go_enter Tryd.func3, Tryd.ntmps3
    go_wp2_with (first
      | (go_at_call 4; obtain ⟨g0, g1, g2⟩ := HC.out _ rfl; refine Calls.mono (HZ.out _) ?_; intro e w1 h; obtain ⟨z1, rfl, hz1, l1, u1, hb⟩ := h.fits C1.out (by decide); have d1 : decide (z1 < 0) = false := (by simp; omega); have HR1 := Lib.hid (g0.below hb g2); have HB1 := Lib.hid (g1.trans (hb.mono g1.size)); have p0 : w1.cell? ⟨W.heap.size, 0, none⟩ = some (.string nm) := HR1.out.cell 0; have p1 : w1.cell? ⟨W.heap.size, 1, none⟩ = some (.string tx) := HR1.out.cell 1; have p2 : w1.cell? ⟨W.heap.size, 2, none⟩ = some (.int .i64 cu) := HR1.out.cell 2; have p3 : w1.cell? ⟨W.heap.size, 3, none⟩ = some (.int .i64 k) := HR1.out.cell 3; clear g0 g1 g2 h hb hz1 HC)
      | (go_at_call 6; have tk := tk1; refine Calls.mono (HTO.out _) ?_; rintro e w2 ⟨he, hb⟩; obtain rfl : e = .returned (.agg #[.string nm, .string tx, .int .i64 cu, .int .i64 k]) := he; have HR2 := Lib.hid (HR1.out.below hb HR1.out.lt); have HB2 := Lib.hid (HB1.out.trans (hb.mono HB1.out.size)); clear p0 p1 p2 p3 tk tk1 hb)
      | (go_at_call 5; refine Calls.mono (spec_CaptureText_any nm tx cu k _ HS.out.1 HS.out.2 HCU.out.1 HCU.out.2) ?_; rintro e w3 ⟨rfl, hb⟩; rw [HE.out]; have HR3 := Lib.hid (HR2.out.below hb HR2.out.lt); have HB3 := Lib.hid (HB2.out.trans (hb.mono HB2.out.size)); have p0 : w3.cell? ⟨W.heap.size, 0, none⟩ = some (.string nm) := HR3.out.cell 0; have p1 : w3.cell? ⟨W.heap.size, 1, none⟩ = some (.string tx) := HR3.out.cell 1; have p2 : w3.cell? ⟨W.heap.size, 2, none⟩ = some (.int .i64 cu) := HR3.out.cell 2; have p3 : w3.cell? ⟨W.heap.size, 3, none⟩ = some (.int .i64 k) := HR3.out.cell 3; clear hb)
      | (go_at_call 6; refine Calls.mono (HTO.out _) ?_; rintro e w4 ⟨he, hb⟩; obtain rfl : e = .returned (.agg #[.string nm, .string tx, .int .i64 cu, .int .i64 k]) := he; have HB4 := Lib.hid (HB3.out.trans (hb.mono HB3.out.size)); clear p0 p1 p2 p3 hb)
      | (go_at_call 7; refine Calls.mono (impl_CaptureText_any nm tx cu k _ HS.out.1 HS.out.2 HCU.out.1 HCU.out.2 m ((HB4.out.cell (p := ⟨3, 0, none⟩) HGM.out).trans HM.out) (Nat.lt_of_lt_of_le HGM.out HB4.out.size) (var?_below HB4.out gPow HGP.out HPT.out) (Nat.lt_of_lt_of_le HGP.out HB4.out.size)) ?_; rintro e w5 ⟨rfl, hb⟩; rw [HE.out]; have HB5 := Lib.hid (HB4.out.trans (hb.mono HB4.out.size)); clear hb))
    all_goals
      go_ret
      exact ⟨rfl, HB5.out⟩
  · have C1 := Lib.hid c1
    clear c1
    go_enter Tryd.func3, Tryd.ntmps3
    go_wp2_with (go_at_call 4; obtain ⟨g0, g1, g2⟩ := HC.out _ rfl; refine Calls.mono (HZ.out _) ?_; intro e w1 h; obtain ⟨rfl, hb⟩ := h.long C1.out; have HB1 := Lib.hid (g1.trans (hb.mono g1.size)); clear g0 g1 g2 h hb HC)
    go_ret
    exact ⟨rfl, HB1.out⟩
end Go.Proofs.YtdlhoakcpdaboaaDoor
