/- The law's walk: FnExactValidIns. Condition: the tables hold what the program's text lays. -/
import Derived.Test.YtjeiiljdhnmofaaDoorInsImpl
import Derived.Test.YtjeiiljdhnmofaaDoorInsSpec
import Derived.Test.YtjeiiljdhnmofaaDoorCards
import Derived.Stop.LaidErr
namespace Go.Proofs.YtjeiiljdhnmofaaDoor
open Go Go.RowKit

set_option maxHeartbeats 4000000 in
set_option maxRecDepth 100000 in
theorem walk_FnExactValidIns (x : Pi) (W : World) (ht : x.text_.size ≤ maxLen) (hL : laidMetH Tryd.prog Rows.fnExactValidInsRow.laid W) :
    Calls Tryd.prog 4 #[x.ag] W fun e w' => e = .returned (.bool true) ∧ Below W.heap.size W w' := by
  have h1 : laidMet Tryd.prog [("loop.example/g00873/impl.byteClasses", Rows.laid_loop_example_g00873_impl_byteClasses), ("loop.example/g00873/impl.patternForms", Rows.laid_loop_example_g00873_impl_patternForms), ("loop.example/g00873/impl.controlForms", Rows.laid_loop_example_g00873_impl_controlForms)] W := hL
  have hT : Classes W := Lib.tabIs_of_head (rest := [("loop.example/g00873/impl.patternForms", Rows.laid_loop_example_g00873_impl_patternForms), ("loop.example/g00873/impl.controlForms", Rows.laid_loop_example_g00873_impl_controlForms)]) gClasses (by kernel_rfl) Tryd.underlying112 Tryd.underlying5 (by kernel_rfl) (by kernel_rfl) h1
  have HT := Lib.hid hT
  have HFM : Hid (Forms W) := forms_of h1.tail
  have HCM : Hid (Cforms W) := cforms_of h1.tail.tail
  clear hL hT h1
  obtain ⟨op, n, t⟩ := x
  change t.size ≤ maxLen at ht
  have HS := Lib.hid ht
  have HZ := Lib.hid (fun w => szPatternIns_any ⟨op, n, t⟩ 1048576 w (by decide) (by decide) ht)
  have HC := Lib.hid (fun X (e : X = W.alloc (.cells #[.int .i64 op, .int .i64 n, .string t] 34)) => (show RW 34 X W.heap.size #[.int .i64 op, .int .i64 n, .string t] ∧ Below W.heap.size W X ∧ W.heap.size < X.heap.size from by rw [e]; exact ⟨RW.new _ _ _, below_alloc _ _, lt_alloc _ _⟩))
  have HTO := Lib.hid (fun w => toPatternIns_any ⟨op, n, t⟩ w)
  clear ht
  show Calls Tryd.prog 4 #[.agg #[.int .i64 op, .int .i64 n, .string t]] W _
  by_cases c1 : (szPi1 ⟨op, n, t⟩ : Int) ≤ 1048576
  · have C1 := Lib.hid c1
    clear c1
    obtain ⟨P, hP⟩ : ∃ P, insOk op n t = P := ⟨_, rfl⟩
    have HP := Lib.hid hP
    clear hP
    have tk1 : True := trivial
    go_enter Tryd.func4, Tryd.ntmps4
    go_wp2_with (first
      | (go_at_call 15; obtain ⟨g0, g1, g2⟩ := HC.out _ rfl; refine Calls.mono (HZ.out _) ?_; intro e w1 h; obtain ⟨z1, rfl, hz1, l1, u1, hb⟩ := h.fits C1.out (by decide); have d1 : decide (z1 < 0) = false := (by simp; omega); have HR1 := Lib.hid (g0.below hb g2); have HB1 := Lib.hid (g1.trans (hb.mono g1.size)); have p0 : w1.cell? ⟨W.heap.size, 0, none⟩ = some (.int .i64 op) := HR1.out.cell 0; have p1 : w1.cell? ⟨W.heap.size, 1, none⟩ = some (.int .i64 n) := HR1.out.cell 1; have p2 : w1.cell? ⟨W.heap.size, 2, none⟩ = some (.string t) := HR1.out.cell 2; clear g0 g1 g2 h hb hz1 HC HZ)
      | (go_at_call 17; have tk := tk1; refine Calls.mono (HTO.out _) ?_; rintro e w2 ⟨he, hb⟩; obtain rfl : e = .returned (.agg #[.int .i64 op, .int .i64 n, .string t]) := he; have HR2 := Lib.hid (HR1.out.below hb HR1.out.lt); have HB2 := Lib.hid (HB1.out.trans (hb.mono HB1.out.size)); clear p0 p1 p2 tk tk1 hb)
      | (go_at_call 16; refine Calls.mono (spec_ValidIns_any op n t _ HS.out) ?_; rintro e w3 ⟨rfl, hb⟩; rw [HP.out]; have HR3 := Lib.hid (HR2.out.below hb HR2.out.lt); have HB3 := Lib.hid (HB2.out.trans (hb.mono HB2.out.size)); have p0 : w3.cell? ⟨W.heap.size, 0, none⟩ = some (.int .i64 op) := HR3.out.cell 0; have p1 : w3.cell? ⟨W.heap.size, 1, none⟩ = some (.int .i64 n) := HR3.out.cell 1; have p2 : w3.cell? ⟨W.heap.size, 2, none⟩ = some (.string t) := HR3.out.cell 2; clear hb)
      | (go_at_call 17; refine Calls.mono (HTO.out _) ?_; rintro e w4 ⟨he, hb⟩; obtain rfl : e = .returned (.agg #[.int .i64 op, .int .i64 n, .string t]) := he; have HB4 := Lib.hid (HB3.out.trans (hb.mono HB3.out.size)); clear p0 p1 p2 hb)
      | (go_at_call 18; refine Calls.mono (impl_ValidIns_any op n t _ HS.out (classes_go HT.out HB4.out) (HFM.out.go HB4.out) (HCM.out.go HB4.out)) ?_; rintro e w5 ⟨rfl, hb⟩; rw [HP.out]; have HB5 := Lib.hid (HB4.out.trans (hb.mono HB4.out.size)); clear hb))
    cases P
    all_goals
      go_wp2_with fail
      go_ret
      exact ⟨rfl, HB5.out⟩
  · have C1 := Lib.hid c1
    clear c1
    go_enter Tryd.func4, Tryd.ntmps4
    go_wp2_with (go_at_call 15; obtain ⟨g0, g1, g2⟩ := HC.out _ rfl; refine Calls.mono (HZ.out _) ?_; intro e w1 h; obtain ⟨rfl, hb⟩ := h.long C1.out; have HB1 := Lib.hid (g1.trans (hb.mono g1.size)); clear g0 g1 g2 h hb HC)
    go_ret
    exact ⟨rfl, HB1.out⟩
end Go.Proofs.YtjeiiljdhnmofaaDoor
