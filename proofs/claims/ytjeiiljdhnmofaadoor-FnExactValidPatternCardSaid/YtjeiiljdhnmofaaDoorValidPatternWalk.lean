/- The law's walk: FnExactValidPattern. Condition: the table holds what the program's text lays. -/
import Derived.Test.YtjeiiljdhnmofaaDoorPtValP
import Derived.Test.YtjeiiljdhnmofaaDoorPtValS
import Derived.Test.YtjeiiljdhnmofaaDoorPtsEq
import Derived.Test.YtjeiiljdhnmofaaDoorPtLaw
import Derived.Test.YtjeiiljdhnmofaaDoorCards
import Derived.Stop.LaidErr
namespace Go.Proofs.YtjeiiljdhnmofaaDoor
open Go Go.RowKit

set_option maxHeartbeats 4000000 in
set_option maxRecDepth 100000 in
theorem walk_FnExactValidPattern (d : Nat) (x : Pt) (A : Option Addr) (n c : Nat) (W : World) (ha : PtV W 0 W.heap.size d x A n) (hL : laidMetH Tryd.prog Rows.fnExactValidPatternRow.laid W) :
    Calls Tryd.prog 3 #[x.ag A n c] W fun e w' => e = .returned (.bool true) ∧ Below W.heap.size W w' := by
  have h1 : laidMet Tryd.prog [("loop.example/g00873/impl.byteClasses", Rows.laid_loop_example_g00873_impl_byteClasses), ("loop.example/g00873/impl.patternForms", Rows.laid_loop_example_g00873_impl_patternForms)] W := hL
  have hT : Classes W := Lib.tabIs_of_head (rest := [("loop.example/g00873/impl.patternForms", Rows.laid_loop_example_g00873_impl_patternForms)]) gClasses (by kernel_rfl) Tryd.underlying112 Tryd.underlying5 (by kernel_rfl) (by kernel_rfl) h1
  have hF : Forms W := forms_of h1.tail
  have HT := Lib.hid hT
  have HFM := Lib.hid hF
  clear hL hT hF h1
  obtain ⟨k, m, t, ks⟩ := x
  have HA := Lib.hid ha
  have HC := Lib.hid (fun X (e : X = W.alloc (.cells #[.int .i64 k, .int .i64 m, .string t, .slice A n c] 24)) => (show LawP W k m t A n c X from by rw [e]; exact ⟨RW.new _ _ _, below_alloc _ _⟩))
  clear ha
  show Calls Tryd.prog 3 #[.agg #[.int .i64 k, .int .i64 m, .string t, .slice A n c]] W _
  by_cases c1 : (ptSz (.node k m t ks) : Int) ≤ 1048576
  · have C1 := Lib.hid c1
    have TA := Lib.hid (fun (w : World) (h : LawP W k m t A n c w) => toPattern_any d (.node k m t ks) A n c w (HA.out.go h.2) (by omega))
    clear c1
    obtain ⟨P, hP⟩ : ∃ P, tt (ValidP (.node k m t ks)) = P := ⟨_, rfl⟩
    have HP := Lib.hid hP
    clear hP
    have tk1 : True := trivial
    have tk2 : True := trivial
    go_enter Tryd.func3, Tryd.ntmps3
    go_wp2_with (go_at_call 10; have g := HC.out _ rfl; have HQ := szPattern_any d (.node k m t ks) A n c 1048576 _ (HA.out.go g.2) (by decide) (by decide); refine Calls.mono HQ ?_; clear HQ; intro e w1 h; obtain ⟨z1, rfl, hz1, l1, u1, hb⟩ := h.fits C1.out (by decide); have d1 : decide (z1 < 0) = false := (by simp; omega); have H1 := Lib.hid (g.grow hb); have p0 : w1.cell? ⟨W.heap.size, 0, none⟩ = some (.int .i64 k) := H1.out.1.cell 0; have p1 : w1.cell? ⟨W.heap.size, 1, none⟩ = some (.int .i64 m) := H1.out.1.cell 1; have p2 : w1.cell? ⟨W.heap.size, 2, none⟩ = some (.string t) := H1.out.1.cell 2; have p3 : w1.cell? ⟨W.heap.size, 3, none⟩ = some (.slice A n c) := H1.out.1.cell 3; clear g h hb hz1 HC)
    go_wp2_with (first
      | (go_at_call 12; have tk := tk1; refine Calls.mono (TA.out _ H1.out) ?_; rintro e w2 ⟨gA, he, h⟩; obtain rfl : e = .returned (.agg #[.int .i64 k, .int .i64 m, .string t, .slice (some ⟨gA, 0, none⟩) n n]) := he; obtain ⟨hv, hb⟩ := h.out; have H2 := Lib.hid (H1.out.grow hb); have HV2 := Lib.hid hv.zero; clear h hv hb tk tk1 p0 p1 p2 p3)
      | (go_at_call 11; refine Calls.mono (spec_ValidPattern_any d (.node k m t ks) (some ⟨gA, 0, none⟩) n n _ HV2.out) ?_; rintro e w3 ⟨rfl, hb⟩; rw [HP.out]; have H3 := Lib.hid (H2.out.grow hb); have p0 : w3.cell? ⟨W.heap.size, 0, none⟩ = some (.int .i64 k) := H3.out.1.cell 0; have p1 : w3.cell? ⟨W.heap.size, 1, none⟩ = some (.int .i64 m) := H3.out.1.cell 1; have p2 : w3.cell? ⟨W.heap.size, 2, none⟩ = some (.string t) := H3.out.1.cell 2; have p3 : w3.cell? ⟨W.heap.size, 3, none⟩ = some (.slice A n c) := H3.out.1.cell 3; clear hb H2 H1 HV2)
      | (go_at_call 12; have tk := tk2; refine Calls.mono (TA.out _ H3.out) ?_; rintro e w4 ⟨gB, he, h⟩; obtain rfl : e = .returned (.agg #[.int .i64 k, .int .i64 m, .string t, .slice (some ⟨gB, 0, none⟩) n n]) := he; obtain ⟨hv, hb⟩ := h.out; have H4 : Hid (LawQ W k m t ks A n c w4.heap.size gB d (w4.alloc (.cells #[.int .i64 k, .int .i64 m, .string t, .slice (some ⟨gB, 0, none⟩) n n] 29))) := ⟨(H3.out.grow hb).grow (below_alloc _ _), RW.new _ _ _, hv.zero.alloc _⟩; clear h hv hb tk tk2 p0 p1 p2 p3)
      | (go_at_call 13; refine Calls.mono (impl_ValidPattern_any d (.node k m t ks) (some ⟨gB, 0, none⟩) n n _ H4.out.2.2 (classes_go HT.out H4.out.1.2) (HFM.out.go H4.out.1.2)) ?_; rintro e w5 ⟨rfl, hb⟩; rw [HP.out]; have H5 := Lib.hid (H4.out.grow hb); clear hb H4 H3))
    have H9 := Lib.hid (H5.out.grow (Below.refl _ _).drew)
    go_region_held3 (fun w => FlatP W k m t ks A n c w4.heap.size gB d w)
      (first | exact H9.out.flat | exact H10.out.flat | exact H11.out.flat | go_keep)
      ((first
        | (go_at_call 12; refine Calls.mono (TA.out _ H9.out.1) ?_; rintro e w6 ⟨gC, he, h⟩; obtain rfl : e = .returned (.agg #[.int .i64 k, .int .i64 m, .string t, .slice (some ⟨gC, 0, none⟩) n n]) := he; obtain ⟨hv, hb⟩ := h.out; have HVC := Lib.hid hv.zero; have H10 := Lib.hid (H9.out.grow hb); clear h hv hb)
        | (go_at_call 14; refine Calls.mono (eqPattern_same d (.node k m t ks) (some ⟨gB, 0, none⟩) (some ⟨gC, 0, none⟩) n n n _ H10.out.2.2 HVC.out) ?_; rintro e w7 ⟨rfl, hb⟩; have H11 := Lib.hid (H10.out.grow hb); clear hb)))
    go_split_ands
    go_wp2_with fail
    go_ret
    exact ⟨rfl, H11.out.1.2⟩
  · have C1 := Lib.hid c1
    clear c1
    go_enter Tryd.func3, Tryd.ntmps3
    go_wp2_with (go_at_call 10; have g := HC.out _ rfl; have HQ := szPattern_any d (.node k m t ks) A n c 1048576 _ (HA.out.go g.2) (by decide) (by decide); refine Calls.mono HQ ?_; clear HQ; intro e w1 h; obtain ⟨rfl, hb⟩ := h.long C1.out; have HB1 := Lib.hid (g.grow hb).2; clear g h hb HC)
    go_ret
    exact ⟨rfl, HB1.out⟩
end Go.Proofs.YtjeiiljdhnmofaaDoor
