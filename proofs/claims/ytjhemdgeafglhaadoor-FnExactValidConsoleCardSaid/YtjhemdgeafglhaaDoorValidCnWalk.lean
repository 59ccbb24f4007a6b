/- The law's walk: FnExactValidConsole. Condition: the table holds what the program's text lays. -/
import Derived.Test.YtjhemdgeafglhaaDoorCnOk
import Derived.Test.YtjhemdgeafglhaaDoorCnsTo
import Derived.Test.YtjhemdgeafglhaaDoorCards
import Derived.Stop.LaidErr
import Derived.Deep.RegionHeld3
namespace Go.Proofs.YtjhemdgeafglhaaDoor
open Go Go.RowKit

set_option maxHeartbeats 4000000 in
set_option maxRecDepth 100000 in
theorem walk_FnExactValidConsole (x : Cn) (l : CnLay) (W : World) (ha : CnV W W.heap.size x l) (hL : laidMetH Tryd.prog Rows.fnExactValidConsoleRow.laid W) :
    Calls Tryd.prog 5 #[x.ag l] W fun e w' => e = .returned (.bool true) ∧ Below W.heap.size W w' := by
  have h1 : laidMet Tryd.prog [("loop.example/g00873/impl.byteClasses", Rows.laid_loop_example_g00873_impl_byteClasses)] W := hL
  have hT : Classes W := Lib.tabIs_of_head (rest := []) gClasses (by kernel_rfl) Tryd.underlying95 Tryd.underlying5 (by kernel_rfl) (by kernel_rfl) h1
  have HT := Lib.hid hT
  clear hL h1 hT
  obtain ⟨r, hr⟩ : ∃ r, consoleB x = r := ⟨_, rfl⟩
  have HRES := Lib.hid hr
  have HSP := Lib.hid (fun (w : World) (m : CnLay) (h : CnV w w.heap.size x m) => (show Calls Tryd.prog 15 #[x.ag m] w fun e w' => e = .returned (.bool r) ∧ Below w.heap.size w w' from by have := spec_ValidConsole_any x m w h; rw [hr] at this; exact this))
  have HIM := Lib.hid (fun (w : World) (m : CnLay) (h : CnV w w.heap.size x m) (hT : Classes w) => (show Calls Tryd.prog 17 #[x.ag m] w fun e w' => e = .returned (.bool r) ∧ Below w.heap.size w w' from by have := impl_ValidConsole_any x m w h hT; rw [hr] at this; exact this))
  clear hr HRES
  obtain ⟨x0, x1, x2, x3, x4⟩ := x
  obtain ⟨A0, n0, c0, h0, A2, n2, c2, h2, A3, n3, c3, h3, A4, n4, c4, h4⟩ := l
  have HA := Lib.hid ha
  have HC := Lib.hid (one_new1 W 35 #[.slice A0 n0 c0, .int .i64 x1, .slice A2 n2 c2, .slice A3 n3 c3, .slice A4 n4 c4])
  show Calls Tryd.prog 5 #[.agg #[.slice A0 n0 c0, .int .i64 x1, .slice A2 n2 c2, .slice A3 n3 c3, .slice A4 n4 c4]] W _
  by_cases cz1 : (szCn1 ⟨x0, x1, x2, x3, x4⟩ : Int) ≤ 1048576
  rotate_left
  · have C1 := Lib.hid cz1
    clear cz1 ha
    go_enter Tryd.func5, Tryd.ntmps5
    go_wp2_with (go_at_call 14; obtain ⟨g0, g1, g2⟩ := HC.out _ rfl; have HQ := szConsole_any ⟨x0, x1, x2, x3, x4⟩ ⟨A0, n0, c0, h0, A2, n2, c2, h2, A3, n3, c3, h3, A4, n4, c4, h4⟩ 1048576 _ (HA.out.go g1) (by decide) (by decide); refine Calls.mono HQ ?_; clear HQ; intro e w1 h; obtain ⟨rfl, hb⟩ := h.long C1.out; have HB1 := Lib.hid (g1.trans (hb.mono g1.size)); clear g0 g1 g2 h hb HC)
    go_ret
    exact ⟨rfl, HB1.out⟩
  have C1 := Lib.hid cz1
  have hsm := small_Cn1 cz1
  have TA := Lib.hid (fun (w : World) (hb : Below W.heap.size W w) => toConsole_any ⟨x0, x1, x2, x3, x4⟩ ⟨A0, n0, c0, h0, A2, n2, c2, h2, A3, n3, c3, h3, A4, n4, c4, h4⟩ w (ha.go hb) hsm)
  clear cz1 ha hsm
  have tk1 : True := trivial
  have tk2 : True := trivial
  go_enter Tryd.func5, Tryd.ntmps5
  go_wp2_with (first
    | (go_at_call 14; obtain ⟨g0, g1, g2⟩ := HC.out _ rfl; have HQ := szConsole_any ⟨x0, x1, x2, x3, x4⟩ ⟨A0, n0, c0, h0, A2, n2, c2, h2, A3, n3, c3, h3, A4, n4, c4, h4⟩ 1048576 _ (HA.out.go g1) (by decide) (by decide); refine Calls.mono HQ ?_; clear HQ; intro e w1 h; obtain ⟨z1, rfl, hz1, _, _, hb⟩ := h.fits C1.out (by decide); have d1 : decide (z1 < 0) = false := (by simp; omega); have HA1 := Lib.hid (g0.below hb g2); have HB1 := Lib.hid (g1.trans (hb.mono g1.size)); have p0 : w1.cell? ⟨W.heap.size, 0, none⟩ = some (.slice A0 n0 c0) := HA1.out.cell 0; have p1 : w1.cell? ⟨W.heap.size, 1, none⟩ = some (.int .i64 x1) := HA1.out.cell 1; have p2 : w1.cell? ⟨W.heap.size, 2, none⟩ = some (.slice A2 n2 c2) := HA1.out.cell 2; have p3 : w1.cell? ⟨W.heap.size, 3, none⟩ = some (.slice A3 n3 c3) := HA1.out.cell 3; have p4 : w1.cell? ⟨W.heap.size, 4, none⟩ = some (.slice A4 n4 c4) := HA1.out.cell 4; clear g0 g1 g2 h hb hz1 HC)
    | (go_at_call 16; have tk := tk1; have HQ := TA.out _ HB1.out; refine Calls.mono HQ ?_; clear HQ; rintro e w2 ⟨⟨A0m, n0m, c0m, h0m, A2m, n2m, c2m, h2m, A3m, n3m, c3m, h3m, A4m, n4m, c4m, h4m⟩, he, h⟩; obtain rfl : e = .returned (.agg #[.slice A0m n0m c0m, .int .i64 x1, .slice A2m n2m c2m, .slice A3m n3m c3m, .slice A4m n4m c4m]) := he; obtain ⟨hv, hb, hq⟩ := h.out; clear hq; have HV2 := Lib.hid hv; have HA2 := Lib.hid (HA1.out.below hb HA1.out.lt); have HB2 := Lib.hid (HB1.out.trans (hb.mono HB1.out.size)); clear h hv hb p0 p1 p2 p3 p4 tk tk1)
    | (go_at_call 15; have HQ := HSP.out _ ⟨A0m, n0m, c0m, h0m, A2m, n2m, c2m, h2m, A3m, n3m, c3m, h3m, A4m, n4m, c4m, h4m⟩ HV2.out; refine Calls.mono HQ ?_; clear HQ; rintro e w3 ⟨rfl, hb⟩; have HA3 := Lib.hid (HA2.out.below hb HA2.out.lt); have HB3 := Lib.hid (HB2.out.trans (hb.mono HB2.out.size)); have p0 : w3.cell? ⟨W.heap.size, 0, none⟩ = some (.slice A0 n0 c0) := HA3.out.cell 0; have p1 : w3.cell? ⟨W.heap.size, 1, none⟩ = some (.int .i64 x1) := HA3.out.cell 1; have p2 : w3.cell? ⟨W.heap.size, 2, none⟩ = some (.slice A2 n2 c2) := HA3.out.cell 2; have p3 : w3.cell? ⟨W.heap.size, 3, none⟩ = some (.slice A3 n3 c3) := HA3.out.cell 3; have p4 : w3.cell? ⟨W.heap.size, 4, none⟩ = some (.slice A4 n4 c4) := HA3.out.cell 4; clear hb HV2)
    | (go_at_call 16; have tk := tk2; have HQ := TA.out _ HB3.out; refine Calls.mono HQ ?_; clear HQ; rintro e w4 ⟨⟨A0q, n0q, c0q, h0q, A2q, n2q, c2q, h2q, A3q, n3q, c3q, h3q, A4q, n4q, c4q, h4q⟩, he, h⟩; obtain rfl : e = .returned (.agg #[.slice A0q n0q c0q, .int .i64 x1, .slice A2q n2q c2q, .slice A3q n3q c3q, .slice A4q n4q c4q]) := he; obtain ⟨hv, hb, hq⟩ := h.out; clear hq; have HA4 := Lib.hid ((HA3.out.below hb HA3.out.lt).alloc (.cells #[.slice A0q n0q c0q, .int .i64 x1, .slice A2q n2q c2q, .slice A3q n3q c3q, .slice A4q n4q c4q] 40)); have HB4 := Lib.hid ((HB3.out.trans (hb.mono HB3.out.size)).alloc (HB3.out.trans (hb.mono HB3.out.size)).size (.cells #[.slice A0q n0q c0q, .int .i64 x1, .slice A2q n2q c2q, .slice A3q n3q c3q, .slice A4q n4q c4q] 40)); have HX4 := Lib.hid (RW.new w4 #[.slice A0q n0q c0q, .int .i64 x1, .slice A2q n2q c2q, .slice A3q n3q c3q, .slice A4q n4q c4q] 40); have HV4 := Lib.hid (hv.go (below_alloc w4 (.cells #[.slice A0q n0q c0q, .int .i64 x1, .slice A2q n2q c2q, .slice A3q n3q c3q, .slice A4q n4q c4q] 40))); clear h hv hb p0 p1 p2 p3 p4 tk tk2)
    | (go_at_call 17; have HQ := HIM.out _ ⟨A0q, n0q, c0q, h0q, A2q, n2q, c2q, h2q, A3q, n3q, c3q, h3q, A4q, n4q, c4q, h4q⟩ HV4.out (classes_go HT.out HB4.out); refine Calls.mono HQ ?_; clear HQ; rintro e w5 ⟨rfl, hb⟩; have HA5 := Lib.hid (HA4.out.below hb HA4.out.lt); have HB5 := Lib.hid (HB4.out.trans (hb.mono HB4.out.size)); have HX5 := Lib.hid (HX4.out.below hb HX4.out.lt); have HV5 := Lib.hid (HV4.out.go hb); clear hb))
  have H0 := Lib.hid (show RW 35 w5.drew W.heap.size #[.slice A0 n0 c0, .int .i64 x1, .slice A2 n2 c2, .slice A3 n3 c3, .slice A4 n4 c4] ∧ RW 40 w5.drew w4.heap.size #[.slice A0q n0q c0q, .int .i64 x1, .slice A2q n2q c2q, .slice A3q n3q c3q, .slice A4q n4q c4q] ∧ CnV w5.drew w5.drew.heap.size ⟨x0, x1, x2, x3, x4⟩ ⟨A0q, n0q, c0q, h0q, A2q, n2q, c2q, h2q, A3q, n3q, c3q, h3q, A4q, n4q, c4q, h4q⟩ ∧ Below W.heap.size W w5.drew from ⟨HA5.out.below (Below.refl _ _).drew HA5.out.lt, HX5.out.below (Below.refl _ _).drew HX5.out.lt, HV5.out.go (Below.refl _ _).drew, HB5.out.drew⟩)
  go_region_held3 (fun w => w.cell? ⟨W.heap.size, 0, none⟩ = some (.slice A0 n0 c0) ∧ w.cell? ⟨W.heap.size, 1, none⟩ = some (.int .i64 x1) ∧ w.cell? ⟨W.heap.size, 2, none⟩ = some (.slice A2 n2 c2) ∧ w.cell? ⟨W.heap.size, 3, none⟩ = some (.slice A3 n3 c3) ∧ w.cell? ⟨W.heap.size, 4, none⟩ = some (.slice A4 n4 c4) ∧ w.cell? ⟨w4.heap.size, 0, none⟩ = some (.slice A0q n0q c0q) ∧ w.cell? ⟨w4.heap.size, 1, none⟩ = some (.int .i64 x1) ∧ w.cell? ⟨w4.heap.size, 2, none⟩ = some (.slice A2q n2q c2q) ∧ w.cell? ⟨w4.heap.size, 3, none⟩ = some (.slice A3q n3q c3q) ∧ w.cell? ⟨w4.heap.size, 4, none⟩ = some (.slice A4q n4q c4q))
    (first | exact ⟨H0.out.1.cell 0, H0.out.1.cell 1, H0.out.1.cell 2, H0.out.1.cell 3, H0.out.1.cell 4, H0.out.2.1.cell 0, H0.out.2.1.cell 1, H0.out.2.1.cell 2, H0.out.2.1.cell 3, H0.out.2.1.cell 4⟩ | exact ⟨HA7.out.cell 0, HA7.out.cell 1, HA7.out.cell 2, HA7.out.cell 3, HA7.out.cell 4, HX7.out.cell 0, HX7.out.cell 1, HX7.out.cell 2, HX7.out.cell 3, HX7.out.cell 4⟩ | exact ⟨HA8.out.cell 0, HA8.out.cell 1, HA8.out.cell 2, HA8.out.cell 3, HA8.out.cell 4, HX8.out.cell 0, HX8.out.cell 1, HX8.out.cell 2, HX8.out.cell 3, HX8.out.cell 4⟩ | go_keep)
    ((first
      | (go_at_call 16; have HQ := TA.out _ H0.out.2.2.2; refine Calls.mono HQ ?_; clear HQ; rintro e w7 ⟨⟨A0u, n0u, c0u, h0u, A2u, n2u, c2u, h2u, A3u, n3u, c3u, h3u, A4u, n4u, c4u, h4u⟩, he, h⟩; obtain rfl : e = .returned (.agg #[.slice A0u n0u c0u, .int .i64 x1, .slice A2u n2u c2u, .slice A3u n3u c3u, .slice A4u n4u c4u]) := he; obtain ⟨hv, hb, hq⟩ := h.out; clear hq; have HVU := Lib.hid hv; have HA7 := Lib.hid (H0.out.1.below hb H0.out.1.lt); have HX7 := Lib.hid (H0.out.2.1.below hb H0.out.2.1.lt); have HV7 := Lib.hid (H0.out.2.2.1.go hb); have HB7 := Lib.hid (H0.out.2.2.2.trans (hb.mono H0.out.2.2.2.size)); clear h hv hb)
      | (go_at_call 18; have HQ := eqConsole_same ⟨x0, x1, x2, x3, x4⟩ ⟨A0q, n0q, c0q, h0q, A2q, n2q, c2q, h2q, A3q, n3q, c3q, h3q, A4q, n4q, c4q, h4q⟩ ⟨A0u, n0u, c0u, h0u, A2u, n2u, c2u, h2u, A3u, n3u, c3u, h3u, A4u, n4u, c4u, h4u⟩ _ HV7.out HVU.out; refine Calls.mono HQ ?_; clear HQ; rintro e w8 ⟨rfl, hb⟩; have HA8 := Lib.hid (HA7.out.below hb HA7.out.lt); have HX8 := Lib.hid (HX7.out.below hb HX7.out.lt); have HB8 := Lib.hid (HB7.out.trans (hb.mono HB7.out.size)); clear hb)))
  go_split_ands
  go_wp2_with fail
  go_ret
  exact ⟨rfl, HB8.out⟩
end Go.Proofs.YtjhemdgeafglhaaDoor
