/- The law's walk: FnExactLookup. Condition: the table holds what the program's text lays. -/
import Derived.Test.YtnedihiagaepjaaDoorLkI
import Derived.Test.YtnedihiagaepjaaDoorScsEq
import Derived.Test.YtnedihiagaepjaaDoorCards
import Derived.Stop.LaidErr
import Derived.Deep.RegionHeld3
namespace Go.Proofs.YtnedihiagaepjaaDoor
open Go Go.RowKit

/-- Both answer alike: a value and a code. -/
theorem look_both (x : Sc) (s : ByteArray) (hs : s.size ≤ maxLen) : ∃ k n t r c,
    (∀ (w : World) (l : ScLay), ScV w w.heap.size x l → Calls Tryd.prog 6 #[x.ag l, .string s] w fun e w' => e = .returned (.tuple #[.agg #[.int .i64 k, .int .i64 n, .string t, .int .i64 r], .int .i64 c]) ∧ Below w.heap.size w w') ∧
    (∀ (w : World) (l : ScLay), ScV w w.heap.size x l → Classes w → Calls Tryd.prog 8 #[x.ag l, .string s] w fun e w' => e = .returned (.tuple #[.agg #[.int .i64 k, .int .i64 n, .string t, .int .i64 r], .int .i64 c]) ∧ Below w.heap.size w w') := by
  by_cases h : tt (ScOk x) = true ∧ isNameB s = true
  · obtain ⟨k, n, t, r, hl⟩ := LookP.ex x.vars_ s
    exact ⟨k, n, t, r, 0, fun w l hv => spec_Lookup_yes x l s k n t r w hv hs h.1 h.2 hl, fun w l hv hT => impl_Lookup_yes x l s k n t r w hv hs h.1 h.2 hl hT⟩
  · have hno : tt (ScOk x) = false ∨ isNameB s = false := by
      cases h1 : tt (ScOk x)
      · exact .inl rfl
      · cases h2 : isNameB s
        · exact .inr rfl
        · exact absurd ⟨h1, h2⟩ h
    exact ⟨0, 0, ⟨#[]⟩, 0, 1, fun w l hv => spec_Lookup_no x l s w hv hs hno, fun w l hv hT => impl_Lookup_no x l s w hv hs hno hT⟩

set_option maxHeartbeats 8000000 in
set_option maxRecDepth 100000 in
theorem walk_FnExactLookup (x : Sc) (l : ScLay) (s : ByteArray) (hs : s.size ≤ maxLen) (W : World) (ha : ScV W W.heap.size x l) (hL : laidMetH Tryd.prog Rows.fnExactLookupRow.laid W) :
    Calls Tryd.prog 3 #[x.ag l, .string s] W fun e w' => e = .returned (.bool true) ∧ Below W.heap.size W w' := by
  have h1 : laidMet Tryd.prog [("loop.example/g00873/impl.byteClasses", Rows.laid_loop_example_g00873_impl_byteClasses)] W := hL
  have hT : Classes W := Lib.tabIs_of_head (rest := []) gClasses (by kernel_rfl) Tryd.underlying111 Tryd.underlying5 (by kernel_rfl) (by kernel_rfl) h1
  have HT := Lib.hid (fun (w : World) (hb : Below W.heap.size W w) => classes_up hT hb)
  clear hL h1 hT
  obtain ⟨k, n, t, r, c, hsp, him⟩ := look_both x s hs
  have HSP := Lib.hid hsp
  have HIM := Lib.hid him
  clear hsp him
  obtain ⟨x0, x1, x2⟩ := x
  obtain ⟨A0, n0, c0, h0, A1, n1, c1, h1, A2, n2, c2, h2⟩ := l
  have HA := Lib.hid ha
  have HC := Lib.hid (one_newS W 26 #[.slice A0 n0 c0, .slice A1 n1 c1, .slice A2 n2 c2])
  show Calls Tryd.prog 3 #[.agg #[.slice A0 n0 c0, .slice A1 n1 c1, .slice A2 n2 c2], .string s] W _
  unfold maxLen at hs
  by_cases cz0 : (s.size : Int) ≤ 1048576
  rotate_left
  · have d0 : decide (1048576 < (s.size : Int)) = true := by simp; omega
    go_enter Tryd.func3, Tryd.ntmps3
    go_wp2_with fail
    go_ret
    exact ⟨rfl, below_alloc _ _⟩
  have d0 : decide (1048576 < (s.size : Int)) = false := by simp; omega
  clear cz0
  by_cases cz1 : (szSc1 ⟨x0, x1, x2⟩ : Int) ≤ 1048576
  rotate_left
  · have C1 := Lib.hid cz1
    clear cz1 ha
    go_enter Tryd.func3, Tryd.ntmps3
    go_wp2_with (go_at_call 5; obtain ⟨g0, g1, g2⟩ := HC.out _ rfl; have HQ := szScope_any ⟨x0, x1, x2⟩ ⟨A0, n0, c0, h0, A1, n1, c1, h1, A2, n2, c2, h2⟩ 1048576 _ (HA.out.go g1) (by decide) (by decide); refine Calls.mono HQ ?_; clear HQ; intro e w1 h; obtain ⟨rfl, hb⟩ := h.long C1.out; have HB1 := Lib.hid (g1.trans (hb.mono g1.size)); clear g0 g1 g2 h hb HC)
    go_ret
    exact ⟨rfl, HB1.out⟩
  have C1 := Lib.hid cz1
  have hsm := small_Sc1 cz1
  have TA := Lib.hid (fun (w : World) (hb : Below W.heap.size W w) => toScope_any ⟨x0, x1, x2⟩ ⟨A0, n0, c0, h0, A1, n1, c1, h1, A2, n2, c2, h2⟩ w (ha.go hb) hsm)
  clear cz1 ha hsm
  have tk1 : True := trivial
  have tk2 : True := trivial
  go_enter Tryd.func3, Tryd.ntmps3
  go_wp2_with (first
    | (go_at_call 5; obtain ⟨g0, g1, g2⟩ := HC.out _ rfl; have HQ := szScope_any ⟨x0, x1, x2⟩ ⟨A0, n0, c0, h0, A1, n1, c1, h1, A2, n2, c2, h2⟩ 1048576 _ (HA.out.go g1) (by decide) (by decide); refine Calls.mono HQ ?_; clear HQ; intro e w1 h; obtain ⟨z1, rfl, hz1, _, _, hb⟩ := h.fits C1.out (by decide); have d1 : decide (z1 < 0) = false := (by simp; omega); have HA1 := Lib.hid (g0.below hb g2); have HB1 := Lib.hid (g1.trans (hb.mono g1.size)); have q0 : w1.cell? ⟨W.heap.size, 0, none⟩ = some (.slice A0 n0 c0) := HA1.out.cell 0; have q1 : w1.cell? ⟨W.heap.size, 1, none⟩ = some (.slice A1 n1 c1) := HA1.out.cell 1; have q2 : w1.cell? ⟨W.heap.size, 2, none⟩ = some (.slice A2 n2 c2) := HA1.out.cell 2; clear g0 g1 g2 h hb hz1 HC)
    | (go_at_call 7; have tk := tk1; have HQ := TA.out _ HB1.out; refine Calls.mono HQ ?_; clear HQ; rintro e w2 ⟨⟨A0s, n0s, c0s, h0s, A1s, n1s, c1s, h1s, A2s, n2s, c2s, h2s⟩, he, h⟩; obtain rfl : e = .returned (.agg #[.slice A0s n0s c0s, .slice A1s n1s c1s, .slice A2s n2s c2s]) := he; obtain ⟨hv, hb, hq⟩ := h.out; clear hq; have HV2 := Lib.hid hv; have HA2 := Lib.hid (HA1.out.below hb HA1.out.lt); have HB2 := Lib.hid (HB1.out.trans (hb.mono HB1.out.size)); clear h hv hb q0 q1 q2 tk tk1)
    | (go_at_call 6; have HQ := HSP.out _ ⟨A0s, n0s, c0s, h0s, A1s, n1s, c1s, h1s, A2s, n2s, c2s, h2s⟩ HV2.out; refine Calls.mono HQ ?_; clear HQ; rintro e w3 ⟨rfl, hb⟩; have HA3 := Lib.hid (HA2.out.below hb HA2.out.lt); have HB3 := Lib.hid (HB2.out.trans (hb.mono HB2.out.size)); have p0 : ∀ o, (w3.alloc o).cell? ⟨W.heap.size, 0, none⟩ = some (.slice A0 n0 c0) := (fun o => (HA3.out.alloc o).cell 0); have p1 : ∀ o, (w3.alloc o).cell? ⟨W.heap.size, 1, none⟩ = some (.slice A1 n1 c1) := (fun o => (HA3.out.alloc o).cell 1); have p2 : ∀ o, (w3.alloc o).cell? ⟨W.heap.size, 2, none⟩ = some (.slice A2 n2 c2) := (fun o => (HA3.out.alloc o).cell 2); clear hb)
    | (go_at_call 7; have tk := tk2; have hbn : Below W.heap.size W (w3.alloc (.cells #[.int .i64 k, .int .i64 n, .string t, .int .i64 r] 29)) := HB3.out.trans ((below_alloc w3 _).mono HB3.out.size); have HQ := TA.out _ hbn; refine Calls.mono HQ ?_; clear HQ; rintro e w4 ⟨⟨A0x, n0x, c0x, h0x, A1x, n1x, c1x, h1x, A2x, n2x, c2x, h2x⟩, he, h⟩; obtain rfl : e = .returned (.agg #[.slice A0x n0x c0x, .slice A1x n1x c1x, .slice A2x n2x c2x]) := he; obtain ⟨hv, hb, hq⟩ := h.out; clear hq; have HA4 := Lib.hid ((HA3.out.alloc _).below hb (HA3.out.alloc _).lt); have HB4 := Lib.hid (hbn.trans (hb.mono hbn.size)); have HW4 := Lib.hid ((RW.new w3 #[.int .i64 k, .int .i64 n, .string t, .int .i64 r] 29).below hb (lt_alloc _ _)); have HX4 := Lib.hid (RW.new w4 #[.slice A0x n0x c0x, .slice A1x n1x c1x, .slice A2x n2x c2x] 36); have HV4 := Lib.hid (hv.go (below_alloc w4 (.cells #[.slice A0x n0x c0x, .slice A1x n1x c1x, .slice A2x n2x c2x] 36))); clear h hv hb hbn p0 p1 p2 tk tk2)
    | (go_at_call 8; have hbn : Below W.heap.size W (w4.alloc (.cells #[.slice A0x n0x c0x, .slice A1x n1x c1x, .slice A2x n2x c2x] 36)) := HB4.out.trans ((below_alloc w4 _).mono HB4.out.size); have HQ := HIM.out _ ⟨A0x, n0x, c0x, h0x, A1x, n1x, c1x, h1x, A2x, n2x, c2x, h2x⟩ HV4.out (HT.out _ hbn); refine Calls.mono HQ ?_; clear HQ; rintro e w5 ⟨rfl, hb⟩; have HA5 := Lib.hid ((HA4.out.alloc _).below hb (HA4.out.alloc _).lt); have HB5 := Lib.hid (hbn.trans (hb.mono hbn.size)); have HW5 := Lib.hid ((HW4.out.alloc _).below hb (HW4.out.alloc _).lt); have HX5 := Lib.hid (HX4.out.below hb HX4.out.lt); have HV5 := Lib.hid (HV4.out.go hb); have r0 : ∀ o, (w5.alloc o).cell? ⟨w3.heap.size, 0, none⟩ = some (.int .i64 k) := (fun o => (HW5.out.alloc o).cell 0); have r1 : ∀ o, (w5.alloc o).cell? ⟨w3.heap.size, 1, none⟩ = some (.int .i64 n) := (fun o => (HW5.out.alloc o).cell 1); have r2 : ∀ o, (w5.alloc o).cell? ⟨w3.heap.size, 2, none⟩ = some (.string t) := (fun o => (HW5.out.alloc o).cell 2); have r3 : ∀ o, (w5.alloc o).cell? ⟨w3.heap.size, 3, none⟩ = some (.int .i64 r) := (fun o => (HW5.out.alloc o).cell 3); clear hb hbn)
    | (go_at_call 9; refine (eqValue_same k n t r _).mono ?_; rintro e w6 ⟨rfl, hb⟩; have HA6 := Lib.hid ((HA5.out.alloc _).below hb (HA5.out.alloc _).lt); have HB6 := Lib.hid ((HB5.out.trans ((below_alloc w5 _).mono HB5.out.size)).trans (hb.mono (Nat.le_trans HB5.out.size (by simp)))); have HX6 := Lib.hid ((HX5.out.alloc _).below hb (HX5.out.alloc _).lt); have HV6 := Lib.hid ((HV5.out.go (below_alloc w5 _)).go hb); clear hb r0 r1 r2 r3))
  have H0 := Lib.hid (show RW 26 w6.drew W.heap.size #[.slice A0 n0 c0, .slice A1 n1 c1, .slice A2 n2 c2] ∧ RW 36 w6.drew w4.heap.size #[.slice A0x n0x c0x, .slice A1x n1x c1x, .slice A2x n2x c2x] ∧ ScV w6.drew w6.drew.heap.size ⟨x0, x1, x2⟩ ⟨A0x, n0x, c0x, h0x, A1x, n1x, c1x, h1x, A2x, n2x, c2x, h2x⟩ ∧ Below W.heap.size W w6.drew from ⟨HA6.out.below (Below.refl _ _).drew HA6.out.lt, HX6.out.below (Below.refl _ _).drew HX6.out.lt, HV6.out.go (Below.refl _ _).drew, HB6.out.drew⟩)
  go_region_held3 (fun w => w.cell? ⟨W.heap.size, 0, none⟩ = some (.slice A0 n0 c0) ∧ w.cell? ⟨W.heap.size, 1, none⟩ = some (.slice A1 n1 c1) ∧ w.cell? ⟨W.heap.size, 2, none⟩ = some (.slice A2 n2 c2) ∧ w.cell? ⟨w4.heap.size, 0, none⟩ = some (.slice A0x n0x c0x) ∧ w.cell? ⟨w4.heap.size, 1, none⟩ = some (.slice A1x n1x c1x) ∧ w.cell? ⟨w4.heap.size, 2, none⟩ = some (.slice A2x n2x c2x))
    (first | exact ⟨H0.out.1.cell 0, H0.out.1.cell 1, H0.out.1.cell 2, H0.out.2.1.cell 0, H0.out.2.1.cell 1, H0.out.2.1.cell 2⟩ | exact ⟨HA7.out.cell 0, HA7.out.cell 1, HA7.out.cell 2, HX7.out.cell 0, HX7.out.cell 1, HX7.out.cell 2⟩ | exact ⟨HA8.out.cell 0, HA8.out.cell 1, HA8.out.cell 2, HX8.out.cell 0, HX8.out.cell 1, HX8.out.cell 2⟩ | go_keep)
    ((first
      | (go_at_call 7; have HQ := TA.out _ H0.out.2.2.2; refine Calls.mono HQ ?_; clear HQ; rintro e w7 ⟨⟨A0u, n0u, c0u, h0u, A1u, n1u, c1u, h1u, A2u, n2u, c2u, h2u⟩, he, h⟩; obtain rfl : e = .returned (.agg #[.slice A0u n0u c0u, .slice A1u n1u c1u, .slice A2u n2u c2u]) := he; obtain ⟨hv, hb, hq⟩ := h.out; clear hq; have HVU := Lib.hid hv; have HA7 := Lib.hid (H0.out.1.below hb H0.out.1.lt); have HX7 := Lib.hid (H0.out.2.1.below hb H0.out.2.1.lt); have HV7 := Lib.hid (H0.out.2.2.1.go hb); have HB7 := Lib.hid (H0.out.2.2.2.trans (hb.mono H0.out.2.2.2.size)); clear h hv hb)
      | (go_at_call 10; have HQ := eqScope_same ⟨x0, x1, x2⟩ ⟨A0x, n0x, c0x, h0x, A1x, n1x, c1x, h1x, A2x, n2x, c2x, h2x⟩ ⟨A0u, n0u, c0u, h0u, A1u, n1u, c1u, h1u, A2u, n2u, c2u, h2u⟩ _ HV7.out HVU.out; refine Calls.mono HQ ?_; clear HQ; rintro e w8 ⟨rfl, hb⟩; have HA8 := Lib.hid (HA7.out.below hb HA7.out.lt); have HX8 := Lib.hid (HX7.out.below hb HX7.out.lt); have HB8 := Lib.hid (HB7.out.trans (hb.mono HB7.out.size)); clear hb)))
  go_split_ands
  go_wp2_with fail
  go_ret
  exact ⟨rfl, HB8.out⟩
end Go.Proofs.YtnedihiagaepjaaDoor
