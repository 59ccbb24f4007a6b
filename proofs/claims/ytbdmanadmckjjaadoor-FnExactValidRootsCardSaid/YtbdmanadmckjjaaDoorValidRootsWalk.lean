/- The law's walk: FnExactValidRoots. Condition: the table holds what the program's text lays. -/
import Derived.Test.YtbdmanadmckjjaaDoorHpLaw
import Derived.Test.YtbdmanadmckjjaaDoorHpOk
import Derived.Test.YtbdmanadmckjjaaDoorFitsH
import Derived.Test.YtbdmanadmckjjaaDoorCards
namespace Go.Proofs.YtbdmanadmckjjaaDoor
open Go Go.RowKit

set_option maxHeartbeats 4000000 in
set_option maxRecDepth 100000 in
theorem walk_FnExactValidRoots (nx : Int) (A : Option Addr) (n c : Nat) (os : List Ob) (A' : Option Addr) (n' c' : Nat) (xs : List Vl) (W : World) (ha : OI W W.heap.size A n os) (hb : VI W W.heap.size A' n' xs) (hL : laidMetH Tryd.prog Rows.fnExactValidRootsRow.laid W) :
    Calls Tryd.prog 6 #[.agg #[.int .i64 nx, .slice A n c], .slice A' n' c'] W fun e w' => e = .returned (.bool true) ∧ Below W.heap.size W w' := by
  have hT : Classes W := Lib.tabIs_of_head (rest := []) gClasses (by kernel_rfl) Tryd.underlying119 Tryd.underlying5 (by kernel_rfl) (by kernel_rfl) hL
  have HT := Lib.hid hT
  clear hL hT
  have HA := Lib.hid ha
  have HX := Lib.hid hb
  have hx := ha.1
  have hx' := hb.1
  have HC := Lib.hid (fun X (e : X = W.alloc (.cells #[.int .i64 nx, .slice A n c] 24)) => (show LawH W W.heap.size nx A n c X from by rw [e]; exact ⟨RW.new _ _ _, below_alloc _ _⟩))
  clear ha hb
  by_cases c1 : (szH os : Int) ≤ 1048576
  · have C1 := Lib.hid c1
    obtain ⟨hs1, hl1⟩ := small_of_sz c1
    rw [hx] at hl1
    have TA := Lib.hid (fun (w : World) (h : LawH W W.heap.size nx A n c w) => toHeap_any nx A n c os w (HA.out.go h.2) hs1 hl1)
    have SZ := Lib.hid (fun w (hw : LawH W W.heap.size nx A n c w) => szHeap_any nx A n c os 1048576 w (HA.out.go hw.2) (by decide) (by decide))
    by_cases c2 : (szV xs : Int) ≤ 1048576 - (szH os : Int)
    · have C2 := Lib.hid c2
      have hl2 : n' ≤ 1048576 := by unfold szV at c2; rw [hx'] at c2; omega
      have HL2 := Lib.hid hl2
      clear c1 c2 hs1 hl1 hx hx' hl2
      obtain ⟨P, hP⟩ : ∃ P, tt (ValidH nx os ∧ FitAll os xs) = P := ⟨_, rfl⟩
      have HP := Lib.hid hP
      clear hP
      have tk1 : True := trivial
      have tk2 : True := trivial
      have tk3 : True := trivial
      have tk4 : True := trivial
      have tk5 : True := trivial
      go_enter Tryd.func6, Tryd.ntmps6
      go_wp2_with (go_at_call 10; have g := HC.out _ rfl; refine Calls.mono (SZ.out _ g) ?_; intro e w1 h; obtain ⟨z1, rfl, hz1, l1, u1, hb⟩ := h.fits C1.out (by decide); have Z1 := Lib.hid hz1; have L1 := Lib.hid l1; have U1 := Lib.hid u1; have d1 : decide (z1 < 0) = false := (by simp; omega); have H1 := Lib.hid (g.grow hb); clear g h hb hz1 HC)
      go_wp2_with (go_at_call 21; have HQ := szValueS_any A' n' c' xs z1 _ (HX.out.go H1.out.2) L1.out U1.out; refine Calls.mono HQ ?_; clear HQ; intro e w2 h; obtain ⟨z2, rfl, hz2, l2, u2, hb⟩ := h.fits (by have := C2.out; have := Z1.out; omega) U1.out; have d2 : decide (z2 < 0) = false := (by simp; omega); have H2 := Lib.hid (H1.out.grow hb); have p0 : w2.cell? ⟨W.heap.size, 0, none⟩ = some (.int .i64 nx) := H2.out.1.cell 0; have p1 : w2.cell? ⟨W.heap.size, 1, none⟩ = some (.slice A n c) := H2.out.1.cell 1; clear h hb hz2)
      go_wp2_with (first
        | (go_at_call 12; have tk := tk1; refine Calls.mono (TA.out _ H2.out) ?_; rintro e w3 ⟨gA, rfl, h⟩; obtain ⟨hv, hb⟩ := h.out; have H3 := Lib.hid (H2.out.grow hb); have HV3 := Lib.hid hv; clear h hv hb tk tk1 p0 p1)
        | (go_at_call 23; have tk := tk2; refine Calls.mono (toValueS_any A' n' c' xs _ (HX.out.go H3.out.2) HL2.out) ?_; rintro e w4 ⟨rfl, h⟩; obtain ⟨hv, hb⟩ := h.out; have H4 := Lib.hid (H3.out.grow hb); have HV4 := Lib.hid (HV3.out.go hb); have HX4 := Lib.hid hv; clear h hv hb tk tk2)
        | (go_at_call 22; refine Calls.mono (spec_ValidRoots_any nx _ n n os _ n' n' xs _ HV4.out HX4.out) ?_; rintro e w5 ⟨rfl, hb⟩; rw [HP.out]; have H5 := Lib.hid (H4.out.grow hb); have p0 : w5.cell? ⟨W.heap.size, 0, none⟩ = some (.int .i64 nx) := H5.out.1.cell 0; have p1 : w5.cell? ⟨W.heap.size, 1, none⟩ = some (.slice A n c) := H5.out.1.cell 1; clear hb H4 H3 H2 H1 HV3 HV4 HX4)
        | (go_at_call 12; have tk := tk3; refine Calls.mono (TA.out _ H5.out) ?_; rintro e w6 ⟨gB, rfl, h⟩; obtain ⟨hv, hb⟩ := h.out; have H6 : Hid (LawC W W.heap.size nx A n c w6.heap.size gB os (w6.alloc (.cells #[.int .i64 nx, .slice (some ⟨gB, 0, none⟩) n n] 29))) := ⟨(H5.out.grow hb).grow (below_alloc _ _), RW.new _ _ _, hv.alloc _⟩; clear h hv hb tk tk3 p0 p1)
        | (go_at_call 23; have tk := tk4; refine Calls.mono (toValueS_any A' n' c' xs _ (HX.out.go H6.out.1.2) HL2.out) ?_; rintro e w7 ⟨he, h⟩; obtain ⟨hv, hb⟩ := h.out; have hz := hb.size; have es : (w6.alloc (.cells #[.int .i64 nx, .slice (some ⟨gB, 0, none⟩) n n] 29)).heap.size = w6.heap.size + 1 := (by simp); rw [es] at he hv; subst he; have H7 := Lib.hid (H6.out.grow hb); have HX7 := Lib.hid hv; have r0 : w7.cell? ⟨w6.heap.size, 0, none⟩ = some (.int .i64 nx) := H7.out.2.1.cell 0; have r1 : w7.cell? ⟨w6.heap.size, 1, none⟩ = some (.slice (some ⟨gB, 0, none⟩) n n) := H7.out.2.1.cell 1; clear h hv hb hz es tk tk4 H6)
        | (go_at_call 24; refine Calls.mono (impl_ValidRoots_any nx gB 0 n n os _ n' n' xs _ H7.out.2.2 HX7.out (classes_go HT.out H7.out.1.2)) ?_; rintro e w8 ⟨rfl, hb⟩; rw [HP.out]; have H8 := Lib.hid (H7.out.grow hb); have HX8 := Lib.hid (HX7.out.go hb); clear hb H7 H5 HX7 r0 r1))
      have H9 := Lib.hid (H8.out.grow (Below.refl _ _).drew)
      have HX9 := Lib.hid (HX8.out.go (Below.refl _ _).drew)
      go_region_held3 (fun w => FlatH W W.heap.size nx A n c w6.heap.size gB os w)
        (first | exact H9.out.flat | exact H10.out.flat | exact H11.out.flat | go_keep)
        ((first
          | (go_at_call 12; refine Calls.mono (TA.out _ H9.out.1) ?_; rintro e w10 ⟨gC, rfl, h⟩; obtain ⟨hv, hb⟩ := h.out; have HVC := Lib.hid hv; have H10 := Lib.hid (H9.out.grow hb); have HX10 := Lib.hid (HX9.out.go hb); clear h hv hb)
          | (go_at_call 14; refine Calls.mono (eqHeap_same nx (some ⟨gB, 0, none⟩) (some ⟨gC, 0, none⟩) n n n os _ H10.out.2.2 HVC.out) ?_; rintro e w11 ⟨rfl, hb⟩; have H11 := Lib.hid (H10.out.grow hb); have HX11 := Lib.hid (HX10.out.go hb); clear hb)))
      go_split_ands
      clear H9 H10 HX9 HX10 H8 HX8
      go_wp2_with (first
        | (go_at_call 23; have tk := tk5; refine Calls.mono (toValueS_any A' n' c' xs _ (HX.out.go H11.out.1.2) HL2.out) ?_; rintro e w12 ⟨rfl, h⟩; obtain ⟨hv, hb⟩ := h.out; have H12 := Lib.hid (H11.out.grow hb); have HX12 := Lib.hid (HX11.out.go hb); have HXN := Lib.hid hv; clear h hv hb tk tk5)
        | (go_at_call 25; refine Calls.mono (eqValueS_same _ _ n' n' n' xs _ HX12.out HXN.out) ?_; rintro e w13 ⟨rfl, hb⟩; have H13 := Lib.hid (H12.out.grow hb); clear hb))
      go_ret
      exact ⟨rfl, H13.out.1.2⟩
    · have C2 := Lib.hid c2
      clear c1 c2
      go_enter Tryd.func6, Tryd.ntmps6
      go_wp2_with (go_at_call 10; have g := HC.out _ rfl; refine Calls.mono (SZ.out _ g) ?_; intro e w1 h; obtain ⟨z1, rfl, hz1, l1, u1, hb⟩ := h.fits C1.out (by decide); have Z1 := Lib.hid hz1; have L1 := Lib.hid l1; have U1 := Lib.hid u1; have d1 : decide (z1 < 0) = false := (by simp; omega); have H1 := Lib.hid (g.grow hb); clear g h hb hz1 HC)
      go_wp2_with (go_at_call 21; have HQ := szValueS_any A' n' c' xs z1 _ (HX.out.go H1.out.2) L1.out U1.out; refine Calls.mono HQ ?_; clear HQ; intro e w2 h; obtain ⟨rfl, hb⟩ := h.long (by have := C2.out; have := Z1.out; omega); have H2 := Lib.hid (H1.out.grow hb); clear h hb)
      go_ret
      exact ⟨rfl, H2.out.2⟩
  · have C1 := Lib.hid c1
    clear c1
    go_enter Tryd.func6, Tryd.ntmps6
    go_wp2_with (go_at_call 10; have g := HC.out _ rfl; have HQ := szHeap_any nx A n c os 1048576 _ (HA.out.go g.2) (by decide) (by decide); refine Calls.mono HQ ?_; clear HQ; intro e w1 h; obtain ⟨rfl, hb⟩ := h.long C1.out; have HB1 := Lib.hid (g.grow hb).2; clear g h hb HC)
    go_ret
    exact ⟨rfl, HB1.out⟩
end Go.Proofs.YtbdmanadmckjjaaDoor
