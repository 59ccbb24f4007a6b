/- The law's walk: FnExactSameMatches. No condition. -/
import Derived.Test.YtcaomjagibbgiaaSameMs2
namespace Go.Proofs.Ytcaomjagibbgiaa
open Go Go.RowKit

set_option maxHeartbeats 4000000 in
set_option maxRecDepth 100000 in
theorem walk_FnExactSameMatches (A : Option Addr) (n c : Nat) (xs : List Mt) (A' : Option Addr) (n' c' : Nat) (xs' : List Mt) (W : World) (ha : MtI W W.heap.size A n xs) (hb : MtI W W.heap.size A' n' xs') :
    Calls Try.prog 4 #[.slice A n c, .slice A' n' c'] W fun e w' => e = .returned (.bool true) ∧ Below W.heap.size W w' := by
  have HA := Lib.hid ha
  have HB := Lib.hid hb
  have hx := ha.1
  have hx' := hb.1
  have HB0 : Hid (Below W.heap.size W W) := Below.refl _ _
  have tk1 : True := trivial
  have tk2 : True := trivial
  have tk3 : True := trivial
  have tk4 : True := trivial
  have tk6 : True := trivial
  have tk7 : True := trivial
  have tk9 : True := trivial
  have tk10 : True := trivial
  have tk11 : True := trivial
  clear ha hb
  by_cases c1 : (szMt xs : Int) ≤ 1048576
  · have C1 := Lib.hid c1
    have HSA := Lib.hid (small_Mt c1)
    have HNA : Hid (n ≤ 1048576) := by have := HSA.out.2; rw [hx] at this; exact this
    by_cases c2 : (szMt xs' : Int) ≤ 1048576 - (szMt xs : Int)
    · have C2 := Lib.hid c2
      have HSB := Lib.hid (small_Mt (show (szMt xs' : Int) ≤ 1048576 by omega))
      have HNB : Hid (n' ≤ 1048576) := by have := HSB.out.2; rw [hx'] at this; exact this
      clear c1 c2
      obtain ⟨P, hP⟩ : ∃ P, tt (xs = xs') = P := ⟨_, rfl⟩
      have HP := Lib.hid hP
      clear hP
      go_enter Try.func4, Try.ntmps4
      go_wp2_with (go_at_call 13; have tk := tk1; have HQ := szMatchS_any A n c xs 1048576 _ HA.out (by decide) (by decide); refine Calls.mono HQ ?_; clear HQ; intro e w1 h; obtain ⟨z1, rfl, hz1, l1, u1, hb⟩ := h.fits C1.out (by decide); have Z1 := Lib.hid hz1; have d1 : decide (z1 < 0) = false := (by simp; omega); have L1 := Lib.hid l1; have U1 := Lib.hid u1; have HB1 : Hid (Below W.heap.size W w1) := hb; clear h hb hz1 tk tk1)
      go_wp2_with (go_at_call 13; have tk := tk2; have HQ := szMatchS_any A' n' c' xs' z1 _ (HB.out.go HB1.out) L1.out U1.out; refine Calls.mono HQ ?_; clear HQ; intro e w2 h; obtain ⟨z2, rfl, hz2, l2, u2, hb⟩ := h.fits (by have := C2.out; have := Z1.out; omega) U1.out; have d2 : decide (z2 < 0) = false := (by simp; omega); have HB2 := Lib.hid (HB1.out.trans (hb.mono HB1.out.size)); clear h hb hz2 tk tk2)
      go_wp2_with (go_at_call 15; have tk := tk3; have HQ := toMatchS_any A n c xs _ (HA.out.go HB2.out) HSA.out.1 HNA.out; refine Calls.mono HQ ?_; clear HQ; rintro e w3 ⟨rfl, h⟩; obtain ⟨hv, hb⟩ := h.out; have HV3 := Lib.hid hv; have HB3 := Lib.hid (HB2.out.trans (hb.mono HB2.out.size)); clear h hv hb tk tk3)
      go_wp2_with (go_at_call 15; have tk := tk4; have HQ := toMatchS_any A' n' c' xs' _ (HB.out.go HB3.out) HSB.out.1 HNB.out; refine Calls.mono HQ ?_; clear HQ; rintro e w4 ⟨rfl, h⟩; obtain ⟨hv, hb⟩ := h.out; have HV4 := Lib.hid hv; have HB4 := Lib.hid (HB3.out.trans (hb.mono HB3.out.size)); have HV3_4 := Lib.hid (HV3.out.go hb); clear h hv hb tk tk4)
      go_wp2_with (go_at_call 14; have HQ := spec_SameMatches_any _ _ n n' n n' xs xs' _ HV3_4.out HV4.out; refine Calls.mono HQ ?_; clear HQ; rintro e w5 ⟨rfl, hb⟩; rw [HP.out]; have HB5 := Lib.hid (HB4.out.trans (hb.mono HB4.out.size)); clear hb HV3 HV3_4 HV4)
      go_wp2_with (go_at_call 15; have tk := tk6; have HQ := toMatchS_any A n c xs _ (HA.out.go HB5.out) HSA.out.1 HNA.out; refine Calls.mono HQ ?_; clear HQ; rintro e w6 ⟨rfl, h⟩; obtain ⟨hv, hb⟩ := h.out; have HV6 := Lib.hid hv; have HB6 := Lib.hid (HB5.out.trans (hb.mono HB5.out.size)); clear h hv hb tk tk6)
      go_wp2_with (go_at_call 15; have tk := tk7; have HQ := toMatchS_any A' n' c' xs' _ (HB.out.go HB6.out) HSB.out.1 HNB.out; refine Calls.mono HQ ?_; clear HQ; rintro e w7 ⟨rfl, h⟩; obtain ⟨hv, hb⟩ := h.out; have HV7 := Lib.hid hv; have HB7 := Lib.hid (HB6.out.trans (hb.mono HB6.out.size)); have HV6_7 := Lib.hid (HV6.out.go hb); clear h hv hb tk tk7)
      go_wp2_with (go_at_call 16; have HQ := impl_SameMatches_any _ _ n n' n n' xs xs' _ HV6_7.out HV7.out; refine Calls.mono HQ ?_; clear HQ; rintro e w8 ⟨rfl, hb⟩; rw [HP.out]; have HV6_8 := Lib.hid (HV6_7.out.go hb); have HV7_8 := Lib.hid (HV7.out.go hb); have HB8 := Lib.hid (HB7.out.trans (hb.mono HB7.out.size)); clear hb HV6 HV6_7 HV7)
      go_wp2_with (go_at_call 15; have tk := tk9; have HQ := toMatchS_any A n c xs _ (HA.out.go HB8.out) HSA.out.1 HNA.out; refine Calls.mono HQ ?_; clear HQ; rintro e w9 ⟨rfl, h⟩; obtain ⟨hv, hb⟩ := h.out; have HV9 := Lib.hid hv; have HB9 := Lib.hid (HB8.out.trans (hb.mono HB8.out.size)); have HV6_9 := Lib.hid (HV6_8.out.go hb); have HV7_9 := Lib.hid (HV7_8.out.go hb); clear h hv hb tk tk9)
      go_wp2_with (go_at_call 17; have tk := tk10; have HQ := eqMatchS_same _ _ n n n xs _ HV6_9.out HV9.out; refine Calls.mono HQ ?_; clear HQ; rintro e w10 ⟨rfl, hb⟩; have HV7_10 := Lib.hid (HV7_9.out.go hb); have HB10 := Lib.hid (HB9.out.trans (hb.mono HB9.out.size)); clear hb HV6_8 HV6_9 HV9 HV7_8 HV7_9 tk tk10)
      go_wp2_with (go_at_call 15; have tk := tk11; have HQ := toMatchS_any A' n' c' xs' _ (HB.out.go HB10.out) HSB.out.1 HNB.out; refine Calls.mono HQ ?_; clear HQ; rintro e w11 ⟨rfl, h⟩; obtain ⟨hv, hb⟩ := h.out; have HV11 := Lib.hid hv; have HB11 := Lib.hid (HB10.out.trans (hb.mono HB10.out.size)); have HV7_11 := Lib.hid (HV7_10.out.go hb); clear h hv hb tk tk11)
      go_wp2_with (go_at_call 17; have HQ := eqMatchS_same _ _ n' n' n' xs' _ HV7_11.out HV11.out; refine Calls.mono HQ ?_; clear HQ; rintro e w12 ⟨rfl, hb⟩; have HB12 := Lib.hid (HB11.out.trans (hb.mono HB11.out.size)); clear hb)
      go_ret
      exact ⟨rfl, HB12.out⟩
    · have C2 := Lib.hid c2
      clear c1 c2
      go_enter Try.func4, Try.ntmps4
      go_wp2_with (go_at_call 13; have tk := tk1; have HQ := szMatchS_any A n c xs 1048576 _ HA.out (by decide) (by decide); refine Calls.mono HQ ?_; clear HQ; intro e w1 h; obtain ⟨z1, rfl, hz1, l1, u1, hb⟩ := h.fits C1.out (by decide); have Z1 := Lib.hid hz1; have d1 : decide (z1 < 0) = false := (by simp; omega); have L1 := Lib.hid l1; have U1 := Lib.hid u1; have HB1 : Hid (Below W.heap.size W w1) := hb; clear h hb hz1 tk tk1)
      go_wp2_with (go_at_call 13; have tk := tk2; have HQ := szMatchS_any A' n' c' xs' z1 _ (HB.out.go HB1.out) L1.out U1.out; refine Calls.mono HQ ?_; clear HQ; intro e w2 h; obtain ⟨rfl, hb⟩ := h.long (by have := C2.out; have := Z1.out; omega); have HB2 := Lib.hid (HB1.out.trans (hb.mono HB1.out.size)); clear h hb tk tk2)
      go_ret
      exact ⟨rfl, HB2.out⟩
  · have C1 := Lib.hid c1
    clear c1
    go_enter Try.func4, Try.ntmps4
    go_wp2_with (go_at_call 13; have tk := tk1; have HQ := szMatchS_any A n c xs 1048576 _ HA.out (by decide) (by decide); refine Calls.mono HQ ?_; clear HQ; intro e w1 h; obtain ⟨rfl, hb⟩ := h.long C1.out; have HB1 : Hid (Below W.heap.size W w1) := hb; clear h hb tk tk1)
    go_ret
    exact ⟨rfl, HB1.out⟩
end Go.Proofs.Ytcaomjagibbgiaa
