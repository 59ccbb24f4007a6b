/- The law's walk: FnExactValidEnv. Condition: the tables hold what the program's text lays. -/
import Derived.Test.YtjeiiljdhnmofaaDoorEnvSpec
import Derived.Test.YtjeiiljdhnmofaaDoorCards
import Derived.Stop.LaidErr
namespace Go.Proofs.YtjeiiljdhnmofaaDoor
open Go Go.RowKit

set_option maxHeartbeats 4000000 in
set_option maxRecDepth 100000 in
theorem walk_FnExactValidEnv (d : Nat) (A : Option Addr) (n c : Nat) (xs : List Nm) (W : World) (ha : NmI W 0 W.heap.size d A n xs) (hL : laidMetH Tryd.prog Rows.fnExactValidEnvRow.laid W) :
    Calls Tryd.prog 5 #[.slice A n c] W fun e w' => e = .returned (.bool true) ∧ Below W.heap.size W w' := by
  have h1 : laidMet Tryd.prog [("loop.example/g00873/impl.byteClasses", Rows.laid_loop_example_g00873_impl_byteClasses), ("loop.example/g00873/impl.patternForms", Rows.laid_loop_example_g00873_impl_patternForms)] W := hL
  have hT : Classes W := Lib.tabIs_of_head (rest := [("loop.example/g00873/impl.patternForms", Rows.laid_loop_example_g00873_impl_patternForms)]) gClasses (by kernel_rfl) Tryd.underlying112 Tryd.underlying5 (by kernel_rfl) (by kernel_rfl) h1
  have HT := Lib.hid hT
  have HFM : Hid (Forms W) := forms_of h1.tail
  clear hL hT h1
  have HA := Lib.hid ha
  have HSZ := Lib.hid (szNamedS_any d A n c xs 1048576 W ha (by decide) (by decide))
  clear ha
  by_cases c1 : (szNm xs : Int) ≤ 1048576
  · have C1 := Lib.hid c1
    have hsm := small_Nm c1
    have hn : n ≤ 1048576 := by rw [← HA.out.1]; exact hsm.2
    have TA := Lib.hid (fun (w : World) (h : Below W.heap.size W w) => toNamedS_any d A n c xs w (HA.out.go h) hsm.1 hn)
    clear c1 hsm hn
    obtain ⟨P, hP⟩ : ∃ P, tt (EnvOk xs) = P := ⟨_, rfl⟩
    have HP := Lib.hid hP
    clear hP
    have tk1 : True := trivial
    have tk2 : True := trivial
    go_enter Tryd.func5, Tryd.ntmps5
    go_wp2_with (first
      | (go_at_call 19; refine Calls.mono HSZ.out ?_; intro e w1 h; obtain ⟨z1, rfl, hz1, l1, u1, hb⟩ := h.fits C1.out (by decide); have d1 : decide (z1 < 0) = false := (by simp; omega); have H1 := Lib.hid hb; clear h hb hz1 HSZ)
      | (go_at_call 21; have tk := tk1; refine Calls.mono (TA.out _ H1.out) ?_; rintro e w2 ⟨rfl, h⟩; obtain ⟨hv, hb⟩ := h.out; have H2 := Lib.hid (H1.out.trans (hb.mono H1.out.size)); have HV2 := Lib.hid hv.zero; clear h hv hb tk tk1)
      | (go_at_call 20; refine Calls.mono (spec_ValidEnv_any d _ n n xs _ HV2.out) ?_; rintro e w3 ⟨rfl, hb⟩; rw [HP.out]; have H3 := Lib.hid (H2.out.trans (hb.mono H2.out.size)); clear hb HV2)
      | (go_at_call 21; have tk := tk2; refine Calls.mono (TA.out _ H3.out) ?_; rintro e w4 ⟨rfl, h⟩; obtain ⟨hv, hb⟩ := h.out; have H4 := Lib.hid (H3.out.trans (hb.mono H3.out.size)); have HV4 := Lib.hid hv.zero; clear h hv hb tk tk2)
      | (go_at_call 22; refine Calls.mono (impl_ValidEnv_any d _ n n xs _ HV4.out (classes_go HT.out H4.out) (HFM.out.go H4.out)) ?_; rintro e w5 ⟨rfl, hb⟩; rw [HP.out]; have H5 := Lib.hid (H4.out.trans (hb.mono H4.out.size)); have HV5 := Lib.hid (HV4.out.go hb); clear hb HV4)
      | (go_at_call 21; refine Calls.mono (TA.out _ H5.out) ?_; rintro e w6 ⟨rfl, h⟩; obtain ⟨hv, hb⟩ := h.out; have H6 := Lib.hid (H5.out.trans (hb.mono H5.out.size)); have HV6 := Lib.hid (HV5.out.go hb); have HX6 := Lib.hid hv.zero; clear h hv hb)
      | (go_at_call 23; refine Calls.mono (eqNamedS_same d _ _ n n n xs _ HV6.out HX6.out) ?_; rintro e w7 ⟨rfl, hb⟩; have H7 := Lib.hid (H6.out.trans (hb.mono H6.out.size)); clear hb))
    go_ret
    exact ⟨rfl, H7.out⟩
  · have C1 := Lib.hid c1
    clear c1
    go_enter Tryd.func5, Tryd.ntmps5
    go_wp2_with (go_at_call 19; refine Calls.mono HSZ.out ?_; intro e w1 h; obtain ⟨rfl, hb⟩ := h.long C1.out; have HB1 := Lib.hid hb; clear h hb)
    go_ret
    exact ⟨rfl, HB1.out⟩
end Go.Proofs.YtjeiiljdhnmofaaDoor
