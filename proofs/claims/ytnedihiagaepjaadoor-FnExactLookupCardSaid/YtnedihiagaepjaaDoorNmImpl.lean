/- Contract: areDifferentNames of the program. Conditions: the table holds what the program's text lays; the slice's length is at most its capacity. -/
import Derived.Test.YtnedihiagaepjaaDoorNmSt
import Derived.Test.YtnedihiagaepjaaDoorShelf
namespace Go.Proofs.YtnedihiagaepjaaDoor
open Go Go.RowKit

set_option maxHeartbeats 2000000 in
set_option maxRecDepth 100000 in
theorem areDifferentNames_any (A : Option Addr) (n c : Nat) (xs : List St) (W : World) (hr : StI W W.heap.size A n xs) (hnc : n ≤ c) (hT : Classes W) :
    Calls Tryd.prog 105 #[.slice A n c] W fun e w' => e = .returned (.bool (tt (OkNames xs))) ∧ Below W.heap.size W w' := by
  have HR := Lib.hid hr
  have hn := hr.2.1
  have HN := Lib.hid hr.1
  have HTT := Lib.hid hT
  have hn2 : n ≤ 9223372036854775807 := by unfold maxLen at hn; omega
  unfold maxLen at hn
  clear hr hT
  obtain ⟨P, hP⟩ : ∃ P, tt (OkNames xs) = P := ⟨_, rfl⟩
  have HP := Lib.hid hP
  rw [hP]
  clear hP
  go_enter Tryd.func105, Tryd.ntmps105
  go_wp2_with fail
  go_loopw [7] (fun i wr => ∃ k : Nat, k ≤ n ∧ i = .int .i64 k ∧ Hid (Below W.heap.size W wr) ∧ Hid (∀ (i : Nat) (x : St), i < k → xs[i]? = some x → isNameB x = true ∧ ∀ j, j < i → xs[j]? ≠ some x)) (fun i _ => n - (intOf i).toNat)
  case atStart => exact ⟨0, Nat.zero_le _, rfl, Below.refl _ _, Lib.hid (fun i x hi => absurd hi (by omega))⟩
  case round =>
    obtain ⟨k, hk, rfl, HW, HV⟩ := hrel
    by_cases hlt : k < n
    · have b0 : (0 : Int) ≤ (k : Int) := by omega
      have b1 : (k : Int) < (n : Int) := by omega
      have b2 : (k : Int) ≤ (c : Int) := by omega
      have b3 : k ≤ c := by omega
      obtain ⟨b, off, x, rfl, hg, hx, q0, hxs⟩ := (HR.out.go HW.out).at_ hlt
      have HX := Lib.hid hx
      have HXS := Lib.hid hxs
      have HT1 : Hid (Classes wr) := HTT.out.below HW.out (heap_pos (HTT.out.at_ 0 (by decide)))
      have HCON : Hid (∀ w, Below wr.heap.size wr w → Calls Tryd.prog 107 #[.slice (some ⟨b, off, none⟩) k c, .string x] w fun e w' => e = .returned (.bool (Lib.containsS (xs.take k) x)) ∧ w' = w) :=
        fun w hb => Tryd.slices_Contains_string b off k c xs x w (by have := HN.out; omega) (by omega) (fun j hj => by
          obtain ⟨b', off', e, _, hc⟩ := ((HR.out.go HW.out).go hb).2.2 (by omega)
          simp only [Option.some.injEq, Addr.mk.injEq, and_true] at e
          obtain ⟨rfl, rfl⟩ := e
          have hj' : xs[j]? = some (xs.getD j ByteArray.empty) := by rw [List.getD_eq_getElem?_getD, List.getElem?_eq_getElem hj]; rfl
          exact (hc j _ hj').1)
      obtain ⟨z, hz⟩ : ∃ z, isNameB x = z := ⟨_, rfl⟩
      obtain ⟨y, hy⟩ : ∃ y, Lib.containsS (xs.take k) x = y := ⟨_, rfl⟩
      have HZ := Lib.hid hz
      have HY := Lib.hid hy
      rw [hy] at HCON
      clear hx hxs hg hz hy
      cases z
      · have HF : Hid (P = false) := by
          show _ = _
          rw [← HP.out]
          refine tt_false fun e => ?_
          have h := (e k x HX.out).1
          rw [HZ.out] at h
          cases h
        go_wp2_with (go_at_call 31; refine (impl_IsName_any x _ HXS.out HT1.out).mono ?_; rintro e w1 ⟨rfl, hb⟩; rw [HZ.out]; have HW1 : Hid (Below W.heap.size W w1) := HW.out.trans (hb.mono HW.out.size); clear hb)
        go_ret
        exact ⟨by rw [HF.out]; rfl, HW1.out⟩
      have HMEM := Lib.hid (Lib.containsS_iff (xs.take k) x)
      cases y
      · have HV2 : Hid (∀ (i : Nat) (x : St), i < k + 1 → xs[i]? = some x → isNameB x = true ∧ ∀ j, j < i → xs[j]? ≠ some x) := by
          show ∀ _ _, _
          intro i u hi hu
          by_cases e : i = k
          · subst e
            rw [HX.out, Option.some.injEq] at hu
            subst hu
            refine ⟨HZ.out, fun j hj e2 => ?_⟩
            have hmem : x ∈ xs.take i := by
              rw [List.mem_iff_getElem?]
              exact ⟨j, by rw [List.getElem?_take, if_pos hj]; exact e2⟩
            have h := HMEM.out.2 hmem
            rw [HY.out] at h
            cases h
          · exact HV.out i u (by omega) hu
        go_wp2_with (first
          | (go_at_call 31; refine (impl_IsName_any x _ HXS.out HT1.out).mono ?_; rintro e w1 ⟨rfl, hb⟩; rw [HZ.out]; have HW1 : Hid (Below W.heap.size W w1) := HW.out.trans (hb.mono HW.out.size); have HCC := Lib.hid (HCON.out _ hb); clear hb)
          | (go_at_call 107; have HQ := HCC.out; refine Calls.mono HQ ?_; clear HQ; rintro e w2 ⟨rfl, rfl⟩))
        go_roundw
        case rel => exact ⟨k + 1, by omega, by go_num, HW1, HV2⟩
        case measure => simp [intOf]; omega
      · have HF : Hid (P = false) := by
          show _ = _
          rw [← HP.out]
          refine tt_false fun e => ?_
          have hmem := HMEM.out.1 HY.out
          obtain ⟨j, hj⟩ := List.mem_iff_getElem?.1 hmem
          rw [List.getElem?_take] at hj
          split at hj
          · rename_i hjk
            exact (e k x HX.out).2 j hjk hj
          · cases hj
        go_wp2_with (first
          | (go_at_call 31; refine (impl_IsName_any x _ HXS.out HT1.out).mono ?_; rintro e w1 ⟨rfl, hb⟩; rw [HZ.out]; have HW1 : Hid (Below W.heap.size W w1) := HW.out.trans (hb.mono HW.out.size); have HCC := Lib.hid (HCON.out _ hb); clear hb)
          | (go_at_call 107; have HQ := HCC.out; refine Calls.mono HQ ?_; clear HQ; rintro e w2 ⟨rfl, rfl⟩))
        go_ret
        exact ⟨by rw [HF.out]; rfl, HW1.out⟩
    · have HE : Hid (P = true) := by
        show _ = _
        rw [← HP.out]
        refine tt_true fun i x hx => HV.out i x ?_ hx
        have := (List.getElem?_eq_some_iff.1 hx).1
        have := HN.out
        omega
      go_wp2_with fail
      go_ret
      exact ⟨by rw [HE.out]; rfl, HW.out⟩
end Go.Proofs.YtnedihiagaepjaaDoor
