/- Contract: areDifferent of the program. Condition: the slice's length is at most its capacity. -/
import Derived.Test.YtbdmanadmckjjaaDoorObIndex
import Derived.Deep.QuietTactic
import Derived.BigQuiet
namespace Go.Proofs.YtbdmanadmckjjaaDoor
open Go Go.RowKit Go.Sort

set_option maxHeartbeats 2000000 in
set_option maxRecDepth 100000 in
theorem areDifferent_any (A : Option Addr) (n c : Nat) (xs : List Vl) (W : World) (hr : VI W W.heap.size A n xs) (hnc : n ≤ c) :
    Calls Tryd.prog 115 #[.slice A n c] W fun e w' => e = .returned (.bool (tt (Distinct xs))) ∧ Below W.heap.size W w' := by
  have HR := Lib.hid hr
  have hn := hr.2.1
  have HN := Lib.hid hr.1
  unfold maxLen at hn
  clear hr
  obtain ⟨P, hP⟩ : ∃ P, tt (Distinct xs) = P := ⟨_, rfl⟩
  have HP := Lib.hid hP
  rw [hP]
  clear hP
  go_enter Tryd.func115, Tryd.ntmps115
  go_wp2_with fail
  go_loopw [7] (fun i wr => ∃ k : Nat, k ≤ n ∧ i = .int .i64 k ∧ Hid (Below W.heap.size W wr) ∧ Hid (∀ (i j : Nat) (x y : Vl), i < k → j < i → xs[i]? = some x → xs[j]? = some y → x ≠ y)) (fun i _ => n - (intOf i).toNat)
  case atStart => exact ⟨0, Nat.zero_le _, rfl, Below.refl _ _, fun i j x y hi => absurd hi (by omega)⟩
  case round =>
    obtain ⟨k, hk, rfl, HW, HV⟩ := hrel
    by_cases hlt : k < n
    · have b0 : (0 : Int) ≤ (k : Int) := by omega
      have b1 : (k : Int) < (n : Int) := by omega
      have b2 : (k : Int) ≤ (c : Int) := by omega
      have b3 : k ≤ c := by omega
      have hvi := HR.out.go HW.out
      obtain ⟨b, off, x, rfl, hg, hx, ⟨q0, q1, q2, q3⟩, _⟩ := hvi.at_ hlt
      have HX := Lib.hid hx
      have HT := Lib.hid (hvi.take (k := k) (by omega))
      have HC := Lib.hid (one_new wr 37 #[.int .i64 x.k, .int .i64 x.n, .string x.t, .int .i64 x.r])
      obtain ⟨z, hz⟩ : ∃ z, tt (x ∈ xs.take k) = z := ⟨_, rfl⟩
      have HZ := Lib.hid hz
      clear hx hg hvi hz
      go_wp2_with fail
      obtain ⟨w0, hw0⟩ : ∃ w0, wr.alloc (.cells #[.int .i64 x.k, .int .i64 x.n, .string x.t, .int .i64 x.r] 37) = w0 := ⟨_, rfl⟩
      rw [hw0]
      obtain ⟨g0, g1, g2⟩ := HC.out w0 hw0.symm
      have HB0 := Lib.hid g1
      have x0 := cell_regrown (g0.cell 0)
      have x1 := cell_regrown (g0.cell 1)
      have x2 := cell_regrown (g0.cell 2)
      have x3 := cell_regrown (g0.cell 3)
      have cC : ∀ d os', Calls Tryd.prog 116 #[.slice (some ⟨b, off, none⟩) k c, .agg #[.int .i64 x.k, .int .i64 x.n, .string x.t, .int .i64 x.r]] (grow (redrawn w0 d) os') (fun e w'' => e = .returned (.bool z) ∧ ∃ q : Regrown, w'' = grow (redrawn w0 q.d) q.os) := fun d os' => Calls.regrown_of (by have h := slicesContains_any (some ⟨b, off, none⟩) k c (xs.take k) x (grow (redrawn w0 d) os') ((HT.out.go HB0.out).go (below_regrown w0 d os')); rw [HZ.out] at h; exact h)
      clear hw0 g0 g1 g2 q0 q1 q2 q3
      refine wp_region_quiet_below (by kernel_rfl) (by kernel_rfl) ?_
      repeat (first | go_big_quiet_step (exact cC _ _) | quiet_step (exact cC _ _))
      refine wpQuiet_nil ?_
      intro w4 hw'
      obtain ⟨⟨dq, osq⟩, hw''⟩ := hw'
      have HB4 : Hid (Below W.heap.size W w4) := by show Below _ _ _; rw [hw'']; exact HW.out.trans ((HB0.out.trans ((below_regrown w0 dq osq).mono HB0.out.size)).mono HW.out.size)
      clear hw'' x0 x1 x2 x3 cC
      cases z
      · have HNX : Hid (∀ (i j : Nat) (x y : Vl), i < k + 1 → j < i → xs[i]? = some x → xs[j]? = some y → x ≠ y) := by
          intro i j u v hi hj hu hv
          by_cases e : i = k
          · rw [e, HX.out, Option.some.injEq] at hu
            subst hu
            intro e2
            refine of_tt_false HZ.out ?_
            rw [e2]
            refine List.mem_of_getElem? (i := j) ?_
            rw [List.getElem?_take, if_pos (by omega)]
            exact hv
          · exact HV.out i j u v (by omega) hj hu hv
        go_wp2_with fail
        go_roundw
        case rel => exact ⟨k + 1, by omega, by go_num, HB4, HNX⟩
        case measure => simp [intOf]; omega
      · have HF : Hid (P = false) := by
          show _ = _
          rw [← HP.out]
          refine tt_false fun h => ?_
          obtain ⟨j, hj⟩ := List.getElem?_of_mem (of_tt HZ.out)
          rw [List.getElem?_take] at hj
          split at hj
          · rename_i hjk
            exact h k j x x hjk HX.out hj rfl
          · cases hj
        go_wp2_with fail
        go_ret
        exact ⟨by rw [HF.out]; rfl, HB4.out⟩
    · have hkn : k = n := by omega
      have HT : Hid (P = true) := by
        show _ = _
        rw [← HP.out]
        refine tt_true fun i j x y hj hx hy => HV.out i j x y ?_ hj hx hy
        have := (List.getElem?_eq_some_iff.1 hx).1
        have := HN.out
        omega
      go_wp2_with fail
      go_ret
      exact ⟨by rw [HT.out]; rfl, HW.out⟩
end Go.Proofs.YtbdmanadmckjjaaDoor
