/- Contracts: slices.Index, slices.Contains at values; areDifferent of the program. No condition. -/
import Derived.Test.YtbdmanadmckjjaaDoorHpPlain
import Derived.Test.YtbdmanadmckjjaaDoorVlsEq
import Derived.Test.YtbdmanadmckjjaaDoorObNames
import Derived.Lib.QuietBelow
namespace Go.Proofs.YtbdmanadmckjjaaDoor
open Go Go.RowKit Go.Sort

/-- What slices.Index answers of a value. -/
def IndexOf (xs : List Vl) (v : Vl) (f : Int) : Prop := (∃ k : Nat, xs[k]? = some v ∧ f = (k : Int)) ∨ ((∀ (j : Nat) (x : Vl), xs[j]? = some x → x ≠ v) ∧ f = -1)

set_option maxHeartbeats 2000000 in
set_option maxRecDepth 100000 in
theorem slicesIndex_any (A : Option Addr) (n c : Nat) (xs : List Vl) (v : Vl) (W : World) (ha : VI W W.heap.size A n xs) :
    Calls Tryd.prog 117 #[.slice A n c, v.ag] W fun e w' => ∃ f, e = .returned (.int .i64 f) ∧ Hid (IndexOf xs v f ∧ f < 9223372036854775807) ∧ Below W.heap.size W w' := by
  have HA := Lib.hid ha
  have hn := ha.2.1
  have HN := Lib.hid ha.1
  unfold maxLen at hn
  clear ha
  obtain ⟨vk, vn, vt, vr⟩ := v
  show Calls Tryd.prog 117 #[.slice A n c, .agg #[.int .i64 vk, .int .i64 vn, .string vt, .int .i64 vr]] W _
  have HC := Lib.hid (one_new W 37 #[.int .i64 vk, .int .i64 vn, .string vt, .int .i64 vr])
  go_enter Tryd.func117, Tryd.ntmps117
  go_wp2_with fail
  obtain ⟨w0, hw0⟩ : ∃ w0, W.alloc (.cells #[.int .i64 vk, .int .i64 vn, .string vt, .int .i64 vr] 37) = w0 := ⟨_, rfl⟩
  rw [hw0]
  obtain ⟨g0, g1, g2⟩ := HC.out w0 hw0.symm
  have HR0 := Lib.hid g0
  have HB0 := Lib.hid g1
  have HG0 := Lib.hid g2
  clear hw0 g0 g1 g2 HC
  go_loopw [8] (fun i wr => ∃ k : Nat, k ≤ n ∧ i = .int .i64 k ∧ Hid (Below w0.heap.size w0 wr) ∧ Hid (∀ (j : Nat) (x : Vl), j < k → xs[j]? = some x → x ≠ ⟨vk, vn, vt, vr⟩)) (fun i _ => n - (intOf i).toNat)
  case atStart => exact ⟨0, Nat.zero_le _, rfl, Below.refl _ _, fun j x hj => absurd hj (by omega)⟩
  case round =>
    obtain ⟨k, hk, rfl, HW, HV⟩ := hrel
    have HWW := Lib.hid (HB0.out.trans (HW.out.mono HB0.out.size))
    by_cases hlt : k < n
    · have b0 : (0 : Int) ≤ (k : Int) := by omega
      have b1 : (k : Int) < (n : Int) := by omega
      obtain ⟨b, off, x, rfl, hg, hx, ⟨q0, q1, q2, q3⟩, _⟩ := (HA.out.go HWW.out).at_ hlt
      have HX := Lib.hid hx
      have HG := Lib.hid hg
      have HRR := Lib.hid (HR0.out.below HW.out HG0.out)
      have HGV : Hid (W.heap.size < wr.heap.size) := Nat.lt_of_lt_of_le HG0.out HW.out.size
      have p0 : wr.cell? ⟨W.heap.size, 0, none⟩ = some (.int .i64 vk) := HRR.out.cell 0
      have p1 : wr.cell? ⟨W.heap.size, 1, none⟩ = some (.int .i64 vn) := HRR.out.cell 1
      have p2 : wr.cell? ⟨W.heap.size, 2, none⟩ = some (.string vt) := HRR.out.cell 2
      have p3 : wr.cell? ⟨W.heap.size, 3, none⟩ = some (.int .i64 vr) := HRR.out.cell 3
      obtain ⟨xk, xn, xt, xr⟩ := x
      dsimp only at q0 q1 q2 q3
      have HS := Lib.hid (sameV_iff ⟨vk, vn, vt, vr⟩ ⟨xk, xn, xt, xr⟩)
      clear hx hg
      have HF : Hid (sameV vk vn vt vr xk xn xt xr = false → ∀ (j : Nat) (x : Vl), j < k + 1 → xs[j]? = some x → x ≠ ⟨vk, vn, vt, vr⟩) := by
        show _ → _
        intro h j x hj hx
        by_cases e : j = k
        · rw [e, HX.out, Option.some.injEq] at hx
          subst hx
          intro e2
          rw [HS.out.2 e2.symm] at h
          cases h
        · exact HV.out j x (by omega) hx
      have HT : Hid (sameV vk vn vt vr xk xn xt xr = true → xs[k]? = some ⟨vk, vn, vt, vr⟩) := by
        show _ → _
        intro h
        rw [HX.out, HS.out.1 h]
      unfold sameV at HF HT
      clear HS HX
      obtain ⟨z1, h1⟩ : ∃ z, (vk == xk) = z := ⟨_, rfl⟩
      obtain ⟨z2, h2⟩ : ∃ z, (vn == xn) = z := ⟨_, rfl⟩
      obtain ⟨z3, h3⟩ : ∃ z, (vt.toList == xt.toList) = z := ⟨_, rfl⟩
      obtain ⟨z4, h4⟩ : ∃ z, (vr == xr) = z := ⟨_, rfl⟩
      rw [h1, h2, h3, h4] at HF HT
      cases z1
      · have HF1 := Lib.hid (HF.out (by simp))
        clear HF HT
        go_wp2_with fail
        go_region_held3 (fun w' => Two4 w' W.heap.size b 0 (off + k * 4) vk vn vt vr xk xn xt xr ∧ Below wr.heap.size wr w')
          (first | (exact ⟨⟨⟨p0, p1, p2, p3⟩, ⟨q0, q1, q2, q3⟩⟩, (Below.refl _ _).drew⟩) | (go_split_ands; exact two4_keep HGV.out HG.out ⟨⟨⟨by assumption, by assumption, by assumption, by assumption⟩, ⟨by assumption, by assumption, by assumption, by assumption⟩⟩, by assumption⟩ hb) | go_keep)
          (fail)
        go_wp2_with fail
        go_split_ands
        go_roundw
        case rel => exact ⟨k + 1, by omega, by go_num, HW.out.trans (Below.mono (by assumption) HW.out.size), HF1⟩
        case measure => simp [intOf]; omega
      cases z2
      · have HF1 := Lib.hid (HF.out (by simp))
        clear HF HT
        go_wp2_with fail
        go_region_held3 (fun w' => Two4 w' W.heap.size b 0 (off + k * 4) vk vn vt vr xk xn xt xr ∧ Below wr.heap.size wr w')
          (first | (exact ⟨⟨⟨p0, p1, p2, p3⟩, ⟨q0, q1, q2, q3⟩⟩, (Below.refl _ _).drew⟩) | (go_split_ands; exact two4_keep HGV.out HG.out ⟨⟨⟨by assumption, by assumption, by assumption, by assumption⟩, ⟨by assumption, by assumption, by assumption, by assumption⟩⟩, by assumption⟩ hb) | go_keep)
          (fail)
        go_wp2_with fail
        go_split_ands
        go_roundw
        case rel => exact ⟨k + 1, by omega, by go_num, HW.out.trans (Below.mono (by assumption) HW.out.size), HF1⟩
        case measure => simp [intOf]; omega
      cases z3
      · have HF1 := Lib.hid (HF.out (by simp))
        clear HF HT
        go_wp2_with fail
        go_region_held3 (fun w' => Two4 w' W.heap.size b 0 (off + k * 4) vk vn vt vr xk xn xt xr ∧ Below wr.heap.size wr w')
          (first | (exact ⟨⟨⟨p0, p1, p2, p3⟩, ⟨q0, q1, q2, q3⟩⟩, (Below.refl _ _).drew⟩) | (go_split_ands; exact two4_keep HGV.out HG.out ⟨⟨⟨by assumption, by assumption, by assumption, by assumption⟩, ⟨by assumption, by assumption, by assumption, by assumption⟩⟩, by assumption⟩ hb) | go_keep)
          (fail)
        go_wp2_with fail
        go_split_ands
        go_roundw
        case rel => exact ⟨k + 1, by omega, by go_num, HW.out.trans (Below.mono (by assumption) HW.out.size), HF1⟩
        case measure => simp [intOf]; omega
      cases z4
      · have HF1 := Lib.hid (HF.out (by simp))
        clear HF HT
        go_wp2_with fail
        go_region_held3 (fun w' => Two4 w' W.heap.size b 0 (off + k * 4) vk vn vt vr xk xn xt xr ∧ Below wr.heap.size wr w')
          (first | (exact ⟨⟨⟨p0, p1, p2, p3⟩, ⟨q0, q1, q2, q3⟩⟩, (Below.refl _ _).drew⟩) | (go_split_ands; exact two4_keep HGV.out HG.out ⟨⟨⟨by assumption, by assumption, by assumption, by assumption⟩, ⟨by assumption, by assumption, by assumption, by assumption⟩⟩, by assumption⟩ hb) | go_keep)
          (fail)
        go_wp2_with fail
        go_split_ands
        go_roundw
        case rel => exact ⟨k + 1, by omega, by go_num, HW.out.trans (Below.mono (by assumption) HW.out.size), HF1⟩
        case measure => simp [intOf]; omega
      have HT1 := Lib.hid (HT.out (by simp))
      have HL1 : Hid ((k : Int) < 9223372036854775807) := by show _ < _; omega
      clear HF HT
      go_wp2_with fail
      go_region_held3 (fun w' => Two4 w' W.heap.size b 0 (off + k * 4) vk vn vt vr xk xn xt xr ∧ Below wr.heap.size wr w')
        (first | (exact ⟨⟨⟨p0, p1, p2, p3⟩, ⟨q0, q1, q2, q3⟩⟩, (Below.refl _ _).drew⟩) | (go_split_ands; exact two4_keep HGV.out HG.out ⟨⟨⟨by assumption, by assumption, by assumption, by assumption⟩, ⟨by assumption, by assumption, by assumption, by assumption⟩⟩, by assumption⟩ hb) | go_keep)
        (fail)
      go_wp2_with fail
      go_split_ands
      go_ret
      exact ⟨_, rfl, Lib.hid ⟨.inl ⟨k, HT1.out, rfl⟩, HL1.out⟩, HWW.out.trans (Below.mono (by assumption) HWW.out.size)⟩
    · have hkn : k = n := by omega
      have HNO : Hid (∀ (j : Nat) (x : Vl), xs[j]? = some x → x ≠ ⟨vk, vn, vt, vr⟩) := by
        intro j x hx
        refine HV.out j x ?_ hx
        have := (List.getElem?_eq_some_iff.1 hx).1
        have := HN.out
        omega
      go_wp2_with fail
      go_ret
      exact ⟨_, rfl, Lib.hid ⟨.inr ⟨HNO.out, rfl⟩, by decide⟩, HWW.out⟩

set_option maxRecDepth 100000 in
theorem slicesContains_any (A : Option Addr) (n c : Nat) (xs : List Vl) (v : Vl) (W : World) (ha : VI W W.heap.size A n xs) :
    Calls Tryd.prog 116 #[.slice A n c, v.ag] W fun e w' => e = .returned (.bool (tt (v ∈ xs))) ∧ Below W.heap.size W w' := by
  have HA := Lib.hid ha
  clear ha
  obtain ⟨P, hP⟩ : ∃ P, tt (v ∈ xs) = P := ⟨_, rfl⟩
  have HP := Lib.hid hP
  rw [hP]
  clear hP
  obtain ⟨vk, vn, vt, vr⟩ := v
  show Calls Tryd.prog 116 #[.slice A n c, .agg #[.int .i64 vk, .int .i64 vn, .string vt, .int .i64 vr]] W _
  have HC := Lib.hid (one_new W 37 #[.int .i64 vk, .int .i64 vn, .string vt, .int .i64 vr])
  go_enter Tryd.func116, Tryd.ntmps116
  go_wp2_with (go_at_call 117; obtain ⟨g0, g1, g2⟩ := HC.out _ rfl; have HQ := slicesIndex_any A n c xs ⟨vk, vn, vt, vr⟩ _ (HA.out.go g1); refine Calls.mono HQ ?_; clear HQ; rintro e w1 ⟨f, rfl, hf, hb⟩; have HF := Lib.hid hf.out; have HB1 := Lib.hid (g1.trans (hb.mono g1.size)); obtain ⟨y, hy⟩ : ∃ y, decide ((0 : Int) ≤ f) = y := ⟨_, rfl⟩; have HY := Lib.hid hy; clear g0 g1 g2 hf hb HA)
  all_goals go_ret
  all_goals refine ⟨?_, HB1.out⟩
  all_goals
    have hPy : P = y := by
      rw [← HP.out, ← HY.out, Bool.eq_iff_iff]
      simp only [tt_iff, decide_eq_true_eq]
      rcases HF.out.1 with ⟨k, hk, rfl⟩ | ⟨hno, rfl⟩
      · exact ⟨fun _ => Int.natCast_nonneg _, fun _ => List.mem_of_getElem? hk⟩
      · refine ⟨fun h => ?_, fun h => absurd h (by decide)⟩
        obtain ⟨j, hj⟩ := List.getElem?_of_mem h
        exact absurd rfl (hno j _ hj)
    rw [hPy]
    rfl
end Go.Proofs.YtbdmanadmckjjaaDoor
