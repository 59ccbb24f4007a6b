/- szObjectS, szHeap of the laws. No condition. -/
import Derived.Test.YtbdmanadmckjjaaDoorBlk
namespace Go.Proofs.YtbdmanadmckjjaaDoor
open Go Go.RowKit

/-- What the first k objects take of the bound, their number aside. -/
def sumO (os : List Ob) : Nat → Nat
  | 0 => 0
  | k + 1 => sumO os k + ((os[k]?.map szO).getD 0)
theorem sumO_next {os : List Ob} {k : Nat} {o : Ob} (h : os[k]? = some o) : sumO os (k + 1) = sumO os k + szO o := by
  rw [sumO, h]
  rfl
theorem sumO_mono {os : List Ob} {j : Nat} : ∀ {k : Nat}, j ≤ k → sumO os j ≤ sumO os k
  | 0, h => by obtain rfl : j = 0 := by omega
               exact Nat.le_refl _
  | k + 1, h => by
    by_cases e : j = k + 1
    · rw [e]; exact Nat.le_refl _
    · have := sumO_mono (os := os) (show j ≤ k by omega)
      rw [sumO]
      omega
/-- What szHeap takes of the bound. -/
def szH (os : List Ob) : Nat := os.length + sumO os os.length

set_option maxHeartbeats 1000000 in
set_option maxRecDepth 100000 in
theorem szObjectS_any (A : Option Addr) (n c : Nat) (os : List Ob) (L : Int) (W : World) (hr : OI W W.heap.size A n os) (h0 : 0 ≤ L) (hL : L ≤ 1048576) :
    Calls Tryd.prog 39 #[.slice A n c, .int .i64 L] W (SzL (szH os) L W) := by
  have HR := Lib.hid hr
  have hn := hr.2.1
  have hxn := hr.1
  clear hr
  obtain ⟨s, hs⟩ : ∃ s, szH os = s := ⟨_, rfl⟩
  have HS : Hid (s = n + sumO os n) := by show _ = _; rw [← hs, szH, hxn]
  rw [hs]
  clear hs hxn
  unfold maxLen at hn
  by_cases hbig : L < (n : Int)
  · have HB : Hid (L < (s : Int)) := by show _ < _; have := HS.out; omega
    have h2 : (n : Int) ≤ 9223372036854775807 := by omega
    have d0 : decide (L - n < 0) = true := by simp; omega
    go_enter Tryd.func39, Tryd.ntmps39
    go_wp2_with fail
    go_ret
    exact ⟨.inr ⟨HB.out, rfl⟩, Below.refl _ _⟩
  · have h1 : (n : Int) ≤ L := by omega
    have hn' : n ≤ 1048576 := by omega
    have d0 : decide (L - n < 0) = false := by simp; omega
    clear hbig
    go_enter Tryd.func39, Tryd.ntmps39
    go_wp2_with fail
    go_loopw [1, 5] (fun q i wr => ∃ k : Nat, ∃ z : Int, k ≤ n ∧ i = .int .i64 k ∧ q = .int .i64 z ∧ 0 ≤ z ∧ z ≤ 1048576 ∧ Hid (z = L - (n : Int) - (sumO os k : Int)) ∧ Hid (Below W.heap.size W wr)) (fun _ i _ => n - (intOf i).toNat)
    case atStart => exact ⟨0, _, Nat.zero_le _, rfl, rfl, by omega, by omega, by show _ = _; simp [sumO], Below.refl _ _⟩
    case round =>
      obtain ⟨k, z, hk, rfl, rfl, hz0, hz1, HZ, HW⟩ := hrel
      by_cases hlt : k < n
      · obtain ⟨b, off, o, l, rfl, hg, hx, ⟨q0, q1, q2, q3, q4, q5, q6, q7, q8, q9⟩, hov⟩ := (HR.out.below HW.out).at_ hlt
        have HO := Lib.hid (hov.more HW.out.size)
        have HX := Lib.hid hx
        have b0 : (0 : Int) ≤ (k : Int) := by omega
        have b1 : (k : Int) < (n : Int) := by omega
        have HZ0 : Hid (0 ≤ z) := hz0
        have HZ1 : Hid (z ≤ 1048576) := hz1
        clear hx hov hg
        by_cases hf : (szO o : Int) ≤ z
        · have HF := Lib.hid hf
          have HN : Hid (sumO os (k + 1) = sumO os k + szO o) := sumO_next HX.out
          clear hf
          go_wp2_with (go_at_call 32; refine (szObject_any o l _ _ HO.out HZ0.out HZ1.out).mono ?_; intro e w1 h; obtain ⟨z1, rfl, hz2, l1, u1, hb⟩ := h.fits HF.out HZ1.out; have Z1 := Lib.hid hz2; have dz : decide (z1 < 0) = false := (by simp; omega); have HW1 : Hid (Below W.heap.size W w1) := HW.out.trans (hb.mono HW.out.size); clear hb hz2)
          go_roundw
          case rel => exact ⟨k + 1, _, by omega, by go_num, rfl, by omega, by omega, by show _ = _; rw [HN.out, Z1.out, HZ.out]; omega, HW1⟩
          case measure => simp [intOf]; omega
        · have HF := Lib.hid hf
          have HBIG : Hid (L < (s : Int)) := by
            show _ < _
            have h1 := sumO_mono (os := os) (j := k + 1) (k := n) (by omega)
            rw [sumO_next HX.out] at h1
            have h2 := HZ.out
            have h3 := HS.out
            omega
          clear hf
          go_wp2_with (go_at_call 32; refine (szObject_any o l _ _ HO.out HZ0.out HZ1.out).mono ?_; intro e w1 h; obtain ⟨rfl, hb⟩ := h.long HF.out; have HW1 : Hid (Below W.heap.size W w1) := HW.out.trans (hb.mono HW.out.size); clear hb)
          go_ret
          exact ⟨.inr ⟨HBIG.out, rfl⟩, HW1.out⟩
      · have hkn : k = n := by omega
        have HE : Hid ((s : Int) ≤ L ∧ z = L - (s : Int)) := by
          have h := HZ.out
          have h3 := HS.out
          rw [hkn] at h
          exact ⟨by omega, by omega⟩
        go_wp2_with fail
        go_ret
        exact ⟨.inl ⟨HE.out.1, by rw [HE.out.2]; rfl⟩, HW.out⟩

set_option maxRecDepth 100000 in
theorem szHeap_any (nx : Int) (A : Option Addr) (n c : Nat) (os : List Ob) (L : Int) (W : World) (hr : OI W W.heap.size A n os) (h0 : 0 ≤ L) (hL : L ≤ 1048576) :
    Calls Tryd.prog 10 #[.agg #[.int .i64 nx, .slice A n c], .int .i64 L] W (SzL (szH os) L W) := by
  have HR := Lib.hid hr
  have H0 := Lib.hid h0
  have HL := Lib.hid hL
  have HA := Lib.hid (fun X (e : X = W.alloc (.cells #[.int .i64 nx, .slice A n c] 24)) => (show Below W.heap.size W X from by rw [e]; exact below_alloc _ _))
  clear hr
  by_cases hf : (szH os : Int) ≤ L
  · have HF := Lib.hid hf
    clear hf
    go_enter Tryd.func10, Tryd.ntmps10
    go_wp2_with (go_at_call 39; refine (szObjectS_any _ _ _ os _ _ (HR.out.go (HA.out _ rfl)) H0.out HL.out).mono ?_; intro e w1 h; obtain ⟨z1, rfl, hz2, l1, u1, hb⟩ := h.fits HF.out HL.out; have Z1 := Lib.hid hz2; have dz : decide (z1 < 0) = false := (by simp; omega); have HW1 : Hid (Below W.heap.size W w1) := (below_alloc _ _).trans (hb.mono (by simp)); clear hb hz2)
    go_ret
    exact ⟨.inl ⟨HF.out, by rw [Z1.out]; rfl⟩, HW1.out⟩
  · have HF := Lib.hid hf
    clear hf
    go_enter Tryd.func10, Tryd.ntmps10
    go_wp2_with (go_at_call 39; refine (szObjectS_any _ _ _ os _ _ (HR.out.go (HA.out _ rfl)) H0.out HL.out).mono ?_; intro e w1 h; obtain ⟨rfl, hb⟩ := h.long HF.out; have HW1 : Hid (Below W.heap.size W w1) := (below_alloc _ _).trans (hb.mono (by simp)); clear hb)
    go_ret
    exact ⟨.inr ⟨by have := HF.out; omega, rfl⟩, HW1.out⟩
end Go.Proofs.YtbdmanadmckjjaaDoor
