/- Contracts: l07Size, HeapSize of both. Condition: the table holds what the program's text lays (the program's). -/
import Derived.Test.YtbdmanadmckjjaaDoorFitsH
namespace Go.Proofs.YtbdmanadmckjjaaDoor
open Go Go.RowKit Go.Sort

/-- The keys and values of the first k objects. -/
def sumN (os : List Ob) : Nat → Nat
  | 0 => 0
  | k + 1 => sumN os k + ((os[k]?.map fun o : Ob => o.keys.length + o.vals.length).getD 0)
theorem sumN_next {os : List Ob} {k : Nat} {o : Ob} (h : os[k]? = some o) : sumN os (k + 1) = sumN os k + (o.keys.length + o.vals.length) := by
  rw [sumN, h]
  rfl
theorem small_valid {o : Ob} (h : ValidO o) : o.keys.length ≤ 30 ∧ o.vals.length ≤ 30 := by
  obtain ⟨_, h1 | h2 | h3⟩ := h
  · obtain ⟨_, _, _, _, h4, h5, _⟩ := h1
    omega
  · obtain ⟨_, _, _, _, h4, h5, _⟩ := h2
    omega
  · obtain ⟨_, _, _, _, h4, _, h5, _⟩ := h3
    omega
theorem sumN_le {os : List Ob} (h : ∀ (j : Nat) (o : Ob), os[j]? = some o → ValidO o) : ∀ k, sumN os k ≤ 60 * k
  | 0 => Nat.zero_le _
  | k + 1 => by
    have ih := sumN_le h k
    cases ho : os[k]? with
    | none => rw [sumN, ho]; simp; omega
    | some o =>
      have := small_valid (h k o ho)
      rw [sumN_next ho]
      omega
/-- What HeapSize answers. -/
noncomputable def sizeH (nx : Int) (os : List Ob) : Int := if tt (ValidH nx os) = true then (sumN os os.length : Int) else -1

set_option maxHeartbeats 2000000 in
set_option maxRecDepth 100000 in
theorem l07Size_any (g : Nat) (nx : Int) (A : Option Addr) (n c : Nat) (os : List Ob) (W : World) (h : HPt W g nx A n c os) (hv : ValidH nx os) :
    Calls Tryd.prog 46 #[.pointer (some ⟨g, 0, none⟩)] W fun e w' => e = .returned (.int .i64 (sumN os os.length : Int)) ∧ Below W.heap.size W w' := by
  have H := Lib.hid h
  have HN := Lib.hid h.2.2.1.1
  have hn : n ≤ 40 := by rw [← h.2.2.1.1]; exact hv.2.1
  have HSM := Lib.hid (sumN_le (os := os) fun j o ho => (hv.2.2.1 j o ho).1)
  have HSV := Lib.hid (fun (j : Nat) (o : Ob) (ho : os[j]? = some o) => small_valid (hv.2.2.1 j o ho).1)
  have s1 := h.2.1
  clear h hv
  obtain ⟨S, hS⟩ : ∃ S, sumN os os.length = S := ⟨_, rfl⟩
  have HS : Hid (sumN os n = S) := by show _ = _; rw [← hS, HN.out]
  rw [hS]
  clear hS
  go_enter Tryd.func46, Tryd.ntmps46
  go_wp2_with fail
  go_loopw [3, 4] (fun q i wr => ∃ k z : Nat, k ≤ n ∧ i = .int .i64 k ∧ q = .int .i64 z ∧ z ≤ 2400 ∧ Hid (sumN os k = z) ∧ Hid (Below W.heap.size W wr)) (fun _ i _ => n - (intOf i).toNat)
  case atStart => exact ⟨0, 0, Nat.zero_le _, rfl, rfl, Nat.zero_le _, rfl, Below.refl _ _⟩
  case round =>
    obtain ⟨k, z, hk, rfl, rfl, hz, HZ, HW⟩ := hrel
    have p1 : wr.cell? ⟨g, 1, none⟩ = some (.slice A n c) := (HW.out.cell (p := ⟨g, 1, none⟩) H.out.2.2.2).trans H.out.2.1
    by_cases hlt : k < n
    · obtain ⟨b, off, o, l, rfl, hg, hx, ⟨_, _, _, _, q4, q5, _⟩, hov⟩ := (H.out.2.2.1.go HW.out).at_ hlt
      have HX := Lib.hid hx
      obtain ⟨s1', s2'⟩ := HSV.out k o hx
      rw [hov.1.1] at s1'
      rw [hov.2.1.1] at s2'
      have HE : Hid (o.keys.length = l.nk ∧ o.vals.length = l.nv) := ⟨hov.1.1, hov.2.1.1⟩
      obtain ⟨Ak, nk, ck, Av, nv, cv, hck, hcv⟩ := l
      dsimp only at q4 q5 s1' s2'
      have x1 := cell_regrown p1
      have x4 := cell_regrown q4
      have x5 := cell_regrown q5
      have b0 : (0 : Int) ≤ (k : Int) := by omega
      have b1 : (k : Int) < (n : Int) := by omega
      have HNX : Hid (sumN os (k + 1) = z + (nk + nv)) := by show _ = _; rw [sumN_next HX.out, HZ.out, HE.out.1, HE.out.2]
      have HB : Hid (sumN os (k + 1) ≤ 60 * (k + 1)) := HSM.out _
      have hz2 : z + (nk + nv) ≤ 2400 := by have h1 := HNX.out; have h2 := HB.out; rw [h1] at h2; omega
      have HZ2 := Lib.hid hz2
      clear hx hov hg q4 q5
      go_wp2_with fail
      refine wp_region_quiet_below (by kernel_rfl) (by kernel_rfl) ?_
      repeat (first | go_big_quiet_step (fail) | quiet_step (fail))
      refine wpQuiet_nil ?_
      intro w1 hw'
      obtain ⟨⟨dq, osq⟩, hw''⟩ := hw'
      have HB1 : Hid (Below W.heap.size W w1) := by show Below _ _ _; rw [hw'']; exact HW.out.trans ((below_regrown wr dq osq).mono HW.out.size)
      clear hw'' x1 x4 x5 p1
      go_wp2_with fail
      go_roundw
      case rel => exact ⟨k + 1, z + (nk + nv), by omega, by go_num, by go_num, HZ2.out, HNX, HB1⟩
      case measure => simp [intOf]; omega
    · have hkn : k = n := by omega
      have HE : Hid (z = S) := by show _ = _; rw [← HS.out, ← HZ.out, hkn]
      clear hkn
      go_wp2_with fail
      go_ret
      exact ⟨by rw [HE.out]; rfl, HW.out⟩

set_option maxHeartbeats 1000000 in
set_option maxRecDepth 100000 in
theorem spec_HeapSize_any (nx : Int) (A : Option Addr) (n c : Nat) (os : List Ob) (W : World) (ha : OI W W.heap.size A n os) :
    Calls Tryd.prog 19 #[.agg #[.int .i64 nx, .slice A n c]] W fun e w' => e = .returned (.int .i64 (sizeH nx os)) ∧ Below W.heap.size W w' := by
  have HA := Lib.hid ha
  have HC := Lib.hid (one_new W 29 #[.int .i64 nx, .slice A n c])
  clear ha
  obtain ⟨S, hS⟩ : ∃ S, sizeH nx os = S := ⟨_, rfl⟩
  have HS := Lib.hid hS
  rw [hS]
  clear hS
  obtain ⟨V, hV⟩ : ∃ V, tt (ValidH nx os) = V := ⟨_, rfl⟩
  have HV := Lib.hid hV
  clear hV
  cases V
  · have HE : Hid (S = -1) := by show _ = _; rw [← HS.out, sizeH, if_neg (by rw [HV.out]; simp)]
    go_enter Tryd.func19, Tryd.ntmps19
    go_wp2_with (go_at_call 40; obtain ⟨g0, g1, g2⟩ := HC.out _ rfl; have hp := hpt_of g0 (HA.out.go g1); refine Calls.mono (l07Ok_any W.heap.size nx A n c os _ hp) ?_; rintro e w1 ⟨rfl, hb⟩; rw [HV.out]; have HB1 := Lib.hid (g1.trans (hb.mono g1.size)); clear g0 g1 g2 hb hp)
    all_goals go_ret
    all_goals exact ⟨by rw [HE.out]; rfl, HB1.out⟩
  · have HE : Hid ((sumN os os.length : Int) = S) := by show _ = _; rw [← HS.out, sizeH, if_pos HV.out]
    go_enter Tryd.func19, Tryd.ntmps19
    go_wp2_with (first
      | (go_at_call 40; obtain ⟨g0, g1, g2⟩ := HC.out _ rfl; have hp := hpt_of g0 (HA.out.go g1); refine Calls.mono (l07Ok_any W.heap.size nx A n c os _ hp) ?_; rintro e w1 ⟨rfl, hb⟩; rw [HV.out]; have HB1 := Lib.hid (g1.trans (hb.mono g1.size)); have HP1 := Lib.hid (hp.go hb); clear g0 g1 g2 hb hp HC)
      | (go_at_call 46; refine Calls.mono (l07Size_any W.heap.size nx A n c os _ HP1.out (of_tt HV.out)) ?_; rintro e w2 ⟨rfl, hb⟩; rw [HE.out]; have HB2 := Lib.hid (HB1.out.trans (hb.mono HB1.out.size)); clear hb))
    all_goals go_ret
    all_goals exact ⟨rfl, HB2.out⟩

set_option maxHeartbeats 2000000 in
set_option maxRecDepth 100000 in
theorem impl_HeapSize_any (nx : Int) (b off n c : Nat) (os : List Ob) (W : World) (ha : OI W W.heap.size (some ⟨b, off, none⟩) n os) (hT : Classes W) :
    Calls Tryd.prog 20 #[.agg #[.int .i64 nx, .slice (some ⟨b, off, none⟩) n c]] W fun e w' => e = .returned (.int .i64 (sizeH nx os)) ∧ Below W.heap.size W w' := by
  have HA := Lib.hid ha
  have HT := Lib.hid hT
  have HN := Lib.hid ha.1
  have HC := Lib.hid (one_new W 29 #[.int .i64 nx, .slice (some ⟨b, off, none⟩) n c])
  obtain ⟨S, hS⟩ : ∃ S, sizeH nx os = S := ⟨_, rfl⟩
  have HS := Lib.hid hS
  rw [hS]
  clear hS
  obtain ⟨V, hV⟩ : ∃ V, tt (ValidH nx os) = V := ⟨_, rfl⟩
  have HV := Lib.hid hV
  clear hV hT
  cases V
  · have HE : Hid (S = -1) := by show _ = _; rw [← HS.out, sizeH, if_neg (by rw [HV.out]; simp)]
    clear ha
    go_enter Tryd.func20, Tryd.ntmps20
    go_wp2_with (go_at_call 13; obtain ⟨g0, g1, g2⟩ := HC.out _ rfl; refine Calls.mono (impl_ValidHeap_any nx b off n c os _ (HA.out.go g1) (classes_go HT.out g1)) ?_; rintro e w1 ⟨rfl, hb⟩; rw [HV.out]; have HB1 := Lib.hid (g1.trans (hb.mono g1.size)); clear g0 g1 g2 hb)
    all_goals go_ret
    all_goals exact ⟨by rw [HE.out]; rfl, HB1.out⟩
  · have hv := of_tt HV.out
    have hn : n ≤ 40 := by rw [← ha.1]; exact hv.2.1
    have HSM := Lib.hid (sumN_le (os := os) fun j o ho => (hv.2.2.1 j o ho).1)
    have HSV := Lib.hid (fun (j : Nat) (o : Ob) (ho : os[j]? = some o) => small_valid (hv.2.2.1 j o ho).1)
    have HE : Hid ((sumN os n : Int) = S) := by show _ = _; rw [← HS.out, sizeH, if_pos HV.out, HN.out]
    clear ha hv
    go_enter Tryd.func20, Tryd.ntmps20
    go_wp2_with (go_at_call 13; obtain ⟨g0, g1, g2⟩ := HC.out _ rfl; refine Calls.mono (impl_ValidHeap_any nx b off n c os _ (HA.out.go g1) (classes_go HT.out g1)) ?_; rintro e w1 ⟨rfl, hb⟩; rw [HV.out]; have HB1 := Lib.hid (g1.trans (hb.mono g1.size)); have p1 : w1.cell? ⟨W.heap.size, 1, none⟩ = some (.slice (some ⟨b, off, none⟩) n c) := (g0.below hb g2).cell 1; clear g0 g1 g2 hb HC)
    go_loopw [3, 12] (fun q i wr => ∃ k z : Nat, k ≤ n ∧ i = .int .i64 k ∧ q = .int .i64 z ∧ z ≤ 2400 ∧ Hid (sumN os k = z) ∧ Hid (Below W.heap.size W wr)) (fun _ i _ => n - (intOf i).toNat)
    case atStart => exact ⟨0, 0, Nat.zero_le _, rfl, rfl, Nat.zero_le _, rfl, HB1⟩
    case round =>
      clear p1
      obtain ⟨k, z, hk, rfl, rfl, hz, HZ, HW⟩ := hrel
      by_cases hlt : k < n
      · obtain ⟨b', off', o, l, hA, hg, hx, ⟨q0, q1, q2, q3, q4, q5, q6, q7, q8, q9⟩, hov⟩ := (HA.out.go HW.out).at_ hlt
        simp only [Option.some.injEq, Addr.mk.injEq, and_true] at hA
        obtain ⟨rfl, rfl⟩ := hA
        have HX := Lib.hid hx
        obtain ⟨s1', s2'⟩ := HSV.out k o hx
        rw [hov.1.1] at s1'
        rw [hov.2.1.1] at s2'
        have HEL : Hid (o.keys.length = l.nk ∧ o.vals.length = l.nv) := ⟨hov.1.1, hov.2.1.1⟩
        obtain ⟨Ak, nk, ck, Av, nv, cv, hck, hcv⟩ := l
        dsimp only at q4 q5 s1' s2'
        have b0 : (0 : Int) ≤ (k : Int) := by omega
        have b1 : (k : Int) < (n : Int) := by omega
        have HNX : Hid (sumN os (k + 1) = z + (nk + nv)) := by show _ = _; rw [sumN_next HX.out, HZ.out, HEL.out.1, HEL.out.2]
        have HB : Hid (sumN os (k + 1) ≤ 60 * (k + 1)) := HSM.out _
        have hz2 : z + (nk + nv) ≤ 2400 := by have h1 := HNX.out; have h2 := HB.out; rw [h1] at h2; omega
        have HZ2 := Lib.hid hz2
        have HW2 : Hid (∀ cs T, Below W.heap.size W (wr.alloc (.cells cs T))) := fun cs T => HW.out.alloc HW.out.size _
        clear hx hov hg
        go_wp2_with fail
        go_roundw
        case rel => exact ⟨k + 1, z + (nk + nv), by omega, by go_num, by go_num, HZ2.out, HNX, HW2.out _ _⟩
        case measure => simp [intOf]; omega
      · have hkn : k = n := by omega
        have HEZ : Hid ((z : Int) = S) := by show _ = _; rw [← HE.out, ← HZ.out, hkn]
        clear hkn
        go_wp2_with fail
        go_ret
        exact ⟨by rw [HEZ.out]; rfl, HW.out⟩
end Go.Proofs.YtbdmanadmckjjaaDoor
