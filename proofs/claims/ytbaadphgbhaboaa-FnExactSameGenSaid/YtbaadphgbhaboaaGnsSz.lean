/- szGen, szGenS of the laws. No condition. -/
import Derived.Test.YtbaadphgbhaboaaGns
import Derived.Test.YtbaadphgbhaboaaValSz
namespace Go.Proofs.Ytbaadphgbhaboaa
open Go Go.RowKit

mutual
/-- What szGen takes of the bound. -/
def gnSz : Gn → Nat
  | .node _ _ t _ _ vt _ ks => t.size + (vt.size + gnSzs ks)
def gnSzs : List Gn → Nat
  | [] => 0
  | x :: xs => 1 + gnSz x + gnSzs xs
end
theorem gnSz_eq (x : Gn) : gnSz x = x.t.size + (x.vt.size + gnSzs x.kids) := by
  cases x
  rw [gnSz]
  rfl
/-- The first k trees', their number aside. -/
def sumGn (xs : List Gn) : Nat → Nat
  | 0 => 0
  | k + 1 => sumGn xs k + ((xs[k]?.map gnSz).getD 0)
theorem sumGn_next {xs : List Gn} {k : Nat} {x : Gn} (h : xs[k]? = some x) : sumGn xs (k + 1) = sumGn xs k + gnSz x := by
  rw [sumGn, h]
  rfl
theorem sumGn_mono {xs : List Gn} {j : Nat} : ∀ {k : Nat}, j ≤ k → sumGn xs j ≤ sumGn xs k
  | 0, h => by obtain rfl : j = 0 := by omega
               exact Nat.le_refl _
  | k + 1, h => by
    by_cases e : j = k + 1
    · rw [e]; exact Nat.le_refl _
    · have := sumGn_mono (xs := xs) (show j ≤ k by omega)
      rw [sumGn]
      omega
theorem sumGn_cons (x : Gn) (xs : List Gn) : ∀ k, sumGn (x :: xs) (k + 1) = gnSz x + sumGn xs k
  | 0 => by simp [sumGn]
  | k + 1 => by
    have ih := sumGn_cons x xs k
    rw [sumGn, ih, sumGn]
    simp only [List.getElem?_cons_succ]
    omega
theorem gnSzs_eq : ∀ (xs : List Gn), gnSzs xs = xs.length + sumGn xs xs.length
  | [] => by rw [gnSzs]; rfl
  | x :: xs => by
    rw [gnSzs, gnSzs_eq xs, List.length_cons, sumGn_cons]
    omega
theorem gnSz_kid {xs : List Gn} {j : Nat} {x : Gn} (h : xs[j]? = some x) : gnSz x < gnSzs xs := by
  have hl := (List.getElem?_eq_some_iff.1 h).1
  have h1 := sumGn_mono (xs := xs) (j := j + 1) (k := xs.length) (by omega)
  rw [sumGn_next h] at h1
  rw [gnSzs_eq]
  omega
/-- The contract of szGenS at a slice. -/
def SzGnS (A : Option Addr) (n c : Nat) (xs : List Gn) (W : World) : Prop := ∀ (L : Int) (w : World), Below W.heap.size W w → 0 ≤ L → L ≤ 1048576 → Calls Try.prog 54 #[.slice A n c, .int .i64 L] w (SzL (gnSzs xs) L w)

set_option maxHeartbeats 2000000 in
set_option maxRecDepth 100000 in
theorem szGen_of (x : Gn) (A : Option Addr) (n c : Nat) (L : Int) (W : World) (ht : x.szOk) (hk : SzGnS A n c x.kids W) (h0 : 0 ≤ L) (hL : L ≤ 1048576) :
    Calls Try.prog 31 #[x.ag A n c, .int .i64 L] W (SzL (gnSz x) L W) := by
  obtain ⟨x0, x1, x2, x3, x4, x5, x6, ks⟩ := x
  obtain ⟨ht2, ht5⟩ := ht
  change x2.size ≤ maxLen at ht2
  change x5.size ≤ maxLen at ht5
  change SzGnS A n c ks W at hk
  obtain ⟨s, hs⟩ : ∃ s, gnSz (.node x0 x1 x2 x3 x4 x5 x6 ks) = s := ⟨_, rfl⟩
  rw [hs]
  rw [gnSz] at hs
  have HS := Lib.hid hs
  have HK := Lib.hid hk
  have HL0 := Lib.hid h0
  have HL1 := Lib.hid hL
  have HM5 := Lib.hid ht5
  have HC := Lib.hid (fun X (e : X = W.alloc (.cells #[.int .i64 x0, .int .i64 x1, .string x2, .int .i64 x3, .int .i64 x4, .string x5, .int .i64 x6, .slice A n c] 69)) => (show RW 69 X W.heap.size #[.int .i64 x0, .int .i64 x1, .string x2, .int .i64 x3, .int .i64 x4, .string x5, .int .i64 x6, .slice A n c] ∧ Below W.heap.size W X from by rw [e]; exact ⟨RW.new _ _ _, below_alloc _ _⟩))
  unfold maxLen at ht2 ht5
  clear hs hk
  show Calls Try.prog 31 #[.agg #[.int .i64 x0, .int .i64 x1, .string x2, .int .i64 x3, .int .i64 x4, .string x5, .int .i64 x6, .slice A n c], .int .i64 L] W _
  by_cases c0 : (x2.size : Int) ≤ L
  · have d0 : decide (L - (x2.size : Int) < 0) = false := by simp; omega
    by_cases c1 : (x5.size : Int) ≤ L - (x2.size : Int)
    · have C1 := Lib.hid c1
      have d1 : decide (L - (x2.size : Int) - (x5.size : Int) < 0) = false := by simp; omega
      have B0 : Hid (0 ≤ L - (x2.size : Int) - (x5.size : Int)) := by show _ ≤ _; omega
      have B1 : Hid (L - (x2.size : Int) - (x5.size : Int) ≤ 1048576) := by show _ ≤ _; omega
      have B2 : Hid (L - (x2.size : Int) ≤ 1048576) := by show _ ≤ _; omega
      have ARM := True.intro
      by_cases c2 : (gnSzs ks : Int) ≤ L - (x2.size : Int) - (x5.size : Int)
      · have C2 := Lib.hid c2
        clear c0 c1 c2
        go_enter Try.func31, Try.ntmps31
        go_wp2_with (first
          | (go_at_call 53; obtain ⟨g0, g⟩ := HC.out _ rfl; refine (szValue_fits _ _ _ _ _ _ C1.out B2.out).mono ?_; rintro e w1 ⟨rfl, hb⟩; have HB1 := Lib.hid (g.trans (hb.mono g.size)); have p7 := (g0.below hb g0.lt).cell 7; clear g0 g hb)
          | (go_at_call 54; refine Calls.mono (HK.out _ _ HB1.out B0.out B1.out) ?_; intro e w2 h; obtain ⟨z1, rfl, hz1, l1, u1, hb⟩ := h.fits C2.out B1.out; have Z1 := Lib.hid hz1; have d2 : decide (z1 < 0) = false := (by simp; omega); have HB2 := Lib.hid (HB1.out.trans (hb.mono HB1.out.size)); clear h hb hz1))
        go_ret
        refine ⟨.inl ⟨by have := HS.out; have := C2.out; omega, ?_⟩, HB2.out⟩
        have hx : z1 = L - (s : Int) := by have := HS.out; have := Z1.out; omega
        rw [← hx]
        rfl
      · have C2 := Lib.hid c2
        clear c0 c1 c2
        go_enter Try.func31, Try.ntmps31
        go_wp2_with (first
          | (go_at_call 53; obtain ⟨g0, g⟩ := HC.out _ rfl; refine (szValue_fits _ _ _ _ _ _ C1.out B2.out).mono ?_; rintro e w1 ⟨rfl, hb⟩; have HB1 := Lib.hid (g.trans (hb.mono g.size)); have p7 := (g0.below hb g0.lt).cell 7; clear g0 g hb)
          | (go_at_call 54; refine Calls.mono (HK.out _ _ HB1.out B0.out B1.out) ?_; intro e w2 h; obtain ⟨rfl, hb⟩ := h.long (by have := C2.out; omega); have HB2 := Lib.hid (HB1.out.trans (hb.mono HB1.out.size)); clear h hb))
        go_ret
        exact ⟨.inr ⟨by have := HS.out; have := C2.out; omega, rfl⟩, HB2.out⟩
    · have C1 : Hid (L - (x2.size : Int) < (x5.size : Int)) := by show _ < _; omega
      have B0 : Hid (0 ≤ L - (x2.size : Int)) := by show _ ≤ _; omega
      have B2 : Hid (L - (x2.size : Int) ≤ 1048576) := by show _ ≤ _; omega
      have HX : Hid (L < (s : Int)) := by have := HS.out; show _ < _; omega
      clear c0 c1
      go_enter Try.func31, Try.ntmps31
      go_wp2_with (go_at_call 53; obtain ⟨g0, g⟩ := HC.out _ rfl; refine (szValue_long _ _ _ _ _ _ C1.out B0.out B2.out HM5.out).mono ?_; rintro e w1 ⟨rfl, hb⟩; have HB1 := Lib.hid (g.trans (hb.mono g.size)); clear g0 g hb)
      go_ret
      exact ⟨.inr ⟨HX.out, rfl⟩, HB1.out⟩
  · have d0 : decide (L - (x2.size : Int) < 0) = true := by simp; omega
    have HX : Hid (L < (s : Int)) := by have := HS.out; show _ < _; omega
    clear c0
    go_enter Try.func31, Try.ntmps31
    go_wp2_with fail
    go_ret
    exact ⟨.inr ⟨HX.out, rfl⟩, below_alloc _ _⟩

set_option maxHeartbeats 2000000 in
set_option maxRecDepth 100000 in
theorem szGenS_any : ∀ (d : Nat) (A : Option Addr) (n c : Nat) (xs : List Gn) (W : World), GnD W 0 W.heap.size d A n xs → SzGnS A n c xs W := by
  intro d
  induction d with
  | zero =>
    intro A n c xs W hd L w hw h0 hL
    obtain ⟨rfl, rfl⟩ := hd
    have HS : Hid ((gnSzs [] : Int) = 0) := by show _ = _; rw [gnSzs]; rfl
    have d0 : decide (L < 0) = false := by simp; omega
    have d1 : decide (L - ((0 : Nat) : Int) < 0) = false := by simp; omega
    go_enter Try.func54, Try.ntmps54
    go_wp2_with fail
    go_loopw [1, 5] (fun q i wr => i = .int .i64 0 ∧ q = .int .i64 L ∧ Hid (Below w.heap.size w wr)) (fun _ i _ => 0)
    case atStart => exact ⟨rfl, by simp, Below.refl _ _⟩
    case round =>
      obtain ⟨rfl, rfl, HB⟩ := hrel
      go_wp2_with fail
      go_ret
      refine ⟨.inl ⟨by rw [HS.out]; exact h0, ?_⟩, HB.out⟩
      rw [HS.out, Int.sub_zero]
      rfl
  | succ d ih =>
    intro A n c xs W hd L w hw h0 hL
    have HR := Lib.hid hd
    have HWW := Lib.hid hw
    have hn := hd.2.1
    have hxn := hd.1
    have HIH := Lib.hid ih
    clear hd hw ih
    obtain ⟨s, hs⟩ : ∃ s, gnSzs xs = s := ⟨_, rfl⟩
    have HS : Hid (s = n + sumGn xs n) := by show _ = _; rw [← hs, gnSzs_eq, hxn]
    rw [hs]
    clear hs hxn
    unfold maxLen at hn
    by_cases hbig : L < (n : Int)
    · have HB : Hid (L < (s : Int)) := by show _ < _; have := HS.out; omega
      have h2 : (n : Int) ≤ 9223372036854775807 := by omega
      have d0 : decide (L - n < 0) = true := by simp; omega
      go_enter Try.func54, Try.ntmps54
      go_wp2_with fail
      go_ret
      exact ⟨.inr ⟨HB.out, rfl⟩, Below.refl _ _⟩
    · have h1 : (n : Int) ≤ L := by omega
      have hn' : n ≤ 1048576 := by omega
      have d0 : decide (L - n < 0) = false := by simp; omega
      clear hbig
      go_enter Try.func54, Try.ntmps54
      go_wp2_with fail
      go_loopw [1, 5] (fun q i wr => ∃ k : Nat, ∃ z : Int, k ≤ n ∧ i = .int .i64 k ∧ q = .int .i64 z ∧ 0 ≤ z ∧ z ≤ 1048576 ∧ Hid (z = L - (n : Int) - (sumGn xs k : Int)) ∧ Hid (Below w.heap.size w wr)) (fun _ i _ => n - (intOf i).toNat)
      case atStart => exact ⟨0, _, Nat.zero_le _, rfl, rfl, by omega, by omega, by show _ = _; simp [sumGn], Below.refl _ _⟩
      case round =>
        obtain ⟨k, z, hk, rfl, rfl, hz0, hz1, HZ, HW⟩ := hrel
        by_cases hlt : k < n
        · have HWX := Lib.hid (HWW.out.trans (HW.out.mono HWW.out.size))
          obtain ⟨b, off, x, A', n', c', rfl, _, hg, hx, _, ⟨q0, q1, q2, q3, q4, q5, q6, q7⟩, hxs, hkd⟩ := (HR.out.go HWX.out).at_ hlt
          have HX := Lib.hid hx
          have b0 : (0 : Int) ≤ (k : Int) := by omega
          have b1 : (k : Int) < (n : Int) := by omega
          have HZ0 : Hid (0 ≤ z) := hz0
          have HZ1 : Hid (z ≤ 1048576) := hz1
          have HQ := Lib.hid (szGen_of x A' n' c' z wr hxs (HIH.out A' n' c' x.kids wr hkd) hz0 hz1)
          clear hx hg hxs hkd
          by_cases hf : (gnSz x : Int) ≤ z
          · have HF := Lib.hid hf
            have HN : Hid (sumGn xs (k + 1) = sumGn xs k + gnSz x) := sumGn_next HX.out
            clear hf
            go_wp2_with (go_at_call 31; refine Calls.mono HQ.out ?_; intro e w1 h; obtain ⟨z1, rfl, hz2, l1, u1, hb⟩ := h.fits HF.out HZ1.out; have Z1 := Lib.hid hz2; have dz : decide (z1 < 0) = false := (by simp; omega); have HW1 : Hid (Below w.heap.size w w1) := HW.out.trans (hb.mono HW.out.size); clear hb hz2)
            go_roundw
            case rel => exact ⟨k + 1, _, by omega, by go_num, rfl, by omega, by omega, by show _ = _; rw [HN.out, Z1.out, HZ.out]; omega, HW1⟩
            case measure => simp [intOf]; omega
          · have HF := Lib.hid hf
            have HBIG : Hid (L < (s : Int)) := by
              show _ < _
              have h1 := sumGn_mono (xs := xs) (j := k + 1) (k := n) (by omega)
              rw [sumGn_next HX.out] at h1
              have h2 := HZ.out
              have h3 := HS.out
              omega
            clear hf
            go_wp2_with (go_at_call 31; refine Calls.mono HQ.out ?_; intro e w1 h; obtain ⟨rfl, hb⟩ := h.long HF.out; have HW1 : Hid (Below w.heap.size w w1) := HW.out.trans (hb.mono HW.out.size); clear hb)
            go_ret
            exact ⟨.inr ⟨HBIG.out, rfl⟩, HW1.out⟩
        · have hkn : k = n := by omega
          have HE : Hid ((s : Int) ≤ L ∧ z = L - (s : Int)) := by
            have h := HZ.out
            have h3 := HS.out
            rw [hkn] at h
            exact ⟨by omega, by omega⟩
          go_wp2_with fail
          go_ret
          exact ⟨.inl ⟨HE.out.1, by rw [HE.out.2]; rfl⟩, HW.out⟩
theorem szGen_any (d : Nat) (x : Gn) (A : Option Addr) (n c : Nat) (L : Int) (W : World) (h : GnV W 0 W.heap.size d x A n) (h0 : 0 ≤ L) (hL : L ≤ 1048576) :
    Calls Try.prog 31 #[x.ag A n c, .int .i64 L] W (SzL (gnSz x) L W) := szGen_of x A n c L W h.1 (szGenS_any d A n c x.kids W h.2) h0 hL
end Go.Proofs.Ytbaadphgbhaboaa
