/- szPattern, szPatternS of the laws. No condition. -/
import Derived.Test.YtbaadphgbhaboaaPts
namespace Go.Proofs.Ytbaadphgbhaboaa
open Go Go.RowKit

mutual
/-- What szPattern takes of the bound. -/
def ptSz : Pt → Nat
  | .node _ _ t ks => t.size + ptSzs ks
def ptSzs : List Pt → Nat
  | [] => 0
  | x :: xs => 1 + ptSz x + ptSzs xs
end
theorem ptSz_eq (x : Pt) : ptSz x = x.t.size + ptSzs x.kids := by
  cases x
  rw [ptSz]
  rfl
/-- The first k trees', their number aside. -/
def sumPt (xs : List Pt) : Nat → Nat
  | 0 => 0
  | k + 1 => sumPt xs k + ((xs[k]?.map ptSz).getD 0)
theorem sumPt_next {xs : List Pt} {k : Nat} {x : Pt} (h : xs[k]? = some x) : sumPt xs (k + 1) = sumPt xs k + ptSz x := by
  rw [sumPt, h]
  rfl
theorem sumPt_mono {xs : List Pt} {j : Nat} : ∀ {k : Nat}, j ≤ k → sumPt xs j ≤ sumPt xs k
  | 0, h => by obtain rfl : j = 0 := by omega
               exact Nat.le_refl _
  | k + 1, h => by
    by_cases e : j = k + 1
    · rw [e]; exact Nat.le_refl _
    · have := sumPt_mono (xs := xs) (show j ≤ k by omega)
      rw [sumPt]
      omega
theorem sumPt_cons (x : Pt) (xs : List Pt) : ∀ k, sumPt (x :: xs) (k + 1) = ptSz x + sumPt xs k
  | 0 => by simp [sumPt]
  | k + 1 => by
    have ih := sumPt_cons x xs k
    rw [sumPt, ih, sumPt]
    simp only [List.getElem?_cons_succ]
    omega
theorem ptSzs_eq : ∀ (xs : List Pt), ptSzs xs = xs.length + sumPt xs xs.length
  | [] => by rw [ptSzs]; rfl
  | x :: xs => by
    rw [ptSzs, ptSzs_eq xs, List.length_cons, sumPt_cons]
    omega
theorem ptSz_kid {xs : List Pt} {j : Nat} {x : Pt} (h : xs[j]? = some x) : ptSz x < ptSzs xs := by
  have hl := (List.getElem?_eq_some_iff.1 h).1
  have h1 := sumPt_mono (xs := xs) (j := j + 1) (k := xs.length) (by omega)
  rw [sumPt_next h] at h1
  rw [ptSzs_eq]
  omega
/-- The contract of szPatternS at a slice. -/
def SzPtS (A : Option Addr) (n c : Nat) (xs : List Pt) (W : World) : Prop := ∀ (L : Int) (w : World), Below W.heap.size W w → 0 ≤ L → L ≤ 1048576 → Calls Try.prog 36 #[.slice A n c, .int .i64 L] w (SzL (ptSzs xs) L w)

set_option maxHeartbeats 2000000 in
set_option maxRecDepth 100000 in
theorem szPattern_of (x : Pt) (A : Option Addr) (n c : Nat) (L : Int) (W : World) (ht : x.t.size ≤ maxLen) (hk : SzPtS A n c x.kids W) (h0 : 0 ≤ L) (hL : L ≤ 1048576) :
    Calls Try.prog 9 #[x.ag A n c, .int .i64 L] W (SzL (ptSz x) L W) := by
  obtain ⟨k, m, t, ks⟩ := x
  change t.size ≤ maxLen at ht
  change SzPtS A n c ks W at hk
  obtain ⟨s, hs⟩ : ∃ s, ptSz (.node k m t ks) = s := ⟨_, rfl⟩
  rw [hs]
  rw [ptSz] at hs
  have HS := Lib.hid hs
  have HK := Lib.hid hk
  have HL0 := Lib.hid h0
  have HL1 := Lib.hid hL
  have HC := Lib.hid (fun X (e : X = W.alloc (.cells #[.int .i64 k, .int .i64 m, .string t, .slice A n c] 24)) => (show Below W.heap.size W X from by rw [e]; exact below_alloc _ _))
  unfold maxLen at ht
  clear hs hk
  show Calls Try.prog 9 #[.agg #[.int .i64 k, .int .i64 m, .string t, .slice A n c], .int .i64 L] W _
  by_cases c0 : (t.size : Int) ≤ L
  · have d0 : decide (L - (t.size : Int) < 0) = false := by simp; omega
    have B0 : Hid (0 ≤ L - (t.size : Int)) := by show _ ≤ _; omega
    have B1 : Hid (L - (t.size : Int) ≤ 1048576) := by show _ ≤ _; omega
    have C0 := Lib.hid c0
    by_cases c1 : (ptSzs ks : Int) ≤ L - (t.size : Int)
    · have C1 := Lib.hid c1
      clear c0 c1
      go_enter Try.func9, Try.ntmps9
      go_wp2_with (go_at_call 36; have g := HC.out _ rfl; refine Calls.mono (HK.out (L - (t.size : Int)) _ g B0.out B1.out) ?_; intro e w1 h; obtain ⟨z1, rfl, hz1, l1, u1, hb⟩ := h.fits C1.out B1.out; have Z1 := Lib.hid hz1; have d1 : decide (z1 < 0) = false := (by simp; omega); have HB1 := Lib.hid (g.trans (hb.mono g.size)); clear g h hb hz1)
      go_ret
      refine ⟨.inl ⟨by have := HS.out; have := C1.out; omega, ?_⟩, HB1.out⟩
      have hx : z1 = L - (s : Int) := by have := HS.out; have := Z1.out; omega
      rw [← hx]
      rfl
    · have C1 := Lib.hid c1
      clear c0 c1
      go_enter Try.func9, Try.ntmps9
      go_wp2_with (go_at_call 36; have g := HC.out _ rfl; refine Calls.mono (HK.out (L - (t.size : Int)) _ g B0.out B1.out) ?_; intro e w1 h; obtain ⟨rfl, hb⟩ := h.long C1.out; have HB1 := Lib.hid (g.trans (hb.mono g.size)); clear g h hb)
      go_ret
      exact ⟨.inr ⟨by have := HS.out; have := C1.out; omega, rfl⟩, HB1.out⟩
  · have d0 : decide (L - (t.size : Int) < 0) = true := by simp; omega
    have HX : Hid (L < (s : Int)) := by have := HS.out; show _ < _; omega
    clear c0
    go_enter Try.func9, Try.ntmps9
    go_wp2_with fail
    go_ret
    exact ⟨.inr ⟨HX.out, rfl⟩, below_alloc _ _⟩

set_option maxHeartbeats 2000000 in
set_option maxRecDepth 100000 in
theorem szPatternS_any : ∀ (d : Nat) (A : Option Addr) (n c : Nat) (xs : List Pt) (W : World), PtD W 0 W.heap.size d A n xs → SzPtS A n c xs W := by
  intro d
  induction d with
  | zero =>
    intro A n c xs W hd L w hw h0 hL
    obtain ⟨rfl, rfl⟩ := hd
    have HS : Hid ((ptSzs [] : Int) = 0) := by show _ = _; rw [ptSzs]; rfl
    have d0 : decide (L < 0) = false := by simp; omega
    have d1 : decide (L - ((0 : Nat) : Int) < 0) = false := by simp; omega
    go_enter Try.func36, Try.ntmps36
    go_wp2_with fail
    go_loopw [1, 5] (fun q i wr => i = .int .i64 0 ∧ q = .int .i64 L ∧ Hid (Below w.heap.size w wr)) (fun _ i _ => 0)
    case atStart => exact ⟨rfl, by simp, Below.refl _ _⟩
    case round =>
      obtain ⟨rfl, rfl, HB⟩ := hrel
      go_wp2_with fail
      go_ret
      refine ⟨.inl ⟨by rw [HS.out]; exact h0, ?_⟩, HB.out⟩
      rw [HS.out, Int.sub_zero]
      rfl
  | succ d ih =>
    intro A n c xs W hd L w hw h0 hL
    have HR := Lib.hid hd
    have HWW := Lib.hid hw
    have hn := hd.2.1
    have hxn := hd.1
    have HIH := Lib.hid ih
    clear hd hw ih
    obtain ⟨s, hs⟩ : ∃ s, ptSzs xs = s := ⟨_, rfl⟩
    have HS : Hid (s = n + sumPt xs n) := by show _ = _; rw [← hs, ptSzs_eq, hxn]
    rw [hs]
    clear hs hxn
    unfold maxLen at hn
    by_cases hbig : L < (n : Int)
    · have HB : Hid (L < (s : Int)) := by show _ < _; have := HS.out; omega
      have h2 : (n : Int) ≤ 9223372036854775807 := by omega
      have d0 : decide (L - n < 0) = true := by simp; omega
      go_enter Try.func36, Try.ntmps36
      go_wp2_with fail
      go_ret
      exact ⟨.inr ⟨HB.out, rfl⟩, Below.refl _ _⟩
    · have h1 : (n : Int) ≤ L := by omega
      have hn' : n ≤ 1048576 := by omega
      have d0 : decide (L - n < 0) = false := by simp; omega
      clear hbig
      go_enter Try.func36, Try.ntmps36
      go_wp2_with fail
      go_loopw [1, 5] (fun q i wr => ∃ k : Nat, ∃ z : Int, k ≤ n ∧ i = .int .i64 k ∧ q = .int .i64 z ∧ 0 ≤ z ∧ z ≤ 1048576 ∧ Hid (z = L - (n : Int) - (sumPt xs k : Int)) ∧ Hid (Below w.heap.size w wr)) (fun _ i _ => n - (intOf i).toNat)
      case atStart => exact ⟨0, _, Nat.zero_le _, rfl, rfl, by omega, by omega, by show _ = _; simp [sumPt], Below.refl _ _⟩
      case round =>
        obtain ⟨k, z, hk, rfl, rfl, hz0, hz1, HZ, HW⟩ := hrel
        by_cases hlt : k < n
        · have HWX := Lib.hid (HWW.out.trans (HW.out.mono HWW.out.size))
          obtain ⟨b, off, x, A', n', c', rfl, _, hg, hx, _, ⟨q0, q1, q2, q3⟩, hxs, hkd⟩ := (HR.out.go HWX.out).at_ hlt
          have HX := Lib.hid hx
          have b0 : (0 : Int) ≤ (k : Int) := by omega
          have b1 : (k : Int) < (n : Int) := by omega
          have HZ0 : Hid (0 ≤ z) := hz0
          have HZ1 : Hid (z ≤ 1048576) := hz1
          have HQ := Lib.hid (szPattern_of x A' n' c' z wr hxs (HIH.out A' n' c' x.kids wr hkd) hz0 hz1)
          clear hx hg hxs hkd
          by_cases hf : (ptSz x : Int) ≤ z
          · have HF := Lib.hid hf
            have HN : Hid (sumPt xs (k + 1) = sumPt xs k + ptSz x) := sumPt_next HX.out
            clear hf
            go_wp2_with (go_at_call 9; refine Calls.mono HQ.out ?_; intro e w1 h; obtain ⟨z1, rfl, hz2, l1, u1, hb⟩ := h.fits HF.out HZ1.out; have Z1 := Lib.hid hz2; have dz : decide (z1 < 0) = false := (by simp; omega); have HW1 : Hid (Below w.heap.size w w1) := HW.out.trans (hb.mono HW.out.size); clear hb hz2)
            go_roundw
            case rel => exact ⟨k + 1, _, by omega, by go_num, rfl, by omega, by omega, by show _ = _; rw [HN.out, Z1.out, HZ.out]; omega, HW1⟩
            case measure => simp [intOf]; omega
          · have HF := Lib.hid hf
            have HBIG : Hid (L < (s : Int)) := by
              show _ < _
              have h1 := sumPt_mono (xs := xs) (j := k + 1) (k := n) (by omega)
              rw [sumPt_next HX.out] at h1
              have h2 := HZ.out
              have h3 := HS.out
              omega
            clear hf
            go_wp2_with (go_at_call 9; refine Calls.mono HQ.out ?_; intro e w1 h; obtain ⟨rfl, hb⟩ := h.long HF.out; have HW1 : Hid (Below w.heap.size w w1) := HW.out.trans (hb.mono HW.out.size); clear hb)
            go_ret
            exact ⟨.inr ⟨HBIG.out, rfl⟩, HW1.out⟩
        · have hkn : k = n := by omega
          have HE : Hid ((s : Int) ≤ L ∧ z = L - (s : Int)) := by
            have h := HZ.out
            have h3 := HS.out
            rw [hkn] at h
            exact ⟨by omega, by omega⟩
          go_wp2_with fail
          go_ret
          exact ⟨.inl ⟨HE.out.1, by rw [HE.out.2]; rfl⟩, HW.out⟩
theorem szPattern_any (d : Nat) (x : Pt) (A : Option Addr) (n c : Nat) (L : Int) (W : World) (h : PtV W 0 W.heap.size d x A n) (h0 : 0 ≤ L) (hL : L ≤ 1048576) :
    Calls Try.prog 9 #[x.ag A n c, .int .i64 L] W (SzL (ptSz x) L W) := szPattern_of x A n c L W h.1 (szPatternS_any d A n c x.kids W h.2) h0 hL
end Go.Proofs.Ytbaadphgbhaboaa
