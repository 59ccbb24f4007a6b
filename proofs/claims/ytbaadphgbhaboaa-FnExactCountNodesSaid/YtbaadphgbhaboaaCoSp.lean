/- Contract: CountNodes of the model. No condition but that the tree is small. -/
import Derived.Test.YtbaadphgbhaboaaCoWl
namespace Go.Proofs.Ytbaadphgbhaboaa
open Go Go.RowKit

/-- The contract of CountNodes at depth d. -/
def CnSpAt (d : Nat) : Prop := ∀ (x : Pt) (A : Option Addr) (n c : Nat) (W : World), PtV W 0 W.heap.size d x A n → ptN x ≤ 2000000 →
  Calls Try.prog 14 #[x.ag A n c] W fun e w' => e = .returned (.int .i64 ((ptN x : Nat) : Int)) ∧ Below W.heap.size W w'
theorem boxC (W : World) (k m : Int) (t : ByteArray) (A : Option Addr) (n c : Nat) (X : World) (e : X = (W.alloc (.cells #[.int .i64 k, .int .i64 m, .string t, .slice A n c] 29))) : X.cell? ⟨W.heap.size, 3, none⟩ = some (.slice A n c) ∧ Below W.heap.size W X ∧ W.heap.size < X.heap.size := by
  rw [e]
  exact ⟨(RW.new W _ _).cell 3, below_alloc _ _, by simp⟩

set_option maxHeartbeats 2000000 in
set_option maxRecDepth 100000 in
theorem cnSp_step (d : Nat) (x : Pt) (A : Option Addr) (n c : Nat) (W : World) (ih : 0 < n → CnSpAt d) (hx : PtV W 0 W.heap.size (d + 1) x A n) (hz : ptN x ≤ 2000000) :
    Calls Try.prog 14 #[x.ag A n c] W fun e w' => e = .returned (.int .i64 ((ptN x : Nat) : Int)) ∧ Below W.heap.size W w' := by
  obtain ⟨E, hE⟩ : ∃ E, ((ptN x : Nat) : Int) = E := ⟨_, rfl⟩
  have hE2 : (1 + sN x.kids : Nat) = E := by rw [← hE, sN_kids]
  have hz2 : 1 + sN x.kids ≤ 2000000 := by rw [← sN_kids]; exact hz
  rw [hE]
  obtain ⟨k, m, t, ks⟩ := x
  change ((1 + sN ks : Nat) : Int) = E at hE2
  change 1 + sN ks ≤ 2000000 at hz2
  have HE := Lib.hid hE2
  have HZ := Lib.hid hz2
  have HIH := Lib.hid ih
  have HX : Hid (PtD W 0 W.heap.size (d + 1) A n ks) := hx.2
  have HN : Hid (ks.length = n) := hx.2.1
  have hn : n ≤ maxLen := hx.2.2.1
  have HB := Lib.hid (boxC W k m t A n c)
  unfold maxLen at hn
  clear hE hE2 hz hz2 hx ih
  show Calls Try.prog 14 #[.agg #[.int .i64 k, .int .i64 m, .string t, .slice A n c]] W _
  go_enter Try.func14, Try.ntmps14
  go_wp2_with fail
  obtain ⟨c3, hb0, hg0⟩ := HB.out _ rfl
  have C3 := Lib.hid c3
  have HW0 := Lib.hid hb0
  have HG0 := Lib.hid hg0
  clear c3 hb0 hg0 HB
  generalize (W.alloc (.cells #[.int .i64 k, .int .i64 m, .string t, .slice A n c] 29)) = w0 at C3 HW0 HG0 ⊢
  go_loopw [3, 4] (fun v i wr => ∃ j : Nat, j ≤ n ∧ i = .int .i64 j ∧ v = .int .i64 ((1 + sN (ks.take j) : Nat) : Int) ∧ Hid (Below w0.heap.size w0 wr)) (fun _ i _ => n - (intOf i).toNat)
  case atStart => exact ⟨0, Nat.zero_le _, rfl, rfl, Below.refl _ _⟩
  case round =>
    obtain ⟨j, hj, rfl, rfl, HW⟩ := hrel
    have HWW : Hid (Below W.heap.size W wr) := HW0.out.trans (HW.out.mono HW0.out.size)
    have c3 : wr.cell? ⟨W.heap.size, 3, none⟩ = some (.slice A n c) := (HW.out.cell HG0.out).trans C3.out
    by_cases hlt : j < n
    · have hlt' := hlt
      obtain ⟨b1, o1, x1, A1, n1, c1, rfl, _, hg1, hx1, _, e1, hs1, hv1⟩ := ((HX.out.below HWW.out).more (Nat.le_refl _) HWW.out.size).at_ hlt
      have HQ := Lib.hid (HIH.out (by omega) x1 A1 n1 c1 wr ⟨hs1, hv1⟩ (by have := sN_mem (List.mem_of_getElem? hx1); have := HZ.out; omega))
      obtain ⟨q0, q1, q2, q3⟩ := e1
      have HX1 := Lib.hid hx1
      have HL := Lib.hid hlt
      have hst := sN_take hx1
      have hle := sN_take_le ks (j + 1)
      have hzz := HZ.out
      obtain ⟨a, ha⟩ : ∃ a, sN (ks.take j) = a := ⟨_, rfl⟩
      obtain ⟨u, hu⟩ : ∃ u, ptN x1 = u := ⟨_, rfl⟩
      rw [ha, hu] at hst
      rw [hu] at HQ
      rw [hst] at hle
      rw [ha]
      have HST := Lib.hid hst
      have k0 : (0 : Int) ≤ (j : Int) := by omega
      have k1 : (j : Int) < (n : Int) := by omega
      have wk : wrap64 ((j : Int) + 1) = (j : Int) + 1 := by unfold wrap64; omega
      clear hst ha hu hx1 hlt' hs1 hv1
      obtain ⟨aa, haa⟩ : ∃ aa : Int, ((1 + a : Nat) : Int) = aa := ⟨_, rfl⟩
      have hba : 0 ≤ aa ∧ aa + (u : Int) ≤ 2000000 := by omega
      obtain ⟨hb1, hb2⟩ := hba
      obtain ⟨uu, huu⟩ : ∃ uu : Int, (u : Int) = uu := ⟨_, rfl⟩
      have hb3 : 0 ≤ uu := by omega
      have HUU := Lib.hid huu
      rw [huu] at HQ hb2
      clear huu
      have wa : wrap64 (aa + uu) = aa + uu := by unfold wrap64; omega
      have ia : IntKind.i64.wrap (aa + uu) = aa + uu := IntWalk.i64_in _ (by omega)
      rw [haa]
      clear hb1 hb2 hb3
      have HAA := Lib.hid haa
      clear haa hle hzz
      go_wp2_with (go_at_call 14; refine Calls.mono HQ.out ?_; rintro e w2 ⟨rfl, hb⟩; have HB2 := Lib.hid hb; clear hb)
      go_roundw
      case rel =>
        refine ⟨j + 1, HL.out, by go_num, ?_, HW.out.trans (HB2.out.mono HW.out.size)⟩
        rw [HST.out, ← HAA.out, ← HUU.out]
        congr 1
        omega
      case measure => have := HL.out; simp [intOf]; omega
    · have hnl : ¬ (j : Int) < (n : Int) := by omega
      have hjn : j = n := by omega
      subst hjn
      clear hlt
      go_wp2_with fail
      go_ret
      refine ⟨?_, HWW.out⟩
      have e : sN (ks.take j) = sN ks := by rw [← HN.out, List.take_length]
      rw [← HE.out, ← e]
      first | done | rfl
theorem cnSp_all : ∀ d, CnSpAt d
  | 0 => fun x A n c W hx hz => cnSp_step 0 x A n c W (fun hn => by have := hx.2.2; omega) ⟨hx.1, hx.2.deeper⟩ hz
  | d + 1 => fun x A n c W hx hz => cnSp_step d x A n c W (fun _ => cnSp_all d) hx hz
end Go.Proofs.Ytbaadphgbhaboaa
