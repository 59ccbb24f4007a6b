/- laws.heldTokenS on marked rows. No condition. -/
import Derived.Test.YtdfikepfjdoooaaDoorToks2
namespace Go.Proofs.YtdfikepfjdoooaaDoor
open Go Go.RowKit

/-- Element j of a block. -/
abbrev One5 (w : World) (g j : Nat) (xk xn : Int) (xt : ByteArray) (xb xa : Bool) : Prop :=
  w.cell? ⟨g, j * 5, none⟩ = some (.int .i64 xk) ∧ w.cell? ⟨g, j * 5 + 1, none⟩ = some (.int .i64 xn) ∧ w.cell? ⟨g, j * 5 + 2, none⟩ = some (.string xt) ∧ w.cell? ⟨g, j * 5 + 3, none⟩ = some (.bool xb) ∧ w.cell? ⟨g, j * 5 + 4, none⟩ = some (.bool xa)
theorem one_keep {wr wx w1 : World} {g j : Nat} {xk xn : Int} {xt : ByteArray} {xb xa : Bool} (hg : g < wr.heap.size) (h : One5 wx g j xk xn xt xb xa ∧ Below wr.heap.size wr wx) (hb : Below wx.heap.size wx w1) :
    One5 w1 g j xk xn xt xb xa ∧ Below wr.heap.size wr w1 :=
  ⟨Cell5.below (x := ⟨xk, xn, xt, xb, xa⟩) h.1 hb (Nat.lt_of_lt_of_le hg h.2.size), h.2.trans (hb.mono h.2.size)⟩
theorem cell5_keep {wr wx w1 : World} {g j : Nat} {x : Tok} (hg : g < wr.heap.size) (h : Cell5 wx g j x ∧ Below wr.heap.size wr wx) (hb : Below wx.heap.size wx w1) : Cell5 w1 g j x ∧ Below wr.heap.size wr w1 :=
  ⟨h.1.below hb (Nat.lt_of_lt_of_le hg h.2.size), h.2.trans (hb.mono h.2.size)⟩
set_option maxHeartbeats 2000000 in
set_option maxRecDepth 100000 in
theorem heldTokenS_any (A : Option Addr) (n c k0 : Nat) (W : World) (ha : TR W W.heap.size A n (markToks k0 n)) (h0 : 0 < k0) (hk : k0 + n * 5 ≤ 16777000) :
    Calls Tryd.prog 17 #[.slice A n c, .int .i64 k0] W fun e w' => e = .returned (.int .i64 ((k0 + n * 5 : Nat) : Int)) ∧ Below W.heap.size W w' := by
  have HA := Lib.hid ha
  clear ha
  go_enter Tryd.func17, Tryd.ntmps17
  go_wp2
  go_loopw [1, 5] (fun q i wr => ∃ j : Nat, j ≤ n ∧ i = .int .i64 j ∧ q = .int .i64 ((k0 + j * 5 : Nat) : Int) ∧ Hid (Below W.heap.size W wr)) (fun _ i _ => n - (intOf i).toNat)
  case atStart => exact ⟨0, Nat.zero_le _, rfl, rfl, Below.refl _ _⟩
  case round =>
    obtain ⟨j, hj, rfl, rfl, HW⟩ := hrel
    by_cases hlt : j < n
    · obtain ⟨g, rfl, hg, hc⟩ := HA.out.at_ hlt (by rw [markToks_length]; exact hlt)
      have hx : (markToks k0 n)[j]'(by rw [markToks_length]; exact hlt) = markTok k0 j := by simp [markToks]
      rw [hx] at hc
      clear hx
      have HC := Lib.hid (hc.below HW.out hg)
      have HG : Hid (g < wr.heap.size) := Nat.lt_of_lt_of_le hg HW.out.size
      clear hc hg
      have b0 : (0 : Int) ≤ (j : Int) := by omega
      have b1 : (j : Int) < (n : Int) := by omega
      obtain ⟨p0, p1, p2, p3, p4⟩ := HC.out
      dsimp only [markTok] at p0 p1 p2 p3 p4
      obtain ⟨t, ht⟩ : ∃ t, k0 + j * 5 = t := ⟨_, rfl⟩
      have HT := Lib.hid ht
      rw [ht] at p0 p1 p2 p3 p4 ⊢
      have ht0 : 0 < t := by omega
      have ht1 : t < 16777000 := by omega
      clear ht
      have HMT : Hid (∀ w, Calls Tryd.prog 56 #[.int .i64 ((t : Int) + 1 + 1)] w fun e w' => e = .returned (.string (markT (t + 2))) ∧ Below w.heap.size w w') := fun w => by
        have := markText_any (t + 2) w (by omega) (by omega)
        rw [show ((t + 2 : Nat) : Int) = (t : Int) + 1 + 1 by omega] at this
        exact this
      generalize markT (t + 2) = x at p2 HMT
      generalize hB3 : (((t : Int) + 1 + 1 + 1) % 3 == 0) = y3 at p3
      generalize hB4 : (((t : Int) + 1 + 1 + 1 + 1) % 3 == 0) = y4 at p4
      go_wp2_with fail
      go_region_held3 (fun w' => One5 w' g j (t : Int) ((t : Int) + 1) x y3 y4 ∧ Below wr.heap.size wr w')
        (first | (exact ⟨⟨p0, p1, p2, p3, p4⟩, (Below.refl _ _).drew⟩) | (go_split_ands; exact one_keep HG.out ⟨⟨by assumption, by assumption, by assumption, by assumption, by assumption⟩, by assumption⟩ hb) | go_keep)
        ((go_at_call 56; refine (HMT.out _).mono ?_; rintro e w1 ⟨rfl, hb⟩))
      clear p0 p1 p2 p3 p4
      go_split_ands
      go_wp2_with fail
      go_roundw
      case rel =>
        refine ⟨j + 1, by omega, by go_num, ?_, HW.out.trans (Below.mono (by assumption) HW.out.size)⟩
        have := HT.out
        congr 1
        omega
      case measure => simp [intOf]; omega
    · have HN : Hid (j = n) := by show _ = _; omega
      go_wp2_with fail
      go_ret
      exact ⟨i64_ret (by rw [HN.out]), HW.out⟩
end Go.Proofs.YtdfikepfjdoooaaDoor
