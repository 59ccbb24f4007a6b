/- laws.markLineS and heldLineS on rows of lines. No condition. -/
import Derived.Test.YtfobjedobojbnabDoorLns
import Derived.Test.YtfobjedobojbnabDoorMark
import Derived.Test.YtfobjedobojbnabDoorStrs0
namespace Go.Proofs.YtfobjedobojbnabDoor
open Go Go.RowKit

/-- The marks as lines, from the number k0 on. -/
def markLin (k0 i : Nat) : Lin := ⟨((k0 + i * 2 : Nat) : Int), markT (k0 + i * 2 + 1)⟩
def markLins (k0 n : Nat) : List Lin := (List.range n).map (markLin k0)
theorem markLins_length (k0 n : Nat) : (markLins k0 n).length = n := by simp [markLins]
theorem sets2_old {cs : Array Value} {b : Nat} {v0 v1 : Value} {i : Nat} (h : i < b) : ((cs.setIfInBounds b v0).setIfInBounds (b + 1) v1)[i]? = cs[i]? := by
  rw [Array.getElem?_setIfInBounds_ne (by omega), Array.getElem?_setIfInBounds_ne (by omega)]
theorem sets2_new {cs : Array Value} {b : Nat} {v0 v1 : Value} (hb : b + 1 < cs.size) : ∀ (x : Nat) (v : Value), [v0, v1][x]? = some v → ((cs.setIfInBounds b v0).setIfInBounds (b + 1) v1)[b + x]? = some v
  | 0, v, h => by
    simp only [List.getElem?_cons_zero, Option.some.injEq] at h
    subst h
    simp only [Nat.add_zero]
    rw [Array.getElem?_setIfInBounds_ne (by omega), Array.getElem?_setIfInBounds_self_of_lt (by omega)]
  | 1, v, h => by
    simp only [List.getElem?_cons_zero, List.getElem?_cons_succ, Option.some.injEq] at h
    subst h
    rw [Array.getElem?_setIfInBounds_self_of_lt (by simp only [Array.size_setIfInBounds]; omega)]
  | x + 2, v, h => by simp at h
/-- The elements of block g ahead of j are marked. -/
def MarkedL (w : World) (g k0 j n : Nat) : Prop := ∃ cs, LB w g cs ∧ n * 2 ≤ cs.size ∧ ∀ (i x : Nat) (v : Value), i < j → (markLin k0 i).vs[x]? = some v → cs[i * 2 + x]? = some v

set_option maxHeartbeats 2000000 in
set_option maxRecDepth 100000 in
theorem markLineS_any (g n c k0 : Nat) (cs : Array Value) (W : World) (hs : LB W g cs) (hcs : n * 2 ≤ cs.size) (h0 : 0 < k0) (hk : k0 + n * 2 ≤ 16777000) :
    Calls Tryd.prog 10 #[.slice (some ⟨g, 0, none⟩) n c, .int .i64 k0] W fun e w' => e = .returned (.int .i64 ((k0 + n * 2 : Nat) : Int)) ∧ Below g W w' ∧ LR w' (g + 1) (some ⟨g, 0, none⟩) n (markLins k0 n) := by
  have HG : Hid (g < W.heap.size) := hs.lt
  have HM : Hid (MarkedL W g k0 0 n) := ⟨cs, hs, hcs, fun i x v hi => absurd hi (by omega)⟩
  clear hs hcs
  go_enter Tryd.func10, Tryd.ntmps10
  go_wp2
  go_loopw [1, 5] (fun q i wr => ∃ j : Nat, j ≤ n ∧ i = .int .i64 j ∧ q = .int .i64 ((k0 + j * 2 : Nat) : Int) ∧ Hid (Below g W wr) ∧ Hid (W.heap.size ≤ wr.heap.size) ∧ Hid (MarkedL wr g k0 j n)) (fun _ i _ => n - (intOf i).toNat)
  case atStart => exact ⟨0, Nat.zero_le _, rfl, rfl, Below.refl _ _, Nat.le_refl _, HM⟩
  case round =>
    obtain ⟨j, hj, rfl, rfl, HW, HZ, HJ⟩ := hrel
    by_cases hlt : j < n
    · obtain ⟨cs, hs, hcs, hm⟩ := HJ.out
      have HSB := Lib.hid hs
      have HMM := Lib.hid hm
      have l0 : j * 2 < cs.size := by omega
      have l1 : j * 2 + 1 < cs.size := by omega
      have p0 := (hs.cell (j * 2)).trans (Array.getElem?_eq_getElem l0)
      have p1 := (hs.cell (j * 2 + 1)).trans (Array.getElem?_eq_getElem l1)
      have z0 := hs.frozen (j * 2)
      have z1 := hs.frozen (j * 2 + 1)
      clear hs hm
      have b0 : (0 : Int) ≤ (j : Int) := by omega
      have b1 : (j : Int) < (n : Int) := by omega
      obtain ⟨t, ht⟩ : ∃ t, k0 + j * 2 = t := ⟨_, rfl⟩
      have HT := Lib.hid ht
      rw [ht]
      have ht0 : 0 < t := by omega
      have ht1 : t < 16777000 := by omega
      clear ht
      have HMT : Hid (∀ w, Calls Tryd.prog 35 #[.int .i64 ((t : Int) + 1)] w fun e w' => e = .returned (.string (markT (t + 1))) ∧ Below w.heap.size w w') := fun w => by
        have := markText_any (t + 1) w (by omega) (by omega)
        rw [show ((t + 1 : Nat) : Int) = (t : Int) + 1 by omega] at this
        exact this
      have LZ : Hid (g < wr.heap.size) := Nat.lt_of_lt_of_le HG.out HZ.out
      go_wp2_with (go_at_call 35; refine (HMT.out _).mono ?_; rintro e w1 ⟨rfl, hb⟩; have HB1 := Lib.hid hb; have HS1 : Hid (LB w1 g (cs.setIfInBounds (j * 2) (.int .i64 (t : Int)))) := (HSB.out.set_ _ _).below hb (by simp [World.setCell]; exact LZ.out); have y1 := HS1.out.cell (j * 2 + 1); have x1 := HS1.out.frozen (j * 2 + 1); clear hb p0 p1 z0 z1; rw [Array.getElem?_eq_getElem (by simpa using l1)] at y1)
      go_roundw
      case rel =>
        refine ⟨j + 1, by omega, by go_num, ?_, ?_, ?_, ?_⟩
        · have := HT.out
          congr 1
          omega
        · have h1 : Below g W (wr.setCell ⟨g, j * 2, none⟩ (.int .i64 (t : Int))) := HW.out.setCell (Nat.le_refl _) _
          exact Lib.hid ((h1.trans (HB1.out.mono (by simp [World.setCell]; exact Nat.le_of_lt LZ.out))).setCell (Nat.le_refl _) _)
        · have h1 := HB1.out.size
          have h2 := HZ.out
          simp [World.setCell] at h1
          show _ ≤ _
          simp [World.setCell]
          omega
        · refine ⟨_, HS1.out.set_ (j * 2 + 1) _, by simpa using hcs, fun i x v hi hv => ?_⟩
          by_cases e : i = j
          · subst e
            refine sets2_new (by omega) x v ?_
            rw [← HT.out]
            exact hv
          · have hx : x < 2 := (List.getElem?_eq_some_iff.1 hv).1
            rw [sets2_old (by omega)]
            exact HMM.out i x v (by omega) hv
      case measure => simp [intOf]; omega
    · have HN : Hid (j = n) := by show _ = _; omega
      go_wp2_with fail
      go_ret
      refine ⟨i64_ret (by rw [HN.out]), HW.out, by rw [markLins_length], fun _ => ⟨g, rfl, by omega, fun i x hx => ?_⟩⟩
      obtain ⟨cs, hs, hcs, hm⟩ := HJ.out
      have hi : i < n := by
        have := (List.getElem?_eq_some_iff.1 hx).1
        rwa [markLins_length] at this
      simp only [markLins, List.getElem?_map, List.getElem?_range hi, Option.map_some, Option.some.injEq] at hx
      subst hx
      have hij : i < j := by have := HN.out; omega
      exact ⟨(hs.cell _).trans (hm i 0 _ hij rfl), (hs.cell _).trans (hm i 1 _ hij rfl)⟩

/-- Element j of a block. -/
abbrev OneL (w : World) (g j : Nat) (xn : Int) (xt : ByteArray) : Prop := w.cell? ⟨g, j * 2, none⟩ = some (.int .i64 xn) ∧ w.cell? ⟨g, j * 2 + 1, none⟩ = some (.string xt)
theorem oneL_keep {wr wx w1 : World} {g j : Nat} {xn : Int} {xt : ByteArray} (hg : g < wr.heap.size) (h : OneL wx g j xn xt ∧ Below wr.heap.size wr wx) (hb : Below wx.heap.size wx w1) :
    OneL w1 g j xn xt ∧ Below wr.heap.size wr w1 :=
  ⟨Cell2.below (x := ⟨xn, xt⟩) h.1 hb (Nat.lt_of_lt_of_le hg h.2.size), h.2.trans (hb.mono h.2.size)⟩
set_option maxHeartbeats 2000000 in
set_option maxRecDepth 100000 in
theorem heldLineS_any (A : Option Addr) (n c k0 : Nat) (W : World) (ha : LR W W.heap.size A n (markLins k0 n)) (h0 : 0 < k0) (hk : k0 + n * 2 ≤ 16777000) :
    Calls Tryd.prog 11 #[.slice A n c, .int .i64 k0] W fun e w' => e = .returned (.int .i64 ((k0 + n * 2 : Nat) : Int)) ∧ Below W.heap.size W w' := by
  have HA := Lib.hid ha
  clear ha
  go_enter Tryd.func11, Tryd.ntmps11
  go_wp2
  go_loopw [1, 5] (fun q i wr => ∃ j : Nat, j ≤ n ∧ i = .int .i64 j ∧ q = .int .i64 ((k0 + j * 2 : Nat) : Int) ∧ Hid (Below W.heap.size W wr)) (fun _ i _ => n - (intOf i).toNat)
  case atStart => exact ⟨0, Nat.zero_le _, rfl, rfl, Below.refl _ _⟩
  case round =>
    obtain ⟨j, hj, rfl, rfl, HW⟩ := hrel
    by_cases hlt : j < n
    · obtain ⟨g, rfl, hg, hc⟩ := HA.out.at_ hlt (by rw [markLins_length]; exact hlt)
      have hx : (markLins k0 n)[j]'(by rw [markLins_length]; exact hlt) = markLin k0 j := by simp [markLins]
      rw [hx] at hc
      clear hx
      have HC := Lib.hid (hc.below HW.out hg)
      have HG : Hid (g < wr.heap.size) := Nat.lt_of_lt_of_le hg HW.out.size
      clear hc hg
      have b0 : (0 : Int) ≤ (j : Int) := by omega
      have b1 : (j : Int) < (n : Int) := by omega
      obtain ⟨p0, p1⟩ := HC.out
      dsimp only [markLin] at p0 p1
      obtain ⟨t, ht⟩ : ∃ t, k0 + j * 2 = t := ⟨_, rfl⟩
      have HT := Lib.hid ht
      rw [ht] at p0 p1 ⊢
      have ht0 : 0 < t := by omega
      have ht1 : t < 16777000 := by omega
      clear ht
      have HMT : Hid (∀ w, Calls Tryd.prog 35 #[.int .i64 ((t : Int) + 1)] w fun e w' => e = .returned (.string (markT (t + 1))) ∧ Below w.heap.size w w') := fun w => by
        have := markText_any (t + 1) w (by omega) (by omega)
        rw [show ((t + 1 : Nat) : Int) = (t : Int) + 1 by omega] at this
        exact this
      generalize markT (t + 1) = x at p1 HMT
      go_wp2_with fail
      go_region_held3 (fun w' => OneL w' g j (t : Int) x ∧ Below wr.heap.size wr w')
        (first | (exact ⟨⟨p0, p1⟩, (Below.refl _ _).drew⟩) | (go_split_ands; exact oneL_keep HG.out ⟨⟨by assumption, by assumption⟩, by assumption⟩ hb) | go_keep)
        ((go_at_call 35; refine (HMT.out _).mono ?_; rintro e w1 ⟨rfl, hb⟩))
      clear p0 p1
      go_split_ands
      go_wp2_with fail
      go_roundw
      case rel =>
        refine ⟨j + 1, by omega, by go_num, ?_, HW.out.trans (Below.mono (by assumption) HW.out.size)⟩
        have := HT.out
        congr 1
        omega
      case measure => simp [intOf]; omega
    · have HN : Hid (j = n) := by show _ = _; omega
      go_wp2_with fail
      go_ret
      exact ⟨i64_ret (by rw [HN.out]), HW.out⟩
end Go.Proofs.YtfobjedobojbnabDoor
