/- laws.markTokenS and heldTokenS on rows of tokens; rows of tokens that calls hand back. No condition. -/
import Derived.Test.YtdfikepfjdoooaaDoorToks
namespace Go.Proofs.YtdfikepfjdoooaaDoor
open Go Go.RowKit

/-- The marks as tokens, from the number k0 on. -/
def markTok (k0 i : Nat) : Tok := ⟨((k0 + i * 5 : Nat) : Int), ((k0 + i * 5 : Nat) : Int) + 1, markT (k0 + i * 5 + 2), (((k0 + i * 5 : Nat) : Int) + 1 + 1 + 1) % 3 == 0, (((k0 + i * 5 : Nat) : Int) + 1 + 1 + 1 + 1) % 3 == 0⟩
def markToks (k0 n : Nat) : List Tok := (List.range n).map (markTok k0)
theorem markToks_length (k0 n : Nat) : (markToks k0 n).length = n := by simp [markToks]

theorem sets5_old {cs : Array Value} {b : Nat} {v0 v1 v2 v3 v4 : Value} {i : Nat} (h : i < b) : (((((cs.setIfInBounds b v0).setIfInBounds (b + 1) v1).setIfInBounds (b + 2) v2).setIfInBounds (b + 3) v3).setIfInBounds (b + 4) v4)[i]? = cs[i]? := by
  rw [Array.getElem?_setIfInBounds_ne (by omega), Array.getElem?_setIfInBounds_ne (by omega), Array.getElem?_setIfInBounds_ne (by omega), Array.getElem?_setIfInBounds_ne (by omega), Array.getElem?_setIfInBounds_ne (by omega)]
theorem sets5_new {cs : Array Value} {b : Nat} {v0 v1 v2 v3 v4 : Value} (hb : b + 4 < cs.size) : ∀ (x : Nat) (v : Value), [v0, v1, v2, v3, v4][x]? = some v → (((((cs.setIfInBounds b v0).setIfInBounds (b + 1) v1).setIfInBounds (b + 2) v2).setIfInBounds (b + 3) v3).setIfInBounds (b + 4) v4)[b + x]? = some v
  | 0, v, h => by
    simp only [List.getElem?_cons_zero, Option.some.injEq] at h
    subst h
    simp only [Nat.add_zero]
    rw [Array.getElem?_setIfInBounds_ne (by omega), Array.getElem?_setIfInBounds_ne (by omega), Array.getElem?_setIfInBounds_ne (by omega), Array.getElem?_setIfInBounds_ne (by omega), Array.getElem?_setIfInBounds_self_of_lt (by omega)]
  | 1, v, h => by
    simp only [List.getElem?_cons_zero, List.getElem?_cons_succ, Option.some.injEq] at h
    subst h
    rw [Array.getElem?_setIfInBounds_ne (by omega), Array.getElem?_setIfInBounds_ne (by omega), Array.getElem?_setIfInBounds_ne (by omega), Array.getElem?_setIfInBounds_self_of_lt (by simp only [Array.size_setIfInBounds]; omega)]
  | 2, v, h => by
    simp only [List.getElem?_cons_zero, List.getElem?_cons_succ, Option.some.injEq] at h
    subst h
    rw [Array.getElem?_setIfInBounds_ne (by omega), Array.getElem?_setIfInBounds_ne (by omega), Array.getElem?_setIfInBounds_self_of_lt (by simp only [Array.size_setIfInBounds]; omega)]
  | 3, v, h => by
    simp only [List.getElem?_cons_zero, List.getElem?_cons_succ, Option.some.injEq] at h
    subst h
    rw [Array.getElem?_setIfInBounds_ne (by omega), Array.getElem?_setIfInBounds_self_of_lt (by simp only [Array.size_setIfInBounds]; omega)]
  | 4, v, h => by
    simp only [List.getElem?_cons_zero, List.getElem?_cons_succ, Option.some.injEq] at h
    subst h
    rw [Array.getElem?_setIfInBounds_self_of_lt (by simp only [Array.size_setIfInBounds]; omega)]
  | x + 5, v, h => by simp at h

/-- The elements of block g ahead of j are marked. -/
def MarkedT (w : World) (g k0 j n : Nat) : Prop := ∃ cs, TB w g cs ∧ n * 5 ≤ cs.size ∧ ∀ (i x : Nat) (v : Value), i < j → (markTok k0 i).vs[x]? = some v → cs[i * 5 + x]? = some v

set_option maxHeartbeats 2000000 in
set_option maxRecDepth 100000 in
theorem markTokenS_any (g n c k0 : Nat) (cs : Array Value) (W : World) (hs : TB W g cs) (hcs : n * 5 ≤ cs.size) (h0 : 0 < k0) (hk : k0 + n * 5 ≤ 16777000) :
    Calls Tryd.prog 16 #[.slice (some ⟨g, 0, none⟩) n c, .int .i64 k0] W fun e w' => e = .returned (.int .i64 ((k0 + n * 5 : Nat) : Int)) ∧ Below g W w' ∧ TR w' (g + 1) (some ⟨g, 0, none⟩) n (markToks k0 n) := by
  have HG : Hid (g < W.heap.size) := hs.lt
  have HM : Hid (MarkedT W g k0 0 n) := ⟨cs, hs, hcs, fun i x v hi => absurd hi (by omega)⟩
  clear hs hcs
  go_enter Tryd.func16, Tryd.ntmps16
  go_wp2
  go_loopw [1, 5] (fun q i wr => ∃ j : Nat, j ≤ n ∧ i = .int .i64 j ∧ q = .int .i64 ((k0 + j * 5 : Nat) : Int) ∧ Hid (Below g W wr) ∧ Hid (W.heap.size ≤ wr.heap.size) ∧ Hid (MarkedT wr g k0 j n)) (fun _ i _ => n - (intOf i).toNat)
  case atStart => exact ⟨0, Nat.zero_le _, rfl, rfl, Below.refl _ _, Nat.le_refl _, HM⟩
  case round =>
    obtain ⟨j, hj, rfl, rfl, HW, HZ, HJ⟩ := hrel
    by_cases hlt : j < n
    · obtain ⟨cs, hs, hcs, hm⟩ := HJ.out
      have HSB := Lib.hid hs
      have HMM := Lib.hid hm
      have l0 : j * 5 < cs.size := by omega
      have l1 : j * 5 + 1 < cs.size := by omega
      have l2 : j * 5 + 2 < cs.size := by omega
      have l3 : j * 5 + 3 < cs.size := by omega
      have l4 : j * 5 + 4 < cs.size := by omega
      have p0 := (hs.cell (j * 5)).trans (Array.getElem?_eq_getElem l0)
      have p1 := (hs.cell (j * 5 + 1)).trans (Array.getElem?_eq_getElem l1)
      have p2 := (hs.cell (j * 5 + 2)).trans (Array.getElem?_eq_getElem l2)
      have p3 := (hs.cell (j * 5 + 3)).trans (Array.getElem?_eq_getElem l3)
      have p4 := (hs.cell (j * 5 + 4)).trans (Array.getElem?_eq_getElem l4)
      have z0 := hs.frozen (j * 5)
      have z1 := hs.frozen (j * 5 + 1)
      have z2 := hs.frozen (j * 5 + 2)
      have z3 := hs.frozen (j * 5 + 3)
      have z4 := hs.frozen (j * 5 + 4)
      clear hs hm
      have b0 : (0 : Int) ≤ (j : Int) := by omega
      have b1 : (j : Int) < (n : Int) := by omega
      obtain ⟨t, ht⟩ : ∃ t, k0 + j * 5 = t := ⟨_, rfl⟩
      have HT := Lib.hid ht
      rw [ht]
      have ht0 : 0 < t := by omega
      have ht1 : t < 16777000 := by omega
      clear ht
      have HMT : Hid (∀ w, Calls Tryd.prog 56 #[.int .i64 ((t : Int) + 1 + 1)] w fun e w' => e = .returned (.string (markT (t + 2))) ∧ Below w.heap.size w w') := fun w => by
        have := markText_any (t + 2) w (by omega) (by omega)
        rw [show ((t + 2 : Nat) : Int) = (t : Int) + 1 + 1 by omega] at this
        exact this
      have LZ : Hid (g < wr.heap.size) := Nat.lt_of_lt_of_le HG.out HZ.out
      go_wp2_with (go_at_call 56; refine (HMT.out _).mono ?_; rintro e w1 ⟨rfl, hb⟩; have HB1 := Lib.hid hb; have HS1 : Hid (TB w1 g ((cs.setIfInBounds (j * 5) (.int .i64 (t : Int))).setIfInBounds (j * 5 + 1) (.int .i64 ((t : Int) + 1)))) := ((HSB.out.set_ _ _).set_ _ _).below hb (by simp [World.setCell]; exact LZ.out); have y2 := HS1.out.cell (j * 5 + 2); have y3 := HS1.out.cell (j * 5 + 3); have y4 := HS1.out.cell (j * 5 + 4); have x2 := HS1.out.frozen (j * 5 + 2); have x3 := HS1.out.frozen (j * 5 + 3); have x4 := HS1.out.frozen (j * 5 + 4); clear hb p0 p1 p2 p3 p4 z0 z1 z2 z3 z4; rw [Array.getElem?_eq_getElem (by simpa using l2)] at y2; rw [Array.getElem?_eq_getElem (by simpa using l3)] at y3; rw [Array.getElem?_eq_getElem (by simpa using l4)] at y4)
      go_roundw
      case rel =>
        refine ⟨j + 1, by omega, by go_num, ?_, ?_, ?_, ?_⟩
        · have := HT.out
          congr 1
          omega
        · have h1 : Below g W ((wr.setCell ⟨g, j * 5, none⟩ (.int .i64 (t : Int))).setCell ⟨g, j * 5 + 1, none⟩ (.int .i64 ((t : Int) + 1))) := (HW.out.setCell (Nat.le_refl _) _).setCell (Nat.le_refl _) _
          exact Lib.hid ((((h1.trans (HB1.out.mono (by simp [World.setCell]; exact Nat.le_of_lt LZ.out))).setCell (Nat.le_refl _) _).setCell (Nat.le_refl _) _).setCell (Nat.le_refl _) _)
        · have h1 := HB1.out.size
          have h2 := HZ.out
          simp [World.setCell] at h1
          show _ ≤ _
          simp [World.setCell]
          omega
        · refine ⟨_, ((HS1.out.set_ (j * 5 + 2) _).set_ (j * 5 + 3) _).set_ (j * 5 + 4) _, by simpa using hcs, fun i x v hi hv => ?_⟩
          by_cases e : i = j
          · subst e
            refine sets5_new (by omega) x v ?_
            rw [← HT.out]
            exact hv
          · have hx : x < 5 := (List.getElem?_eq_some_iff.1 hv).1
            rw [sets5_old (by omega)]
            exact HMM.out i x v (by omega) hv
      case measure => simp [intOf]; omega
    · have HN : Hid (j = n) := by show _ = _; omega
      go_wp2_with fail
      go_ret
      refine ⟨i64_ret (by rw [HN.out]), HW.out, by rw [markToks_length], fun _ => ⟨g, rfl, by omega, fun i x hx => ?_⟩⟩
      obtain ⟨cs, hs, hcs, hm⟩ := HJ.out
      have hi : i < n := by
        have := (List.getElem?_eq_some_iff.1 hx).1
        rwa [markToks_length] at this
      simp only [markToks, List.getElem?_map, List.getElem?_range hi, Option.map_some, Option.some.injEq] at hx
      subst hx
      have hij : i < j := by have := HN.out; omega
      exact ⟨(hs.cell _).trans (hm i 0 _ hij rfl), (hs.cell _).trans (hm i 1 _ hij rfl), (hs.cell _).trans (hm i 2 _ hij rfl), (hs.cell _).trans (hm i 3 _ hij rfl), (hs.cell _).trans (hm i 4 _ hij rfl)⟩
end Go.Proofs.YtdfikepfjdoooaaDoor
