/- Contracts: laws.eqStringS, markStringS, heldStringS on slices of strings that read as lists. -/
import Derived.Test.YtjeiiljdhnmofaaDoorMark
import Derived.Test.YtjeiiljdhnmofaaDoorStrs0
import Derived.Deep.QuietTactic
import Derived.BigQuiet
import Derived.Deep.RegionHeld3
namespace Go.Proofs.YtjeiiljdhnmofaaDoor
open Go Go.RowKit

set_option maxHeartbeats 1000000 in
set_option maxRecDepth 100000 in
theorem eqStringS_same (A A' : Option Addr) (n c c' : Nat) (xs : List ByteArray) (W : World) (ha : SR W W.heap.size A n xs) (hb : SR W W.heap.size A' n xs) (hn : n ≤ 9223372036854775807) :
    Calls Tryd.prog 39 #[.slice A n c, .slice A' n c'] W fun e w' => e = .returned (.bool true) ∧ Below W.heap.size W w' := by
  have HA := Lib.hid ha
  have HB := Lib.hid hb
  clear ha hb
  go_enter Tryd.func39, Tryd.ntmps39
  go_wp2
  go_loopw [5] (fun i wr => ∃ k : Nat, k ≤ n ∧ i = .int .i64 k ∧ Hid (Below W.heap.size W wr)) (fun i _ => n - (intOf i).toNat)
  case atStart => exact ⟨0, Nat.zero_le _, rfl, Below.refl _ _⟩
  case round =>
    obtain ⟨k, hk, rfl, HW⟩ := hrel
    by_cases hlt : k < n
    · have hl : Hid (k < xs.length) := by have := HA.out.1; show _ < _; omega
      obtain ⟨g, rfl, hg, h1⟩ := HA.out.at_ hlt hl.out
      obtain ⟨g', rfl, hg', h2⟩ := HB.out.at_ hlt hl.out
      have q1 := (HW.out.cell (p := ⟨g, k, none⟩) hg).trans h1
      have q2 := (HW.out.cell (p := ⟨g', k, none⟩) hg').trans h2
      generalize xs[k]'hl.out = x at q1 q2
      have b0 : (0 : Int) ≤ (k : Int) := by omega
      have b1 : (k : Int) < (n : Int) := by omega
      clear h1 h2
      go_wp2_with fail
      go_quiet (fail)
      go_wp2_with fail
      go_roundw
      case rel => exact ⟨k + 1, by omega, by go_num, below_drewN HW.out _⟩
      case measure => simp [intOf]; omega
    · go_wp2_with fail
      go_ret
      exact ⟨rfl, HW.out⟩

/-- The marks k0, k0 + 1 .. as texts. -/
def marks (k0 n : Nat) : List ByteArray := (List.range n).map fun i => markT (k0 + i)
theorem marks_length (k0 n : Nat) : (marks k0 n).length = n := by simp [marks]

/-- Cells of block g from j on hold what they held; before, the marks. -/
def Marked (w : World) (g k0 j n : Nat) : Prop := ∃ cs, SB w g cs ∧ n ≤ cs.size ∧ ∀ i, i < j → cs[i]? = some (.string (markT (k0 + i)))

set_option maxHeartbeats 1000000 in
set_option maxRecDepth 100000 in
theorem markStringS_any (g n c k0 : Nat) (cs : Array Value) (W : World) (hs : SB W g cs) (hcs : n ≤ cs.size) (h0 : 0 < k0) (hk : k0 + n ≤ 16777216) :
    Calls Tryd.prog 40 #[.slice (some ⟨g, 0, none⟩) n c, .int .i64 k0] W fun e w' => e = .returned (.int .i64 ((k0 + n : Nat) : Int)) ∧ Below g W w' ∧ SR w' (g + 1) (some ⟨g, 0, none⟩) n (marks k0 n) := by
  have HG : Hid (g < W.heap.size) := hs.lt
  have HM : Hid (Marked W g k0 0 n) := ⟨cs, hs, hcs, fun i hi => absurd hi (by omega)⟩
  clear hs hcs
  go_enter Tryd.func40, Tryd.ntmps40
  go_wp2
  go_loopw [1, 5] (fun q i wr => ∃ j : Nat, j ≤ n ∧ i = .int .i64 j ∧ q = .int .i64 ((k0 + j : Nat) : Int) ∧ Hid (Below g W wr) ∧ Hid (W.heap.size ≤ wr.heap.size) ∧ Hid (Marked wr g k0 j n)) (fun _ i _ => n - (intOf i).toNat)
  case atStart => exact ⟨0, Nat.zero_le _, rfl, rfl, Below.refl _ _, Nat.le_refl _, HM⟩
  case round =>
    obtain ⟨j, hj, rfl, rfl, HW, HZ, HJ⟩ := hrel
    by_cases hlt : j < n
    · obtain ⟨cs, hs, hcs, hm⟩ := HJ.out
      have HSB := Lib.hid hs
      have HMM := Lib.hid hm
      have HC : Hid (j < cs.size) := by show _ < _; omega
      clear hs hm
      have b0 : (0 : Int) ≤ (j : Int) := by omega
      have b1 : (j : Int) < (n : Int) := by omega
      obtain ⟨t, ht⟩ : ∃ t, k0 + j = t := ⟨_, rfl⟩
      have HT := Lib.hid ht
      rw [ht]
      have ht0 : 0 < t := by omega
      have ht1 : t < 16777216 := by omega
      clear ht
      go_wp2_with (go_at_call 62; refine (markText_any t _ ht0 (by omega)).mono ?_; rintro e w1 ⟨rfl, hb⟩; have HB1 := Lib.hid hb; have HS1 : Hid (SB w1 g cs) := HSB.out.below hb HSB.out.lt; have hc1 := (HS1.out.cell j).trans (Array.getElem?_eq_getElem HC.out); have hf1 := HS1.out.frozen j; clear hb)
      go_roundw
      case rel =>
        refine ⟨j + 1, by omega, by go_num, by rw [← HT.out]; go_num, ?_, ?_, ?_⟩
        · exact (HW.out.trans (HB1.out.mono (Nat.le_trans (Nat.le_of_lt HG.out) HZ.out))).setCell (Nat.le_refl _) _
        · have := HB1.out.size
          have := HZ.out
          show _ ≤ _
          simp [World.setCell]
          omega
        · refine ⟨_, HS1.out.set_ j _, by simpa using hcs, fun i hi => ?_⟩
          by_cases e : i = j
          · subst e
            rw [Array.getElem?_setIfInBounds_self_of_lt HC.out, HT.out]
          · rw [Array.getElem?_setIfInBounds_ne (fun h => e h.symm)]
            exact HMM.out i (by omega)
      case measure => simp [intOf]; omega
    · have HN : Hid (j = n) := by show _ = _; omega
      go_wp2_with fail
      go_ret
      refine ⟨i64_ret (by rw [HN.out]), HW.out, by rw [marks_length], fun _ => ⟨g, rfl, by omega, fun i x hx => ?_⟩⟩
      obtain ⟨cs, hs, hcs, hm⟩ := HJ.out
      have hi : i < n := by
        have := (List.getElem?_eq_some_iff.1 hx).1
        rwa [marks_length] at this
      rw [hs.cell i, hm i (by have := HN.out; omega)]
      simp only [marks, List.getElem?_map, List.getElem?_range hi, Option.map_some, Option.some.injEq] at hx
      rw [hx]

theorem held_keep {wr wx w1 : World} {g j : Nat} {v : Value} (hg : g < wr.heap.size) (h : wx.cell? ⟨g, j, none⟩ = some v ∧ Below wr.heap.size wr wx) (hb : Below wx.heap.size wx w1) :
    w1.cell? ⟨g, j, none⟩ = some v ∧ Below wr.heap.size wr w1 :=
  ⟨(hb.cell (p := ⟨g, j, none⟩) (Nat.lt_of_lt_of_le hg h.2.size)).trans h.1, h.2.trans (hb.mono h.2.size)⟩

set_option maxHeartbeats 2000000 in
set_option maxRecDepth 100000 in
theorem heldStringS_any (A : Option Addr) (n c k0 : Nat) (W : World) (ha : SR W W.heap.size A n (marks k0 n)) (h0 : 0 < k0) (hk : k0 + n ≤ 16777216) :
    Calls Tryd.prog 41 #[.slice A n c, .int .i64 k0] W fun e w' => e = .returned (.int .i64 ((k0 + n : Nat) : Int)) ∧ Below W.heap.size W w' := by
  have HA := Lib.hid ha
  clear ha
  go_enter Tryd.func41, Tryd.ntmps41
  go_wp2
  go_loopw [1, 5] (fun q i wr => ∃ j : Nat, j ≤ n ∧ i = .int .i64 j ∧ q = .int .i64 ((k0 + j : Nat) : Int) ∧ Hid (Below W.heap.size W wr)) (fun _ i _ => n - (intOf i).toNat)
  case atStart => exact ⟨0, Nat.zero_le _, rfl, rfl, Below.refl _ _⟩
  case round =>
    obtain ⟨j, hj, rfl, rfl, HW⟩ := hrel
    by_cases hlt : j < n
    · obtain ⟨g, rfl, hg, hc⟩ := HA.out.at_ hlt (by rw [marks_length]; exact hlt)
      have q1 := (HW.out.cell (p := ⟨g, j, none⟩) hg).trans hc
      have hx : (marks k0 n)[j]'(by rw [marks_length]; exact hlt) = markT (k0 + j) := by simp [marks]
      rw [hx] at q1
      clear hc hx
      have HG : Hid (g < wr.heap.size) := Nat.lt_of_lt_of_le hg HW.out.size
      have b0 : (0 : Int) ≤ (j : Int) := by omega
      have b1 : (j : Int) < (n : Int) := by omega
      obtain ⟨t, ht⟩ : ∃ t, k0 + j = t := ⟨_, rfl⟩
      have HT := Lib.hid ht
      rw [ht] at q1 ⊢
      have ht0 : 0 < t := by omega
      have ht1 : t < 16777216 := by omega
      clear ht
      generalize hm : markT t = x at q1
      have HX := Lib.hid hm
      clear hm hg
      go_wp2_with fail
      go_region_held3 (fun w' => w'.cell? ⟨g, j, none⟩ = some (.string x) ∧ Below wr.heap.size wr w') (first | (exact ⟨q1, (Below.refl _ _).drew⟩) | (go_split_ands; exact held_keep HG.out ⟨by assumption, by assumption⟩ hb) | go_keep)
        ((go_at_call 62; refine (markText_any t _ ht0 (by omega)).mono ?_; rintro e w1 ⟨rfl, hb⟩; rw [HX.out]))
      go_wp2_with fail
      go_split_ands
      go_roundw
      case rel => exact ⟨j + 1, by omega, by go_num, by rw [← HT.out]; go_num, HW.out.trans (Below.mono (by assumption) HW.out.size)⟩
      case measure => simp [intOf]; omega
    · have HN : Hid (j = n) := by show _ = _; omega
      go_wp2_with fail
      go_ret
      exact ⟨i64_ret (by rw [HN.out]), HW.out⟩
end Go.Proofs.YtjeiiljdhnmofaaDoor
