/- The law's walk: FnLines. Conditions: the code's bytes; the world's shape. -/
import Derived.Test.YtfobjedobojbnabDoorDrawText
import Derived.Test.YtfobjedobojbnabDoorRoundSum
import Derived.Test.YtfobjedobojbnabDoorJoinImpl
import Derived.Test.YtfobjedobojbnabDoorLogWalk
import Derived.Test.YtfobjedobojbnabDoorCards
namespace Go.Proofs.YtfobjedobojbnabDoor
open Go Go.RowKit

theorem good_first {p : ByteArray} (h : StmOk p) : 0 < p.size := by
  rcases Nat.eq_zero_or_pos p.size with h0 | h0
  · have := h.2.1
    unfold blankB allB at this
    rw [h0] at this
    simp at this
  · exact h0

set_option maxHeartbeats 2000000 in
set_option maxRecDepth 100000 in
theorem walk_FnLines (A0 : Option Addr) (n0 c0 : Nat) (w0 : n0 ≤ maxLen) (W : World) (hcode : Code W W.heap.size A0 n0) (_hL : laidMetH Tryd.prog Rows.fnLinesRow.laid W) (hsh : W.ShapedOpen Tryd.prog) :
    Calls Tryd.prog 5 #[.slice A0 n0 c0] W fun e w' => e = .returned (.bool true) ∧ Below W.heap.size W w' := by
  obtain ⟨m, hm⟩ := maxLen_cell hsh
  have HM := Lib.hid hm
  have HG : Hid (1 < W.heap.size) := heap_pos hm
  clear _hL hsh hm
  unfold maxLen at w0
  have HN : Hid (n0 ≤ 9223372036854775807) := by show _ ≤ _; omega
  have HI : Hid (∀ s w, s.size ≤ maxLen → Below W.heap.size W w → Calls Tryd.prog 8 #[.string s] w (RetsG w (logG s))) := fun s w hs h => impl_LogicalLines_any s m w hs ((h.cell (p := ⟨1, 0, none⟩) HG.out).trans HM.out)
  clear HM
  by_cases h : (n0 : Int) ≤ 1048576
  · have HL0 : Hid (decide (1048576 < (n0 : Int)) = false) := decide_eq_false (by omega)
    have HD := Lib.hid (DrawLogicalLines_any A0 n0 c0 W (by omega) hcode)
    clear h w0 hcode
    go_enter Tryd.func5, Tryd.ntmps5
    go_wp2_with (first
      | (go_at_call 17; refine (c2Long_any _ _ _ _ HN.out).mono ?_; rintro e w1 ⟨rfl, rfl⟩; rw [HL0.out])
      | (go_at_call 18; refine HD.out.mono ?_; rintro e w2 ⟨s, rfl, hp⟩; have HS : Hid (s.size ≤ maxLen) := (by show _ ≤ _; unfold maxLen; have := hp.out.1; omega); have B2 : Hid (Below W.heap.size W w2) := hp.out.2; clear hp))
    have hok := logG_ok s
    have hlen := logG_len s
    have hsum := bytesL_logG s
    have HIy : Hid (∀ w, Below W.heap.size W w → Calls Tryd.prog 8 #[.string s] w (RetsG w (logG s))) := fun w hb => HI.out s w HS.out hb
    have HSy : Hid (∀ w, Calls Tryd.prog 7 #[.string s] w (RetsG w (logG s))) := fun w => spec_LogicalLines_any s w HS.out
    generalize logG s = r at hok hlen hsum HIy HSy
    obtain ⟨xs, nn, cc⟩ := r
    dsimp only at hok hlen hsum
    have HOK := Lib.hid hok
    have HSUM := Lib.hid hsum
    clear hok hsum
    by_cases hc0 : cc = 0
    · subst hc0
      by_cases h120 : xs.length ≤ 120
      · go_wp2_with (first
          | (go_at_call 8; refine (HIy.out _ B2.out).mono ?_; rintro e w3 ⟨A3, c3, rfl, hr, hb⟩; have R3 := Lib.hid hr.lr; have B3 := Lib.hid (B2.out.trans (hb.mono B2.out.size)); clear hb hr)
          | (go_at_call 7; refine (HSy.out _).mono ?_; rintro e w4 ⟨A4, c4, rfl, hr, hb⟩; have R4 := Lib.hid (R3.out.below hb); have S4 : Hid (w3.heap.size ≤ w4.heap.size) := hb.size; have B4 := Lib.hid (B3.out.trans (hb.mono B3.out.size)); clear hb hr))
        go_loopw [10] (fun i wr => ∃ k : Nat, k ≤ xs.length ∧ i = .int .i64 k ∧ wr = w4 ∧ Hid (∀ (j : Nat) (y : Lin), j < k → xs[j]? = some y → ¬ PlainAid.bt y.t 0 = 42 ∧ ¬ PlainAid.bt y.t 0 = 43)) (fun i _ => xs.length - (intOf i).toNat)
        case atStart => exact ⟨0, Nat.zero_le _, rfl, rfl, fun j y h => absurd h (Nat.not_lt_zero _)⟩
        case round =>
          obtain ⟨k, hk, rfl, rfl, HF⟩ := hrel
          by_cases hlt : k < xs.length
          · have hl : Hid (k < xs.length) := hlt
            obtain ⟨g, rfl, hg, q0, q1⟩ := R4.out.at_ hlt hl.out
            have hx : xs[k]? = some (xs[k]'hl.out) := List.getElem?_eq_getElem hl.out
            have hp := good_first (HOK.out _ (List.getElem_mem hl.out))
            generalize xs[k]'hl.out = x at q0 q1 hx hp
            obtain ⟨xn, xt⟩ := x
            dsimp only at q0 q1 hp
            have e1 := ne_nil_of_size hp
            have e2 := not_isEmpty_of_size hp
            have hb0 := PlainAid.get_bt xt 0 hp
            have HX := Lib.hid hx
            have b0 : (0 : Int) ≤ (k : Int) := by omega
            have b1 : (k : Int) < (xs.length : Int) := by omega
            clear hx
            by_cases h42 : PlainAid.bt xt 0 = 42
            · have d1 : (PlainAid.bt xt 0 == 42) = true := by simpa using h42
              clear h42
              go_wp2_with fail
              go_ret
              exact ⟨rfl, B4.out⟩
            · by_cases h43 : PlainAid.bt xt 0 = 43
              · have d1 : (PlainAid.bt xt 0 == 42) = false := by simpa using h42
                have d2 : (PlainAid.bt xt 0 == 43) = true := by simpa using h43
                clear h42 h43
                go_wp2_with fail
                go_ret
                exact ⟨rfl, B4.out⟩
              · have d1 : (PlainAid.bt xt 0 == 42) = false := by simpa using h42
                have d2 : (PlainAid.bt xt 0 == 43) = false := by simpa using h43
                have HB : Hid (∀ (j : Nat) (y : Lin), j < k + 1 → xs[j]? = some y → ¬ PlainAid.bt y.t 0 = 42 ∧ ¬ PlainAid.bt y.t 0 = 43) := fun j y hj hy => by
                  by_cases hjk : j < k
                  · exact HF.out j y hjk hy
                  · obtain rfl : j = k := by omega
                    rw [HX.out] at hy
                    cases hy
                    exact ⟨h42, h43⟩
                clear h42 h43
                go_wp2_with fail
                go_roundw
                case rel => exact ⟨k + 1, by omega, by go_num, trivial, HB⟩
                case measure => simp [intOf]; omega
          · have hkn : k = xs.length := by omega
            have hb : ∀ y ∈ xs, ¬ PlainAid.bt y.t 0 = 42 ∧ ¬ PlainAid.bt y.t 0 = 43 := fun y hy => by
              obtain ⟨j, hj⟩ := List.getElem?_of_mem hy
              exact HF.out j y (by have := (List.getElem?_eq_some_iff.1 hj).1; omega) hj
            have hts : (joinT xs xs.length).size = xs.length + bytesL xs := by rw [joinT_size, sumL_all]
            have hsb := HSUM.out
            have HJ : Hid (∀ w, LR w w.heap.size A3 xs.length xs → Calls Tryd.prog 19 #[.slice A3 xs.length c3] w fun e w' => e = .returned (.string (joinT xs xs.length)) ∧ Below w.heap.size w w') := fun w h => impl_JoinLines_any A3 xs.length c3 xs w h (by rw [sumL_all]; omega)
            by_cases h4 : (joinT xs xs.length).size ≤ 4000
            · have hag := logG_again xs HOK.out hb h120 h4
              have hzl : (numL 0 (xs.map fun x => x.t)).length = xs.length := by rw [numL_length, List.length_map]
              have hz : ∀ (j : Nat) (y : Lin), xs[j]? = some y → (numL 0 (xs.map fun x => x.t))[j]? = some ⟨((j + 1 : Nat) : Int), y.t⟩ := fun j y hy => by
                have := numL_at 0 (xs.map fun x => x.t) j y.t (by rw [List.getElem?_map, hy]; rfl)
                rw [this, Nat.zero_add]
              generalize numL 0 (xs.map fun x => x.t) = zs at hag hzl hz
              generalize joinT xs xs.length = t at hts HJ h4 hag
              have HZ := Lib.hid hz
              have HA : Hid (∀ w, Below W.heap.size W w → Calls Tryd.prog 8 #[.string t] w fun e w' => ∃ A c, e = .returned (.tuple #[.slice A xs.length c, .int .i64 0, .int .i64 0]) ∧ LR w' w'.heap.size A xs.length zs ∧ Below w.heap.size w w') := fun w hbw => by
                have := HI.out t w (by unfold maxLen; omega) hbw
                rw [hag] at this
                refine this.mono fun e w' hh => ?_
                obtain ⟨A, c, rfl, hr, hb⟩ := hh
                have h9 := hr.lr
                dsimp only at h9
                rw [hzl] at h9
                refine ⟨A, c, ?_, h9, hb⟩
                dsimp only
                rw [hzl]
                rfl
              have HZL : Hid (zs.length = xs.length) := hzl
              have d4 : ¬ (4000 < (t.size : Int)) := by omega
              have d5 : (t.size : Int) ≤ 4000 := by omega
              clear hz hag hzl hb hts hsb h4 HI HIy HSy HF
              go_wp2_with (first
                | (go_at_call 19; refine (HJ.out _ (R4.out.more S4.out)).mono ?_; rintro e w5 ⟨rfl, hb⟩; have R5 := Lib.hid (R4.out.below (hb.mono S4.out)); have S5 : Hid (wr.heap.size ≤ w5.heap.size) := hb.size; have B5 := Lib.hid (B4.out.trans (hb.mono B4.out.size)); clear hb)
                | (go_at_call 8; refine (HA.out _ B5.out).mono ?_; rintro e w6 ⟨A6, c6, rfl, hr, hb⟩; have R6 := Lib.hid hr; have R56 := Lib.hid (R5.out.below (hb.mono (Nat.le_trans S4.out S5.out))); have B6 := Lib.hid (B5.out.trans (hb.mono B5.out.size)); have S6 : Hid (w5.heap.size ≤ w6.heap.size) := hb.size; clear hb hr))
              go_loopw [15] (fun i wy => ∃ k : Nat, k ≤ xs.length ∧ i = .int .i64 k ∧ Hid (Below w6.heap.size w6 wy)) (fun i _ => xs.length - (intOf i).toNat)
              case atStart => exact ⟨0, Nat.zero_le _, rfl, Below.refl _ _⟩
              case round =>
                obtain ⟨k, hk, rfl, HW⟩ := hrel
                by_cases hlt : k < xs.length
                · have hl : Hid (k < xs.length) := hlt
                  obtain ⟨g, rfl, hg, hq⟩ := R56.out.at_ hlt hl.out
                  have hx : xs[k]? = some (xs[k]'hl.out) := List.getElem?_eq_getElem hl.out
                  obtain ⟨g6, rfl, hg6, hc6⟩ := R6.out.2 (by omega)
                  have hp := (hc6 k _ (HZ.out k _ hx)).below HW.out hg6
                  have hq2 := hq.below HW.out (Nat.lt_of_lt_of_le hg (Nat.le_trans S4.out (Nat.le_trans S5.out S6.out)))
                  generalize xs[k]'hl.out = x at hp hq2 hx
                  obtain ⟨xn, xt⟩ := x
                  obtain ⟨q0, q1⟩ := hq2
                  obtain ⟨p0, p1⟩ := hp
                  dsimp only at q0 q1 p0 p1
                  rw [show ((k + 1 : Nat) : Int) = (k : Int) + 1 from rfl] at p0
                  have b0 : (0 : Int) ≤ (k : Int) := by omega
                  have b1 : (k : Int) < (xs.length : Int) := by omega
                  clear hx hq hc6 q0
                  go_wp2_with fail
                  go_quiet (fail)
                  go_wp2_with fail
                  go_roundw
                  case rel => exact ⟨k + 1, by omega, by go_num, below_drewN HW.out _⟩
                  case measure => simp [intOf]; omega
                · go_wp2_with fail
                  go_ret
                  exact ⟨rfl, B6.out.trans (HW.out.mono B6.out.size)⟩
            · have d4 : 4000 < ((joinT xs xs.length).size : Int) := by omega
              generalize joinT xs xs.length = t at hts HJ h4 d4
              have d5 : ¬ (t.size : Int) ≤ 4000 := by omega
              have hts2 : t.size ≤ 481000 := by omega
              clear hb hts hsb h4 HI HIy HSy HF
              go_wp2_with (go_at_call 19; refine (HJ.out _ (R4.out.more S4.out)).mono ?_; rintro e w5 ⟨rfl, hb⟩; have B5 := Lib.hid (B4.out.trans (hb.mono B4.out.size)); clear hb)
              go_ret
              exact ⟨rfl, B5.out⟩
      · have d1 : ¬ ((xs.length : Int) ≤ 120) := by omega
        have d2 : 120 < (xs.length : Int) := by omega
        go_wp2_with (first
          | (go_at_call 8; refine (HIy.out _ B2.out).mono ?_; rintro e w3 ⟨A3, c3, rfl, hr, hb⟩; have R3 := Lib.hid hr.lr; have B3 := Lib.hid (B2.out.trans (hb.mono B2.out.size)); clear hb hr)
          | (go_at_call 7; refine (HSy.out _).mono ?_; rintro e w4 ⟨A4, c4, rfl, hr, hb⟩; have B4 := Lib.hid (B3.out.trans (hb.mono B3.out.size)); clear hb hr))
        go_ret
        exact ⟨rfl, B4.out⟩
    · have d0 : (cc != 0) = true := by simpa using hc0
      have d1 : (cc == 0) = false := by simpa using hc0
      go_wp2_with (first
        | (go_at_call 8; refine (HIy.out _ B2.out).mono ?_; rintro e w3 ⟨A3, c3, rfl, hr, hb⟩; have R3 := Lib.hid hr.lr; have B3 := Lib.hid (B2.out.trans (hb.mono B2.out.size)); clear hb hr)
        | (go_at_call 7; refine (HSy.out _).mono ?_; rintro e w4 ⟨A4, c4, rfl, hr, hb⟩; have B4 := Lib.hid (B3.out.trans (hb.mono B3.out.size)); clear hb hr))
      go_ret
      exact ⟨rfl, B4.out⟩
  · have HL0 : Hid (decide (1048576 < (n0 : Int)) = true) := decide_eq_true (by omega)
    clear h w0 hcode
    go_enter Tryd.func5, Tryd.ntmps5
    go_wp2_with (go_at_call 17; refine (c2Long_any _ _ _ _ HN.out).mono ?_; rintro e w1 ⟨rfl, rfl⟩; rw [HL0.out])
    go_ret
    exact ⟨rfl, Below.refl _ _⟩
end Go.Proofs.YtfobjedobojbnabDoor
