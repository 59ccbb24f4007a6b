/- The law's walk: FnExactScanTokens. Condition: the table holds what the program's text lays. -/
import Derived.Test.YtdfikepfjdoooaaDoorScanImpl
import Derived.Test.YtdfikepfjdoooaaDoorCards
namespace Go.Proofs.YtdfikepfjdoooaaDoor
open Go Go.RowKit

theorem tokens_len (s : ByteArray) : (tokensT s).1.length ≤ 120 := by
  unfold tokensT
  split
  · exact scanT_len s _ 0 [] (Nat.le_refl _) (Nat.zero_le _)
  · exact Nat.zero_le _
theorem mark_rowT {w : World} {B C : Nat} {xs : List Tok} {A : Option Addr} (c : Nat) (h : RowT w B C A xs) (hB : B ≤ w.heap.size) (hn : xs.length ≤ 120) :
    Calls Tryd.prog 16 #[.slice A xs.length c, .int .i64 1] w fun e w' => e = .returned (.int .i64 ((1 + xs.length * 5 : Nat) : Int)) ∧ Below B w w' ∧ TR w' w'.heap.size A xs.length (markToks 1 xs.length) := by
  rcases Nat.eq_zero_or_pos xs.length with h0 | h0
  · rw [h0]
    go_enter Tryd.func16, Tryd.ntmps16
    go_wp2
    go_loopw [1, 5] (fun q i wr => i = .int .i64 0 ∧ q = .int .i64 1 ∧ wr = w) (fun _ _ _ => 0)
    case atStart => exact ⟨rfl, rfl, rfl⟩
    case round =>
      obtain ⟨rfl, rfl, rfl⟩ := hrel
      go_wp2_with fail
      go_ret
      exact ⟨rfl, Below.refl _ _, rfl, fun h => absurd h (by omega)⟩
  · obtain ⟨g, cs, rfl, h1, h2, h3, h4, h5⟩ := h h0
    exact (markTokenS_any g xs.length c 1 cs w h3 h4 (by omega) (by omega)).mono fun e w' ⟨e1, e2, e3⟩ => ⟨e1, e2.mono h1, e3.more (by have := e2.size; have := h3.lt; omega)⟩
theorem held_rowT {w : World} {n C : Nat} {A : Option Addr} (c : Nat) (h : TR w C A n (markToks 1 n)) (hC : C ≤ w.heap.size) (hn : n ≤ 120) :
    Calls Tryd.prog 17 #[.slice A n c, .int .i64 1] w fun e w' => e = .returned (.int .i64 ((1 + n * 5 : Nat) : Int)) ∧ Below w.heap.size w w' :=
  heldTokenS_any A n c 1 w (h.more hC) (by omega) (by omega)
theorem eq_rowsT {w : World} {B C B' C' : Nat} {xs : List Tok} {A A' : Option Addr} (c c' : Nat) (h : RowT w B C A xs) (h' : RowT w B' C' A' xs) (hC : C ≤ w.heap.size) (hC' : C' ≤ w.heap.size) (hn : xs.length ≤ 120) :
    Calls Tryd.prog 15 #[.slice A xs.length c, .slice A' xs.length c'] w fun e w' => e = .returned (.bool true) ∧ Below w.heap.size w w' :=
  eqTokenS_same _ _ _ c c' xs w (h.tr.more hC) (h'.tr.more hC') (by omega)

set_option maxHeartbeats 2000000 in
set_option maxRecDepth 100000 in
theorem walk_FnExactScanTokens (a0 : ByteArray) (w0 : a0.size ≤ maxLen) (W : World) (hL : laidMetH Tryd.prog Rows.fnExactScanTokensRow.laid W) :
    Calls Tryd.prog 3 #[.string a0] W fun e w' => e = .returned (.bool true) ∧ Below W.heap.size W w' := by
  have hT : Classes W := Lib.tabIs_of_head (rest := []) gClasses (by kernel_rfl) Tryd.underlying118 Tryd.underlying5 (by kernel_rfl) (by kernel_rfl) hL
  have HT := Lib.hid hT
  have HG : Hid (0 < W.heap.size) := heap_pos (hT.at_ 0 (by decide))
  clear hL hT
  unfold maxLen at w0
  by_cases h : (a0.size : Int) ≤ 1048576
  · have hs : a0.size ≤ 1048576 := by omega
    have HSp : Hid (∀ w, Calls Tryd.prog 13 #[.string a0] w (RetsT w (tokensT a0))) := fun w => spec_ScanTokens_any a0 w hs
    have HIm : Hid (∀ w, Classes w → Calls Tryd.prog 14 #[.string a0] w (RetsT w (tokensT a0))) := fun w h => impl_ScanTokens_any a0 w hs h
    have hn := tokens_len a0
    generalize tokensT a0 = r at HSp HIm hn
    obtain ⟨xs, nn, cc⟩ := r
    dsimp only at hn
    have hq0 : (((1 + xs.length * 5 : Nat) : Int) < 0) = False := by simp; omega
    have HN : Hid (xs.length ≤ 120) := hn
    clear hn hs
    go_enter Tryd.func3, Tryd.ntmps3
    go_wp2_with (go_at_call 13; refine (HSp.out _).mono ?_; rintro e w3 ⟨A0, q0, rfl, hr, hb⟩; have R0 := Lib.hid hr; have HB3 : Hid (Below W.heap.size W w3) := hb; clear hb hr)
    go_wp2_with (go_at_call 14; refine (HIm.out _ (HT.out.below HB3.out HG.out)).mono ?_; rintro e w5 ⟨A1, q1, rfl, hr, hb⟩; have R1 := Lib.hid hr; have R05 := Lib.hid (R0.out.below hb (Nat.le_refl _)); have S5 : Hid (w3.heap.size ≤ w5.heap.size) := hb.size; have HB5 : Hid (Below W.heap.size W w5) := HB3.out.trans (hb.mono HB3.out.size); clear hb hr)
    go_wp2_with (go_at_call 15; refine (eq_rowsT _ _ R1.out R05.out (Nat.le_refl _) S5.out HN.out).mono ?_; rintro e w6 ⟨rfl, hb⟩; have R16 := Lib.hid (R1.out.below hb (Nat.le_refl _)); have R06 := Lib.hid (R05.out.below hb S5.out); have S6 : Hid (w5.heap.size ≤ w6.heap.size) := hb.size; have HB6 : Hid (Below W.heap.size W w6) := HB5.out.trans (hb.mono HB5.out.size); clear hb)
    go_wp2_with (go_at_call 16; refine (mark_rowT _ R16.out (Nat.le_trans S5.out S6.out) HN.out).mono ?_; rintro e w7 ⟨rfl, hb, hm⟩; have M7 := Lib.hid hm; have R07 := Lib.hid (R06.out.below hb (Nat.le_refl _)); have S7 : Hid (w6.heap.size ≤ w7.heap.size) := hb.size; have HB7 : Hid (Below W.heap.size W w7) := HB6.out.trans (hb.mono HB3.out.size); clear hb hm)
    go_wp2_with (go_at_call 17; refine (held_rowT _ M7.out (Nat.le_refl _) HN.out).mono ?_; rintro e w8 ⟨rfl, hb⟩; have M8 := Lib.hid (M7.out.below hb); have R08 := Lib.hid (R07.out.below hb (Nat.le_trans S5.out (Nat.le_trans S6.out S7.out))); have S8 : Hid (w7.heap.size ≤ w8.heap.size) := hb.size; have HB8 : Hid (Below W.heap.size W w8) := HB7.out.trans (hb.mono HB7.out.size); clear hb)
    go_wp2_with (go_at_call 14; refine (HIm.out _ (HT.out.below HB8.out HG.out)).mono ?_; rintro e w10 ⟨A2, q2, rfl, hr, hb⟩; have R2 := Lib.hid hr; have M10 := Lib.hid (M8.out.below (hb.mono S8.out)); have R010 := Lib.hid (R08.out.below hb (Nat.le_trans S5.out (Nat.le_trans S6.out (Nat.le_trans S7.out S8.out)))); have S10 : Hid (w8.heap.size ≤ w10.heap.size) := hb.size; have HB10 : Hid (Below W.heap.size W w10) := HB8.out.trans (hb.mono HB8.out.size); clear hb hr)
    go_wp2_with (go_at_call 15; refine (eq_rowsT _ _ R2.out R010.out (Nat.le_refl _) (Nat.le_trans S5.out (Nat.le_trans S6.out (Nat.le_trans S7.out (Nat.le_trans S8.out S10.out)))) HN.out).mono ?_; rintro e w11 ⟨rfl, hb⟩; have M11 := Lib.hid (M10.out.below (hb.mono (Nat.le_trans S8.out S10.out))); have S11 : Hid (w10.heap.size ≤ w11.heap.size) := hb.size; have HB11 : Hid (Below W.heap.size W w11) := HB10.out.trans (hb.mono HB10.out.size); clear hb)
    go_wp2_with (go_at_call 17; refine (held_rowT _ M11.out (Nat.le_trans S8.out (Nat.le_trans S10.out S11.out)) HN.out).mono ?_; rintro e w12 ⟨rfl, hb⟩; have HB12 : Hid (Below W.heap.size W w12) := HB11.out.trans (hb.mono HB11.out.size); clear hb)
    go_ret
    exact ⟨rfl, HB12.out⟩
  · have h' : 1048576 < (a0.size : Int) := by omega
    clear h
    go_enter Tryd.func3, Tryd.ntmps3
    go_wp2_with fail
    go_ret
    exact ⟨rfl, Below.refl _ _⟩
end Go.Proofs.YtdfikepfjdoooaaDoor
