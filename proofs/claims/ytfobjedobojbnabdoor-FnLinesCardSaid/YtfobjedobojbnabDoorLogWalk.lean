/- The law's walk: FnExactLogicalLines. No condition but the world's shape. -/
import Derived.Test.YtfobjedobojbnabDoorLogSpec
import Derived.Test.YtfobjedobojbnabDoorLns2
import Derived.Test.YtfobjedobojbnabDoorCards
namespace Go.Proofs.YtfobjedobojbnabDoor
open Go Go.RowKit

theorem logG_len (s : ByteArray) : (logG s).1.length ≤ 1048576 := by
  unfold logG
  by_cases h : sourceB s = true
  · rw [if_neg (by simp [h])]
    have h1 := comb_facts h
    have h2 := logT_length (combT (linesT s) 0 []).1 []
    simp only [List.length_nil] at h2
    split
    · dsimp only
      omega
    · exact Nat.zero_le _
  · rw [if_pos (by simpa using h)]
    exact Nat.zero_le _
theorem mark_rowL {w : World} {B C : Nat} {xs : List Lin} {A : Option Addr} (c : Nat) (h : RowL w B C A xs) (hB : B ≤ w.heap.size) (hn : xs.length ≤ 1048576) :
    Calls Tryd.prog 10 #[.slice A xs.length c, .int .i64 1] w fun e w' => e = .returned (.int .i64 ((1 + xs.length * 2 : Nat) : Int)) ∧ Below B w w' ∧ LR w' w'.heap.size A xs.length (markLins 1 xs.length) := by
  rcases Nat.eq_zero_or_pos xs.length with h0 | h0
  · rw [h0]
    go_enter Tryd.func10, Tryd.ntmps10
    go_wp2
    go_loopw [1, 5] (fun q i wr => i = .int .i64 0 ∧ q = .int .i64 1 ∧ wr = w) (fun _ _ _ => 0)
    case atStart => exact ⟨rfl, rfl, rfl⟩
    case round =>
      obtain ⟨rfl, rfl, rfl⟩ := hrel
      go_wp2_with fail
      go_ret
      exact ⟨rfl, Below.refl _ _, rfl, fun h => absurd h (by omega)⟩
  · obtain ⟨g, cs, rfl, h1, h2, h3, h4, h5⟩ := h h0
    exact (markLineS_any g xs.length c 1 cs w h3 h4 (by omega) (by omega)).mono fun e w' ⟨e1, e2, e3⟩ => ⟨e1, e2.mono h1, e3.more (by have := e2.size; have := h3.lt; omega)⟩
theorem held_rowL {w : World} {n C : Nat} {A : Option Addr} (c : Nat) (h : LR w C A n (markLins 1 n)) (hC : C ≤ w.heap.size) (hn : n ≤ 1048576) :
    Calls Tryd.prog 11 #[.slice A n c, .int .i64 1] w fun e w' => e = .returned (.int .i64 ((1 + n * 2 : Nat) : Int)) ∧ Below w.heap.size w w' :=
  heldLineS_any A n c 1 w (h.more hC) (by omega) (by omega)
theorem eq_rowsL {w : World} {B C B' C' : Nat} {xs : List Lin} {A A' : Option Addr} (c c' : Nat) (h : RowL w B C A xs) (h' : RowL w B' C' A' xs) (hC : C ≤ w.heap.size) (hC' : C' ≤ w.heap.size) (hn : xs.length ≤ 1048576) :
    Calls Tryd.prog 9 #[.slice A xs.length c, .slice A' xs.length c'] w fun e w' => e = .returned (.bool true) ∧ Below w.heap.size w w' :=
  eqLineS_same _ _ _ c c' xs w (h.lr.more hC) (h'.lr.more hC') (by omega)

set_option maxHeartbeats 2000000 in
set_option maxRecDepth 100000 in
theorem walk_FnExactLogicalLines (a0 : ByteArray) (w0 : a0.size ≤ maxLen) (W : World) (_hL : laidMetH Tryd.prog Rows.fnExactLogicalLinesRow.laid W) (hsh : W.ShapedOpen Tryd.prog) :
    Calls Tryd.prog 3 #[.string a0] W fun e w' => e = .returned (.bool true) ∧ Below W.heap.size W w' := by
  obtain ⟨m, hm⟩ := maxLen_cell hsh
  have HM := Lib.hid hm
  have HG : Hid (1 < W.heap.size) := heap_pos hm
  clear _hL hsh hm
  have HS : Hid (a0.size ≤ maxLen) := w0
  unfold maxLen at w0
  by_cases h : (a0.size : Int) ≤ 1048576
  · have hs : a0.size ≤ 1048576 := by omega
    have HSp : Hid (∀ w, Calls Tryd.prog 7 #[.string a0] w (RetsG w (logG a0))) := fun w => spec_LogicalLines_any a0 w HS.out
    have HIm : Hid (∀ w, Below W.heap.size W w → Calls Tryd.prog 8 #[.string a0] w (RetsG w (logG a0))) := fun w h => impl_LogicalLines_any a0 m w HS.out ((h.cell (p := ⟨1, 0, none⟩) HG.out).trans HM.out)
    have hn := logG_len a0
    generalize logG a0 = r at HSp HIm hn
    obtain ⟨xs, nn, cc⟩ := r
    dsimp only at hn
    have hq0 : (((1 + xs.length * 2 : Nat) : Int) < 0) = False := by simp; omega
    have HN : Hid (xs.length ≤ 1048576) := hn
    clear hn hs
    go_enter Tryd.func3, Tryd.ntmps3
    go_wp2_with (go_at_call 7; refine (HSp.out _).mono ?_; rintro e w3 ⟨A0, q0, rfl, hr, hb⟩; have R0 := Lib.hid hr; have HB3 : Hid (Below W.heap.size W w3) := hb; clear hb hr)
    go_wp2_with (go_at_call 8; refine (HIm.out _ HB3.out).mono ?_; rintro e w5 ⟨A1, q1, rfl, hr, hb⟩; have R1 := Lib.hid hr; have R05 := Lib.hid (R0.out.below hb (Nat.le_refl _)); have S5 : Hid (w3.heap.size ≤ w5.heap.size) := hb.size; have HB5 : Hid (Below W.heap.size W w5) := HB3.out.trans (hb.mono HB3.out.size); clear hb hr)
    go_wp2_with (go_at_call 9; refine (eq_rowsL _ _ R1.out R05.out (Nat.le_refl _) S5.out HN.out).mono ?_; rintro e w6 ⟨rfl, hb⟩; have R16 := Lib.hid (R1.out.below hb (Nat.le_refl _)); have R06 := Lib.hid (R05.out.below hb S5.out); have S6 : Hid (w5.heap.size ≤ w6.heap.size) := hb.size; have HB6 : Hid (Below W.heap.size W w6) := HB5.out.trans (hb.mono HB5.out.size); clear hb)
    go_wp2_with (go_at_call 10; refine (mark_rowL _ R16.out (Nat.le_trans S5.out S6.out) HN.out).mono ?_; rintro e w7 ⟨rfl, hb, hm⟩; have M7 := Lib.hid hm; have R07 := Lib.hid (R06.out.below hb (Nat.le_refl _)); have S7 : Hid (w6.heap.size ≤ w7.heap.size) := hb.size; have HB7 : Hid (Below W.heap.size W w7) := HB6.out.trans (hb.mono HB3.out.size); clear hb hm)
    go_wp2_with (go_at_call 11; refine (held_rowL _ M7.out (Nat.le_refl _) HN.out).mono ?_; rintro e w8 ⟨rfl, hb⟩; have M8 := Lib.hid (M7.out.below hb); have R08 := Lib.hid (R07.out.below hb (Nat.le_trans S5.out (Nat.le_trans S6.out S7.out))); have S8 : Hid (w7.heap.size ≤ w8.heap.size) := hb.size; have HB8 : Hid (Below W.heap.size W w8) := HB7.out.trans (hb.mono HB7.out.size); clear hb)
    go_wp2_with (go_at_call 8; refine (HIm.out _ HB8.out).mono ?_; rintro e w10 ⟨A2, q2, rfl, hr, hb⟩; have R2 := Lib.hid hr; have M10 := Lib.hid (M8.out.below (hb.mono S8.out)); have R010 := Lib.hid (R08.out.below hb (Nat.le_trans S5.out (Nat.le_trans S6.out (Nat.le_trans S7.out S8.out)))); have S10 : Hid (w8.heap.size ≤ w10.heap.size) := hb.size; have HB10 : Hid (Below W.heap.size W w10) := HB8.out.trans (hb.mono HB8.out.size); clear hb hr)
    go_wp2_with (go_at_call 9; refine (eq_rowsL _ _ R2.out R010.out (Nat.le_refl _) (Nat.le_trans S5.out (Nat.le_trans S6.out (Nat.le_trans S7.out (Nat.le_trans S8.out S10.out)))) HN.out).mono ?_; rintro e w11 ⟨rfl, hb⟩; have M11 := Lib.hid (M10.out.below (hb.mono (Nat.le_trans S8.out S10.out))); have S11 : Hid (w10.heap.size ≤ w11.heap.size) := hb.size; have HB11 : Hid (Below W.heap.size W w11) := HB10.out.trans (hb.mono HB10.out.size); clear hb)
    go_wp2_with (go_at_call 11; refine (held_rowL _ M11.out (Nat.le_trans S8.out (Nat.le_trans S10.out S11.out)) HN.out).mono ?_; rintro e w12 ⟨rfl, hb⟩; have HB12 : Hid (Below W.heap.size W w12) := HB11.out.trans (hb.mono HB11.out.size); clear hb)
    go_ret
    exact ⟨rfl, HB12.out⟩
  · have h' : 1048576 < (a0.size : Int) := by omega
    clear h
    go_enter Tryd.func3, Tryd.ntmps3
    go_wp2_with fail
    go_ret
    exact ⟨rfl, Below.refl _ _⟩
end Go.Proofs.YtfobjedobojbnabDoor
