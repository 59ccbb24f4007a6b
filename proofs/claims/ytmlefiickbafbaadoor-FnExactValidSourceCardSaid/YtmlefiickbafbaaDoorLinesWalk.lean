/- The law's walk: FnExactSplitLines. No condition but the world's shape. -/
import Derived.Test.YtmlefiickbafbaaDoorRow
import Derived.Test.YtmlefiickbafbaaDoorLines
import Derived.Test.YtmlefiickbafbaaDoorCards
namespace Go.Proofs.YtmlefiickbafbaaDoor
open Go Go.RowKit

theorem heap_pos {W : World} {o : Nat} {b : Nat} {v : Value} (h : W.cell? ⟨b, o, none⟩ = some v) : b < W.heap.size := by
  rcases Nat.lt_or_ge b W.heap.size with h1 | h1
  · exact h1
  · simp [World.cell?, Array.getElem?_eq_none h1] at h
theorem maxLen_cell {W : World} (h : W.ShapedOpen Tryd.prog) : ∃ m, W.cell? ⟨2, 0, none⟩ = some (.int .i64 m) := Tryd.laysM146.s1_3 W h

set_option maxHeartbeats 2000000 in
set_option maxRecDepth 100000 in
theorem walk_some (a0 : ByteArray) (m : Int) (W : World) (hZ : a0.size ≤ 1048576) (h0 : 0 < a0.size) (hm : W.cell? ⟨2, 0, none⟩ = some (.int .i64 m)) :
    Calls Tryd.prog 4 #[.string a0] W fun e w' => e = .returned (.bool true) ∧ Below W.heap.size W w' := by
  have HZ : Hid (a0.size ≤ 1048576) := hZ
  have HG : Hid (2 < W.heap.size) := heap_pos hm
  have HM := Lib.hid hm
  have h1 : (a0.size : Int) ≤ 1048576 := by omega
  clear hm
  have HS : Hid (∀ w, Calls Tryd.prog 12 #[.string a0] w (Rets w (linesOf a0))) := fun w => spec_SplitLines_any a0 w hZ h0
  have HI : Hid (∀ w, Below W.heap.size W w → Calls Tryd.prog 13 #[.string a0] w (Rets w (linesOf a0))) := fun w hb => impl_SplitLines_any a0 m w hZ h0 ((hb.cell (p := ⟨2, 0, none⟩) HG.out).trans HM.out)
  have hn : (linesOf a0).length ≤ 1048577 := by
    have := linesOf_length a0
    omega
  generalize linesOf a0 = xs at HS HI hn
  have hq0 : (((1 + xs.length : Nat) : Int) < 0) = False := by simp; omega
  have HN := Lib.hid hn
  clear hn
  go_enter Tryd.func4, Tryd.ntmps4
  go_wp2_with (go_at_call 12; refine (HS.out _).mono ?_; intro e w1 hr; obtain ⟨g0, c0, rfl, hr0, hb⟩ := rets_row hr; have R0 := Lib.hid hr0; have B1 := Lib.hid hb; clear hr hr0 hb)
  go_wp2_with (go_at_call 13; refine (HI.out _ B1.out).mono ?_; intro e w2 hr; obtain ⟨g1, c1, rfl, hr1, hb⟩ := rets_row hr; have R1 := Lib.hid hr1; have R0' := Lib.hid (R0.out.below hb R0.out.lt); have B2 : Hid (Below W.heap.size W w2) := B1.out.trans (hb.mono B1.out.size); have L1 : Hid (g0 < g1) := Nat.lt_of_lt_of_le R0.out.lt hr1.ge; have LW : Hid (W.heap.size ≤ g1) := Nat.le_trans B1.out.size hr1.ge; clear hr hr1 hb)
  go_wp2_with (go_at_call 14; refine (eq_rows _ _ R1.out R0'.out (by have := HN.out; omega)).mono ?_; rintro e w3 ⟨rfl, hb⟩; have R13 := Lib.hid (R1.out.below hb R1.out.lt); have R03 := Lib.hid (R0'.out.below hb R0'.out.lt); have B3 : Hid (Below W.heap.size W w3) := B2.out.trans (hb.mono B2.out.size); clear hb)
  go_wp2_with (go_at_call 15; refine (mark_row _ R13.out HN.out).mono ?_; rintro e w4 ⟨rfl, hb, hm⟩; have M4 := Lib.hid hm; have R04 := Lib.hid (R03.out.below hb L1.out); have B4 : Hid (Below W.heap.size W w4) := B3.out.trans (hb.mono LW.out); have G4 : Hid (g1 < w4.heap.size) := Nat.lt_of_lt_of_le R13.out.lt hb.size; clear hb hm)
  go_wp2_with (go_at_call 16; refine (held_row _ M4.out G4.out HN.out).mono ?_; rintro e w5 ⟨rfl, hb⟩; have M5 := Lib.hid (M4.out.below (hb.mono G4.out)); have R05 := Lib.hid (R04.out.below hb R04.out.lt); have B5 : Hid (Below W.heap.size W w5) := B4.out.trans (hb.mono B4.out.size); have G5 : Hid (g1 < w5.heap.size) := Nat.lt_of_lt_of_le G4.out hb.size; clear hb)
  go_wp2_with (go_at_call 13; refine (HI.out _ B5.out).mono ?_; intro e w6 hr; obtain ⟨g2, c2, rfl, hr2, hb⟩ := rets_row hr; have R2 := Lib.hid hr2; have R06 := Lib.hid (R05.out.below hb R05.out.lt); have M6 := Lib.hid (M5.out.below (hb.mono G5.out)); have B6 : Hid (Below W.heap.size W w6) := B5.out.trans (hb.mono B5.out.size); have G6 : Hid (g1 < w6.heap.size) := Nat.lt_of_lt_of_le G5.out hb.size; clear hr hr2 hb)
  go_wp2_with (go_at_call 14; refine (eq_rows _ _ R2.out R06.out (by have := HN.out; omega)).mono ?_; rintro e w7 ⟨rfl, hb⟩; have M7 := Lib.hid (M6.out.below (hb.mono G6.out)); have B7 : Hid (Below W.heap.size W w7) := B6.out.trans (hb.mono B6.out.size); have G7 : Hid (g1 < w7.heap.size) := Nat.lt_of_lt_of_le G6.out hb.size; clear hb)
  go_wp2_with (go_at_call 16; refine (held_row _ M7.out G7.out HN.out).mono ?_; rintro e w8 ⟨rfl, hb⟩; have B8 : Hid (Below W.heap.size W w8) := B7.out.trans (hb.mono B7.out.size); clear hb)
  go_ret
  exact ⟨rfl, B8.out⟩

theorem mark_nil (A : Option Addr) (c : Nat) (W : World) : Calls Tryd.prog 15 #[.slice A 0 c, .int .i64 1] W fun e w' => e = .returned (.int .i64 1) ∧ W = w' := by
  go_enter Tryd.func15, Tryd.ntmps15
  go_wp2_with fail
  refine wp_loop_rounds 1 ?_
  rw [rounds_succ]
  go_wp2_with fail
  go_ret
  exact ⟨rfl, rfl⟩
theorem sr_nil (w : World) (B : Nat) (A : Option Addr) : SR w B A 0 [] := ⟨rfl, fun h => absurd h (by omega)⟩
theorem held_nil (A : Option Addr) (c : Nat) (W : World) : Calls Tryd.prog 16 #[.slice A 0 c, .int .i64 1] W fun e w' => e = .returned (.int .i64 1) ∧ Below W.heap.size W w' :=
  heldStringS_any A 0 c 1 W (sr_nil _ _ _) (by omega) (by omega)
theorem eq_nil (A A' : Option Addr) (c c' : Nat) (W : World) : Calls Tryd.prog 14 #[.slice A 0 c, .slice A' 0 c'] W fun e w' => e = .returned (.bool true) ∧ Below W.heap.size W w' :=
  eqStringS_same A A' 0 c c' [] W (sr_nil _ _ _) (sr_nil _ _ _) (by omega)

set_option maxHeartbeats 1000000 in
theorem walk_none (W : World) : Calls Tryd.prog 4 #[.string ⟨#[]⟩] W fun e w' => e = .returned (.bool true) ∧ Below W.heap.size W w' := by
  go_enter Tryd.func4, Tryd.ntmps4
  go_wp2_with (go_at_call 12; refine (spec_SplitLines_nil _).mono ?_; rintro e w1 ⟨⟨A, c, rfl⟩, hb⟩; have B1 := Lib.hid hb; clear hb)
  go_wp2_with (go_at_call 13; refine (impl_SplitLines_nil _).mono ?_; rintro e w2 ⟨rfl, rfl⟩)
  go_wp2_with (go_at_call 14; refine (eq_nil _ _ _ _ _).mono ?_; rintro e w3 ⟨rfl, hb⟩; have B3 := Lib.hid (B1.out.trans (hb.mono B1.out.size)); clear hb)
  go_wp2_with (go_at_call 15; refine (mark_nil _ _ _).mono ?_; rintro e w4 ⟨rfl, rfl⟩)
  go_wp2_with (go_at_call 16; refine (held_nil _ _ _).mono ?_; rintro e w5 ⟨rfl, hb⟩; have B5 := Lib.hid (B3.out.trans (hb.mono B3.out.size)); clear hb)
  go_wp2_with (go_at_call 13; refine (impl_SplitLines_nil _).mono ?_; rintro e w6 ⟨rfl, rfl⟩)
  go_wp2_with (go_at_call 14; refine (eq_nil _ _ _ _ _).mono ?_; rintro e w7 ⟨rfl, hb⟩; have B7 := Lib.hid (B5.out.trans (hb.mono B5.out.size)); clear hb)
  go_wp2_with (go_at_call 16; refine (held_nil _ _ _).mono ?_; rintro e w8 ⟨rfl, hb⟩; have B8 := Lib.hid (B7.out.trans (hb.mono B7.out.size)); clear hb)
  go_ret
  exact ⟨rfl, B8.out⟩

theorem walk_FnExactSplitLines (a0 : ByteArray) (w0 : a0.size ≤ maxLen) (W : World) (_hL : laidMetH Tryd.prog Rows.fnExactSplitLinesRow.laid W) (hsh : W.ShapedOpen Tryd.prog) :
    Calls Tryd.prog 4 #[.string a0] W fun e w' => e = .returned (.bool true) ∧ Below W.heap.size W w' := by
  obtain ⟨m, hm⟩ := maxLen_cell hsh
  clear _hL hsh
  unfold maxLen at w0
  by_cases h0 : a0.size = 0
  · have e : a0 = ⟨#[]⟩ := by
      apply WideShapes.bytes_inj
      rw [Lib.size_eq] at h0
      exact List.eq_nil_of_length_eq_zero h0
    rw [e]
    exact walk_none W
  · by_cases h : a0.size ≤ 1048576
    · exact walk_some a0 m W h (by omega) hm
    · have h' : 1048576 < (a0.size : Int) := by omega
      clear h hm
      go_enter Tryd.func4, Tryd.ntmps4
      go_wp2_with fail
      go_ret
      exact ⟨rfl, Below.refl _ _⟩
end Go.Proofs.YtmlefiickbafbaaDoor
