/- The law's walk: FnExactSplitStatements. No condition. -/
import Derived.Test.YtmlefiickbafbaaSplit
namespace Go.Proofs.Ytmlefiickbafbaa
open Go Go.RowKit

/-- What is known of a row that a call handed back. -/
structure Row (w : World) (B : Nat) (xs : List ByteArray) (g : Nat) : Prop where
  ge : B ≤ g
  block : ∃ cs, SB w g cs ∧ xs.length ≤ cs.size ∧ ∀ (j : Nat) (x : ByteArray), xs[j]? = some x → cs[j]? = some (Value.string x)
theorem Row.lt {w : World} {B : Nat} {xs : List ByteArray} {g : Nat} (h : Row w B xs g) : g < w.heap.size := by
  obtain ⟨cs, hs, _⟩ := h.block
  exact hs.lt
theorem Row.below {w w' : World} {B C : Nat} {xs : List ByteArray} {g : Nat} (h : Row w B xs g) (hb : Below C w w') (hg : g < C) : Row w' B xs g := by
  obtain ⟨cs, hs, h1, h2⟩ := h.block
  exact ⟨h.ge, cs, hs.below hb hg, h1, h2⟩
theorem Row.sr {w : World} {B : Nat} {xs : List ByteArray} {g : Nat} (h : Row w B xs g) : SR w w.heap.size (some ⟨g, 0, none⟩) xs.length xs := by
  obtain ⟨cs, hs, h1, h2⟩ := h.block
  exact ⟨rfl, fun _ => ⟨g, rfl, hs.lt, fun j x hx => (hs.cell j).trans (h2 j x hx)⟩⟩
theorem rets_row {W w' : World} {xs : List ByteArray} {e : Ending} (h : Rets W xs e w') : ∃ g c, e = .returned (.slice (some ⟨g, 0, none⟩) xs.length c) ∧ Row w' W.heap.size xs g ∧ Below W.heap.size W w' := by
  obtain ⟨g, c, cs, he, hg, hs, h1, h2, hb⟩ := h
  exact ⟨g, c, he, ⟨hg, cs, hs, h1, h2⟩, hb⟩

/-- eqStringS of two such rows of one list. -/
theorem eq_rows {w : World} {B B' : Nat} {xs : List ByteArray} {g g' : Nat} (c c' : Nat) (h : Row w B xs g) (h' : Row w B' xs g') (hn : xs.length ≤ 9223372036854775807) :
    Calls Try.prog 13 #[.slice (some ⟨g, 0, none⟩) xs.length c, .slice (some ⟨g', 0, none⟩) xs.length c'] w fun e w' => e = .returned (.bool true) ∧ Below w.heap.size w w' :=
  eqStringS_same _ _ _ c c' xs w h.sr h'.sr hn
/-- markStringS of such a row. -/
theorem mark_row {w : World} {B : Nat} {xs : List ByteArray} {g : Nat} (c : Nat) (h : Row w B xs g) (hn : xs.length ≤ 1048577) :
    Calls Try.prog 14 #[.slice (some ⟨g, 0, none⟩) xs.length c, .int .i64 1] w fun e w' => e = .returned (.int .i64 ((1 + xs.length : Nat) : Int)) ∧ Below g w w' ∧ SR w' (g + 1) (some ⟨g, 0, none⟩) xs.length (marks 1 xs.length) := by
  obtain ⟨cs, hs, h1, _⟩ := h.block
  exact markStringS_any g xs.length c 1 cs w hs h1 (by omega) (by omega)
/-- heldStringS of a marked row. -/
theorem held_row {w : World} {n g : Nat} (c : Nat) (h : SR w (g + 1) (some ⟨g, 0, none⟩) n (marks 1 n)) (hg : g < w.heap.size) (hn : n ≤ 1048577) :
    Calls Try.prog 15 #[.slice (some ⟨g, 0, none⟩) n c, .int .i64 1] w fun e w' => e = .returned (.int .i64 ((1 + n : Nat) : Int)) ∧ Below w.heap.size w w' :=
  heldStringS_any _ n c 1 w (h.more (by omega)) (by omega) (by omega)

set_option maxHeartbeats 2000000 in
set_option maxRecDepth 100000 in
theorem walk_FnExactSplitStatements (a0 : ByteArray) (w0 : a0.size ≤ maxLen) (W : World) :
    Calls Try.prog 5 #[.string a0] W fun e w' => e = .returned (.bool true) ∧ Below W.heap.size W w' := by
  unfold maxLen at w0
  by_cases h : (a0.size : Int) ≤ 1048576
  · have HZ : Hid (a0.size ≤ 1048576) := by show _ ≤ _; omega
    have HS : Hid (∀ w, Calls Try.prog 11 #[.string a0] w (Rets w (stm a0 0 0 0))) := fun w => spec_SplitStatements_any a0 w HZ.out
    have HI : Hid (∀ w, Calls Try.prog 12 #[.string a0] w (Rets w (stm a0 0 0 0))) := fun w => impl_SplitStatements_any a0 w HZ.out
    have hn : (stm a0 0 0 0).length ≤ 1048577 := by
      have := stm_length a0 a0.size 0 0 0 (by omega)
      have := HZ.out
      omega
    generalize stm a0 0 0 0 = xs at HS HI hn
    have hq0 : (((1 + xs.length : Nat) : Int) < 0) = False := by simp; omega
    have HN := Lib.hid hn
    clear hn
    go_enter Try.func5, Try.ntmps5
    go_wp2_with (go_at_call 11; refine (HS.out _).mono ?_; intro e w1 hr; obtain ⟨g0, c0, rfl, hr0, hb⟩ := rets_row hr; have R0 := Lib.hid hr0; have B1 := Lib.hid hb; clear hr hr0 hb)
    go_wp2_with (go_at_call 12; refine (HI.out _).mono ?_; intro e w2 hr; obtain ⟨g1, c1, rfl, hr1, hb⟩ := rets_row hr; have R1 := Lib.hid hr1; have R0' := Lib.hid (R0.out.below hb R0.out.lt); have B2 : Hid (Below W.heap.size W w2) := B1.out.trans (hb.mono B1.out.size); have L1 : Hid (g0 < g1) := Nat.lt_of_lt_of_le R0.out.lt hr1.ge; have LW : Hid (W.heap.size ≤ g1) := Nat.le_trans B1.out.size hr1.ge; clear hr hr1 hb)
    go_wp2_with (go_at_call 13; refine (eq_rows _ _ R1.out R0'.out (by have := HN.out; omega)).mono ?_; rintro e w3 ⟨rfl, hb⟩; have R13 := Lib.hid (R1.out.below hb R1.out.lt); have R03 := Lib.hid (R0'.out.below hb R0'.out.lt); have B3 : Hid (Below W.heap.size W w3) := B2.out.trans (hb.mono B2.out.size); clear hb)
    go_wp2_with (go_at_call 14; refine (mark_row _ R13.out HN.out).mono ?_; rintro e w4 ⟨rfl, hb, hm⟩; have M4 := Lib.hid hm; have R04 := Lib.hid (R03.out.below hb L1.out); have B4 : Hid (Below W.heap.size W w4) := B3.out.trans (hb.mono LW.out); have G4 : Hid (g1 < w4.heap.size) := Nat.lt_of_lt_of_le R13.out.lt hb.size; clear hb hm)
    go_wp2_with (go_at_call 15; refine (held_row _ M4.out G4.out HN.out).mono ?_; rintro e w5 ⟨rfl, hb⟩; have M5 := Lib.hid (M4.out.below (hb.mono G4.out)); have R05 := Lib.hid (R04.out.below hb R04.out.lt); have B5 : Hid (Below W.heap.size W w5) := B4.out.trans (hb.mono B4.out.size); have G5 : Hid (g1 < w5.heap.size) := Nat.lt_of_lt_of_le G4.out hb.size; clear hb)
    go_wp2_with (go_at_call 12; refine (HI.out _).mono ?_; intro e w6 hr; obtain ⟨g2, c2, rfl, hr2, hb⟩ := rets_row hr; have R2 := Lib.hid hr2; have R06 := Lib.hid (R05.out.below hb R05.out.lt); have M6 := Lib.hid (M5.out.below (hb.mono G5.out)); have B6 : Hid (Below W.heap.size W w6) := B5.out.trans (hb.mono B5.out.size); have G6 : Hid (g1 < w6.heap.size) := Nat.lt_of_lt_of_le G5.out hb.size; clear hr hr2 hb)
    go_wp2_with (go_at_call 13; refine (eq_rows _ _ R2.out R06.out (by have := HN.out; omega)).mono ?_; rintro e w7 ⟨rfl, hb⟩; have M7 := Lib.hid (M6.out.below (hb.mono G6.out)); have B7 : Hid (Below W.heap.size W w7) := B6.out.trans (hb.mono B6.out.size); have G7 : Hid (g1 < w7.heap.size) := Nat.lt_of_lt_of_le G6.out hb.size; clear hb)
    go_wp2_with (go_at_call 15; refine (held_row _ M7.out G7.out HN.out).mono ?_; rintro e w8 ⟨rfl, hb⟩; have B8 : Hid (Below W.heap.size W w8) := B7.out.trans (hb.mono B7.out.size); clear hb)
    go_ret
    exact ⟨rfl, B8.out⟩
  · have h' : 1048576 < (a0.size : Int) := by omega
    clear h
    go_enter Try.func5, Try.ntmps5
    go_wp2_with fail
    go_ret
    exact ⟨rfl, Below.refl _ _⟩
end Go.Proofs.Ytmlefiickbafbaa
