/- Contracts of the program's token scanner: skipBlanks, the readers of one byte, of strings. Conditions: the scanner's block, the table. -/
import Derived.Test.YtdfikepfjdoooaaDoorName
import Derived.Test.YtdfikepfjdoooaaDoorDraw
import Derived.Deep.LoopGhost
namespace Go.Proofs.YtdfikepfjdoooaaDoor
open Go Go.RowKit

/-- Block g is a scanner over s that stands at byte k. -/
def Scan (w : World) (g : Nat) (s : ByteArray) (k : Nat) : Prop := w.heap[g]? = some (.cells #[.string s, .int .i64 k] 62 (0, 0))
section
variable {w w' : World} {g k : Nat} {s : ByteArray}
theorem Scan.c0 (h : Scan w g s k) : w.cell? ⟨g, 0, none⟩ = some (.string s) := cell_of_row w g 0 _ _ (0, 0) h
theorem Scan.c1 (h : Scan w g s k) : w.cell? ⟨g, 1, none⟩ = some (.int .i64 k) := cell_of_row w g 1 _ _ (0, 0) h
theorem Scan.f1 (h : Scan w g s k) : w.frozen? ⟨g, 1, none⟩ = false := by
  unfold Scan at h
  simp [World.frozen?, h]
theorem Scan.lt (h : Scan w g s k) : g < w.heap.size := by
  rcases Nat.lt_or_ge g w.heap.size with h1 | h1
  · exact h1
  · unfold Scan at h; rw [Array.getElem?_eq_none h1] at h; cases h
theorem Scan.move (h : Scan w g s k) (d q k' : Nat) : Scan (((w.drewN d).setCell ⟨g, 1, none⟩ (.int .i64 (k' : Int))).drewN q) g s k' :=
  blk_set (show (w.drewN d).heap[g]? = _ from h) 1 (.int .i64 (k' : Int))
theorem only_set (w : World) (g i d q : Nat) (u : Value) : w.grownBy (((w.drewN d).setCell ⟨g, i, none⟩ u).drewN q) (some g) := by
  refine ⟨rfl, rfl, rfl, by show w.heap.size ≤ _; simp [World.setCell, World.drewN], fun j hj hne => ?_⟩
  have hj' : j ≠ g := fun e => hne (by rw [e])
  exact Below.heap_setCell (w.drewN d) _ _ j hj'
theorem only_draw (w : World) (g d : Nat) : w.grownBy (w.drewN d) (some g) := ⟨rfl, rfl, rfl, Nat.le_refl _, fun _ _ _ => rfl⟩
theorem only_trans {a b c : World} {g : Nat} (h : a.grownBy b (some g)) (h' : b.grownBy c (some g)) : a.grownBy c (some g) :=
  ⟨h'.os.trans h.os, h'.tape.trans h.tape, h'.output.trans h.output, Nat.le_trans h.size h'.size, fun j hj hne => (h'.block j (Nat.lt_of_lt_of_le hj h.size) hne).trans (h.block j hj hne)⟩
end
/-- Where the blanks from k on end. -/
def blankEnd (s : ByteArray) (k : Nat) : Nat := runEnd (fun c => c == 32) s k

set_option maxHeartbeats 2000000 in
set_option maxRecDepth 100000 in
theorem skipBlanks_any (g k : Nat) (s : ByteArray) (W : World) (hs : Scan W g s k) (hk : k ≤ s.size) (hl : s.size ≤ 1048576) :
    Calls Tryd.prog 52 #[.pointer (some ⟨g, 0, none⟩)] W fun e w' => e = .returned (.bool (decide (blankEnd s k < s.size))) ∧ Hid (Scan w' g s (blankEnd s k) ∧ W.grownBy w' (some g)) := by
  have HS := Lib.hid hs
  clear hs
  have hb := PlainAid.get_bt s
  go_enter Tryd.func52, Tryd.ntmps52
  go_wp2_with fail
  go_loopg [] (s.size - k) (fun gk wr => ∃ j : Nat, j + gk = s.size ∧ Hid (Scan wr g s j) ∧ Hid (blankEnd s k = blankEnd s j) ∧ Hid (W.grownBy wr (some g)))
  case atStart => exact ⟨k, by omega, HS.out, rfl, World.grownBy.refl W _⟩
  case round =>
    obtain ⟨j, hj, HSj, HE, HO⟩ := hrel
    have h0 := HSj.out.c0
    have h1 := HSj.out.c1
    have f1 := HSj.out.f1
    by_cases hlt : j < s.size
    · have d1 : decide ((j : Int) < (s.size : Int)) = true := by simp; omega
      have i0 : (0 : Int) ≤ (j : Int) := by omega
      have i1 : (j : Int) < (s.size : Int) := by omega
      obtain ⟨x, hx⟩ : ∃ x, (PlainAid.bt s j == 32) = x := ⟨_, rfl⟩
      cases x
      · have HB : Hid (blankEnd s j = j) := runEnd_stop fun _ => hx
        have HD : Hid (decide (blankEnd s k < s.size) = true) := by show _ = _; rw [HE.out, HB.out]; simpa using hlt
        go_wp2_with fail
        go_quiet (fail)
        go_wp2_with fail
        go_quiet (fail)
        go_wp2_with fail
        go_ret
        refine ⟨bool_ret HD.out.symm, ?_⟩
        have hE : blankEnd s k = j := HE.out.trans HB.out
        rw [hE]
        exact Lib.hid ⟨HSj.out, only_trans HO.out (only_trans (only_draw _ g _) (only_draw _ g _))⟩
      · have HB : Hid (blankEnd s j = blankEnd s (j + 1)) := runEnd_step hlt hx
        go_wp2_with fail
        go_quiet (fail)
        go_wp2_with fail
        go_roundg (gk - 1)
        case measure => omega
        case rel => exact ⟨j + 1, by omega, HSj.out.move _ 0 (j + 1), HE.out.trans HB.out, only_trans HO.out (only_set _ g 1 _ 0 _)⟩
    · have HB : Hid (blankEnd s j = j) := runEnd_stop fun h => absurd h hlt
      have HD : Hid (decide (blankEnd s k < s.size) = false) := by show _ = _; rw [HE.out, HB.out]; simpa using hlt
      have d1 : decide ((j : Int) < (s.size : Int)) = false := by simp; omega
      go_wp2_with fail
      go_quiet (fail)
      go_wp2_with fail
      go_quiet (fail)
      go_wp2_with fail
      go_ret
      refine ⟨bool_ret HD.out.symm, ?_⟩
      have hE : blankEnd s k = j := HE.out.trans HB.out
      rw [hE]
      exact Lib.hid ⟨HSj.out, only_trans HO.out (only_trans (only_draw _ g _) (only_draw _ g _))⟩
/-- A token read: its kind, number and text, and whether there is one. -/
def TokRes (k n : Int) (t : ByteArray) (ok : Bool) : Ending := .returned (.tuple #[.agg #[.int .i64 k, .int .i64 n, .string t, .bool false, .bool false], .bool ok])
end Go.Proofs.YtdfikepfjdoooaaDoor
