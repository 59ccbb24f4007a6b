/- Contract: add of the program's nodeCount. No condition but that the numbers are small. -/
import Derived.Test.YtbaadphgbhaboaaCoWl
import Derived.StillTailTactics
namespace Go.Proofs.Ytbaadphgbhaboaa
open Go Go.RowKit

/-- The last element of a row, its second and third cell written. -/
theorem ownsRow_top {w : World} {base T n cap g : Nat} {pre : List Value} {a b c b' c' : Value} (h : w.ownsRow base T 3 (.slice (some ⟨g, 0, none⟩) (n + 1) cap) (n + 1) (pre ++ [a, b, c])) (hp : pre.length = n * 3) :
    ((w.setCell ⟨g, n * 3 + 1, none⟩ b').setCell ⟨g, n * 3 + 2, none⟩ c').ownsRow base T 3 (.slice (some ⟨g, 0, none⟩) (n + 1) cap) (n + 1) (pre ++ [a, b', c']) := by
  obtain ⟨h0, h1 | ⟨g', cap', cur, h1, h2, h3, h4, h5, h6, h7⟩⟩ := h
  · simp at h1
  · simp only [Value.slice.injEq, Option.some.injEq, Addr.mk.injEq, and_true, true_and] at h1
    obtain ⟨rfl, rfl⟩ := h1
    refine ⟨by simp only [List.length_append, List.length_cons, List.length_nil] at h0 ⊢; omega, .inr ⟨g, cap, (cur.setIfInBounds (n * 3 + 1) b').setIfInBounds (n * 3 + 2) c', rfl, h2, ?_, h4, h5, by simpa using h6, ?_⟩⟩
    · exact ((show RW T w g cur from h3).set_ _ _).set_ _ _
    · rw [Array.toList_setIfInBounds, Array.toList_setIfInBounds, List.take_set, List.take_set, h7]
      rw [List.set_append_right _ _ (by omega), List.set_append_right _ _ (by omega), hp]
      rw [show n * 3 + 1 - n * 3 = 1 from by omega, show n * 3 + 2 - n * 3 = 2 from by omega]
      rfl
/-- The cells of the last element of a row. -/
theorem ownsRow_cells {w : World} {base T n cap : Nat} {A : Option Addr} {pre : List Value} {a b c : Value} (h : w.ownsRow base T 3 (.slice A (n + 1) cap) (n + 1) (pre ++ [a, b, c])) (hp : pre.length = n * 3) :
    ∃ g, A = some ⟨g, 0, none⟩ ∧ base ≤ g ∧ (n + 1 ≤ cap ∧ cap ≤ maxLen) ∧ w.cell? ⟨g, n * 3, none⟩ = some a ∧ w.cell? ⟨g, n * 3 + 1, none⟩ = some b ∧ w.cell? ⟨g, n * 3 + 2, none⟩ = some c ∧ (∀ i, w.frozen? ⟨g, i, none⟩ = false) ∧
      w.ownsRow base T 3 (.slice (some ⟨g, 0, none⟩) n cap) n pre := by
  obtain ⟨h0, h1 | ⟨g, cap', cur, h1, h2, h3, h4, h5, h6, h7⟩⟩ := h
  · simp at h1
  · simp only [Value.slice.injEq] at h1
    obtain ⟨rfl, _, rfl⟩ := h1
    have key : ∀ i v, (pre ++ [a, b, c])[i]? = some v → w.cell? ⟨g, i, none⟩ = some v := by
      intro i v hi
      rw [cell_of_row w g i cur T (0, 0) h3, ← Array.getElem?_toList]
      rw [← h7, List.getElem?_take] at hi
      split at hi
      · exact hi
      · cases hi
    refine ⟨g, rfl, h2, ⟨h4, h5⟩, key _ _ ?_, key _ _ ?_, key _ _ ?_, fun i => (show RW T w g cur from h3).frozen i, hp, .inr ⟨g, cap, cur, rfl, h2, h3, by omega, h5, h6, ?_⟩⟩
    · rw [List.getElem?_append_right (by omega), hp, Nat.sub_self]; rfl
    · rw [List.getElem?_append_right (by omega), hp, show n * 3 + 1 - n * 3 = 1 from by omega]; rfl
    · rw [List.getElem?_append_right (by omega), hp, show n * 3 + 2 - n * 3 = 2 from by omega]; rfl
    · have e : pre = (pre ++ [a, b, c]).take (n * 3) := by rw [List.take_left' hp]
      rw [e, ← h7, List.take_take]
      congr 1
      omega

/-- What add leaves. -/
def AddP (g o i t s : Nat) (W w' : World) : Prop := w' = ((W.setCell ⟨g, o + 1, none⟩ (.int .i64 ((i + 1 : Nat) : Int))).drew).setCell ⟨g, o + 2, none⟩ (.int .i64 ((t + (1 + s) : Nat) : Int))
set_option maxHeartbeats 1000000 in
set_option maxRecDepth 100000 in
theorem add_any (g o i t s : Nat) (W : World) (h1 : W.cell? ⟨g, o + 1, none⟩ = some (.int .i64 (i : Int))) (h2 : W.cell? ⟨g, o + 2, none⟩ = some (.int .i64 (t : Int))) (f1 : W.frozen? ⟨g, o + 1, none⟩ = false) (f2 : W.frozen? ⟨g, o + 2, none⟩ = false)
    (hi : i ≤ 2000000) (ht : t ≤ 2000000) (hs : s ≤ 2000000) :
    Calls Try.prog 61 #[.pointer (some ⟨g, o, none⟩), .int .i64 (s : Int)] W fun e w' => e = .returned (.tuple #[]) ∧ AddP g o i t s W w' := by
  have wk : wrap64 ((i : Int) + 1) = (i : Int) + 1 := by unfold wrap64; omega
  have w2 : wrap64 (9223372036854775806 - (t : Int)) = 9223372036854775806 - (t : Int) := by unfold wrap64; omega
  have w3 : wrap64 (1 + (s : Int)) = 1 + (s : Int) := by unfold wrap64; omega
  have w4 : wrap64 ((t : Int) + (1 + (s : Int))) = (t : Int) + (1 + (s : Int)) := by unfold wrap64; omega
  have hlt : (s : Int) < 9223372036854775806 - (t : Int) := by omega
  have i2 : IntKind.i64.wrap (9223372036854775806 - (t : Int)) = 9223372036854775806 - (t : Int) := IntWalk.i64_in _ (by omega)
  have i3 : IntKind.i64.wrap (1 + (s : Int)) = 1 + (s : Int) := IntWalk.i64_in _ (by omega)
  have i4 : IntKind.i64.wrap ((t : Int) + (1 + (s : Int))) = (t : Int) + (1 + (s : Int)) := IntWalk.i64_in _ (by omega)
  go_enter Try.func61, Try.ntmps61
  go_wp2_with fail
  have c2 : (W.setCell ⟨g, o + 1, none⟩ (.int .i64 ((i : Int) + 1))).cell? ⟨g, o + 2, none⟩ = some (.int .i64 (t : Int)) := (World.cell?_setCell_other W ⟨g, o + 1, none⟩ ⟨g, o + 2, none⟩ _ (by simp)).trans h2
  have f3 : (W.setCell ⟨g, o + 1, none⟩ (.int .i64 ((i : Int) + 1))).frozen? ⟨g, o + 2, none⟩ = false := by rw [World.frozen?_setCell]; exact f2
  generalize hw1 : W.setCell ⟨g, o + 1, none⟩ (.int .i64 ((i : Int) + 1)) = w1 at c2 f3 ⊢
  have HW1 := Lib.hid hw1
  clear hw1
  clear h1 h2 f1 f2
  go_still_tail 15, (by kernel_rfl)
  change wpList _ _ _ _ _ w1.drew
  have c3 : w1.drew.cell? ⟨g, o + 2, none⟩ = some (.int .i64 (t : Int)) := c2
  have f4 : w1.drew.frozen? ⟨g, o + 2, none⟩ = false := f3
  clear c2 f3
  generalize hw2 : w1.drew = w2 at c3 f4 ⊢
  have HW2 := Lib.hid hw2
  clear hw2
  go_wp2_with fail
  all_goals go_end0
  all_goals refine ⟨rfl, ?_⟩
  all_goals
    unfold AddP
    have e1 : ((i + 1 : Nat) : Int) = (i : Int) + 1 := by omega
    have e2 : ((t + (1 + s) : Nat) : Int) = (t : Int) + (1 + (s : Int)) := by omega
    rw [e1, e2, HW1.out, HW2.out]
end Go.Proofs.Ytbaadphgbhaboaa
