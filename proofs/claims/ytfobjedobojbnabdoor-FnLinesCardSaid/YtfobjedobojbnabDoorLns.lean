/- Rows of lines as plain lists; laws.eqLineS, markLineS, heldLineS on them. No condition. -/
import Derived.Test.YtfobjedobojbnabDoorBase
import Derived.Deep.QuietTactic
import Derived.BigQuiet
import Derived.Deep.RegionHeld3
import Derived.OwnWalk
namespace Go.Proofs.YtfobjedobojbnabDoor
open Go Go.RowKit

/-- A line. -/
structure Lin where
  n : Int
  t : ByteArray
/-- Its cells. -/
def Lin.vs (x : Lin) : List Value := [.int .i64 x.n, .string x.t]
def cellsL : List Lin → List Value
  | [] => []
  | x :: xs => x.vs ++ cellsL xs
theorem cellsL_length : ∀ xs : List Lin, (cellsL xs).length = xs.length * 2
  | [] => rfl
  | x :: xs => by
    rw [cellsL, List.length_append, cellsL_length xs, List.length_cons]
    show 2 + _ = _
    omega
theorem cellsL_append : ∀ xs ys : List Lin, cellsL (xs ++ ys) = cellsL xs ++ cellsL ys
  | [], ys => rfl
  | x :: xs, ys => by
    show x.vs ++ cellsL (xs ++ ys) = _
    rw [cellsL_append xs ys, ← List.append_assoc]
    rfl
theorem cellsL_at : ∀ {xs : List Lin} {j i : Nat} {x : Lin} {v : Value}, xs[j]? = some x → x.vs[i]? = some v → (cellsL xs)[j * 2 + i]? = some v
  | [], j, i, x, v, h, _ => by simp at h
  | y :: ys, 0, i, x, v, h, hi => by
    simp only [List.getElem?_cons_zero, Option.some.injEq] at h
    subst h
    have hl : i < y.vs.length := (List.getElem?_eq_some_iff.1 hi).1
    show (y.vs ++ cellsL ys)[0 * 2 + i]? = _
    rw [Nat.zero_mul, Nat.zero_add, List.getElem?_append_left hl]
    exact hi
  | y :: ys, j + 1, i, x, v, h, hi => by
    simp only [List.getElem?_cons_succ] at h
    show (y.vs ++ cellsL ys)[(j + 1) * 2 + i]? = _
    rw [List.getElem?_append_right (show y.vs.length ≤ _ by show 2 ≤ _; omega)]
    have := cellsL_at h hi
    rw [show (j + 1) * 2 + i - y.vs.length = j * 2 + i from by show (j + 1) * 2 + i - 2 = _; omega]
    exact this

/-- Element j of block g is the line x. -/
def Cell2 (w : World) (g j : Nat) (x : Lin) : Prop := w.cell? ⟨g, j * 2, none⟩ = some (.int .i64 x.n) ∧ w.cell? ⟨g, j * 2 + 1, none⟩ = some (.string x.t)
/-- Block g of lines is known: its cells, none frozen. -/
def LB (w : World) (g : Nat) (cs : Array Value) : Prop := w.heap[g]? = some (.cells cs 39 (0, 0))
section
variable {w w' : World} {g : Nat} {cs : Array Value}
theorem LB.lt (h : LB w g cs) : g < w.heap.size := by
  rcases Nat.lt_or_ge g w.heap.size with hlt | hge
  · exact hlt
  · unfold LB at h; rw [Array.getElem?_eq_none hge] at h; cases h
theorem LB.cell (h : LB w g cs) (i : Nat) : w.cell? ⟨g, i, none⟩ = cs[i]? := cell_of_row w g i cs _ (0, 0) h
theorem LB.frozen (h : LB w g cs) (i : Nat) : w.frozen? ⟨g, i, none⟩ = false := by
  unfold LB at h
  simp [World.frozen?, h]
theorem LB.set_ (h : LB w g cs) (i : Nat) (u : Value) : LB (w.setCell ⟨g, i, none⟩ u) g (cs.setIfInBounds i u) := by
  unfold LB at h ⊢
  simp [World.setCell, Array.getElem?_modify, h]
theorem LB.below {B : Nat} (h : LB w g cs) (hb : Below B w w') (hg : g < B) : LB w' g cs := (hb.block g hg).trans h
end
/-- The cells of a row hold the lines xs. -/
def Holds2 (cs : Array Value) (xs : List Lin) : Prop := ∀ (j i : Nat) (x : Lin) (v : Value), xs[j]? = some x → x.vs[i]? = some v → cs[j * 2 + i]? = some v
theorem Holds2.cell2 {w : World} {g : Nat} {cs : Array Value} {xs : List Lin} (h : Holds2 cs xs) (hb : LB w g cs) {j : Nat} {x : Lin} (hx : xs[j]? = some x) : Cell2 w g j x :=
  ⟨(hb.cell _).trans (h j 0 x _ hx rfl), (hb.cell _).trans (h j 1 x _ hx rfl)⟩
theorem Cell2.below {w w' : World} {g j B : Nat} {x : Lin} (h : Cell2 w g j x) (hb : Below B w w') (hg : g < B) : Cell2 w' g j x :=
  ⟨(hb.cell (p := ⟨g, j * 2, none⟩) hg).trans h.1, (hb.cell (p := ⟨g, j * 2 + 1, none⟩) hg).trans h.2⟩

/-- A slice of lines that begins at the head of a block below B, and reads as xs. -/
def LR (w : World) (B : Nat) (A : Option Addr) (n : Nat) (xs : List Lin) : Prop :=
  xs.length = n ∧ (0 < n → ∃ g, A = some ⟨g, 0, none⟩ ∧ g < B ∧ ∀ j x, xs[j]? = some x → Cell2 w g j x)
theorem LR.at_ {w : World} {B n k : Nat} {A : Option Addr} {xs : List Lin} (h : LR w B A n xs) (hk : k < n) (hl : k < xs.length) : ∃ g, A = some ⟨g, 0, none⟩ ∧ g < B ∧ Cell2 w g k xs[k] := by
  obtain ⟨g, rfl, hg, hc⟩ := h.2 (by omega)
  exact ⟨g, rfl, hg, hc k _ (List.getElem?_eq_getElem hl)⟩
theorem LR.below {w w' : World} {B n : Nat} {A : Option Addr} {xs : List Lin} (h : LR w B A n xs) (hb : Below B w w') : LR w' B A n xs :=
  ⟨h.1, fun hn => by
    obtain ⟨g, e, hg, hc⟩ := h.2 hn
    exact ⟨g, e, hg, fun j x hx => (hc j x hx).below hb hg⟩⟩
theorem LR.more {w : World} {B B' n : Nat} {A : Option Addr} {xs : List Lin} (h : LR w B A n xs) (hB : B ≤ B') : LR w B' A n xs :=
  ⟨h.1, fun hn => by
    obtain ⟨g, e, hg, hc⟩ := h.2 hn
    exact ⟨g, e, by omega, hc⟩⟩

theorem eqLine_same (n : Int) (t : ByteArray) (W : World) :
    Calls Tryd.prog 34 #[.agg #[.int .i64 n, .string t], .agg #[.int .i64 n, .string t]] W fun e w' => e = .returned (.bool true) ∧ Below W.heap.size W w' := by
  go_enter Tryd.func34, Tryd.ntmps34
  go_wp2
  all_goals go_ret
  all_goals exact ⟨rfl, by repeat (first | exact Below.refl _ _ | refine Below.alloc ?_ (by first | (simp; done) | (simp; omega)) _)⟩

/-- Element j of two blocks. -/
abbrev TwoL (w : World) (g g' j : Nat) (xn : Int) (xt : ByteArray) : Prop :=
  (w.cell? ⟨g, j * 2, none⟩ = some (.int .i64 xn) ∧ w.cell? ⟨g, j * 2 + 1, none⟩ = some (.string xt)) ∧ (w.cell? ⟨g', j * 2, none⟩ = some (.int .i64 xn) ∧ w.cell? ⟨g', j * 2 + 1, none⟩ = some (.string xt))
theorem twoL_keep {wr wx w1 : World} {g g' j : Nat} {xn : Int} {xt : ByteArray} (hg : g < wr.heap.size) (hg' : g' < wr.heap.size) (h : TwoL wx g g' j xn xt ∧ Below wr.heap.size wr wx) (hb : Below wx.heap.size wx w1) :
    TwoL w1 g g' j xn xt ∧ Below wr.heap.size wr w1 := by
  have l := Nat.lt_of_lt_of_le hg h.2.size
  have l' := Nat.lt_of_lt_of_le hg' h.2.size
  have a := Cell2.below (x := ⟨xn, xt⟩) h.1.1 hb l
  have b := Cell2.below (x := ⟨xn, xt⟩) h.1.2 hb l'
  exact ⟨⟨a, b⟩, h.2.trans (hb.mono h.2.size)⟩

set_option maxHeartbeats 1000000 in
set_option maxRecDepth 100000 in
theorem eqLineS_same (A A' : Option Addr) (n c c' : Nat) (xs : List Lin) (W : World) (ha : LR W W.heap.size A n xs) (hb : LR W W.heap.size A' n xs) (hn : n ≤ 1048576) :
    Calls Tryd.prog 9 #[.slice A n c, .slice A' n c'] W fun e w' => e = .returned (.bool true) ∧ Below W.heap.size W w' := by
  have HA := Lib.hid ha
  have HB := Lib.hid hb
  clear ha hb
  go_enter Tryd.func9, Tryd.ntmps9
  go_wp2
  go_loopw [5] (fun i wr => ∃ k : Nat, k ≤ n ∧ i = .int .i64 k ∧ Hid (Below W.heap.size W wr)) (fun i _ => n - (intOf i).toNat)
  case atStart => exact ⟨0, Nat.zero_le _, rfl, Below.refl _ _⟩
  case round =>
    obtain ⟨k, hk, rfl, HW⟩ := hrel
    by_cases hlt : k < n
    · have hl : Hid (k < xs.length) := by have := HA.out.1; show _ < _; omega
      obtain ⟨g, rfl, hg, h1⟩ := HA.out.at_ hlt hl.out
      obtain ⟨g', rfl, hg', h2⟩ := HB.out.at_ hlt hl.out
      obtain ⟨p0, p1⟩ := h1.below HW.out hg
      obtain ⟨q0, q1⟩ := h2.below HW.out hg'
      generalize xs[k]'hl.out = x at p0 p1 q0 q1
      obtain ⟨xn, xt⟩ := x
      dsimp only at p0 p1 q0 q1
      have b0 : (0 : Int) ≤ (k : Int) := by omega
      have b1 : (k : Int) < (n : Int) := by omega
      clear h1 h2
      have HG : Hid (g < wr.heap.size) := Nat.lt_of_lt_of_le hg HW.out.size
      have HG' : Hid (g' < wr.heap.size) := Nat.lt_of_lt_of_le hg' HW.out.size
      clear hg hg'
      go_wp2_with fail
      go_region_held3 (fun w' => TwoL w' g g' k xn xt ∧ Below wr.heap.size wr w')
        (first | (exact ⟨⟨⟨p0, p1⟩, ⟨q0, q1⟩⟩, (Below.refl _ _).drew⟩) | (go_split_ands; exact twoL_keep HG.out HG'.out ⟨⟨⟨by assumption, by assumption⟩, ⟨by assumption, by assumption⟩⟩, by assumption⟩ hb) | go_keep)
        ((go_at_call 34; refine (eqLine_same _ _ _).mono ?_; rintro e w1 ⟨rfl, hb⟩))
      go_wp2_with fail
      go_split_ands
      go_roundw
      case rel => exact ⟨k + 1, by omega, by go_num, HW.out.trans (Below.mono (by assumption) HW.out.size)⟩
      case measure => simp [intOf]; omega
    · go_wp2_with fail
      go_ret
      exact ⟨rfl, HW.out⟩
end Go.Proofs.YtfobjedobojbnabDoor
