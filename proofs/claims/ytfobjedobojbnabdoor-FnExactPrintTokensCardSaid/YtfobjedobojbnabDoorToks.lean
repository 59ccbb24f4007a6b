/- Rows of tokens as plain lists; laws.eqTokenS on them. No condition. -/
import Derived.Test.YtfobjedobojbnabDoorRowO0
namespace Go.Proofs.YtfobjedobojbnabDoor
open Go Go.RowKit

/-- A token. -/
structure Tok where
  k : Int
  n : Int
  t : ByteArray
  b : Bool
  a : Bool
/-- Its cells. -/
def Tok.vs (x : Tok) : List Value := [.int .i64 x.k, .int .i64 x.n, .string x.t, .bool x.b, .bool x.a]
def cellsT : List Tok → List Value
  | [] => []
  | x :: xs => x.vs ++ cellsT xs
theorem cellsT_length : ∀ xs : List Tok, (cellsT xs).length = xs.length * 5
  | [] => rfl
  | x :: xs => by
    rw [cellsT, List.length_append, cellsT_length xs, List.length_cons]
    show 5 + _ = _
    omega
theorem cellsT_append : ∀ xs ys : List Tok, cellsT (xs ++ ys) = cellsT xs ++ cellsT ys
  | [], ys => rfl
  | x :: xs, ys => by
    show x.vs ++ cellsT (xs ++ ys) = _
    rw [cellsT_append xs ys, ← List.append_assoc]
    rfl
theorem cellsT_at : ∀ {xs : List Tok} {j i : Nat} {x : Tok} {v : Value}, xs[j]? = some x → x.vs[i]? = some v → (cellsT xs)[j * 5 + i]? = some v
  | [], j, i, x, v, h, _ => by simp at h
  | y :: ys, 0, i, x, v, h, hi => by
    simp only [List.getElem?_cons_zero, Option.some.injEq] at h
    subst h
    have hl : i < y.vs.length := (List.getElem?_eq_some_iff.1 hi).1
    show (y.vs ++ cellsT ys)[0 * 5 + i]? = _
    rw [Nat.zero_mul, Nat.zero_add, List.getElem?_append_left hl]
    exact hi
  | y :: ys, j + 1, i, x, v, h, hi => by
    simp only [List.getElem?_cons_succ] at h
    show (y.vs ++ cellsT ys)[(j + 1) * 5 + i]? = _
    rw [List.getElem?_append_right (show y.vs.length ≤ _ by show 5 ≤ _; omega)]
    have := cellsT_at h hi
    rw [show (j + 1) * 5 + i - y.vs.length = j * 5 + i from by show (j + 1) * 5 + i - 5 = _; omega]
    exact this

/-- Element j of block g is the token x. -/
def Cell5 (w : World) (g j : Nat) (x : Tok) : Prop :=
  w.cell? ⟨g, j * 5, none⟩ = some (.int .i64 x.k) ∧ w.cell? ⟨g, j * 5 + 1, none⟩ = some (.int .i64 x.n) ∧ w.cell? ⟨g, j * 5 + 2, none⟩ = some (.string x.t) ∧ w.cell? ⟨g, j * 5 + 3, none⟩ = some (.bool x.b) ∧ w.cell? ⟨g, j * 5 + 4, none⟩ = some (.bool x.a)
/-- Block g of tokens is known: its cells, none frozen. -/
def TB (w : World) (g : Nat) (cs : Array Value) : Prop := w.heap[g]? = some (.cells cs 44 (0, 0))
section
variable {w w' : World} {g : Nat} {cs : Array Value}
theorem TB.lt (h : TB w g cs) : g < w.heap.size := by
  rcases Nat.lt_or_ge g w.heap.size with hlt | hge
  · exact hlt
  · unfold TB at h; rw [Array.getElem?_eq_none hge] at h; cases h
theorem TB.cell (h : TB w g cs) (i : Nat) : w.cell? ⟨g, i, none⟩ = cs[i]? := cell_of_row w g i cs _ (0, 0) h
theorem TB.frozen (h : TB w g cs) (i : Nat) : w.frozen? ⟨g, i, none⟩ = false := by
  unfold TB at h
  simp [World.frozen?, h]
theorem TB.set_ (h : TB w g cs) (i : Nat) (u : Value) : TB (w.setCell ⟨g, i, none⟩ u) g (cs.setIfInBounds i u) := by
  unfold TB at h ⊢
  simp [World.setCell, Array.getElem?_modify, h]
theorem TB.below {B : Nat} (h : TB w g cs) (hb : Below B w w') (hg : g < B) : TB w' g cs := (hb.block g hg).trans h
end
/-- The cells of a row hold the tokens xs. -/
def Holds5 (cs : Array Value) (xs : List Tok) : Prop := ∀ (j i : Nat) (x : Tok) (v : Value), xs[j]? = some x → x.vs[i]? = some v → cs[j * 5 + i]? = some v
theorem Holds5.cell5 {w : World} {g : Nat} {cs : Array Value} {xs : List Tok} (h : Holds5 cs xs) (hb : TB w g cs) {j : Nat} {x : Tok} (hx : xs[j]? = some x) : Cell5 w g j x :=
  ⟨(hb.cell _).trans (h j 0 x _ hx rfl), (hb.cell _).trans (h j 1 x _ hx rfl), (hb.cell _).trans (h j 2 x _ hx rfl), (hb.cell _).trans (h j 3 x _ hx rfl), (hb.cell _).trans (h j 4 x _ hx rfl)⟩
theorem Cell5.below {w w' : World} {g j B : Nat} {x : Tok} (h : Cell5 w g j x) (hb : Below B w w') (hg : g < B) : Cell5 w' g j x :=
  ⟨(hb.cell (p := ⟨g, j * 5, none⟩) hg).trans h.1, (hb.cell (p := ⟨g, j * 5 + 1, none⟩) hg).trans h.2.1, (hb.cell (p := ⟨g, j * 5 + 2, none⟩) hg).trans h.2.2.1, (hb.cell (p := ⟨g, j * 5 + 3, none⟩) hg).trans h.2.2.2.1, (hb.cell (p := ⟨g, j * 5 + 4, none⟩) hg).trans h.2.2.2.2⟩

/-- A slice of tokens that begins at the head of a block below B, and reads as xs. -/
def TR (w : World) (B : Nat) (A : Option Addr) (n : Nat) (xs : List Tok) : Prop :=
  xs.length = n ∧ (0 < n → ∃ g, A = some ⟨g, 0, none⟩ ∧ g < B ∧ ∀ j x, xs[j]? = some x → Cell5 w g j x)
theorem TR.at_ {w : World} {B n k : Nat} {A : Option Addr} {xs : List Tok} (h : TR w B A n xs) (hk : k < n) (hl : k < xs.length) : ∃ g, A = some ⟨g, 0, none⟩ ∧ g < B ∧ Cell5 w g k xs[k] := by
  obtain ⟨g, rfl, hg, hc⟩ := h.2 (by omega)
  exact ⟨g, rfl, hg, hc k _ (List.getElem?_eq_getElem hl)⟩
theorem TR.below {w w' : World} {B n : Nat} {A : Option Addr} {xs : List Tok} (h : TR w B A n xs) (hb : Below B w w') : TR w' B A n xs :=
  ⟨h.1, fun hn => by
    obtain ⟨g, e, hg, hc⟩ := h.2 hn
    exact ⟨g, e, hg, fun j x hx => (hc j x hx).below hb hg⟩⟩
theorem TR.more {w : World} {B B' n : Nat} {A : Option Addr} {xs : List Tok} (h : TR w B A n xs) (hB : B ≤ B') : TR w B' A n xs :=
  ⟨h.1, fun hn => by
    obtain ⟨g, e, hg, hc⟩ := h.2 hn
    exact ⟨g, e, by omega, hc⟩⟩

theorem eqToken_same (k n : Int) (t : ByteArray) (b a : Bool) (W : World) :
    Calls Tryd.prog 42 #[.agg #[.int .i64 k, .int .i64 n, .string t, .bool b, .bool a], .agg #[.int .i64 k, .int .i64 n, .string t, .bool b, .bool a]] W fun e w' => e = .returned (.bool true) ∧ Below W.heap.size W w' := by
  go_enter Tryd.func42, Tryd.ntmps42
  go_wp2
  all_goals go_ret
  all_goals exact ⟨rfl, by repeat (first | exact Below.refl _ _ | refine Below.alloc ?_ (by first | (simp; done) | (simp; omega)) _)⟩

/-- Element j of two blocks. -/
abbrev Two5 (w : World) (g g' j : Nat) (xk xn : Int) (xt : ByteArray) (xb xa : Bool) : Prop :=
  (w.cell? ⟨g, j * 5, none⟩ = some (.int .i64 xk) ∧ w.cell? ⟨g, j * 5 + 1, none⟩ = some (.int .i64 xn) ∧ w.cell? ⟨g, j * 5 + 2, none⟩ = some (.string xt) ∧ w.cell? ⟨g, j * 5 + 3, none⟩ = some (.bool xb) ∧ w.cell? ⟨g, j * 5 + 4, none⟩ = some (.bool xa)) ∧
  (w.cell? ⟨g', j * 5, none⟩ = some (.int .i64 xk) ∧ w.cell? ⟨g', j * 5 + 1, none⟩ = some (.int .i64 xn) ∧ w.cell? ⟨g', j * 5 + 2, none⟩ = some (.string xt) ∧ w.cell? ⟨g', j * 5 + 3, none⟩ = some (.bool xb) ∧ w.cell? ⟨g', j * 5 + 4, none⟩ = some (.bool xa))
theorem two_keep {wr wx w1 : World} {g g' j : Nat} {xk xn : Int} {xt : ByteArray} {xb xa : Bool} (hg : g < wr.heap.size) (hg' : g' < wr.heap.size) (h : Two5 wx g g' j xk xn xt xb xa ∧ Below wr.heap.size wr wx) (hb : Below wx.heap.size wx w1) :
    Two5 w1 g g' j xk xn xt xb xa ∧ Below wr.heap.size wr w1 := by
  have l := Nat.lt_of_lt_of_le hg h.2.size
  have l' := Nat.lt_of_lt_of_le hg' h.2.size
  have a := Cell5.below (x := ⟨xk, xn, xt, xb, xa⟩) h.1.1 hb l
  have b := Cell5.below (x := ⟨xk, xn, xt, xb, xa⟩) h.1.2 hb l'
  exact ⟨⟨a, b⟩, h.2.trans (hb.mono h.2.size)⟩

set_option maxHeartbeats 1000000 in
set_option maxRecDepth 100000 in
theorem eqTokenS_same (A A' : Option Addr) (n c c' : Nat) (xs : List Tok) (W : World) (ha : TR W W.heap.size A n xs) (hb : TR W W.heap.size A' n xs) (hn : n ≤ 1048576) :
    Calls Tryd.prog 16 #[.slice A n c, .slice A' n c'] W fun e w' => e = .returned (.bool true) ∧ Below W.heap.size W w' := by
  have HA := Lib.hid ha
  have HB := Lib.hid hb
  clear ha hb
  go_enter Tryd.func16, Tryd.ntmps16
  go_wp2
  go_loopw [5] (fun i wr => ∃ k : Nat, k ≤ n ∧ i = .int .i64 k ∧ Hid (Below W.heap.size W wr)) (fun i _ => n - (intOf i).toNat)
  case atStart => exact ⟨0, Nat.zero_le _, rfl, Below.refl _ _⟩
  case round =>
    obtain ⟨k, hk, rfl, HW⟩ := hrel
    by_cases hlt : k < n
    · have hl : Hid (k < xs.length) := by have := HA.out.1; show _ < _; omega
      obtain ⟨g, rfl, hg, h1⟩ := HA.out.at_ hlt hl.out
      obtain ⟨g', rfl, hg', h2⟩ := HB.out.at_ hlt hl.out
      obtain ⟨p0, p1, p2, p3, p4⟩ := h1.below HW.out hg
      obtain ⟨q0, q1, q2, q3, q4⟩ := h2.below HW.out hg'
      generalize xs[k]'hl.out = x at p0 p1 p2 p3 p4 q0 q1 q2 q3 q4
      obtain ⟨xk, xn, xt, xb, xa⟩ := x
      dsimp only at p0 p1 p2 p3 p4 q0 q1 q2 q3 q4
      have b0 : (0 : Int) ≤ (k : Int) := by omega
      have b1 : (k : Int) < (n : Int) := by omega
      clear h1 h2
      have HG : Hid (g < wr.heap.size) := Nat.lt_of_lt_of_le hg HW.out.size
      have HG' : Hid (g' < wr.heap.size) := Nat.lt_of_lt_of_le hg' HW.out.size
      clear hg hg'
      go_wp2_with fail
      go_region_held3 (fun w' => Two5 w' g g' k xk xn xt xb xa ∧ Below wr.heap.size wr w')
        (first | (exact ⟨⟨⟨p0, p1, p2, p3, p4⟩, ⟨q0, q1, q2, q3, q4⟩⟩, (Below.refl _ _).drew⟩) | (go_split_ands; exact two_keep HG.out HG'.out ⟨⟨⟨by assumption, by assumption, by assumption, by assumption, by assumption⟩, ⟨by assumption, by assumption, by assumption, by assumption, by assumption⟩⟩, by assumption⟩ hb) | go_keep)
        ((go_at_call 42; refine (eqToken_same _ _ _ _ _ _).mono ?_; rintro e w1 ⟨rfl, hb⟩))
      go_wp2_with fail
      go_split_ands
      go_roundw
      case rel => exact ⟨k + 1, by omega, by go_num, HW.out.trans (Below.mono (by assumption) HW.out.size)⟩
      case measure => simp [intOf]; omega
    · go_wp2_with fail
      go_ret
      exact ⟨rfl, HW.out⟩
end Go.Proofs.YtfobjedobojbnabDoor
