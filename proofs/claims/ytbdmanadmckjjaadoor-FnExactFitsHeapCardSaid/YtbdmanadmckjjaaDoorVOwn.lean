/- Rows of values of one's own: appended to, handed back. No condition. -/
import Derived.Test.YtbdmanadmckjjaaDoorVls
import Derived.Laws.OwnMore
import Derived.Maps.AppendAt
import Derived.Deep.AppendLies
namespace Go.Proofs.YtbdmanadmckjjaaDoor
open Go Go.RowKit

def cellsV : List Vl → List Value
  | [] => []
  | x :: xs => x.vs ++ cellsV xs
theorem cellsV_append : ∀ (a b : List Vl), cellsV (a ++ b) = cellsV a ++ cellsV b
  | [], b => rfl
  | x :: a, b => by rw [List.cons_append, cellsV, cellsV, cellsV_append a b, List.append_assoc]
theorem cellsV_length : ∀ (a : List Vl), (cellsV a).length = a.length * 4
  | [] => rfl
  | x :: a => by
    rw [cellsV, List.length_append, cellsV_length a, List.length_cons]
    show 4 + _ = _
    omega
theorem cellsV_at : ∀ {xs : List Vl} {j q : Nat} {x : Vl} {v : Value}, xs[j]? = some x → x.vs[q]? = some v → (cellsV xs)[j * 4 + q]? = some v
  | [], j, q, x, v, h, _ => by simp at h
  | y :: xs, 0, q, x, v, h, hv => by
    simp only [List.getElem?_cons_zero, Option.some.injEq] at h
    subst h
    have hq : q < y.vs.length := (List.getElem?_eq_some_iff.1 hv).1
    rw [cellsV, Nat.zero_mul, Nat.zero_add, List.getElem?_append_left hq]
    exact hv
  | y :: xs, j + 1, q, x, v, h, hv => by
    have ih := cellsV_at (xs := xs) (j := j) (q := q) (by simpa using h) hv
    have hl : y.vs.length = 4 := rfl
    rw [cellsV, List.getElem?_append_right (by rw [hl]; omega), hl, show (j + 1) * 4 + q - 4 = j * 4 + q by omega]
    exact ih
/-- A row of n values of one's own. -/
abbrev OwnV (w : World) (B : Nat) (v : Value) (n : Nat) (xs : List Vl) : Prop := w.ownsRow B 37 4 v n (cellsV xs)
theorem ownV_form {w : World} {B n : Nat} {v : Value} {xs : List Vl} (h : OwnV w B v n xs) : ∃ A c, v = .slice A n c := by
  rcases h.2 with ⟨rfl, h0⟩ | ⟨g, cap, cur, rfl, hg, hh, hnc, _, hcs, ht⟩
  · exact ⟨none, 0, by rw [h0]⟩
  · exact ⟨_, _, rfl⟩
/-- As a slice that reads. -/
theorem ownV_VI {w : World} {B n c : Nat} {A : Option Addr} {xs : List Vl} (h : OwnV w B (.slice A n c) n xs) (hl : xs.length = n) (hn : n ≤ maxLen) (hs : ∀ x ∈ xs, x.t.size ≤ maxLen) : VI w w.heap.size A n xs := by
  refine ⟨hl, hn, fun hn0 => ?_⟩
  rcases h.2 with ⟨h', h0⟩ | ⟨g, cap, cur, h', hg, hh, hnc, _, hcs, ht⟩
  · omega
  · simp only [Value.slice.injEq, true_and] at h'
    obtain ⟨rfl, _⟩ := h'
    have hlt : g < w.heap.size := by
      rcases Nat.lt_or_ge g w.heap.size with hlt | hge
      · exact hlt
      · rw [Array.getElem?_eq_none hge] at hh; cases hh
    refine ⟨g, 0, rfl, hlt, fun j x hx => ?_⟩
    have hj : j < n := by rw [← hl]; exact (List.getElem?_eq_some_iff.1 hx).1
    have key : ∀ q v, x.vs[q]? = some v → w.cell? ⟨g, 0 + j * 4 + q, none⟩ = some v := by
      intro q v hq
      have hq4 : q < 4 := (List.getElem?_eq_some_iff.1 hq).1
      rw [Nat.zero_add, cell_of_row w g _ cur _ (0, 0) hh]
      have h1 := congrArg (·[j * 4 + q]?) ht
      simp only [List.getElem?_take, if_pos (show j * 4 + q < n * 4 by omega), cellsV_at hx hq] at h1
      rw [← Array.getElem?_toList]
      exact h1
    exact ⟨⟨key 0 _ rfl, key 1 _ rfl, key 2 _ rfl, key 3 _ rfl⟩, hs x (List.mem_of_getElem? hx)⟩
theorem grownV {w w' : World} (h : Below w.heap.size w w') (row : Option Nat) : w.grownBy w' row := ⟨h.os, h.tape, h.output, h.size, fun j hj _ => h.block j hj⟩
theorem ownV_keep {w w' : World} {B n : Nat} {v : Value} {xs : List Vl} (h : OwnV w B v n xs) (hb : Below w.heap.size w w') : OwnV w' B v n xs :=
  h.kept (grownV hb none) (by cases hv : v.ownBlock <;> simp)
theorem ownV_ge {w : World} {B n : Nat} {v : Value} {xs : List Vl} (h : OwnV w B v n xs) : ∀ k, v.ownBlock = some k → B ≤ k := fun b hb => (h.lt b hb).1
theorem ownV_nil (w : World) (B : Nat) (h : B ≤ w.heap.size) : OwnV w B (.slice none 0 0) 0 [] := by
  first
  | exact World.ownsRow_nil _ _ _ _
  | exact ⟨h, .inl ⟨rfl, rfl⟩⟩
  | exact ⟨by simp [cellsV], .inl ⟨rfl, rfl⟩⟩
end Go.Proofs.YtbdmanadmckjjaaDoor
