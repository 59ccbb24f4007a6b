/- Rows of lines of one's own: appended to, the last one extended. No condition. -/
import Derived.Test.YtfobjedobojbnabDoorLogPlain
import Derived.Test.YtfobjedobojbnabDoorStrs0
import Derived.Laws.OwnMore
import Derived.Maps.AppendAt
namespace Go.Proofs.YtfobjedobojbnabDoor
open Go Go.RowKit

theorem linInfo : (Tryd.prog.info? 39).map (fun i => (i.zero, i.size, i.bytes)) = some (some (Value.agg #[.int .i64 0, .string ByteArray.empty]), 2, 24) := by kernel_rfl
/-- A row of lines of one's own. -/
abbrev OwnL (w : World) (B : Nat) (v : Value) (xs : List Lin) : Prop := w.ownsRow B 39 2 v xs.length (cellsL xs)
/-- The cells of a row that is handed back. -/
def RowL (w : World) (B C : Nat) (A : Option Addr) (xs : List Lin) : Prop :=
  0 < xs.length → ∃ g cs, A = some ⟨g, 0, none⟩ ∧ B ≤ g ∧ g < C ∧ LB w g cs ∧ xs.length * 2 ≤ cs.size ∧ Holds2 cs xs
section
variable {w w' : World} {B C D : Nat} {A : Option Addr} {xs : List Lin}
theorem RowL.below (h : RowL w B C A xs) (hb : Below D w w') (hD : C ≤ D) : RowL w' B C A xs := fun hn => by
  obtain ⟨g, cs, e, h1, h2, h3, h4, h5⟩ := h hn
  exact ⟨g, cs, e, h1, h2, h3.below hb (by omega), h4, h5⟩
theorem RowL.lr (h : RowL w B C A xs) : LR w C A xs.length xs := ⟨rfl, fun hn => by
  obtain ⟨g, cs, e, h1, h2, h3, h4, h5⟩ := h hn
  exact ⟨g, e, h2, fun j x hx => h5.cell2 h3 hx⟩⟩
end
theorem ownL_row {w : World} {B : Nat} {v : Value} {xs : List Lin} (h : OwnL w B v xs) : ∃ A c, v = .slice A xs.length c ∧ RowL w B w.heap.size A xs := by
  rcases h.2 with ⟨rfl, h0⟩ | ⟨g, cap, cur, rfl, hg, hh, hnc, _, hcs, ht⟩
  · exact ⟨none, 0, by rw [h0], fun hn => by omega⟩
  · refine ⟨some ⟨g, 0, none⟩, cap, rfl, fun _ => ⟨g, cur, rfl, hg, LB.lt hh, hh, by omega, fun j i x v hx hi => ?_⟩⟩
    have hj : j < xs.length := (List.getElem?_eq_some_iff.1 hx).1
    have hi2 : i < 2 := (List.getElem?_eq_some_iff.1 hi).1
    have h1 := congrArg (·[j * 2 + i]?) ht
    simp only [List.getElem?_take, if_pos (show j * 2 + i < xs.length * 2 by omega), cellsL_at hx hi] at h1
    rw [← h1, Array.getElem?_toList]
/-- A row that is not empty: its block. -/
theorem ownL_some {w : World} {B : Nat} {v : Value} {xs : List Lin} (h : OwnL w B v xs) (hn : xs.length ≠ 0) : ∃ g c, v = .slice (some ⟨g, 0, none⟩) xs.length c ∧ B ≤ g ∧ g < w.heap.size := by
  rcases h.2 with ⟨rfl, h0⟩ | ⟨g, cap, cur, rfl, hg, hh, hnc, _, hcs, ht⟩
  · omega
  · exact ⟨g, cap, rfl, hg, LB.lt hh⟩
theorem grownL {w w' : World} (h : Below w.heap.size w w') (row : Option Nat) : w.grownBy w' row := ⟨h.os, h.tape, h.output, h.size, fun j hj _ => h.block j hj⟩
theorem ownL_keep {w w' : World} {B : Nat} {v : Value} {xs : List Lin} (h : OwnL w B v xs) (hb : Below w.heap.size w w') : OwnL w' B v xs :=
  h.kept (grownL hb none) (by cases hv : v.ownBlock <;> simp)
theorem cellsL_snoc (xs : List Lin) (x : Lin) : cellsL (xs ++ [x]) = cellsL xs ++ x.vs := by rw [cellsL_append]; show cellsL xs ++ (x.vs ++ []) = _; rw [List.append_nil]
theorem ownL_snoc {w : World} {B : Nat} {v : Value} {xs : List Lin} (x : Lin) (h : w.ownsRow B 39 2 v (xs.length + 1) (cellsL xs ++ [.int .i64 x.n, .string x.t])) : OwnL w B v (xs ++ [x]) := by
  unfold OwnL
  rw [cellsL_snoc, List.length_append]
  exact h
theorem cell_two_new (w : World) (x0 x1 : Value) (t : TypeId) : ∀ j u, [x0, x1][j]? = some u → (w.alloc (.cells #[x0, x1] t)).cell? ((⟨w.heap.size, 0, none⟩ : Addr).add j) = some u := by
  intro j u hj
  have hc := cell_of_row (w.alloc (.cells #[x0, x1] t)) w.heap.size j #[x0, x1] t (0, 0) (heap_alloc_new w _)
  have ha : (⟨w.heap.size, 0, none⟩ : Addr).add j = ⟨w.heap.size, j, none⟩ := by unfold Addr.add; split <;> simp_all
  rw [ha, hc]
  rw [← hj]
  simp
theorem cell_two_new2 (w : World) (o : Obj) (x0 x1 : Value) (t : TypeId) : ∀ j u, [x0, x1][j]? = some u → ((w.alloc o).alloc (.cells #[x0, x1] t)).cell? ((⟨w.heap.size + 1, 0, none⟩ : Addr).add j) = some u := by
  have h := cell_two_new (w.alloc o) x0 x1 t
  rwa [show (w.alloc o).heap.size = w.heap.size + 1 from by simp] at h
theorem cellsL_set (f : ByteArray) : ∀ (xs : List Lin) (j : Nat) (x : Lin), xs[j]? = some x → (cellsL xs).set (j * 2 + 1) (.string f) = cellsL (xs.modify j fun x => ⟨x.n, f⟩)
  | [], j, x, h => by simp at h
  | y :: ys, 0, x, h => rfl
  | y :: ys, j + 1, x, h => by
    have ih := cellsL_set f ys j x (by simpa using h)
    show (y.vs ++ cellsL ys).set ((j + 1) * 2 + 1) (.string f) = y.vs ++ cellsL (ys.modify j _)
    rw [← ih, List.set_append_right _ _ (show y.vs.length ≤ _ by show 2 ≤ _; omega)]
    congr 2
    show (j + 1) * 2 + 1 - 2 = _
    omega
theorem modify_at {α : Type} (f g : α → α) : ∀ (xs : List α) (j : Nat) (x : α), xs[j]? = some x → f x = g x → xs.modify j f = xs.modify j g
  | [], j, x, h, _ => by simp at h
  | y :: ys, 0, x, h, e => by simp at h; subst h; show f y :: ys = g y :: ys; rw [e]
  | y :: ys, j + 1, x, h, e => by
    show y :: ys.modify j f = y :: ys.modify j g
    rw [modify_at f g ys j x (by simpa using h) e]
/-- The last line's text is replaced by a longer one. -/
theorem ownL_ext {w : World} {B g c : Nat} {xs : List Lin} {x : Lin} (t : ByteArray) (h : OwnL w B (.slice (some ⟨g, 0, none⟩) xs.length c) xs) (hx : xs[xs.length - 1]? = some x) :
    OwnL (w.setCell ⟨g, (xs.length - 1) * 2 + 1, none⟩ (.string (x.t ++ restB t))) B (.slice (some ⟨g, 0, none⟩) xs.length c) (extL xs t) ∧ w.grownBy (w.setCell ⟨g, (xs.length - 1) * 2 + 1, none⟩ (.string (x.t ++ restB t))) (some g) := by
  obtain ⟨h1, h2⟩ := World.ownsRow.stored h ((xs.length - 1) * 2 + 1) (.string (x.t ++ restB t))
  refine ⟨?_, h2⟩
  unfold OwnL
  rw [extL_length]
  have e : (cellsL xs).set ((xs.length - 1) * 2 + 1) (.string (x.t ++ restB t)) = cellsL (extL xs t) := by
    rw [cellsL_set _ xs _ x hx]
    unfold extL
    exact congrArg cellsL (modify_at _ _ xs _ x hx rfl)
  rw [← e]
  exact h1
end Go.Proofs.YtfobjedobojbnabDoor
