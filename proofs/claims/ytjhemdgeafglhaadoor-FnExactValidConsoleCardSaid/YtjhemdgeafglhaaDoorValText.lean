/- Contract: textValue of the program; the cells of a value. No condition. -/
import Derived.Test.YtjhemdgeafglhaaDoorWf
import Derived.Laws.StructEq
import Derived.Deep.QuietTactic
import Derived.BigQuiet
import Derived.Lib.QuietBelow
namespace Go.Proofs.YtjhemdgeafglhaaDoor
open Go Go.RowKit Go.Sort

theorem textValue_any (k : Int) (s : ByteArray) (W : World) :
    Calls Tryd.prog 52 #[.int .i64 k, .string s] W fun e w' => e = .returned (.agg #[.int .i64 k, .int .i64 0, .string s, .int .i64 0]) ∧ Below W.heap.size W w' := by
  go_enter Tryd.func52, Tryd.ntmps52
  go_wp2
  exact bodyPost_ret (v := .agg #[.int .i64 k, .int .i64 0, .string s, .int .i64 0]) (by simp [results, Tryd.results52, go_sem]) rfl
    ⟨rfl, by repeat (first | exact Below.refl _ _ | refine Below.setCell ?_ (by first | (simp; done) | (simp; omega)) _ | refine Below.alloc ?_ (by first | (simp; done) | (simp; omega)) _)⟩
/-- A value's four cells. -/
abbrev V4 (w : World) (g : Nat) (k n : Int) (t : ByteArray) (r : Int) : Prop := w.cell? ⟨g, 0, none⟩ = some (.int .i64 k) ∧ w.cell? ⟨g, 1, none⟩ = some (.int .i64 n) ∧ w.cell? ⟨g, 2, none⟩ = some (.string t) ∧ w.cell? ⟨g, 3, none⟩ = some (.int .i64 r)
theorem v4_keep {wr wx w1 : World} {g : Nat} {k n : Int} {t : ByteArray} {r : Int} (hg : g < wr.heap.size) (h : V4 wx g k n t r ∧ Below wr.heap.size wr wx) (hb : Below wx.heap.size wx w1) :
    V4 w1 g k n t r ∧ Below wr.heap.size wr w1 := by
  have l := Nat.lt_of_lt_of_le hg h.2.size
  exact ⟨⟨(hb.cell (p := ⟨g, 0, none⟩) l).trans h.1.1, (hb.cell (p := ⟨g, 1, none⟩) l).trans h.1.2.1, (hb.cell (p := ⟨g, 2, none⟩) l).trans h.1.2.2.1, (hb.cell (p := ⟨g, 3, none⟩) l).trans h.1.2.2.2⟩, h.2.trans (hb.mono h.2.size)⟩
theorem v4_new (W : World) (k n : Int) (t : ByteArray) (r : Int) (T : TypeId) : V4 (W.alloc (.cells #[.int .i64 k, .int .i64 n, .string t, .int .i64 r] T)) W.heap.size k n t r := by
  refine ⟨?_, ?_, ?_, ?_⟩ <;> simp
theorem v4_below {w w1 : World} {g : Nat} {k n : Int} {t : ByteArray} {r : Int} (h : V4 w g k n t r) (hg : g < w.heap.size) (hb : Below w.heap.size w w1) : V4 w1 g k n t r :=
  ⟨(hb.cell (p := ⟨g, 0, none⟩) hg).trans h.1, (hb.cell (p := ⟨g, 1, none⟩) hg).trans h.2.1, (hb.cell (p := ⟨g, 2, none⟩) hg).trans h.2.2.1, (hb.cell (p := ⟨g, 3, none⟩) hg).trans h.2.2.2⟩
end Go.Proofs.YtjhemdgeafglhaaDoor
