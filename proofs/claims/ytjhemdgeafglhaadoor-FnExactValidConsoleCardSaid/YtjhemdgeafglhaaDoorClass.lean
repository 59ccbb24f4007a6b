/- Contracts: impl.classOf, spec.l02Operator. Condition of the first: the table holds what the program's text lays. -/
import Derived.Test.YtjhemdgeafglhaaDoorChecked
import Derived.WalkKit
import Derived.WalkLawsBesides
import Derived.Lib.LaidTab
import Derived.Test.YtjhemdgeafglhaaDoorClassPlain
namespace Go.Proofs.YtjhemdgeafglhaaDoor
open Go Go.RowKit

theorem gClasses : Tryd.prog.globalNamed "loop.example/g00873/impl.byteClasses" = some 1 := by kernel_rfl
abbrev Classes (W : World) : Prop := Lib.TabIs Tryd.prog W "loop.example/g00873/impl.byteClasses" .u8 classes
theorem Classes.at_ {W : World} (h : Classes W) (i : Nat) (hi : i < 128) : W.cell? ⟨1, i, none⟩ = some (.int .u8 (classes.getD i 0)) := h.cell gClasses i hi

theorem heap_pos {W : World} {o : Nat} {b : Nat} {v : Value} (h : W.cell? ⟨b, o, none⟩ = some v) : b < W.heap.size := by
  rcases Nat.lt_or_ge b W.heap.size with h1 | h1
  · exact h1
  · simp [World.cell?, Array.getElem?_eq_none h1] at h
theorem Classes.below {B : Nat} {W W' : World} (h : Classes W) (hb : Below B W W') (hB : 1 < B) : Classes W' := var?_below hb gClasses hB h

theorem classOf_any (r : Int) (W : World) (hT : Classes W) :
    Calls Tryd.prog 56 #[.int .i32 r] W fun e w' => e = .returned (.int .u8 (cls r)) ∧ W = w' := by
  by_cases h0 : r < 0
  · rw [cls_out (.inl h0)]
    clear hT
    go_enter Tryd.func56, Tryd.ntmps56
    go_wp2
    go_ret
    exact ⟨rfl, rfl⟩
  · by_cases h1 : 128 ≤ r
    · rw [cls_out (.inr h1)]
      clear hT
      go_enter Tryd.func56, Tryd.ntmps56
      go_wp2
      go_ret
      exact ⟨rfl, rfl⟩
    · have hc := hT.at_ r.toNat (by omega)
      rw [cls_in (by omega) (by omega)]
      generalize classes.getD r.toNat 0 = v at hc ⊢
      clear hT
      have h0' : 0 ≤ r := by omega
      have h1' : r < 128 := by omega
      go_enter Tryd.func56, Tryd.ntmps56
      go_wp2
      go_ret
      exact ⟨rfl, rfl⟩
theorem classes_go {w w' : World} (h : Classes w) (hb : Below w.heap.size w w') : Classes w' := h.below hb (heap_pos (h.at_ 0 (by decide)))
end Go.Proofs.YtjhemdgeafglhaaDoor
