/- The classes of bytes as a plain function; facts on bytes. No condition. -/
import Derived.Test.YtjhemdgeafglhaaDoorPlain
namespace Go.Proofs.YtjhemdgeafglhaaDoor
open Go

/-- The table of the program's text. -/
def classes : List Int := [0, 0, 0, 0, 0, 0, 0, 0, 0, 0, 0, 0, 0, 0, 0, 0, 0, 0, 0, 0, 0, 0, 0, 0, 0, 0, 0, 0, 0, 0, 0, 0, 0, 0, 3, 0, 4, 0, 0, 3, 5, 6, 4, 4, 9, 4, 4, 4, 2, 2, 2, 2, 2, 2, 2, 2, 2, 2, 10, 0, 7, 4, 8, 0, 4, 1, 1, 1, 1, 1, 1, 1, 1, 1, 1, 1, 1, 1, 1, 1, 1, 1, 1, 1, 1, 1, 1, 1, 1, 1, 1, 0, 0, 0, 0, 11, 0, 1, 1, 1, 1, 1, 1, 1, 1, 1, 1, 1, 1, 1, 1, 1, 1, 1, 1, 1, 1, 1, 1, 1, 1, 1, 1, 0, 4, 0, 0, 0]
set_option maxRecDepth 10000 in
theorem classes_length : classes.length = 128 := by decide +kernel
/-- The class of a character. -/
def cls (r : Int) : Int := if 0 ≤ r ∧ r < 128 then classes.getD r.toNat 0 else 0
theorem cls_in {r : Int} (h0 : 0 ≤ r) (h1 : r < 128) : cls r = classes.getD r.toNat 0 := by unfold cls; rw [if_pos ⟨h0, h1⟩]
theorem cls_out {r : Int} (h : r < 0 ∨ 128 ≤ r) : cls r = 0 := by unfold cls; rw [if_neg (by omega)]
theorem all_small {p : Int → Bool} (h : (List.range 256).all (fun i => p (i : Int)) = true) {c : Int} (h0 : 0 ≤ c) (h1 : c ≤ 255) : p c = true := by
  have e : c = ((c.toNat : Nat) : Int) := by omega
  rw [e]
  exact List.all_eq_true.1 h c.toNat (by simp; omega)
theorem cls_bd (r : Int) : 0 ≤ cls r ∧ cls r ≤ 11 := by
  by_cases h : 0 ≤ r ∧ r < 128
  · have := all_small (p := fun c => decide (0 ≤ cls c ∧ cls c ≤ 11)) (by decide +kernel) h.1 (by omega)
    simpa using this
  · rw [cls_out (by omega)]; omega
/-- An operator's byte. -/
def opB (c : Int) : Bool := cls c == 4
theorem opB_mem {c : Int} (h0 : 0 ≤ c) (h1 : c ≤ 255) : opB c = (c == 43 || c == 45 || c == 42 || c == 47 || c == 124 || c == 46 || c == 36 || c == 64 || c == 61) := by
  have := all_small (p := fun c => opB c == (c == 43 || c == 45 || c == 42 || c == 47 || c == 124 || c == 46 || c == 36 || c == 64 || c == 61)) (by decide +kernel) h0 h1
  simpa using this
end Go.Proofs.YtjhemdgeafglhaaDoor
