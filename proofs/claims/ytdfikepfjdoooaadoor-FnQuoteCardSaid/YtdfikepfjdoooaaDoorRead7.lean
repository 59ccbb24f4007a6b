/- Contract of the scanner's choice of a reader. Conditions: none. -/
import Derived.Test.YtdfikepfjdoooaaDoorRead6
namespace Go.Proofs.YtdfikepfjdoooaaDoor
open Go Go.RowKit

/-- The reader of a class. -/
def readerFn (c : Int) : FuncId :=
  if c = 1 then 113 else if c = 2 then 114 else if c = 3 then 115 else if c = 4 then 116 else if c = 0 then 117 else if c = 11 then 117 else 118
set_option maxHeartbeats 2000000 in
set_option maxRecDepth 100000 in
theorem readerOf_any (g : Nat) (c : Int) (W : World) (h0 : 0 ≤ c) (h1 : c ≤ 11) :
    Calls Tryd.prog 91 #[.pointer (some ⟨g, 0, none⟩), .int .u8 c] W fun e w' => e = .returned (.func (Fn.func (readerFn c)) #[.pointer (some ⟨g, 0, none⟩)] #[]) ∧ w' = W := by
  have h : c = 0 ∨ c = 1 ∨ c = 2 ∨ c = 3 ∨ c = 4 ∨ c = 5 ∨ c = 6 ∨ c = 7 ∨ c = 8 ∨ c = 9 ∨ c = 10 ∨ c = 11 := by omega
  clear h0 h1
  rcases h with rfl | rfl | rfl | rfl | rfl | rfl | rfl | rfl | rfl | rfl | rfl | rfl <;>
  · go_enter Tryd.func91, Tryd.ntmps91
    go_wp2_with fail
    go_ret
    exact ⟨rfl, rfl⟩
end Go.Proofs.YtdfikepfjdoooaaDoor
