/- Small: the ending of a string; one byte made a string. No condition. -/
import Derived.Test.YtjhemdgeafglhaaDoorChecked
import Derived.WalkKit
import Derived.WalkLawsBesides
import Derived.Lib.Hide
import Derived.LoopTactic
import Derived.Below
import Derived.Laws.BytesString
import Derived.Lib.Strings
namespace Go.Proofs.YtjhemdgeafglhaaDoor
open Go Go.RowKit

theorem str_ret {a b : ByteArray} (h : a = b) : Ending.returned (.string a) = .returned (.string b) := by rw [h]
theorem conv_one (W : World) (x : Int) :
    (convert 77 9 (.slice (some ⟨W.heap.size, 0, none⟩) 1 1)).run Tryd.prog (W.alloc (.cells #[.int .u8 x] 5)) = .ok (.string ⟨#[UInt8.ofNat x.toNat]⟩) (W.alloc (.cells #[.int .u8 x] 5)) := by
  rw [run_convert_bytes_string _ _ _ 5 _ _ _ Tryd.underlying77 Tryd.underlying5 Tryd.underlying9]
  have hl : (loadCells ⟨W.heap.size, 0, none⟩ 1).run Tryd.prog (W.alloc (.cells #[.int .u8 x] 5)) = .ok (([x] : List Int).map (Value.int .u8)).toArray (W.alloc (.cells #[.int .u8 x] 5)) := by
    refine run_loadCells_list (P := Tryd.prog) _ ⟨W.heap.size, 0, none⟩ [Value.int .u8 x] fun j v hv => ?_
    match j, hv with
    | 0, hv => simp at hv; subst hv; simp [Addr.add]
  exact run_bytesToString (P := Tryd.prog) _ ⟨W.heap.size, 0, none⟩ 1 1 [x] hl
end Go.Proofs.YtjhemdgeafglhaaDoor
