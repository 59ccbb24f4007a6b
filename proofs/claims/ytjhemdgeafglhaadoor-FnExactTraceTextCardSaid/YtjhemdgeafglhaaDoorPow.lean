/- The table of powers of ten that the program's conversions read. -/
import Derived.Test.YtjhemdgeafglhaaDoorBase
import Derived.Test.YtjhemdgeafglhaaDoorClass
import Derived.Lib.ItoaNum
namespace Go.Proofs.YtjhemdgeafglhaaDoor
open Go Go.RowKit

theorem gPow : Tryd.prog.globalNamed "internal/strconv.uint64pow10" = some 3 := by kernel_rfl
abbrev PowTab (W : World) : Prop := Lib.TabIs Tryd.prog W "internal/strconv.uint64pow10" .u64 Lib.pow10Tab
end Go.Proofs.YtjhemdgeafglhaaDoor
