/- The table of powers of ten that the program's conversions read. -/
import Derived.Test.YtpjjpfjnjhahcaaGreatDoorBase
import Derived.Test.YtpjjpfjnjhahcaaGreatDoorClass
import Derived.Lib.ItoaNum
namespace Go.Proofs.YtpjjpfjnjhahcaaGreatDoor
open Go Go.RowKit

theorem gPow : Tryz.prog.globalNamed "internal/strconv.uint64pow10" = some 1 := by kernel_rfl
abbrev PowTab (W : World) : Prop := Lib.TabIs Tryz.prog W "internal/strconv.uint64pow10" .u64 Lib.pow10Tab
end Go.Proofs.YtpjjpfjnjhahcaaGreatDoor
