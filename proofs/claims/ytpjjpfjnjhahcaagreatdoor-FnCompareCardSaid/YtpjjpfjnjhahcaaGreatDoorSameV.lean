/- Plain: when two values are the same. No condition. -/
import Derived.Test.YtpjjpfjnjhahcaaGreatDoorBase
namespace Go.Proofs.YtpjjpfjnjhahcaaGreatDoor
open Go Go.RowKit

/-- What SameValue answers. -/
def sameV (k n : Int) (t : ByteArray) (r k' n' : Int) (t' : ByteArray) (r' : Int) : Bool := (k == k') && ((n == n') && ((t.toList == t'.toList) && (r == r')))
end Go.Proofs.YtpjjpfjnjhahcaaGreatDoor
