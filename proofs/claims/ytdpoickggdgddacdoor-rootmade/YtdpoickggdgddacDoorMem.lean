/-
  Bytes in memory: rows of the call's own, slices as they are handed over, make and copy.
-/
import Derived.Test.YtdpoickggdgddacDoorTake
import Derived.Test.YtdpoickggdgddacDoorBase
namespace Go.Proofs.YtdpoickggdgddacDoor
open Go.RowKit
section
variable {w : World} {b : Nat} {bs : List UInt8}
end

end Go.Proofs.YtdpoickggdgddacDoor
