/-
  Bytes in memory: rows of the call's own, slices as they are handed over, make and copy.
-/
import Derived.Test.YtdpoickggdgddaaDoorTake
import Derived.Test.YtdpoickggdgddaaDoorBase
namespace Go.Proofs.YtdpoickggdgddaaDoor
open Go.RowKit
section
variable {w : World} {b : Nat} {bs : List UInt8}
end

end Go.Proofs.YtdpoickggdgddaaDoor
