/-
  Texts of this proof, joined: Mem, Own.
-/
import Derived.Test.YtdpoickggdgddabDoorTake
import Derived.Test.YtdpoickggdgddabDoorBase
/-
  Bytes in memory: rows of the call's own, slices as they are handed over, make and copy.
-/
namespace Go.Proofs.YtdpoickggdgddabDoor
open Go.RowKit
section
variable {w : World} {b : Nat} {bs : List UInt8}
end

end Go.Proofs.YtdpoickggdgddabDoor

/-
  Slices of bytes that the call itself has made: what append leaves; a prefix of a slice.
-/
namespace Go.Proofs.YtdpoickggdgddabDoor
open Go.RowKit

end Go.Proofs.YtdpoickggdgddabDoor
