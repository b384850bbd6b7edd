/-
  Slices of bytes that the call itself has made: what append leaves; a prefix of a slice.
-/
import Derived.Test.YtdpoickggdgddacDoorMem
import Derived.Test.YtdpoickggdgddacDoorBase
namespace Go.Proofs.YtdpoickggdgddacDoor
open Go.RowKit

end Go.Proofs.YtdpoickggdgddacDoor
