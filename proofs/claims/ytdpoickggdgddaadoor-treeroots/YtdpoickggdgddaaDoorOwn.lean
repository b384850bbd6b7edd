/-
  Slices of bytes that the call itself has made: what append leaves; a prefix of a slice.
-/
import Derived.Test.YtdpoickggdgddaaDoorMem
import Derived.Test.YtdpoickggdgddaaDoorBase
namespace Go.Proofs.YtdpoickggdgddaaDoor
open Go.RowKit

end Go.Proofs.YtdpoickggdgddaaDoor
