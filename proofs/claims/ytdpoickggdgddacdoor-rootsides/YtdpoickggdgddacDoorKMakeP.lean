/-
  canopykeep.Pairs makes a tree of items.
-/
import Derived.Test.YtdpoickggdgddacDoorKMake
import Derived.Test.YtdpoickggdgddacDoorKMakeS
namespace Go.Proofs.YtdpoickggdgddacDoor
theorem kmake_ok : KMakeOK := kpairs_any
end Go.Proofs.YtdpoickggdgddacDoor
