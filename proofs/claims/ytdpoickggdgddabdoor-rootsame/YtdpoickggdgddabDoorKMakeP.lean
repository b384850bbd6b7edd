/-
  canopykeep.Pairs makes a tree of items.
-/
import Derived.Test.YtdpoickggdgddabDoorKMake
import Derived.Test.YtdpoickggdgddabDoorPart3
namespace Go.Proofs.YtdpoickggdgddabDoor
theorem kmake_ok : KMakeOK := kpairs_any
end Go.Proofs.YtdpoickggdgddabDoor
