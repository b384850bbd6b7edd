/-
  canopykeep.Pairs makes a tree of items.
-/
import Derived.Test.YtedmhejnbapklabDoorKMake
import Derived.Test.YtedmhejnbapklabDoorPart3
namespace Go.Proofs.YtedmhejnbapklabDoor
theorem kmake_ok : KMakeOK := kpairs_any
end Go.Proofs.YtedmhejnbapklabDoor
