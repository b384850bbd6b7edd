/-
  canopykeep.Pairs makes a tree of items.
-/
import Derived.Test.YtedmhejnbapklaaDoorKMake
import Derived.Test.YtedmhejnbapklaaDoorPart3
namespace Go.Proofs.YtedmhejnbapklaaDoor
theorem kmake_ok : KMakeOK := kpairs_any
end Go.Proofs.YtedmhejnbapklaaDoor
