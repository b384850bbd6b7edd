/-
  canopykeep.Pairs makes a tree of items.
-/
import Derived.Test.YtdpoickggdgddabKMake
import Derived.Test.YtdpoickggdgddabKMakeS
namespace Go.Proofs.Ytdpoickggdgddab
theorem kmake_ok : KMakeOK := kpairs_any
end Go.Proofs.Ytdpoickggdgddab
