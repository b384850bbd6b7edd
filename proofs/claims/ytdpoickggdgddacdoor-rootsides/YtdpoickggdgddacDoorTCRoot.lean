/-
  What tree.Root must keep.
-/
import Derived.Test.YtdpoickggdgddacDoorPairMem
import Derived.Test.YtdpoickggdgddacDoorFitsF
import Derived.Test.YtdpoickggdgddacDoorRootF
namespace Go.Proofs.YtdpoickggdgddacDoor
open Go.RowKit
/-- tree.Root keeps P3.6. -/
def TRootOK : Prop := ∀ (w : World) (v : Value) (l : PL), PairsIs w v l → Fits l → Tabs w → Calls Tryd.prog 7 #[v] w fun e w' => ∃ x, e = .returned (.tuple #[x, .int .i64 (pairsFaultF l)]) ∧ SliceIs w' x (rootF l) ∧ w.grownBy w' none
end Go.Proofs.YtdpoickggdgddacDoor
