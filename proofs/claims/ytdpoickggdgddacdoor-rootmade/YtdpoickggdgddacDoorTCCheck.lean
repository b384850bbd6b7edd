/-
  What tree.Check must keep.
-/
import Derived.Test.YtdpoickggdgddacDoorPairMem
import Derived.Test.YtdpoickggdgddacDoorFitsF
namespace Go.Proofs.YtdpoickggdgddacDoor
open Go.RowKit
/-- tree.Check keeps P3.1. -/
def TCheckOK : Prop := ∀ (w : World) (v : Value) (l : PL), PairsIs w v l → Fits l → Calls Tryd.prog 13 #[v] w fun e w' => e = .returned (.int .i64 (pairsFaultF l)) ∧ w.grownBy w' none
end Go.Proofs.YtdpoickggdgddacDoor
