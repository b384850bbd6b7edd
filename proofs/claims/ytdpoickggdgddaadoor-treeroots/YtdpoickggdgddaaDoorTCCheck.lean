/-
  What tree.Check must keep.
-/
import Derived.Test.YtdpoickggdgddaaDoorPairMem
import Derived.Test.YtdpoickggdgddaaDoorFitsF
namespace Go.Proofs.YtdpoickggdgddaaDoor
open Go.RowKit
/-- tree.Check keeps P3.1. -/
def TCheckOK : Prop := ∀ (w : World) (v : Value) (l : PL), PairsIs w v l → Fits l → Calls Tryd.prog 10 #[v] w fun e w' => e = .returned (.int .i64 (pairsFaultF l)) ∧ w.grownBy w' none
end Go.Proofs.YtdpoickggdgddaaDoor
