/-
  What canopykeep.Pairs keeps.
-/
import Derived.Test.YtdpoickggdgddacDoorPairMem
import Derived.Test.YtdpoickggdgddacDoorKTree
namespace Go.Proofs.YtdpoickggdgddacDoor
open Go.RowKit
def KMakeOK : Prop := ∀ (w : World) (v : Value) (l : PL) (n : Nat), PairsIs w v l → Fits l → n ≤ 60 →
    Calls Tryd.prog 11 #[v, .int .i64 (n : Int)] w fun e w' => ∃ v', e = .returned v' ∧ OwnP w.heap.size w' v' (mkT (l.take n)) ∧ w.grownBy w' none
end Go.Proofs.YtdpoickggdgddacDoor
