/-
  What canopykeep.Pairs keeps.
-/
import Derived.Test.YtdpoickggdgddabPairMem
import Derived.Test.YtdpoickggdgddabKTree
namespace Go.Proofs.Ytdpoickggdgddab
open Go.RowKit
def KMakeOK : Prop := ∀ (w : World) (v : Value) (l : PL) (n : Nat), PairsIs w v l → Fits l → n ≤ 60 →
    Calls Try.prog 8 #[v, .int .i64 (n : Int)] w fun e w' => ∃ v', e = .returned v' ∧ OwnP w.heap.size w' v' (mkT (l.take n)) ∧ w.grownBy w' none
end Go.Proofs.Ytdpoickggdgddab
