/-
  What tree.Delete must keep.
-/
import Derived.Test.YtdpoickggdgddacPairMem
import Derived.Test.YtdpoickggdgddacFitsF
namespace Go.Proofs.Ytdpoickggdgddac
open Go.RowKit
/-- tree.Delete keeps P3.4. -/
def TDelOK : Prop := ∀ (w : World) (v u : Value) (l : PL) (k : List UInt8), PairsIs w v l → SliceIs w u k → Fits l → k.length ≤ 140737488355328 → Calls Try.prog 10 #[v, u] w fun e w' => ∃ x, e = .returned (.tuple #[x, .int .i64 (getE l k)]) ∧ PairsIs w' x (delF l k) ∧ w.grownBy w' none
end Go.Proofs.Ytdpoickggdgddac
