/-
  What tree.Get must keep.
-/
import Derived.Test.YtdpoickggdgddacPairMem
import Derived.Test.YtdpoickggdgddacFitsF
namespace Go.Proofs.Ytdpoickggdgddac
open Go.RowKit
/-- tree.Get keeps P3.2. -/
def TGetOK : Prop := ∀ (w : World) (v u : Value) (l : PL) (k : List UInt8), PairsIs w v l → SliceIs w u k → Fits l → k.length ≤ 140737488355328 → Calls Try.prog 11 #[v, u] w fun e w' => ∃ x, e = .returned (.tuple #[.agg #[.bool (getB l k), x], .int .i64 (getE l k)]) ∧ SliceIs w' x (getV l k) ∧ w.grownBy w' none
end Go.Proofs.Ytdpoickggdgddac
