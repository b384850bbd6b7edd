/-
  What tree.Put must keep.
-/
import Derived.Test.YtdpoickggdgddacPairMem
import Derived.Test.YtdpoickggdgddacFitsF
namespace Go.Proofs.Ytdpoickggdgddac
open Go.RowKit
/-- tree.Put keeps P3.3. -/
def TPutOK : Prop := ∀ (w : World) (v u : Value) (l : PL) (p : Pr), PairsIs w v l → PairIs w u p → Fits l → p.1.length ≤ 140737488355328 → p.2.length ≤ 140737488355328 → Calls Try.prog 6 #[v, u] w fun e w' => ∃ x, e = .returned (.tuple #[x, .int .i64 (putE l p)]) ∧ PairsIs w' x (putF l p) ∧ w.grownBy w' none
end Go.Proofs.Ytdpoickggdgddac
