/-
  What tree.Range must keep.
-/
import Derived.Test.YtdpoickggdgddabPairMem
import Derived.Test.YtdpoickggdgddabFitsF
namespace Go.Proofs.Ytdpoickggdgddab
open Go.RowKit
/-- tree.Range keeps P3.5. -/
def TRangeOK : Prop := ∀ (w : World) (v u x : Value) (l : PL) (f t : List UInt8), PairsIs w v l → SliceIs w u f → SliceIs w x t → Fits l → f.length ≤ 140737488355328 → t.length ≤ 140737488355328 → Calls Try.prog 17 #[v, u, x] w fun e w' => ∃ y, e = .returned (.tuple #[y, .int .i64 (rangeE l f t)]) ∧ PairsIs w' y (rangeF l f t) ∧ w.grownBy w' none
end Go.Proofs.Ytdpoickggdgddab
