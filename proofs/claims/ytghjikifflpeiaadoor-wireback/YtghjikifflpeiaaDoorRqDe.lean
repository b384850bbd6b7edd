/-
  What wire.Decode must keep: P9.4.
-/
import Derived.Test.YtghjikifflpeiaaDoorRqBox
namespace Go.Proofs.YtghjikifflpeiaaDoor
open Go.RowKit
def RqDecOK : Prop := ∀ (w : World) (v : Value) (b : List UInt8), PrtT w → SliceIs w v b → b.length ≤ 140737488355328 → Calls Tryd.prog 15 #[v] w fun e w' => ∃ x, e = .returned (.tuple #[x, .int .i64 (wdecE b)]) ∧ RqIs w' x (wdecR b) ∧ w.grownBy w' none
end Go.Proofs.YtghjikifflpeiaaDoor
