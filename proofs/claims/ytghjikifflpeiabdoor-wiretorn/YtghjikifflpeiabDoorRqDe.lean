/-
  What wire.Decode must keep: P9.4.
-/
import Derived.Test.YtghjikifflpeiabDoorRqBox
namespace Go.Proofs.YtghjikifflpeiabDoor
open Go.RowKit
def RqDecOK : Prop := ∀ (w : World) (v : Value) (b : List UInt8), PrtT w → SliceIs w v b → b.length ≤ 140737488355328 → Calls Tryd.prog 7 #[v] w fun e w' => ∃ x, e = .returned (.tuple #[x, .int .i64 (wdecE b)]) ∧ RqIs w' x (wdecR b) ∧ w.grownBy w' none
end Go.Proofs.YtghjikifflpeiabDoor
