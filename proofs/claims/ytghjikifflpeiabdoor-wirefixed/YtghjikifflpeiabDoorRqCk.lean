/-
  What wire.Check must keep: P9.2.
-/
import Derived.Test.YtghjikifflpeiabDoorRqBox
namespace Go.Proofs.YtghjikifflpeiabDoor
open Go.RowKit
def RqCheckOK : Prop := ∀ (w : World) (v : Value) (r : Rq), PrtT w → RqIs w v r → RqFits r → Calls Tryd.prog 14 #[v] w fun e w' => e = .returned (.int .i64 (reqE r)) ∧ w.grownBy w' none
end Go.Proofs.YtghjikifflpeiabDoor
