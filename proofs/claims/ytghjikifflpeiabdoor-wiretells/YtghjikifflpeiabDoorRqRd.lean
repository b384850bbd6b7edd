/-
  What wire.Read must keep: P9.5.
-/
import Derived.Test.YtghjikifflpeiabDoorRqBox
import Derived.Test.YtghjikifflpeiabDoorWireG
import Derived.Test.YtghjikifflpeiabDoorRdM0
import Derived.Deep.RegionHeld3
import Derived.Deep.RegionWith
import Derived.Handy
namespace Go.Proofs.YtghjikifflpeiabDoor
open Go.RowKit
def RqReadOK : Prop := ∀ (w : World) (v : Value) (r : Rq), PrtT w → RqIs w v r → RqFits r → Calls Tryd.prog 12 #[v] w fun e w' => ∃ x, e = .returned (.tuple #[x, .int .i64 (rreadE r)]) ∧ ReadIs w' x (rreadR r) ∧ w.grownBy w' none
end Go.Proofs.YtghjikifflpeiabDoor
