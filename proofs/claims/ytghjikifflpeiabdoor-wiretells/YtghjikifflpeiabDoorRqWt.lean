/-
  What wire.Write must keep: P9.6.
-/
import Derived.Test.YtghjikifflpeiabDoorRqBox
import Derived.Test.YtghjikifflpeiabDoorWireG
import Derived.Test.YtghjikifflpeiabDoorWrM0
import Derived.Deep.RegionHeld3
import Derived.Deep.RegionWith
import Derived.Handy
namespace Go.Proofs.YtghjikifflpeiabDoor
open Go.RowKit
def RqWriteOK : Prop := ∀ (w : World) (v : Value) (r : Rq), PrtT w → RqIs w v r → RqFits r → Calls Tryd.prog 13 #[v] w fun e w' => ∃ x, e = .returned (.tuple #[x, .int .i64 (rwriteE r)]) ∧ WriteIs w' x (rwriteW r) ∧ w.grownBy w' none
end Go.Proofs.YtghjikifflpeiabDoor
