/-
  What wire.Write must keep: P9.6.
-/
import Derived.Test.YtghjikifflpeiaaDoorRqBox
import Derived.Test.YtghjikifflpeiaaDoorWireG
import Derived.Test.YtghjikifflpeiaaDoorWrM0
import Derived.Deep.RegionHeld3
import Derived.Deep.RegionWith
import Derived.Handy
namespace Go.Proofs.YtghjikifflpeiaaDoor
open Go.RowKit
def RqWriteOK : Prop := ∀ (w : World) (v : Value) (r : Rq), PrtT w → RqIs w v r → RqFits r → Calls Tryd.prog 22 #[v] w fun e w' => ∃ x, e = .returned (.tuple #[x, .int .i64 (rwriteE r)]) ∧ WriteIs w' x (rwriteW r) ∧ w.grownBy w' none
end Go.Proofs.YtghjikifflpeiaaDoor
