/-
  What path.Check must keep.
-/
import Derived.Test.YtghjikifflpeiabDoorBase
import Derived.Test.YtghjikifflpeiabDoorKeys
namespace Go.Proofs.YtghjikifflpeiabDoor
open Go.RowKit
/-- path.Check keeps P2.1. -/
def CheckOK : Prop := ∀ (w : World) (a : Option Addr) (n cap : Nat), Calls Tryd.prog 24 #[.slice a n cap] w fun e w' => e = .returned (.int .i64 (keyFaultF n)) ∧ w.grownBy w' none
end Go.Proofs.YtghjikifflpeiabDoor
