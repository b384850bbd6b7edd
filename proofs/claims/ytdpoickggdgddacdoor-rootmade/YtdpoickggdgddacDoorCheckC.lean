/-
  What path.Check must keep.
-/
import Derived.Test.YtdpoickggdgddacDoorBase
import Derived.Test.YtdpoickggdgddacDoorKeys
namespace Go.Proofs.YtdpoickggdgddacDoor
open Go.RowKit
/-- path.Check keeps P2.1. -/
def CheckOK : Prop := ∀ (w : World) (a : Option Addr) (n cap : Nat), Calls Tryd.prog 16 #[.slice a n cap] w fun e w' => e = .returned (.int .i64 (keyFaultF n)) ∧ w.grownBy w' none
end Go.Proofs.YtdpoickggdgddacDoor
