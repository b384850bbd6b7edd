/-
  What forest.Name must keep.
-/
import Derived.Test.YtghjikifflpeiabDoorBase
import Derived.Test.YtghjikifflpeiabDoorForestF
namespace Go.Proofs.YtghjikifflpeiabDoor
/-- forest.Name keeps P5.1. -/
def FNameOK : Prop := ∀ (w : World) (a : Option Addr) (n cap : Nat), Calls Tryd.prog 23 #[.slice a n cap] w fun e w' => e = .returned (.int .i64 (nameFaultF n)) ∧ w.grownBy w' none
end Go.Proofs.YtghjikifflpeiabDoor
