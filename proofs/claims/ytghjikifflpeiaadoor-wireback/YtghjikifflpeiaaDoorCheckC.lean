/-
  What path.Check must keep.
-/
import Derived.Test.YtghjikifflpeiaaDoorBase
import Derived.Test.YtghjikifflpeiaaDoorKeys
namespace Go.Proofs.YtghjikifflpeiaaDoor
open Go.RowKit
/-- path.Check keeps P2.1. -/
def CheckOK : Prop := ∀ (w : World) (a : Option Addr) (n cap : Nat), Calls Tryd.prog 30 #[.slice a n cap] w fun e w' => e = .returned (.int .i64 (keyFaultF n)) ∧ w.grownBy w' none
end Go.Proofs.YtghjikifflpeiaaDoor
