/-
  What path.Check must keep.
-/
import Derived.Test.YtkkcjnhfbblgiaaBase
import Derived.Test.YtkkcjnhfbblgiaaKeys
namespace Go.Proofs.Ytkkcjnhfbblgiaa
open Go.RowKit
/-- path.Check keeps P2.1. -/
def CheckOK : Prop := ∀ (w : World) (a : Option Addr) (n cap : Nat), Calls Try.prog 57 #[.slice a n cap] w fun e w' => e = .returned (.int .i64 (keyFaultF n)) ∧ w.grownBy w' none
end Go.Proofs.Ytkkcjnhfbblgiaa
