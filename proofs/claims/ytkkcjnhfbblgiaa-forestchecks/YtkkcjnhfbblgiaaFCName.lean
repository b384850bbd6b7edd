/-
  What forest.Name must keep.
-/
import Derived.Test.YtkkcjnhfbblgiaaBase
import Derived.Test.YtkkcjnhfbblgiaaForestF
namespace Go.Proofs.Ytkkcjnhfbblgiaa
/-- forest.Name keeps P5.1. -/
def FNameOK : Prop := ∀ (w : World) (a : Option Addr) (n cap : Nat), Calls Try.prog 8 #[.slice a n cap] w fun e w' => e = .returned (.int .i64 (nameFaultF n)) ∧ w.grownBy w' none
end Go.Proofs.Ytkkcjnhfbblgiaa
