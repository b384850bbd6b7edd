/-
  What tree.Check must keep.
-/
import Derived.Test.YtkkcjnhfbblgiaaPairMem
import Derived.Test.YtkkcjnhfbblgiaaFitsF
namespace Go.Proofs.Ytkkcjnhfbblgiaa
open Go.RowKit
/-- tree.Check keeps P3.1. -/
def TCheckOK : Prop := ∀ (w : World) (v : Value) (l : PL), PairsIs w v l → Fits l → Calls Try.prog 45 #[v] w fun e w' => e = .returned (.int .i64 (pairsFaultF l)) ∧ w.grownBy w' none
end Go.Proofs.Ytkkcjnhfbblgiaa
