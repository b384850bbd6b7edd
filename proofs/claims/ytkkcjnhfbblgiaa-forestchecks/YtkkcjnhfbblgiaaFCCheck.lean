/-
  What forest.Check must keep.
-/
import Derived.Test.YtkkcjnhfbblgiaaTenMem
namespace Go.Proofs.Ytkkcjnhfbblgiaa
/-- forest.Check keeps P5.2. -/
def FCheckOK : Prop := ∀ (w : World) (v : Value) (l : FL), TensIs w v l → FitsT l → Calls Try.prog 11 #[v] w fun e w' => e = .returned (.int .i64 (forestE l)) ∧ w.grownBy w' none
end Go.Proofs.Ytkkcjnhfbblgiaa
