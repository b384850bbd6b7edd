/-
  What proof.Check must keep.
-/
import Derived.Test.YtedmhejnbapklaaStepMem
import Derived.Test.YtedmhejnbapklaaFitsF
namespace Go.Proofs.Ytedmhejnbapklaa
open Go.RowKit
/-- proof.Check keeps P4.2. -/
def PCheckOK : Prop := ∀ (w : World) (u v : Value) (k : List UInt8) (p : Prf), SliceIs w u k → ProofIs w v p → PrfFits p → Calls Try.prog 5 #[u, v] w fun e w' => e = .returned (.int .i64 (proofE k p)) ∧ w.grownBy w' none
end Go.Proofs.Ytedmhejnbapklaa
