/-
  What lines.Check must keep: P10.1.
-/
import Derived.Test.YtpefggkhjocanabAcM0
namespace Go.Proofs.Ytpefggkhjocanab
open Go.RowKit
def LnCheckOK : Prop := ∀ (w : World) (v : Value) (a : Ac), AcIs w v a → AcFits a → Calls Try.prog 5 #[v] w fun e w' => e = .returned (.int .i64 (actE a)) ∧ w.grownBy w' none
end Go.Proofs.Ytpefggkhjocanab
