/-
  What lines.Check must keep: P10.1.
-/
import Derived.Test.YtpefggkhjocanaaDoorAcM0
namespace Go.Proofs.YtpefggkhjocanaaDoor
open Go.RowKit
def LnCheckOK : Prop := ∀ (w : World) (v : Value) (a : Ac), AcIs w v a → AcFits a → Calls Tryd.prog 18 #[v] w fun e w' => e = .returned (.int .i64 (actE a)) ∧ w.grownBy w' none
end Go.Proofs.YtpefggkhjocanaaDoor
