/-
  What tape.Crash must keep.
-/
import Derived.Test.YtkheombfjgjedaaCmtMem
import Derived.Test.YtkheombfjgjedaaTapeA
namespace Go.Proofs.Ytkheombfjgjedaa
open Go.RowKit
def TpCrashOK : Prop := ∀ (w : World) (v : Value) (t : Tap) (keep : Int), TapeIs w v t → FitsTp t → -9223372036854775808 ≤ keep → keep ≤ 9223372036854775807 → Calls Try.prog 22 #[v, .int .i64 keep] w fun e w' => ∃ x, e = .returned (.tuple #[x, .int .i64 (crashE t keep)]) ∧ TapeIs w' x (crashT t keep) ∧ w.grownBy w' none
end Go.Proofs.Ytkheombfjgjedaa
