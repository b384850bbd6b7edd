/-
  What tape.Sync must keep.
-/
import Derived.Test.YtkheombfjgjedaaCmtMem
import Derived.Test.YtkheombfjgjedaaTapeA
namespace Go.Proofs.Ytkheombfjgjedaa
open Go.RowKit
def TpSyncOK : Prop := ∀ (w : World) (v : Value) (t : Tap), TapeIs w v t → FitsTp t → Calls Try.prog 19 #[v] w fun e w' => ∃ x, e = .returned (.tuple #[x, .int .i64 (syncE t)]) ∧ TapeIs w' x (syncT t) ∧ w.grownBy w' none
end Go.Proofs.Ytkheombfjgjedaa
