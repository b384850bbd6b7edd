/-
  What history.Kept must keep.
-/
import Derived.Test.YtljdconhplgipabCmtRow
import Derived.Test.YtljdconhplgipabTenMem
import Derived.Test.YtljdconhplgipabHistF
namespace Go.Proofs.Ytljdconhplgipab
open Go.RowKit
def HsKeptOK : Prop := ∀ (w : World) (n t : Int), -9223372036854775808 ≤ n → n ≤ 9223372036854775807 → -9223372036854775808 ≤ t → t ≤ 9223372036854775807 → Calls Try.prog 14 #[.int .i64 n, .int .i64 t] w fun e w' => e = .returned (.bool (keptF n t)) ∧ w.grownBy w' none
end Go.Proofs.Ytljdconhplgipab
