/-
  What wire.Encode must keep: P9.3.
-/
import Derived.Test.YtghjikifflpeiaaDoorRqBox
namespace Go.Proofs.YtghjikifflpeiaaDoor
open Go.RowKit
def rencB (r : Rq) : List UInt8 := if reqE r = 0 then reqB r else []
def RqEncOK : Prop := ∀ (w : World) (v : Value) (r : Rq), PrtT w → RqIs w v r → RqFits r → Calls Tryd.prog 12 #[v] w fun e w' => ∃ x, e = .returned (.tuple #[x, .int .i64 (reqE r)]) ∧ SliceIs w' x (rencB r) ∧ w.grownBy w' none
end Go.Proofs.YtghjikifflpeiaaDoor
