/-
  What lines.Show must keep: P10.3.
-/
import Derived.Test.YtpefggkhjocanaaDoorAcMem
import Derived.Test.YtpefggkhjocanaaDoorLineG
import Derived.Test.YtpefggkhjocanaaDoorLnTab
namespace Go.Proofs.YtpefggkhjocanaaDoor
open Go.RowKit
def LnShowOK : Prop := ∀ (w : World) (v : Value) (l : List Ac), WrdT w → ActsIs w v l → FitsA l → Calls Tryd.prog 9 #[v] w fun e w' => e = .returned (.tuple #[.string (textOf (showT l)), .int .i64 (showI l : Int), .int .i64 (showE l)]) ∧ w.grownBy w' none
end Go.Proofs.YtpefggkhjocanaaDoor
