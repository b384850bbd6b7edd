/-
  What lines.Read must keep: P10.4.
-/
import Derived.Test.YtpefggkhjocanaaDoorAcMem
import Derived.Test.YtpefggkhjocanaaDoorLineG
import Derived.Test.YtpefggkhjocanaaDoorStrM
import Derived.Test.YtpefggkhjocanaaDoorLnTab
namespace Go.Proofs.YtpefggkhjocanaaDoor
open Go.RowKit
def LnReadOK : Prop := ∀ (w : World) (s : ByteArray), LnT w → Calls Tryd.prog 12 #[.string s] w fun e w' => ∃ x, e = .returned (.tuple #[x, .int .i64 (readI (tl s) : Int), .int .i64 (readE (tl s))]) ∧ ActsIs w' x (readL (tl s)) ∧ w.grownBy w' none
end Go.Proofs.YtpefggkhjocanaaDoor
