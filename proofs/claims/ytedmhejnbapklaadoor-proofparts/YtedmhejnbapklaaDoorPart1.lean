/-
  Texts of this proof, joined: Mem, Own.
-/
import Derived.Test.YtedmhejnbapklaaDoorTake
import Derived.Test.YtedmhejnbapklaaDoorBase
/-
  Bytes in memory: rows of the call's own, slices as they are handed over, make and copy.
-/
namespace Go.Proofs.YtedmhejnbapklaaDoor
open Go.RowKit
section
variable {w : World} {b : Nat} {bs : List UInt8}
end

end Go.Proofs.YtedmhejnbapklaaDoor

/-
  Slices of bytes that the call itself has made: what append leaves; a prefix of a slice.
-/
namespace Go.Proofs.YtedmhejnbapklaaDoor
open Go.RowKit

end Go.Proofs.YtedmhejnbapklaaDoor
