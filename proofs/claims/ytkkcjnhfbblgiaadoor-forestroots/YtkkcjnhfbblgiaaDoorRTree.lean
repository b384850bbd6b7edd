/-
  The walks of the document's answer to P3: before, sameBytes, pairFault, PairsFault, pairsAndKey.
-/
import Derived.Test.YtkkcjnhfbblgiaaDoorRPairF
import Derived.Test.YtkkcjnhfbblgiaaDoorPairMem
import Derived.Test.YtkkcjnhfbblgiaaDoorPart7
namespace Go.Proofs.YtkkcjnhfbblgiaaDoor
open Go.RowKit
theorem before_any (w : World) (v1 v2 : Value) (b1 b2 : List UInt8) (h1 : SliceIs w v1 b1) (h2 : SliceIs w v2 b2) :
    Calls Tryd.prog 25 #[v1, v2] w fun e w' => e = .returned (.bool (klt b1 b2)) ∧ w' = w := by
  have c1 := conv_bytes w v1 b1 h1
  have c2 := conv_bytes w v2 b2 h2
  go_enter Tryd.func25, Tryd.ntmps25
  go_wp2
  go_ret
  refine ⟨?_, rfl⟩
  have e : Op.bytesLess (textOf b1).toList (textOf b2).toList = klt b1 b2 := by rw [textOf_list, textOf_list]
  rw [← e]
  rfl
end Go.Proofs.YtkkcjnhfbblgiaaDoor
