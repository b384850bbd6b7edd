/-
  The first four bytes of a digest.
-/
import Derived.Test.YtkheombfjgjedacDoorPart1
namespace Go.Proofs.YtkheombfjgjedacDoor
open Go.RowKit
/-- The first four bytes of the digest. -/
def fourF (x : List UInt8) : List UInt8 := (sumF x).take 4
theorem fourF_len (x : List UInt8) : (fourF x).length = 4 := by unfold fourF; rw [List.length_take, sumF_len]; rfl
end Go.Proofs.YtkheombfjgjedacDoor
