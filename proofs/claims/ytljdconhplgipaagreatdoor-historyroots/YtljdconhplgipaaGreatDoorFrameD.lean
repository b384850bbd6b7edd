/-
  Data have a member.
-/
import Derived.Test.YtljdconhplgipaaGreatDoorFrameP
namespace Go.Proofs.YtljdconhplgipaaGreatDoor
open Go.ChangeShapes Go.WideShapes Go.ChangeAt Go.RowKit Go.Deep Go.Joins
instance {H : Type} : Inhabited (DataW H) := ⟨.nil⟩
end Go.Proofs.YtljdconhplgipaaGreatDoor
