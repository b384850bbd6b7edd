/-
  Data have a member.
-/
import Derived.Test.YtkheombfjgjedaaDoorFrameP
namespace Go.Proofs.YtkheombfjgjedaaDoor
open Go.ChangeShapes Go.WideShapes Go.ChangeAt Go.RowKit Go.Deep Go.Joins
instance {H : Type} : Inhabited (DataW H) := ⟨.nil⟩
end Go.Proofs.YtkheombfjgjedaaDoor
