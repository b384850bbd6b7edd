/-
  Data have a member.
-/
import Derived.Test.YtpmfbfflacbmjaaFrameP
namespace Go.Proofs.Ytpmfbfflacbmjaa
open Go.ChangeShapes Go.WideShapes Go.ChangeAt Go.RowKit Go.Deep Go.Joins
instance {H : Type} : Inhabited (DataW H) := ⟨.nil⟩
end Go.Proofs.Ytpmfbfflacbmjaa
