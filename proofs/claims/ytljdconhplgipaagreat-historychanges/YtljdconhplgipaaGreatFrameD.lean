/-
  Data have a member.
-/
import Derived.Test.YtljdconhplgipaaGreatFrameP
namespace Go.Proofs.YtljdconhplgipaaGreat
open Go.ChangeShapes Go.WideShapes Go.ChangeAt Go.RowKit Go.Deep Go.Joins
instance {H : Type} : Inhabited (DataW H) := ⟨.nil⟩
end Go.Proofs.YtljdconhplgipaaGreat
