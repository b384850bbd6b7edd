/-
  What P6.5 and P6.8 answer, with no program. D: the four bytes that stand behind a commit's.
-/
import Derived.Test.YtljdconhplgipabTapeA
import Derived.Test.YtljdconhplgipabTapeG
namespace Go.Proofs.Ytljdconhplgipab
open Go.RowKit
def appE (D : List UInt8 → List UInt8) (t : Tap) (c : Cmt) : Int := if mayT t = true then (if commitE c = 0 then (if 200000 < t.data.length + (frameB D c).length then 11 else 0) else commitE c) else 6
def appT (D : List UInt8 → List UInt8) (t : Tap) (c : Cmt) : Tap := if appE D t c = 0 then ⟨t.data ++ frameB D c, t.synced⟩ else noTap
def recE (t : Tap) : Int := if mayT t = true then 0 else 6
def recC (D : List UInt8 → List UInt8) (t : Tap) : List Cmt := if mayT t = true then (recL D 1 t.data).1 else []
def recT (D : List UInt8 → List UInt8) (t : Tap) : Tap := if mayT t = true then ⟨t.data.take (recN D t.data), if t.synced > (recN D t.data : Int) then (recN D t.data : Int) else t.synced⟩ else noTap
end Go.Proofs.Ytljdconhplgipab
