/-
  No cell of these rows narrows 'for every input' (looked for: loops, veiled, ifaces, maps, wideKeys, modest, calm, conditions, laid).
  DERIVED. THE GIVEN ROWS OF THIS SEAT. 5 by the template 'for every input the law returns true; each argument reads behind the call as it read before'; 0 by the template 'total and deterministic' (their statements: YtdpoickggdgddabTotals.lean).
  GIVEN WITH THE SEED: the statements are not yours to turn. If you find one false, say at which input.
  Laid BY PROGRAM, IN A SANDBOX (cutbox-rows.mjs): the forced cells as the released guide's own fill.sh prints them over the translation 7f73f7fa4a8d785a… (all of the seat's roots in one cut). By AI agents, Wed Nov 11 2026. No macro, syntax, notation, axiom, sorry.
-/
import Derived.Test.YtdpoickggdgddabChecked
import GoSem.Claim
import GoSem.ClaimJoined
import GoSem.ClaimMapViews
import Derived.JoinedTies
import Derived.KernelRfl
namespace Go.Proofs.Ytdpoickggdgddab
/- THE CELL 'sum', in the pinned program and in every row, IS THE sha256 OF THE DUMP (.gsa) THAT YtdpoickggdgddabProg.lean LOADS. Nothing in Lean hashes anything: it is a label: what it is worth is what the hold of that sum in a sandbox is worth. -/
noncomputable def Try.pinned : Pinned := { name := "ytdpoickggdgddab", sum := "7f73f7fa4a8d785a087c41f664cfba5b1aba49cf99459b41458c612c694d83f3", checked := Try.checked }
namespace Rows
def none {H : Type} : Left H := { results := [], args := [] }

/-- 'canopykeep.PutGet': WHATEVER THE INPUT: true; the input reads as it did. -/
def putGetSpec : ChangeSpec := { name := "putGet", fn := fun _ => fun
  | [d1, d2, d3, d4] => { results := [.lit (.bool true)], args := [d1, d2, d3, d4] }
  | _ => none }
def putGetRow : OpenClaim := { program := "ytdpoickggdgddab", sum := "7f73f7fa4a8d785a087c41f664cfba5b1aba49cf99459b41458c612c694d83f3", func := "canopy/canopykeep.PutGet", spec := "putGet", inPlace := ["internal/bytealg.Compare"], unfollowed := true, recurses := true, apart := false }
def PutGetSaid : Prop := putGetRow.holds Try.pinned (OpenSpec.ofChange putGetSpec)

/-- ITS FALSE NEIGHBOUR: 'it returns false'. Refute it at one input. -/
def putGetWrong : ChangeSpec := { name := "putGet", fn := fun _ => fun
  | [d1, d2, d3, d4] => { results := [.lit (.bool false)], args := [d1, d2, d3, d4] }
  | _ => none }
def PutGetWrongFalsely : Prop := putGetRow.holds Try.pinned (OpenSpec.ofChange putGetWrong)

/-- 'canopykeep.PutTurns': WHATEVER THE INPUT: true; the input reads as it did. -/
def putTurnsSpec : ChangeSpec := { name := "putTurns", fn := fun _ => fun
  | [d1, d2, d3] => { results := [.lit (.bool true)], args := [d1, d2, d3] }
  | _ => none }
def putTurnsRow : OpenClaim := { program := "ytdpoickggdgddab", sum := "7f73f7fa4a8d785a087c41f664cfba5b1aba49cf99459b41458c612c694d83f3", func := "canopy/canopykeep.PutTurns", spec := "putTurns", inPlace := ["internal/bytealg.Compare"], unfollowed := true, recurses := true, apart := false }
def PutTurnsSaid : Prop := putTurnsRow.holds Try.pinned (OpenSpec.ofChange putTurnsSpec)

/-- ITS FALSE NEIGHBOUR: 'it returns false'. Refute it at one input. -/
def putTurnsWrong : ChangeSpec := { name := "putTurns", fn := fun _ => fun
  | [d1, d2, d3] => { results := [.lit (.bool false)], args := [d1, d2, d3] }
  | _ => none }
def PutTurnsWrongFalsely : Prop := putTurnsRow.holds Try.pinned (OpenSpec.ofChange putTurnsWrong)

/-- 'canopykeep.DeleteGone': WHATEVER THE INPUT: true; the input reads as it did. -/
def deleteGoneSpec : ChangeSpec := { name := "deleteGone", fn := fun _ => fun
  | [d1, d2, d3] => { results := [.lit (.bool true)], args := [d1, d2, d3] }
  | _ => none }
def deleteGoneRow : OpenClaim := { program := "ytdpoickggdgddab", sum := "7f73f7fa4a8d785a087c41f664cfba5b1aba49cf99459b41458c612c694d83f3", func := "canopy/canopykeep.DeleteGone", spec := "deleteGone", inPlace := ["internal/bytealg.Compare"], unfollowed := true, recurses := true, apart := false }
def DeleteGoneSaid : Prop := deleteGoneRow.holds Try.pinned (OpenSpec.ofChange deleteGoneSpec)

/-- ITS FALSE NEIGHBOUR: 'it returns false'. Refute it at one input. -/
def deleteGoneWrong : ChangeSpec := { name := "deleteGone", fn := fun _ => fun
  | [d1, d2, d3] => { results := [.lit (.bool false)], args := [d1, d2, d3] }
  | _ => none }
def DeleteGoneWrongFalsely : Prop := deleteGoneRow.holds Try.pinned (OpenSpec.ofChange deleteGoneWrong)

/-- 'canopykeep.RangeAll': WHATEVER THE INPUT: true; the input reads as it did. -/
def rangeAllSpec : ChangeSpec := { name := "rangeAll", fn := fun _ => fun
  | [d1, d2, d3] => { results := [.lit (.bool true)], args := [d1, d2, d3] }
  | _ => none }
def rangeAllRow : OpenClaim := { program := "ytdpoickggdgddab", sum := "7f73f7fa4a8d785a087c41f664cfba5b1aba49cf99459b41458c612c694d83f3", func := "canopy/canopykeep.RangeAll", spec := "rangeAll", inPlace := ["internal/bytealg.Compare"], unfollowed := true, recurses := true, apart := false }
def RangeAllSaid : Prop := rangeAllRow.holds Try.pinned (OpenSpec.ofChange rangeAllSpec)

/-- ITS FALSE NEIGHBOUR: 'it returns false'. Refute it at one input. -/
def rangeAllWrong : ChangeSpec := { name := "rangeAll", fn := fun _ => fun
  | [d1, d2, d3] => { results := [.lit (.bool false)], args := [d1, d2, d3] }
  | _ => none }
def RangeAllWrongFalsely : Prop := rangeAllRow.holds Try.pinned (OpenSpec.ofChange rangeAllWrong)

/-- 'canopykeep.RangeParts': WHATEVER THE INPUT: true; the input reads as it did. -/
def rangePartsSpec : ChangeSpec := { name := "rangeParts", fn := fun _ => fun
  | [d1, d2, d3, d4] => { results := [.lit (.bool true)], args := [d1, d2, d3, d4] }
  | _ => none }
def rangePartsRow : OpenClaim := { program := "ytdpoickggdgddab", sum := "7f73f7fa4a8d785a087c41f664cfba5b1aba49cf99459b41458c612c694d83f3", func := "canopy/canopykeep.RangeParts", spec := "rangeParts", inPlace := ["internal/bytealg.Compare"], unfollowed := true, recurses := true, apart := false }
def RangePartsSaid : Prop := rangePartsRow.holds Try.pinned (OpenSpec.ofChange rangePartsSpec)

/-- ITS FALSE NEIGHBOUR: 'it returns false'. Refute it at one input. -/
def rangePartsWrong : ChangeSpec := { name := "rangeParts", fn := fun _ => fun
  | [d1, d2, d3, d4] => { results := [.lit (.bool false)], args := [d1, d2, d3, d4] }
  | _ => none }
def RangePartsWrongFalsely : Prop := rangePartsRow.holds Try.pinned (OpenSpec.ofChange rangePartsWrong)

/- THE SECOND FORM. 'bulk': how many values and letters a reading holds, each counted each time it is reached (what is shared counts as often as it is met; a slice's spare places count too). A statement '..UptoSaid' is the law's where the arguments, and the package variables that the reading takes, are together of bulk at most 1048576: NARROWER than '..Said'. Prove '..Said' where nothing that the law and all that it calls make is longer than what came in: it says more and counts as full. Else prove '..UptoSaid'. A law counts once. -/
mutual
def uptoBulk {H : Type} : DataW H → Nat
  | .lit (.string bytes) => bytes.length + 1
  | .lit _ => 1
  | .nil => 1
  | .ptr d => uptoBulk d + 1
  | .slice elems spare => uptoBulkAll elems + uptoBulkAll spare + 1
  | .agg parts => uptoBulkAll parts + 1
  | .iface _ d => uptoBulk d + 1
  | .map entries => uptoBulkEntries entries + 1
  | .held _ => 1
def uptoBulkAll {H : Type} : List (DataW H) → Nat
  | [] => 0
  | d :: r => uptoBulk d + uptoBulkAll r
def uptoBulkEntries {H : Type} : List (Lit × DataW H) → Nat
  | [] => 0
  | x :: r => uptoBulkEntry x + uptoBulkEntries r
def uptoBulkEntry {H : Type} : Lit × DataW H → Nat
  | (.string bytes, d) => bytes.length + uptoBulk d + 1
  | (_, d) => uptoBulk d + 1
 end
def uptoSmall : (H : Type) → List (DataW H) → Bool := fun _ ds => decide (uptoBulkAll ds ≤ 1048576)
def OpenSpec.upto (s : _root_.Go.ChangeSpec) : _root_.Go.OpenSpec := { _root_.Go.OpenSpec.ofChange s with cond := some uptoSmall }

/-- 'canopykeep.PutGet', WHERE WHAT IT READS IS OF BULK AT MOST 1048576: true; the input reads as it did. -/
def putGetUptoRow : OpenClaim := { program := "ytdpoickggdgddab", sum := "7f73f7fa4a8d785a087c41f664cfba5b1aba49cf99459b41458c612c694d83f3", func := "canopy/canopykeep.PutGet", spec := "putGet", inPlace := ["internal/bytealg.Compare"], unfollowed := true, recurses := true, apart := false, narrowed := true }
def PutGetUptoSaid : Prop := putGetUptoRow.holds Try.pinned (OpenSpec.upto putGetSpec)

/-- 'canopykeep.PutTurns', WHERE WHAT IT READS IS OF BULK AT MOST 1048576: true; the input reads as it did. -/
def putTurnsUptoRow : OpenClaim := { program := "ytdpoickggdgddab", sum := "7f73f7fa4a8d785a087c41f664cfba5b1aba49cf99459b41458c612c694d83f3", func := "canopy/canopykeep.PutTurns", spec := "putTurns", inPlace := ["internal/bytealg.Compare"], unfollowed := true, recurses := true, apart := false, narrowed := true }
def PutTurnsUptoSaid : Prop := putTurnsUptoRow.holds Try.pinned (OpenSpec.upto putTurnsSpec)

/-- 'canopykeep.DeleteGone', WHERE WHAT IT READS IS OF BULK AT MOST 1048576: true; the input reads as it did. -/
def deleteGoneUptoRow : OpenClaim := { program := "ytdpoickggdgddab", sum := "7f73f7fa4a8d785a087c41f664cfba5b1aba49cf99459b41458c612c694d83f3", func := "canopy/canopykeep.DeleteGone", spec := "deleteGone", inPlace := ["internal/bytealg.Compare"], unfollowed := true, recurses := true, apart := false, narrowed := true }
def DeleteGoneUptoSaid : Prop := deleteGoneUptoRow.holds Try.pinned (OpenSpec.upto deleteGoneSpec)

/-- 'canopykeep.RangeAll', WHERE WHAT IT READS IS OF BULK AT MOST 1048576: true; the input reads as it did. -/
def rangeAllUptoRow : OpenClaim := { program := "ytdpoickggdgddab", sum := "7f73f7fa4a8d785a087c41f664cfba5b1aba49cf99459b41458c612c694d83f3", func := "canopy/canopykeep.RangeAll", spec := "rangeAll", inPlace := ["internal/bytealg.Compare"], unfollowed := true, recurses := true, apart := false, narrowed := true }
def RangeAllUptoSaid : Prop := rangeAllUptoRow.holds Try.pinned (OpenSpec.upto rangeAllSpec)

/-- 'canopykeep.RangeParts', WHERE WHAT IT READS IS OF BULK AT MOST 1048576: true; the input reads as it did. -/
def rangePartsUptoRow : OpenClaim := { program := "ytdpoickggdgddab", sum := "7f73f7fa4a8d785a087c41f664cfba5b1aba49cf99459b41458c612c694d83f3", func := "canopy/canopykeep.RangeParts", spec := "rangeParts", inPlace := ["internal/bytealg.Compare"], unfollowed := true, recurses := true, apart := false, narrowed := true }
def RangePartsUptoSaid : Prop := rangePartsUptoRow.holds Try.pinned (OpenSpec.upto rangePartsSpec)

end Rows
end Go.Proofs.Ytdpoickggdgddab
