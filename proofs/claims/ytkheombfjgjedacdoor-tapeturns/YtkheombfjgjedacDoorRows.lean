/-
  NARROWER THAN 'FOR EVERY INPUT', by the rows' own cells (each row's printed sentence says how): TapeKeeps: laid · TapeTorn: laid · TapeOn: laid · TapeTurns: laid · TapeMany: laid.
  DERIVED. THE GIVEN ROWS OF THIS SEAT. 5 by the template 'for every input the law returns true; each argument reads behind the call as it read before'; 0 by the template 'total and deterministic' (their statements: YtkheombfjgjedacDoorTotals.lean).
  GIVEN WITH THE SEED: the statements are not yours to turn. If you find one false, say at which input.
  Laid BY PROGRAM, IN A SANDBOX (cutbox-rows.mjs): the forced cells as the released guide's own fill.sh prints them over the translation 7aa7a887229f0e6c… (all of the seat's roots in one cut). By AI agents, Wed Nov 11 2026. No macro, syntax, notation, axiom, sorry.
-/
import Derived.Test.YtkheombfjgjedacDoorChecked
import GoSem.Claim
import GoSem.ClaimJoined
import GoSem.ClaimMapViews
import Derived.JoinedTies
import Derived.KernelRfl
namespace Go.Proofs.YtkheombfjgjedacDoor
/- THE CELL 'sum', in the pinned program and in every row, IS THE sha256 OF THE DUMP (.gsa) THAT YtkheombfjgjedacDoorProg.lean LOADS. Nothing in Lean hashes anything: it is a label: what it is worth is what the hold of that sum in a sandbox is worth. -/
noncomputable def Tryd.pinned : Pinned := { name := "ytkheombfjgjedacdoor", sum := "7aa7a887229f0e6c3872ef04768fff1d1b9df124ba4fe5757ed8c8047b38bba3", checked := Tryd.checked }
namespace Rows
def none {H : Type} : Left H := { results := [], args := [] }

/- WHAT THE LISTED PACKAGE-LEVEL VARIABLES READ AS WHEN THE CALL BEGINS. Each datum BY PROGRAM (the guide's laid-datum.mjs) off the statement by which the dump's own 'gosem.cut.vars' lays the variable. In a bare row this is a premise. The card (YtkheombfjgjedacDoorCards.lean) ties it to the program's text. -/
def laid_canopy_digest_roundNumbers {H : Type} : DataW H := .agg [.lit (.int .u64 1), .lit (.int .u64 32898), .lit (.int .u64 9223372036854808714), .lit (.int .u64 9223372039002292224), .lit (.int .u64 32907), .lit (.int .u64 2147483649), .lit (.int .u64 9223372039002292353), .lit (.int .u64 9223372036854808585), .lit (.int .u64 138), .lit (.int .u64 136), .lit (.int .u64 2147516425), .lit (.int .u64 2147483658), .lit (.int .u64 2147516555), .lit (.int .u64 9223372036854775947), .lit (.int .u64 9223372036854808713), .lit (.int .u64 9223372036854808579), .lit (.int .u64 9223372036854808578), .lit (.int .u64 9223372036854775936), .lit (.int .u64 32778), .lit (.int .u64 9223372039002259466), .lit (.int .u64 9223372039002292353), .lit (.int .u64 9223372036854808704), .lit (.int .u64 2147483649), .lit (.int .u64 9223372039002292232)]
def laid_canopy_digest_laneWalk {H : Type} : DataW H := .agg [.lit (.int .i64 10), .lit (.int .i64 7), .lit (.int .i64 11), .lit (.int .i64 17), .lit (.int .i64 18), .lit (.int .i64 3), .lit (.int .i64 5), .lit (.int .i64 16), .lit (.int .i64 8), .lit (.int .i64 21), .lit (.int .i64 24), .lit (.int .i64 4), .lit (.int .i64 15), .lit (.int .i64 23), .lit (.int .i64 19), .lit (.int .i64 13), .lit (.int .i64 12), .lit (.int .i64 2), .lit (.int .i64 20), .lit (.int .i64 14), .lit (.int .i64 22), .lit (.int .i64 9), .lit (.int .i64 6), .lit (.int .i64 1)]
def laid_canopy_digest_laneTurns {H : Type} : DataW H := .agg [.lit (.int .i64 1), .lit (.int .i64 3), .lit (.int .i64 6), .lit (.int .i64 10), .lit (.int .i64 15), .lit (.int .i64 21), .lit (.int .i64 28), .lit (.int .i64 36), .lit (.int .i64 45), .lit (.int .i64 55), .lit (.int .i64 2), .lit (.int .i64 14), .lit (.int .i64 27), .lit (.int .i64 41), .lit (.int .i64 56), .lit (.int .i64 8), .lit (.int .i64 25), .lit (.int .i64 43), .lit (.int .i64 62), .lit (.int .i64 18), .lit (.int .i64 39), .lit (.int .i64 61), .lit (.int .i64 20), .lit (.int .i64 44)]

/-- 'canopykeep.TapeKeeps': WHATEVER THE INPUT: true; the input reads as it did. -/
def tapeKeepsSpec : ChangeSpec := { name := "tapeKeeps", fn := fun _ => fun
  | [d1, d2, d3] => { results := [.lit (.bool true)], args := [d1, d2, d3] }
  | _ => none }
def tapeKeepsRow : OpenClaim := { program := "ytkheombfjgjedacdoor", sum := "7aa7a887229f0e6c3872ef04768fff1d1b9df124ba4fe5757ed8c8047b38bba3", func := "canopy/canopykeep.TapeKeeps", spec := "tapeKeeps", inPlace := ["internal/bytealg.Compare", "slices.overlaps[canopy/api.Tenant]"], unfollowed := true, recurses := true, named := ["canopy/digest.roundNumbers", "canopy/digest.laneWalk", "canopy/digest.laneTurns"], apart := false, laid := [("canopy/digest.roundNumbers", laid_canopy_digest_roundNumbers), ("canopy/digest.laneWalk", laid_canopy_digest_laneWalk), ("canopy/digest.laneTurns", laid_canopy_digest_laneTurns)] }
def TapeKeepsSaid : Prop := tapeKeepsRow.holds Tryd.pinned (OpenSpec.ofChange tapeKeepsSpec)

/-- ITS FALSE NEIGHBOUR: 'it returns false'. Refute it at one input. -/
def tapeKeepsWrong : ChangeSpec := { name := "tapeKeeps", fn := fun _ => fun
  | [d1, d2, d3] => { results := [.lit (.bool false)], args := [d1, d2, d3] }
  | _ => none }
def TapeKeepsWrongFalsely : Prop := tapeKeepsRow.holds Tryd.pinned (OpenSpec.ofChange tapeKeepsWrong)

/-- 'canopykeep.TapeTorn': WHATEVER THE INPUT: true; the input reads as it did. -/
def tapeTornSpec : ChangeSpec := { name := "tapeTorn", fn := fun _ => fun
  | [d1, d2, d3] => { results := [.lit (.bool true)], args := [d1, d2, d3] }
  | _ => none }
def tapeTornRow : OpenClaim := { program := "ytkheombfjgjedacdoor", sum := "7aa7a887229f0e6c3872ef04768fff1d1b9df124ba4fe5757ed8c8047b38bba3", func := "canopy/canopykeep.TapeTorn", spec := "tapeTorn", inPlace := ["internal/bytealg.Compare", "slices.overlaps[canopy/api.Tenant]"], unfollowed := true, recurses := true, named := ["canopy/digest.roundNumbers", "canopy/digest.laneWalk", "canopy/digest.laneTurns"], apart := false, laid := [("canopy/digest.roundNumbers", laid_canopy_digest_roundNumbers), ("canopy/digest.laneWalk", laid_canopy_digest_laneWalk), ("canopy/digest.laneTurns", laid_canopy_digest_laneTurns)] }
def TapeTornSaid : Prop := tapeTornRow.holds Tryd.pinned (OpenSpec.ofChange tapeTornSpec)

/-- ITS FALSE NEIGHBOUR: 'it returns false'. Refute it at one input. -/
def tapeTornWrong : ChangeSpec := { name := "tapeTorn", fn := fun _ => fun
  | [d1, d2, d3] => { results := [.lit (.bool false)], args := [d1, d2, d3] }
  | _ => none }
def TapeTornWrongFalsely : Prop := tapeTornRow.holds Tryd.pinned (OpenSpec.ofChange tapeTornWrong)

/-- 'canopykeep.TapeOn': WHATEVER THE INPUT: true; the input reads as it did. -/
def tapeOnSpec : ChangeSpec := { name := "tapeOn", fn := fun _ => fun
  | [d1, d2, d3] => { results := [.lit (.bool true)], args := [d1, d2, d3] }
  | _ => none }
def tapeOnRow : OpenClaim := { program := "ytkheombfjgjedacdoor", sum := "7aa7a887229f0e6c3872ef04768fff1d1b9df124ba4fe5757ed8c8047b38bba3", func := "canopy/canopykeep.TapeOn", spec := "tapeOn", inPlace := ["internal/bytealg.Compare", "slices.overlaps[canopy/api.Tenant]"], unfollowed := true, recurses := true, named := ["canopy/digest.roundNumbers", "canopy/digest.laneWalk", "canopy/digest.laneTurns"], apart := false, laid := [("canopy/digest.roundNumbers", laid_canopy_digest_roundNumbers), ("canopy/digest.laneWalk", laid_canopy_digest_laneWalk), ("canopy/digest.laneTurns", laid_canopy_digest_laneTurns)] }
def TapeOnSaid : Prop := tapeOnRow.holds Tryd.pinned (OpenSpec.ofChange tapeOnSpec)

/-- ITS FALSE NEIGHBOUR: 'it returns false'. Refute it at one input. -/
def tapeOnWrong : ChangeSpec := { name := "tapeOn", fn := fun _ => fun
  | [d1, d2, d3] => { results := [.lit (.bool false)], args := [d1, d2, d3] }
  | _ => none }
def TapeOnWrongFalsely : Prop := tapeOnRow.holds Tryd.pinned (OpenSpec.ofChange tapeOnWrong)

/-- 'canopykeep.TapeTurns': WHATEVER THE INPUT: true; the input reads as it did. -/
def tapeTurnsSpec : ChangeSpec := { name := "tapeTurns", fn := fun _ => fun
  | [d1, d2, d3] => { results := [.lit (.bool true)], args := [d1, d2, d3] }
  | _ => none }
def tapeTurnsRow : OpenClaim := { program := "ytkheombfjgjedacdoor", sum := "7aa7a887229f0e6c3872ef04768fff1d1b9df124ba4fe5757ed8c8047b38bba3", func := "canopy/canopykeep.TapeTurns", spec := "tapeTurns", inPlace := ["internal/bytealg.Compare", "slices.overlaps[canopy/api.Tenant]"], unfollowed := true, recurses := true, named := ["canopy/digest.roundNumbers", "canopy/digest.laneWalk", "canopy/digest.laneTurns"], apart := false, laid := [("canopy/digest.roundNumbers", laid_canopy_digest_roundNumbers), ("canopy/digest.laneWalk", laid_canopy_digest_laneWalk), ("canopy/digest.laneTurns", laid_canopy_digest_laneTurns)] }
def TapeTurnsSaid : Prop := tapeTurnsRow.holds Tryd.pinned (OpenSpec.ofChange tapeTurnsSpec)

/-- ITS FALSE NEIGHBOUR: 'it returns false'. Refute it at one input. -/
def tapeTurnsWrong : ChangeSpec := { name := "tapeTurns", fn := fun _ => fun
  | [d1, d2, d3] => { results := [.lit (.bool false)], args := [d1, d2, d3] }
  | _ => none }
def TapeTurnsWrongFalsely : Prop := tapeTurnsRow.holds Tryd.pinned (OpenSpec.ofChange tapeTurnsWrong)

/-- 'canopykeep.TapeMany': WHATEVER THE INPUT: true; the input reads as it did. -/
def tapeManySpec : ChangeSpec := { name := "tapeMany", fn := fun _ => fun
  | [d] => { results := [.lit (.bool true)], args := [d] }
  | _ => none }
def tapeManyRow : OpenClaim := { program := "ytkheombfjgjedacdoor", sum := "7aa7a887229f0e6c3872ef04768fff1d1b9df124ba4fe5757ed8c8047b38bba3", func := "canopy/canopykeep.TapeMany", spec := "tapeMany", inPlace := ["internal/bytealg.Compare", "slices.overlaps[canopy/api.Tenant]"], unfollowed := true, recurses := true, named := ["canopy/digest.roundNumbers", "canopy/digest.laneWalk", "canopy/digest.laneTurns"], apart := false, laid := [("canopy/digest.roundNumbers", laid_canopy_digest_roundNumbers), ("canopy/digest.laneWalk", laid_canopy_digest_laneWalk), ("canopy/digest.laneTurns", laid_canopy_digest_laneTurns)] }
def TapeManySaid : Prop := tapeManyRow.holds Tryd.pinned (OpenSpec.ofChange tapeManySpec)

/-- ITS FALSE NEIGHBOUR: 'it returns false'. Refute it at one input. -/
def tapeManyWrong : ChangeSpec := { name := "tapeMany", fn := fun _ => fun
  | [d] => { results := [.lit (.bool false)], args := [d] }
  | _ => none }
def TapeManyWrongFalsely : Prop := tapeManyRow.holds Tryd.pinned (OpenSpec.ofChange tapeManyWrong)

/- THE SECOND FORM. 'bulk': how many values and letters a reading holds, each counted each time it is reached (what is shared counts as often as it is met; a slice's spare places count too). A statement '..UptoSaid' is the law's where the arguments, and the package variables that the reading takes, are together of bulk at most 1048576: NARROWER than '..Said'. Prove '..Said' where nothing that the law and all that it calls make is longer than what came in: it says more and counts as full. Else prove '..UptoSaid'. A law counts once. -/
mutual
def uptoBulk {H : Type} : DataW H → Nat
  | .lit (.string bytes) => bytes.length + 1
  | .lit _ => 1
  | .nil => 1
  | .ptr d => uptoBulk d + 1
  | .slice elems spare => uptoBulkAll elems + uptoBulkAll spare + 1
  | .agg parts => uptoBulkAll parts + 1
  | .iface _ d => uptoBulk d + 1
  | .map entries => uptoBulkEntries entries + 1
  | .held _ => 1
def uptoBulkAll {H : Type} : List (DataW H) → Nat
  | [] => 0
  | d :: r => uptoBulk d + uptoBulkAll r
def uptoBulkEntries {H : Type} : List (Lit × DataW H) → Nat
  | [] => 0
  | x :: r => uptoBulkEntry x + uptoBulkEntries r
def uptoBulkEntry {H : Type} : Lit × DataW H → Nat
  | (.string bytes, d) => bytes.length + uptoBulk d + 1
  | (_, d) => uptoBulk d + 1
 end
def uptoSmall : (H : Type) → List (DataW H) → Bool := fun _ ds => decide (uptoBulkAll ds ≤ 1048576)
def OpenSpec.upto (s : _root_.Go.ChangeSpec) : _root_.Go.OpenSpec := { _root_.Go.OpenSpec.ofChange s with cond := some uptoSmall }

/-- 'canopykeep.TapeKeeps', WHERE WHAT IT READS IS OF BULK AT MOST 1048576: true; the input reads as it did. -/
def tapeKeepsUptoRow : OpenClaim := { program := "ytkheombfjgjedacdoor", sum := "7aa7a887229f0e6c3872ef04768fff1d1b9df124ba4fe5757ed8c8047b38bba3", func := "canopy/canopykeep.TapeKeeps", spec := "tapeKeeps", inPlace := ["internal/bytealg.Compare", "slices.overlaps[canopy/api.Tenant]"], unfollowed := true, recurses := true, named := ["canopy/digest.roundNumbers", "canopy/digest.laneWalk", "canopy/digest.laneTurns"], apart := false, laid := [("canopy/digest.roundNumbers", laid_canopy_digest_roundNumbers), ("canopy/digest.laneWalk", laid_canopy_digest_laneWalk), ("canopy/digest.laneTurns", laid_canopy_digest_laneTurns)], narrowed := true }
def TapeKeepsUptoSaid : Prop := tapeKeepsUptoRow.holds Tryd.pinned (OpenSpec.upto tapeKeepsSpec)

/-- 'canopykeep.TapeTorn', WHERE WHAT IT READS IS OF BULK AT MOST 1048576: true; the input reads as it did. -/
def tapeTornUptoRow : OpenClaim := { program := "ytkheombfjgjedacdoor", sum := "7aa7a887229f0e6c3872ef04768fff1d1b9df124ba4fe5757ed8c8047b38bba3", func := "canopy/canopykeep.TapeTorn", spec := "tapeTorn", inPlace := ["internal/bytealg.Compare", "slices.overlaps[canopy/api.Tenant]"], unfollowed := true, recurses := true, named := ["canopy/digest.roundNumbers", "canopy/digest.laneWalk", "canopy/digest.laneTurns"], apart := false, laid := [("canopy/digest.roundNumbers", laid_canopy_digest_roundNumbers), ("canopy/digest.laneWalk", laid_canopy_digest_laneWalk), ("canopy/digest.laneTurns", laid_canopy_digest_laneTurns)], narrowed := true }
def TapeTornUptoSaid : Prop := tapeTornUptoRow.holds Tryd.pinned (OpenSpec.upto tapeTornSpec)

/-- 'canopykeep.TapeOn', WHERE WHAT IT READS IS OF BULK AT MOST 1048576: true; the input reads as it did. -/
def tapeOnUptoRow : OpenClaim := { program := "ytkheombfjgjedacdoor", sum := "7aa7a887229f0e6c3872ef04768fff1d1b9df124ba4fe5757ed8c8047b38bba3", func := "canopy/canopykeep.TapeOn", spec := "tapeOn", inPlace := ["internal/bytealg.Compare", "slices.overlaps[canopy/api.Tenant]"], unfollowed := true, recurses := true, named := ["canopy/digest.roundNumbers", "canopy/digest.laneWalk", "canopy/digest.laneTurns"], apart := false, laid := [("canopy/digest.roundNumbers", laid_canopy_digest_roundNumbers), ("canopy/digest.laneWalk", laid_canopy_digest_laneWalk), ("canopy/digest.laneTurns", laid_canopy_digest_laneTurns)], narrowed := true }
def TapeOnUptoSaid : Prop := tapeOnUptoRow.holds Tryd.pinned (OpenSpec.upto tapeOnSpec)

/-- 'canopykeep.TapeTurns', WHERE WHAT IT READS IS OF BULK AT MOST 1048576: true; the input reads as it did. -/
def tapeTurnsUptoRow : OpenClaim := { program := "ytkheombfjgjedacdoor", sum := "7aa7a887229f0e6c3872ef04768fff1d1b9df124ba4fe5757ed8c8047b38bba3", func := "canopy/canopykeep.TapeTurns", spec := "tapeTurns", inPlace := ["internal/bytealg.Compare", "slices.overlaps[canopy/api.Tenant]"], unfollowed := true, recurses := true, named := ["canopy/digest.roundNumbers", "canopy/digest.laneWalk", "canopy/digest.laneTurns"], apart := false, laid := [("canopy/digest.roundNumbers", laid_canopy_digest_roundNumbers), ("canopy/digest.laneWalk", laid_canopy_digest_laneWalk), ("canopy/digest.laneTurns", laid_canopy_digest_laneTurns)], narrowed := true }
def TapeTurnsUptoSaid : Prop := tapeTurnsUptoRow.holds Tryd.pinned (OpenSpec.upto tapeTurnsSpec)

/-- 'canopykeep.TapeMany', WHERE WHAT IT READS IS OF BULK AT MOST 1048576: true; the input reads as it did. -/
def tapeManyUptoRow : OpenClaim := { program := "ytkheombfjgjedacdoor", sum := "7aa7a887229f0e6c3872ef04768fff1d1b9df124ba4fe5757ed8c8047b38bba3", func := "canopy/canopykeep.TapeMany", spec := "tapeMany", inPlace := ["internal/bytealg.Compare", "slices.overlaps[canopy/api.Tenant]"], unfollowed := true, recurses := true, named := ["canopy/digest.roundNumbers", "canopy/digest.laneWalk", "canopy/digest.laneTurns"], apart := false, laid := [("canopy/digest.roundNumbers", laid_canopy_digest_roundNumbers), ("canopy/digest.laneWalk", laid_canopy_digest_laneWalk), ("canopy/digest.laneTurns", laid_canopy_digest_laneTurns)], narrowed := true }
def TapeManyUptoSaid : Prop := tapeManyUptoRow.holds Tryd.pinned (OpenSpec.upto tapeManySpec)

end Rows
end Go.Proofs.YtkheombfjgjedacDoor
