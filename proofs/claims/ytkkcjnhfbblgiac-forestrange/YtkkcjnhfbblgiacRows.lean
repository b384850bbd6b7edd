/-
  No cell of these rows narrows 'for every input' (looked for: loops, veiled, ifaces, maps, wideKeys, modest, calm, conditions, laid).
  DERIVED. THE GIVEN ROWS OF THIS SEAT. 3 by the template 'for every input the law returns true; each argument reads behind the call as it read before'; 0 by the template 'total and deterministic' (their statements: YtkkcjnhfbblgiacTotals.lean).
  GIVEN WITH THE SEED: the statements are not yours to turn. If you find one false, say at which input.
  Laid BY PROGRAM, IN A SANDBOX (cutbox-rows.mjs): the forced cells as the released guide's own fill.sh prints them over the translation 6ed598071806419a… (all of the seat's roots in one cut). By AI agents, Wed Nov 11 2026. No macro, syntax, notation, axiom, sorry.
-/
import Derived.Test.YtkkcjnhfbblgiacChecked
import GoSem.Claim
import GoSem.ClaimJoined
import GoSem.ClaimMapViews
import Derived.JoinedTies
import Derived.KernelRfl
namespace Go.Proofs.Ytkkcjnhfbblgiac
/- THE CELL 'sum', in the pinned program and in every row, IS THE sha256 OF THE DUMP (.gsa) THAT YtkkcjnhfbblgiacProg.lean LOADS. Nothing in Lean hashes anything: it is a label: what it is worth is what the hold of that sum in a sandbox is worth. -/
noncomputable def Try.pinned : Pinned := { name := "ytkkcjnhfbblgiac", sum := "6ed598071806419ae202a3fc3382c818c132970929062e16aa683b4208b227bb", checked := Try.checked }
namespace Rows
def none {H : Type} : Left H := { results := [], args := [] }

/-- 'canopykeep.ForestRange': WHATEVER THE INPUT: true; the input reads as it did. -/
def forestRangeSpec : ChangeSpec := { name := "forestRange", fn := fun _ => fun
  | [d1, d2, d3] => { results := [.lit (.bool true)], args := [d1, d2, d3] }
  | _ => none }
def forestRangeRow : OpenClaim := { program := "ytkkcjnhfbblgiac", sum := "6ed598071806419ae202a3fc3382c818c132970929062e16aa683b4208b227bb", func := "canopy/canopykeep.ForestRange", spec := "forestRange", inPlace := ["internal/bytealg.Compare", "slices.overlaps[canopy/api.Tenant]"], unfollowed := true, recurses := true, apart := false }
def ForestRangeSaid : Prop := forestRangeRow.holds Try.pinned (OpenSpec.ofChange forestRangeSpec)

/-- ITS FALSE NEIGHBOUR: 'it returns false'. Refute it at one input. -/
def forestRangeWrong : ChangeSpec := { name := "forestRange", fn := fun _ => fun
  | [d1, d2, d3] => { results := [.lit (.bool false)], args := [d1, d2, d3] }
  | _ => none }
def ForestRangeWrongFalsely : Prop := forestRangeRow.holds Try.pinned (OpenSpec.ofChange forestRangeWrong)

/-- 'canopykeep.ForestFull': WHATEVER THE INPUT: true; the input reads as it did. -/
def forestFullSpec : ChangeSpec := { name := "forestFull", fn := fun _ => fun
  | [d] => { results := [.lit (.bool true)], args := [d] }
  | _ => none }
def forestFullRow : OpenClaim := { program := "ytkkcjnhfbblgiac", sum := "6ed598071806419ae202a3fc3382c818c132970929062e16aa683b4208b227bb", func := "canopy/canopykeep.ForestFull", spec := "forestFull", inPlace := ["internal/bytealg.Compare", "slices.overlaps[canopy/api.Tenant]"], unfollowed := true, recurses := true, apart := false }
def ForestFullSaid : Prop := forestFullRow.holds Try.pinned (OpenSpec.ofChange forestFullSpec)

/-- ITS FALSE NEIGHBOUR: 'it returns false'. Refute it at one input. -/
def forestFullWrong : ChangeSpec := { name := "forestFull", fn := fun _ => fun
  | [d] => { results := [.lit (.bool false)], args := [d] }
  | _ => none }
def ForestFullWrongFalsely : Prop := forestFullRow.holds Try.pinned (OpenSpec.ofChange forestFullWrong)

/-- 'canopykeep.ApplyAgain': WHATEVER THE INPUT: true; the input reads as it did. -/
def applyAgainSpec : ChangeSpec := { name := "applyAgain", fn := fun _ => fun
  | [d1, d2, d3] => { results := [.lit (.bool true)], args := [d1, d2, d3] }
  | _ => none }
def applyAgainRow : OpenClaim := { program := "ytkkcjnhfbblgiac", sum := "6ed598071806419ae202a3fc3382c818c132970929062e16aa683b4208b227bb", func := "canopy/canopykeep.ApplyAgain", spec := "applyAgain", inPlace := ["internal/bytealg.Compare", "slices.overlaps[canopy/api.Tenant]"], unfollowed := true, recurses := true, apart := false }
def ApplyAgainSaid : Prop := applyAgainRow.holds Try.pinned (OpenSpec.ofChange applyAgainSpec)

/-- ITS FALSE NEIGHBOUR: 'it returns false'. Refute it at one input. -/
def applyAgainWrong : ChangeSpec := { name := "applyAgain", fn := fun _ => fun
  | [d1, d2, d3] => { results := [.lit (.bool false)], args := [d1, d2, d3] }
  | _ => none }
def ApplyAgainWrongFalsely : Prop := applyAgainRow.holds Try.pinned (OpenSpec.ofChange applyAgainWrong)

/- THE SECOND FORM. 'bulk': how many values and letters a reading holds, each counted each time it is reached (what is shared counts as often as it is met; a slice's spare places count too). A statement '..UptoSaid' is the law's where the arguments, and the package variables that the reading takes, are together of bulk at most 1048576: NARROWER than '..Said'. Prove '..Said' where nothing that the law and all that it calls make is longer than what came in: it says more and counts as full. Else prove '..UptoSaid'. A law counts once. -/
mutual
def uptoBulk {H : Type} : DataW H → Nat
  | .lit (.string bytes) => bytes.length + 1
  | .lit _ => 1
  | .nil => 1
  | .ptr d => uptoBulk d + 1
  | .slice elems spare => uptoBulkAll elems + uptoBulkAll spare + 1
  | .agg parts => uptoBulkAll parts + 1
  | .iface _ d => uptoBulk d + 1
  | .map entries => uptoBulkEntries entries + 1
  | .held _ => 1
def uptoBulkAll {H : Type} : List (DataW H) → Nat
  | [] => 0
  | d :: r => uptoBulk d + uptoBulkAll r
def uptoBulkEntries {H : Type} : List (Lit × DataW H) → Nat
  | [] => 0
  | x :: r => uptoBulkEntry x + uptoBulkEntries r
def uptoBulkEntry {H : Type} : Lit × DataW H → Nat
  | (.string bytes, d) => bytes.length + uptoBulk d + 1
  | (_, d) => uptoBulk d + 1
 end
def uptoSmall : (H : Type) → List (DataW H) → Bool := fun _ ds => decide (uptoBulkAll ds ≤ 1048576)
def OpenSpec.upto (s : _root_.Go.ChangeSpec) : _root_.Go.OpenSpec := { _root_.Go.OpenSpec.ofChange s with cond := some uptoSmall }

/-- 'canopykeep.ForestRange', WHERE WHAT IT READS IS OF BULK AT MOST 1048576: true; the input reads as it did. -/
def forestRangeUptoRow : OpenClaim := { program := "ytkkcjnhfbblgiac", sum := "6ed598071806419ae202a3fc3382c818c132970929062e16aa683b4208b227bb", func := "canopy/canopykeep.ForestRange", spec := "forestRange", inPlace := ["internal/bytealg.Compare", "slices.overlaps[canopy/api.Tenant]"], unfollowed := true, recurses := true, apart := false, narrowed := true }
def ForestRangeUptoSaid : Prop := forestRangeUptoRow.holds Try.pinned (OpenSpec.upto forestRangeSpec)

/-- 'canopykeep.ForestFull', WHERE WHAT IT READS IS OF BULK AT MOST 1048576: true; the input reads as it did. -/
def forestFullUptoRow : OpenClaim := { program := "ytkkcjnhfbblgiac", sum := "6ed598071806419ae202a3fc3382c818c132970929062e16aa683b4208b227bb", func := "canopy/canopykeep.ForestFull", spec := "forestFull", inPlace := ["internal/bytealg.Compare", "slices.overlaps[canopy/api.Tenant]"], unfollowed := true, recurses := true, apart := false, narrowed := true }
def ForestFullUptoSaid : Prop := forestFullUptoRow.holds Try.pinned (OpenSpec.upto forestFullSpec)

/-- 'canopykeep.ApplyAgain', WHERE WHAT IT READS IS OF BULK AT MOST 1048576: true; the input reads as it did. -/
def applyAgainUptoRow : OpenClaim := { program := "ytkkcjnhfbblgiac", sum := "6ed598071806419ae202a3fc3382c818c132970929062e16aa683b4208b227bb", func := "canopy/canopykeep.ApplyAgain", spec := "applyAgain", inPlace := ["internal/bytealg.Compare", "slices.overlaps[canopy/api.Tenant]"], unfollowed := true, recurses := true, apart := false, narrowed := true }
def ApplyAgainUptoSaid : Prop := applyAgainUptoRow.holds Try.pinned (OpenSpec.upto applyAgainSpec)

end Rows
end Go.Proofs.Ytkkcjnhfbblgiac
