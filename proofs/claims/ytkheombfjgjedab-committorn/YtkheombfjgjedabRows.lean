/-
  No cell of these rows narrows 'for every input' (looked for: loops, veiled, ifaces, maps, wideKeys, modest, calm, conditions, laid).
  DERIVED. THE GIVEN ROWS OF THIS SEAT. 4 by the template 'for every input the law returns true; each argument reads behind the call as it read before'; 0 by the template 'total and deterministic' (their statements: YtkheombfjgjedabTotals.lean).
  GIVEN WITH THE SEED: the statements are not yours to turn. If you find one false, say at which input.
  Laid BY PROGRAM, IN A SANDBOX (cutbox-rows.mjs): the forced cells as the released guide's own fill.sh prints them over the translation 2b7799db4997883c… (all of the seat's roots in one cut). By AI agents, Wed Nov 11 2026. No macro, syntax, notation, axiom, sorry.
-/
import Derived.Test.YtkheombfjgjedabChecked
import GoSem.Claim
import GoSem.ClaimJoined
import GoSem.ClaimMapViews
import Derived.JoinedTies
import Derived.KernelRfl
namespace Go.Proofs.Ytkheombfjgjedab
/- THE CELL 'sum', in the pinned program and in every row, IS THE sha256 OF THE DUMP (.gsa) THAT YtkheombfjgjedabProg.lean LOADS. Nothing in Lean hashes anything: it is a label: what it is worth is what the hold of that sum in a sandbox is worth. -/
noncomputable def Try.pinned : Pinned := { name := "ytkheombfjgjedab", sum := "2b7799db4997883ce33e13f1748f8a92191e84f8be640a8a017236cccb5c7b87", checked := Try.checked }
namespace Rows
def none {H : Type} : Left H := { results := [], args := [] }

/-- 'canopykeep.CommitBack': WHATEVER THE INPUT: true; the input reads as it did. -/
def commitBackSpec : ChangeSpec := { name := "commitBack", fn := fun _ => fun
  | [d1, d2] => { results := [.lit (.bool true)], args := [d1, d2] }
  | _ => none }
def commitBackRow : OpenClaim := { program := "ytkheombfjgjedab", sum := "2b7799db4997883ce33e13f1748f8a92191e84f8be640a8a017236cccb5c7b87", func := "canopy/canopykeep.CommitBack", spec := "commitBack", inPlace := ["internal/bytealg.Compare", "slices.overlaps[canopy/api.Tenant]"], unfollowed := true, recurses := true, apart := false }
def CommitBackSaid : Prop := commitBackRow.holds Try.pinned (OpenSpec.ofChange commitBackSpec)

/-- ITS FALSE NEIGHBOUR: 'it returns false'. Refute it at one input. -/
def commitBackWrong : ChangeSpec := { name := "commitBack", fn := fun _ => fun
  | [d1, d2] => { results := [.lit (.bool false)], args := [d1, d2] }
  | _ => none }
def CommitBackWrongFalsely : Prop := commitBackRow.holds Try.pinned (OpenSpec.ofChange commitBackWrong)

/-- 'canopykeep.CommitFixed': WHATEVER THE INPUT: true; the input reads as it did. -/
def commitFixedSpec : ChangeSpec := { name := "commitFixed", fn := fun _ => fun
  | [d] => { results := [.lit (.bool true)], args := [d] }
  | _ => none }
def commitFixedRow : OpenClaim := { program := "ytkheombfjgjedab", sum := "2b7799db4997883ce33e13f1748f8a92191e84f8be640a8a017236cccb5c7b87", func := "canopy/canopykeep.CommitFixed", spec := "commitFixed", inPlace := ["internal/bytealg.Compare", "slices.overlaps[canopy/api.Tenant]"], unfollowed := true, recurses := true, apart := false }
def CommitFixedSaid : Prop := commitFixedRow.holds Try.pinned (OpenSpec.ofChange commitFixedSpec)

/-- ITS FALSE NEIGHBOUR: 'it returns false'. Refute it at one input. -/
def commitFixedWrong : ChangeSpec := { name := "commitFixed", fn := fun _ => fun
  | [d] => { results := [.lit (.bool false)], args := [d] }
  | _ => none }
def CommitFixedWrongFalsely : Prop := commitFixedRow.holds Try.pinned (OpenSpec.ofChange commitFixedWrong)

/-- 'canopykeep.CommitTorn': WHATEVER THE INPUT: true; the input reads as it did. -/
def commitTornSpec : ChangeSpec := { name := "commitTorn", fn := fun _ => fun
  | [d1, d2] => { results := [.lit (.bool true)], args := [d1, d2] }
  | _ => none }
def commitTornRow : OpenClaim := { program := "ytkheombfjgjedab", sum := "2b7799db4997883ce33e13f1748f8a92191e84f8be640a8a017236cccb5c7b87", func := "canopy/canopykeep.CommitTorn", spec := "commitTorn", inPlace := ["internal/bytealg.Compare", "slices.overlaps[canopy/api.Tenant]"], unfollowed := true, recurses := true, apart := false }
def CommitTornSaid : Prop := commitTornRow.holds Try.pinned (OpenSpec.ofChange commitTornSpec)

/-- ITS FALSE NEIGHBOUR: 'it returns false'. Refute it at one input. -/
def commitTornWrong : ChangeSpec := { name := "commitTorn", fn := fun _ => fun
  | [d1, d2] => { results := [.lit (.bool false)], args := [d1, d2] }
  | _ => none }
def CommitTornWrongFalsely : Prop := commitTornRow.holds Try.pinned (OpenSpec.ofChange commitTornWrong)

/-- 'canopykeep.CommitSize': WHATEVER THE INPUT: true; the input reads as it did. -/
def commitSizeSpec : ChangeSpec := { name := "commitSize", fn := fun _ => fun
  | [d1, d2] => { results := [.lit (.bool true)], args := [d1, d2] }
  | _ => none }
def commitSizeRow : OpenClaim := { program := "ytkheombfjgjedab", sum := "2b7799db4997883ce33e13f1748f8a92191e84f8be640a8a017236cccb5c7b87", func := "canopy/canopykeep.CommitSize", spec := "commitSize", inPlace := ["internal/bytealg.Compare", "slices.overlaps[canopy/api.Tenant]"], unfollowed := true, recurses := true, apart := false }
def CommitSizeSaid : Prop := commitSizeRow.holds Try.pinned (OpenSpec.ofChange commitSizeSpec)

/-- ITS FALSE NEIGHBOUR: 'it returns false'. Refute it at one input. -/
def commitSizeWrong : ChangeSpec := { name := "commitSize", fn := fun _ => fun
  | [d1, d2] => { results := [.lit (.bool false)], args := [d1, d2] }
  | _ => none }
def CommitSizeWrongFalsely : Prop := commitSizeRow.holds Try.pinned (OpenSpec.ofChange commitSizeWrong)

/- THE SECOND FORM. 'bulk': how many values and letters a reading holds, each counted each time it is reached (what is shared counts as often as it is met; a slice's spare places count too). A statement '..UptoSaid' is the law's where the arguments, and the package variables that the reading takes, are together of bulk at most 1048576: NARROWER than '..Said'. Prove '..Said' where nothing that the law and all that it calls make is longer than what came in: it says more and counts as full. Else prove '..UptoSaid'. A law counts once. -/
mutual
def uptoBulk {H : Type} : DataW H → Nat
  | .lit (.string bytes) => bytes.length + 1
  | .lit _ => 1
  | .nil => 1
  | .ptr d => uptoBulk d + 1
  | .slice elems spare => uptoBulkAll elems + uptoBulkAll spare + 1
  | .agg parts => uptoBulkAll parts + 1
  | .iface _ d => uptoBulk d + 1
  | .map entries => uptoBulkEntries entries + 1
  | .held _ => 1
def uptoBulkAll {H : Type} : List (DataW H) → Nat
  | [] => 0
  | d :: r => uptoBulk d + uptoBulkAll r
def uptoBulkEntries {H : Type} : List (Lit × DataW H) → Nat
  | [] => 0
  | x :: r => uptoBulkEntry x + uptoBulkEntries r
def uptoBulkEntry {H : Type} : Lit × DataW H → Nat
  | (.string bytes, d) => bytes.length + uptoBulk d + 1
  | (_, d) => uptoBulk d + 1
 end
def uptoSmall : (H : Type) → List (DataW H) → Bool := fun _ ds => decide (uptoBulkAll ds ≤ 1048576)
def OpenSpec.upto (s : _root_.Go.ChangeSpec) : _root_.Go.OpenSpec := { _root_.Go.OpenSpec.ofChange s with cond := some uptoSmall }

/-- 'canopykeep.CommitBack', WHERE WHAT IT READS IS OF BULK AT MOST 1048576: true; the input reads as it did. -/
def commitBackUptoRow : OpenClaim := { program := "ytkheombfjgjedab", sum := "2b7799db4997883ce33e13f1748f8a92191e84f8be640a8a017236cccb5c7b87", func := "canopy/canopykeep.CommitBack", spec := "commitBack", inPlace := ["internal/bytealg.Compare", "slices.overlaps[canopy/api.Tenant]"], unfollowed := true, recurses := true, apart := false, narrowed := true }
def CommitBackUptoSaid : Prop := commitBackUptoRow.holds Try.pinned (OpenSpec.upto commitBackSpec)

/-- 'canopykeep.CommitFixed', WHERE WHAT IT READS IS OF BULK AT MOST 1048576: true; the input reads as it did. -/
def commitFixedUptoRow : OpenClaim := { program := "ytkheombfjgjedab", sum := "2b7799db4997883ce33e13f1748f8a92191e84f8be640a8a017236cccb5c7b87", func := "canopy/canopykeep.CommitFixed", spec := "commitFixed", inPlace := ["internal/bytealg.Compare", "slices.overlaps[canopy/api.Tenant]"], unfollowed := true, recurses := true, apart := false, narrowed := true }
def CommitFixedUptoSaid : Prop := commitFixedUptoRow.holds Try.pinned (OpenSpec.upto commitFixedSpec)

/-- 'canopykeep.CommitTorn', WHERE WHAT IT READS IS OF BULK AT MOST 1048576: true; the input reads as it did. -/
def commitTornUptoRow : OpenClaim := { program := "ytkheombfjgjedab", sum := "2b7799db4997883ce33e13f1748f8a92191e84f8be640a8a017236cccb5c7b87", func := "canopy/canopykeep.CommitTorn", spec := "commitTorn", inPlace := ["internal/bytealg.Compare", "slices.overlaps[canopy/api.Tenant]"], unfollowed := true, recurses := true, apart := false, narrowed := true }
def CommitTornUptoSaid : Prop := commitTornUptoRow.holds Try.pinned (OpenSpec.upto commitTornSpec)

/-- 'canopykeep.CommitSize', WHERE WHAT IT READS IS OF BULK AT MOST 1048576: true; the input reads as it did. -/
def commitSizeUptoRow : OpenClaim := { program := "ytkheombfjgjedab", sum := "2b7799db4997883ce33e13f1748f8a92191e84f8be640a8a017236cccb5c7b87", func := "canopy/canopykeep.CommitSize", spec := "commitSize", inPlace := ["internal/bytealg.Compare", "slices.overlaps[canopy/api.Tenant]"], unfollowed := true, recurses := true, apart := false, narrowed := true }
def CommitSizeUptoSaid : Prop := commitSizeUptoRow.holds Try.pinned (OpenSpec.upto commitSizeSpec)

end Rows
end Go.Proofs.Ytkheombfjgjedab
