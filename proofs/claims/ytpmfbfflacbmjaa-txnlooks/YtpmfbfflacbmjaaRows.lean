/-
  No cell of these rows narrows 'for every input' (looked for: loops, veiled, ifaces, maps, wideKeys, modest, calm, conditions, laid).
  DERIVED. THE GIVEN ROWS OF THIS SEAT. 6 by the template 'for every input the law returns true; each argument reads behind the call as it read before'; 0 by the template 'total and deterministic' (their statements: YtpmfbfflacbmjaaTotals.lean).
  GIVEN WITH THE SEED: the statements are not yours to turn. If you find one false, say at which input.
  Laid BY PROGRAM, IN A SANDBOX (cutbox-rows.mjs): the forced cells as the released guide's own fill.sh prints them over the translation 77c89588561a90a4… (all of the seat's roots in one cut). By AI agents, Wed Nov 11 2026. No macro, syntax, notation, axiom, sorry.
-/
import Derived.Test.YtpmfbfflacbmjaaChecked
import GoSem.Claim
import GoSem.ClaimJoined
import GoSem.ClaimMapViews
import Derived.JoinedTies
import Derived.KernelRfl
namespace Go.Proofs.Ytpmfbfflacbmjaa
/- THE CELL 'sum', in the pinned program and in every row, IS THE sha256 OF THE DUMP (.gsa) THAT YtpmfbfflacbmjaaProg.lean LOADS. Nothing in Lean hashes anything: it is a label: what it is worth is what the hold of that sum in a sandbox is worth. -/
noncomputable def Try.pinned : Pinned := { name := "ytpmfbfflacbmjaa", sum := "77c89588561a90a45f5be1cfba8520f59750334dd09533147b6b39a35bd40d99", checked := Try.checked }
namespace Rows
def none {H : Type} : Left H := { results := [], args := [] }

/-- 'canopylaw.TxnChecks': WHATEVER THE INPUT: true; the input reads as it did. -/
def txnChecksSpec : ChangeSpec := { name := "txnChecks", fn := fun _ => fun
  | [d] => { results := [.lit (.bool true)], args := [d] }
  | _ => none }
def txnChecksRow : OpenClaim := { program := "ytpmfbfflacbmjaa", sum := "77c89588561a90a45f5be1cfba8520f59750334dd09533147b6b39a35bd40d99", func := "canopy/canopylaw.TxnChecks", spec := "txnChecks", inPlace := ["internal/bytealg.Compare", "slices.overlaps[canopy/api.Tenant]"], unfollowed := true, recurses := true, apart := false }
def TxnChecksSaid : Prop := txnChecksRow.holds Try.pinned (OpenSpec.ofChange txnChecksSpec)

/-- ITS FALSE NEIGHBOUR: 'it returns false'. Refute it at one input. -/
def txnChecksWrong : ChangeSpec := { name := "txnChecks", fn := fun _ => fun
  | [d] => { results := [.lit (.bool false)], args := [d] }
  | _ => none }
def TxnChecksWrongFalsely : Prop := txnChecksRow.holds Try.pinned (OpenSpec.ofChange txnChecksWrong)

/-- 'canopylaw.TxnNotes': WHATEVER THE INPUT: true; the input reads as it did. -/
def txnNotesSpec : ChangeSpec := { name := "txnNotes", fn := fun _ => fun
  | [d1, d2] => { results := [.lit (.bool true)], args := [d1, d2] }
  | _ => none }
def txnNotesRow : OpenClaim := { program := "ytpmfbfflacbmjaa", sum := "77c89588561a90a45f5be1cfba8520f59750334dd09533147b6b39a35bd40d99", func := "canopy/canopylaw.TxnNotes", spec := "txnNotes", inPlace := ["internal/bytealg.Compare", "slices.overlaps[canopy/api.Tenant]"], unfollowed := true, recurses := true, apart := false }
def TxnNotesSaid : Prop := txnNotesRow.holds Try.pinned (OpenSpec.ofChange txnNotesSpec)

/-- ITS FALSE NEIGHBOUR: 'it returns false'. Refute it at one input. -/
def txnNotesWrong : ChangeSpec := { name := "txnNotes", fn := fun _ => fun
  | [d1, d2] => { results := [.lit (.bool false)], args := [d1, d2] }
  | _ => none }
def TxnNotesWrongFalsely : Prop := txnNotesRow.holds Try.pinned (OpenSpec.ofChange txnNotesWrong)

/-- 'canopylaw.TxnWrites': WHATEVER THE INPUT: true; the input reads as it did. -/
def txnWritesSpec : ChangeSpec := { name := "txnWrites", fn := fun _ => fun
  | [d1, d2] => { results := [.lit (.bool true)], args := [d1, d2] }
  | _ => none }
def txnWritesRow : OpenClaim := { program := "ytpmfbfflacbmjaa", sum := "77c89588561a90a45f5be1cfba8520f59750334dd09533147b6b39a35bd40d99", func := "canopy/canopylaw.TxnWrites", spec := "txnWrites", inPlace := ["internal/bytealg.Compare", "slices.overlaps[canopy/api.Tenant]"], unfollowed := true, recurses := true, apart := false }
def TxnWritesSaid : Prop := txnWritesRow.holds Try.pinned (OpenSpec.ofChange txnWritesSpec)

/-- ITS FALSE NEIGHBOUR: 'it returns false'. Refute it at one input. -/
def txnWritesWrong : ChangeSpec := { name := "txnWrites", fn := fun _ => fun
  | [d1, d2] => { results := [.lit (.bool false)], args := [d1, d2] }
  | _ => none }
def TxnWritesWrongFalsely : Prop := txnWritesRow.holds Try.pinned (OpenSpec.ofChange txnWritesWrong)

/-- 'canopylaw.TxnLooks': WHATEVER THE INPUT: true; the input reads as it did. -/
def txnLooksSpec : ChangeSpec := { name := "txnLooks", fn := fun _ => fun
  | [d1, d2, d3, d4] => { results := [.lit (.bool true)], args := [d1, d2, d3, d4] }
  | _ => none }
def txnLooksRow : OpenClaim := { program := "ytpmfbfflacbmjaa", sum := "77c89588561a90a45f5be1cfba8520f59750334dd09533147b6b39a35bd40d99", func := "canopy/canopylaw.TxnLooks", spec := "txnLooks", inPlace := ["internal/bytealg.Compare", "slices.overlaps[canopy/api.Tenant]"], unfollowed := true, recurses := true, apart := false }
def TxnLooksSaid : Prop := txnLooksRow.holds Try.pinned (OpenSpec.ofChange txnLooksSpec)

/-- ITS FALSE NEIGHBOUR: 'it returns false'. Refute it at one input. -/
def txnLooksWrong : ChangeSpec := { name := "txnLooks", fn := fun _ => fun
  | [d1, d2, d3, d4] => { results := [.lit (.bool false)], args := [d1, d2, d3, d4] }
  | _ => none }
def TxnLooksWrongFalsely : Prop := txnLooksRow.holds Try.pinned (OpenSpec.ofChange txnLooksWrong)

/-- 'canopylaw.TxnScans': WHATEVER THE INPUT: true; the input reads as it did. -/
def txnScansSpec : ChangeSpec := { name := "txnScans", fn := fun _ => fun
  | [d1, d2, d3, d4, d5] => { results := [.lit (.bool true)], args := [d1, d2, d3, d4, d5] }
  | _ => none }
def txnScansRow : OpenClaim := { program := "ytpmfbfflacbmjaa", sum := "77c89588561a90a45f5be1cfba8520f59750334dd09533147b6b39a35bd40d99", func := "canopy/canopylaw.TxnScans", spec := "txnScans", inPlace := ["internal/bytealg.Compare", "slices.overlaps[canopy/api.Tenant]"], unfollowed := true, recurses := true, apart := false }
def TxnScansSaid : Prop := txnScansRow.holds Try.pinned (OpenSpec.ofChange txnScansSpec)

/-- ITS FALSE NEIGHBOUR: 'it returns false'. Refute it at one input. -/
def txnScansWrong : ChangeSpec := { name := "txnScans", fn := fun _ => fun
  | [d1, d2, d3, d4, d5] => { results := [.lit (.bool false)], args := [d1, d2, d3, d4, d5] }
  | _ => none }
def TxnScansWrongFalsely : Prop := txnScansRow.holds Try.pinned (OpenSpec.ofChange txnScansWrong)

/-- 'canopylaw.TxnClashes': WHATEVER THE INPUT: true; the input reads as it did. -/
def txnClashesSpec : ChangeSpec := { name := "txnClashes", fn := fun _ => fun
  | [d1, d2] => { results := [.lit (.bool true)], args := [d1, d2] }
  | _ => none }
def txnClashesRow : OpenClaim := { program := "ytpmfbfflacbmjaa", sum := "77c89588561a90a45f5be1cfba8520f59750334dd09533147b6b39a35bd40d99", func := "canopy/canopylaw.TxnClashes", spec := "txnClashes", inPlace := ["internal/bytealg.Compare", "slices.overlaps[canopy/api.Tenant]"], unfollowed := true, recurses := true, apart := false }
def TxnClashesSaid : Prop := txnClashesRow.holds Try.pinned (OpenSpec.ofChange txnClashesSpec)

/-- ITS FALSE NEIGHBOUR: 'it returns false'. Refute it at one input. -/
def txnClashesWrong : ChangeSpec := { name := "txnClashes", fn := fun _ => fun
  | [d1, d2] => { results := [.lit (.bool false)], args := [d1, d2] }
  | _ => none }
def TxnClashesWrongFalsely : Prop := txnClashesRow.holds Try.pinned (OpenSpec.ofChange txnClashesWrong)

/- THE SECOND FORM. 'bulk': how many values and letters a reading holds, each counted each time it is reached (what is shared counts as often as it is met; a slice's spare places count too). A statement '..UptoSaid' is the law's where the arguments, and the package variables that the reading takes, are together of bulk at most 1048576: NARROWER than '..Said'. Prove '..Said' where nothing that the law and all that it calls make is longer than what came in: it says more and counts as full. Else prove '..UptoSaid'. A law counts once. -/
mutual
def uptoBulk {H : Type} : DataW H → Nat
  | .lit (.string bytes) => bytes.length + 1
  | .lit _ => 1
  | .nil => 1
  | .ptr d => uptoBulk d + 1
  | .slice elems spare => uptoBulkAll elems + uptoBulkAll spare + 1
  | .agg parts => uptoBulkAll parts + 1
  | .iface _ d => uptoBulk d + 1
  | .map entries => uptoBulkEntries entries + 1
  | .held _ => 1
def uptoBulkAll {H : Type} : List (DataW H) → Nat
  | [] => 0
  | d :: r => uptoBulk d + uptoBulkAll r
def uptoBulkEntries {H : Type} : List (Lit × DataW H) → Nat
  | [] => 0
  | x :: r => uptoBulkEntry x + uptoBulkEntries r
def uptoBulkEntry {H : Type} : Lit × DataW H → Nat
  | (.string bytes, d) => bytes.length + uptoBulk d + 1
  | (_, d) => uptoBulk d + 1
 end
def uptoSmall : (H : Type) → List (DataW H) → Bool := fun _ ds => decide (uptoBulkAll ds ≤ 1048576)
def OpenSpec.upto (s : _root_.Go.ChangeSpec) : _root_.Go.OpenSpec := { _root_.Go.OpenSpec.ofChange s with cond := some uptoSmall }

/-- 'canopylaw.TxnChecks', WHERE WHAT IT READS IS OF BULK AT MOST 1048576: true; the input reads as it did. -/
def txnChecksUptoRow : OpenClaim := { program := "ytpmfbfflacbmjaa", sum := "77c89588561a90a45f5be1cfba8520f59750334dd09533147b6b39a35bd40d99", func := "canopy/canopylaw.TxnChecks", spec := "txnChecks", inPlace := ["internal/bytealg.Compare", "slices.overlaps[canopy/api.Tenant]"], unfollowed := true, recurses := true, apart := false, narrowed := true }
def TxnChecksUptoSaid : Prop := txnChecksUptoRow.holds Try.pinned (OpenSpec.upto txnChecksSpec)

/-- 'canopylaw.TxnNotes', WHERE WHAT IT READS IS OF BULK AT MOST 1048576: true; the input reads as it did. -/
def txnNotesUptoRow : OpenClaim := { program := "ytpmfbfflacbmjaa", sum := "77c89588561a90a45f5be1cfba8520f59750334dd09533147b6b39a35bd40d99", func := "canopy/canopylaw.TxnNotes", spec := "txnNotes", inPlace := ["internal/bytealg.Compare", "slices.overlaps[canopy/api.Tenant]"], unfollowed := true, recurses := true, apart := false, narrowed := true }
def TxnNotesUptoSaid : Prop := txnNotesUptoRow.holds Try.pinned (OpenSpec.upto txnNotesSpec)

/-- 'canopylaw.TxnWrites', WHERE WHAT IT READS IS OF BULK AT MOST 1048576: true; the input reads as it did. -/
def txnWritesUptoRow : OpenClaim := { program := "ytpmfbfflacbmjaa", sum := "77c89588561a90a45f5be1cfba8520f59750334dd09533147b6b39a35bd40d99", func := "canopy/canopylaw.TxnWrites", spec := "txnWrites", inPlace := ["internal/bytealg.Compare", "slices.overlaps[canopy/api.Tenant]"], unfollowed := true, recurses := true, apart := false, narrowed := true }
def TxnWritesUptoSaid : Prop := txnWritesUptoRow.holds Try.pinned (OpenSpec.upto txnWritesSpec)

/-- 'canopylaw.TxnLooks', WHERE WHAT IT READS IS OF BULK AT MOST 1048576: true; the input reads as it did. -/
def txnLooksUptoRow : OpenClaim := { program := "ytpmfbfflacbmjaa", sum := "77c89588561a90a45f5be1cfba8520f59750334dd09533147b6b39a35bd40d99", func := "canopy/canopylaw.TxnLooks", spec := "txnLooks", inPlace := ["internal/bytealg.Compare", "slices.overlaps[canopy/api.Tenant]"], unfollowed := true, recurses := true, apart := false, narrowed := true }
def TxnLooksUptoSaid : Prop := txnLooksUptoRow.holds Try.pinned (OpenSpec.upto txnLooksSpec)

/-- 'canopylaw.TxnScans', WHERE WHAT IT READS IS OF BULK AT MOST 1048576: true; the input reads as it did. -/
def txnScansUptoRow : OpenClaim := { program := "ytpmfbfflacbmjaa", sum := "77c89588561a90a45f5be1cfba8520f59750334dd09533147b6b39a35bd40d99", func := "canopy/canopylaw.TxnScans", spec := "txnScans", inPlace := ["internal/bytealg.Compare", "slices.overlaps[canopy/api.Tenant]"], unfollowed := true, recurses := true, apart := false, narrowed := true }
def TxnScansUptoSaid : Prop := txnScansUptoRow.holds Try.pinned (OpenSpec.upto txnScansSpec)

/-- 'canopylaw.TxnClashes', WHERE WHAT IT READS IS OF BULK AT MOST 1048576: true; the input reads as it did. -/
def txnClashesUptoRow : OpenClaim := { program := "ytpmfbfflacbmjaa", sum := "77c89588561a90a45f5be1cfba8520f59750334dd09533147b6b39a35bd40d99", func := "canopy/canopylaw.TxnClashes", spec := "txnClashes", inPlace := ["internal/bytealg.Compare", "slices.overlaps[canopy/api.Tenant]"], unfollowed := true, recurses := true, apart := false, narrowed := true }
def TxnClashesUptoSaid : Prop := txnClashesUptoRow.holds Try.pinned (OpenSpec.upto txnClashesSpec)

end Rows
end Go.Proofs.Ytpmfbfflacbmjaa
