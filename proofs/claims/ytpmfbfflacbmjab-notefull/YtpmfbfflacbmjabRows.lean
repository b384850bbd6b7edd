/-
  No cell of these rows narrows 'for every input' (looked for: loops, veiled, ifaces, maps, wideKeys, modest, calm, conditions, laid).
  DERIVED. THE GIVEN ROWS OF THIS SEAT. 6 by the template 'for every input the law returns true; each argument reads behind the call as it read before'; 0 by the template 'total and deterministic' (their statements: YtpmfbfflacbmjabTotals.lean).
  GIVEN WITH THE SEED: the statements are not yours to turn. If you find one false, say at which input.
  Laid BY PROGRAM, IN A SANDBOX (cutbox-rows.mjs): the forced cells as the released guide's own fill.sh prints them over the translation 3d1b6a039b9a5384… (all of the seat's roots in one cut). By AI agents, Wed Nov 11 2026. No macro, syntax, notation, axiom, sorry.
-/
import Derived.Test.YtpmfbfflacbmjabChecked
import GoSem.Claim
import GoSem.ClaimJoined
import GoSem.ClaimMapViews
import Derived.JoinedTies
import Derived.KernelRfl
namespace Go.Proofs.Ytpmfbfflacbmjab
/- THE CELL 'sum', in the pinned program and in every row, IS THE sha256 OF THE DUMP (.gsa) THAT YtpmfbfflacbmjabProg.lean LOADS. Nothing in Lean hashes anything: it is a label: what it is worth is what the hold of that sum in a sandbox is worth. -/
noncomputable def Try.pinned : Pinned := { name := "ytpmfbfflacbmjab", sum := "3d1b6a039b9a53841bc89316f7b7031977949c5b23b1ab239bd03128aedb2fc3", checked := Try.checked }
namespace Rows
def none {H : Type} : Left H := { results := [], args := [] }

/-- 'canopykeep.WriteSeen': WHATEVER THE INPUT: true; the input reads as it did. -/
def writeSeenSpec : ChangeSpec := { name := "writeSeen", fn := fun _ => fun
  | [d1, d2, d3, d4] => { results := [.lit (.bool true)], args := [d1, d2, d3, d4] }
  | _ => none }
def writeSeenRow : OpenClaim := { program := "ytpmfbfflacbmjab", sum := "3d1b6a039b9a53841bc89316f7b7031977949c5b23b1ab239bd03128aedb2fc3", func := "canopy/canopykeep.WriteSeen", spec := "writeSeen", inPlace := ["internal/bytealg.Compare", "slices.overlaps[canopy/api.Tenant]"], unfollowed := true, recurses := true, apart := false }
def WriteSeenSaid : Prop := writeSeenRow.holds Try.pinned (OpenSpec.ofChange writeSeenSpec)

/-- ITS FALSE NEIGHBOUR: 'it returns false'. Refute it at one input. -/
def writeSeenWrong : ChangeSpec := { name := "writeSeen", fn := fun _ => fun
  | [d1, d2, d3, d4] => { results := [.lit (.bool false)], args := [d1, d2, d3, d4] }
  | _ => none }
def WriteSeenWrongFalsely : Prop := writeSeenRow.holds Try.pinned (OpenSpec.ofChange writeSeenWrong)

/-- 'canopykeep.LookApplied': WHATEVER THE INPUT: true; the input reads as it did. -/
def lookAppliedSpec : ChangeSpec := { name := "lookApplied", fn := fun _ => fun
  | [d1, d2, d3] => { results := [.lit (.bool true)], args := [d1, d2, d3] }
  | _ => none }
def lookAppliedRow : OpenClaim := { program := "ytpmfbfflacbmjab", sum := "3d1b6a039b9a53841bc89316f7b7031977949c5b23b1ab239bd03128aedb2fc3", func := "canopy/canopykeep.LookApplied", spec := "lookApplied", inPlace := ["internal/bytealg.Compare", "slices.overlaps[canopy/api.Tenant]"], unfollowed := true, recurses := true, apart := false }
def LookAppliedSaid : Prop := lookAppliedRow.holds Try.pinned (OpenSpec.ofChange lookAppliedSpec)

/-- ITS FALSE NEIGHBOUR: 'it returns false'. Refute it at one input. -/
def lookAppliedWrong : ChangeSpec := { name := "lookApplied", fn := fun _ => fun
  | [d1, d2, d3] => { results := [.lit (.bool false)], args := [d1, d2, d3] }
  | _ => none }
def LookAppliedWrongFalsely : Prop := lookAppliedRow.holds Try.pinned (OpenSpec.ofChange lookAppliedWrong)

/-- 'canopykeep.ScanApplied': WHATEVER THE INPUT: true; the input reads as it did. -/
def scanAppliedSpec : ChangeSpec := { name := "scanApplied", fn := fun _ => fun
  | [d1, d2, d3, d4] => { results := [.lit (.bool true)], args := [d1, d2, d3, d4] }
  | _ => none }
def scanAppliedRow : OpenClaim := { program := "ytpmfbfflacbmjab", sum := "3d1b6a039b9a53841bc89316f7b7031977949c5b23b1ab239bd03128aedb2fc3", func := "canopy/canopykeep.ScanApplied", spec := "scanApplied", inPlace := ["internal/bytealg.Compare", "slices.overlaps[canopy/api.Tenant]"], unfollowed := true, recurses := true, apart := false }
def ScanAppliedSaid : Prop := scanAppliedRow.holds Try.pinned (OpenSpec.ofChange scanAppliedSpec)

/-- ITS FALSE NEIGHBOUR: 'it returns false'. Refute it at one input. -/
def scanAppliedWrong : ChangeSpec := { name := "scanApplied", fn := fun _ => fun
  | [d1, d2, d3, d4] => { results := [.lit (.bool false)], args := [d1, d2, d3, d4] }
  | _ => none }
def ScanAppliedWrongFalsely : Prop := scanAppliedRow.holds Try.pinned (OpenSpec.ofChange scanAppliedWrong)

/-- 'canopykeep.WriteAgain': WHATEVER THE INPUT: true; the input reads as it did. -/
def writeAgainSpec : ChangeSpec := { name := "writeAgain", fn := fun _ => fun
  | [d1, d2, d3] => { results := [.lit (.bool true)], args := [d1, d2, d3] }
  | _ => none }
def writeAgainRow : OpenClaim := { program := "ytpmfbfflacbmjab", sum := "3d1b6a039b9a53841bc89316f7b7031977949c5b23b1ab239bd03128aedb2fc3", func := "canopy/canopykeep.WriteAgain", spec := "writeAgain", inPlace := ["internal/bytealg.Compare", "slices.overlaps[canopy/api.Tenant]"], unfollowed := true, recurses := true, apart := false }
def WriteAgainSaid : Prop := writeAgainRow.holds Try.pinned (OpenSpec.ofChange writeAgainSpec)

/-- ITS FALSE NEIGHBOUR: 'it returns false'. Refute it at one input. -/
def writeAgainWrong : ChangeSpec := { name := "writeAgain", fn := fun _ => fun
  | [d1, d2, d3] => { results := [.lit (.bool false)], args := [d1, d2, d3] }
  | _ => none }
def WriteAgainWrongFalsely : Prop := writeAgainRow.holds Try.pinned (OpenSpec.ofChange writeAgainWrong)

/-- 'canopykeep.NoteOnce': WHATEVER THE INPUT: true; the input reads as it did. -/
def noteOnceSpec : ChangeSpec := { name := "noteOnce", fn := fun _ => fun
  | [d1, d2] => { results := [.lit (.bool true)], args := [d1, d2] }
  | _ => none }
def noteOnceRow : OpenClaim := { program := "ytpmfbfflacbmjab", sum := "3d1b6a039b9a53841bc89316f7b7031977949c5b23b1ab239bd03128aedb2fc3", func := "canopy/canopykeep.NoteOnce", spec := "noteOnce", inPlace := ["internal/bytealg.Compare", "slices.overlaps[canopy/api.Tenant]"], unfollowed := true, recurses := true, apart := false }
def NoteOnceSaid : Prop := noteOnceRow.holds Try.pinned (OpenSpec.ofChange noteOnceSpec)

/-- ITS FALSE NEIGHBOUR: 'it returns false'. Refute it at one input. -/
def noteOnceWrong : ChangeSpec := { name := "noteOnce", fn := fun _ => fun
  | [d1, d2] => { results := [.lit (.bool false)], args := [d1, d2] }
  | _ => none }
def NoteOnceWrongFalsely : Prop := noteOnceRow.holds Try.pinned (OpenSpec.ofChange noteOnceWrong)

/-- 'canopykeep.NoteFull': WHATEVER THE INPUT: true; the input reads as it did. -/
def noteFullSpec : ChangeSpec := { name := "noteFull", fn := fun _ => fun
  | [d] => { results := [.lit (.bool true)], args := [d] }
  | _ => none }
def noteFullRow : OpenClaim := { program := "ytpmfbfflacbmjab", sum := "3d1b6a039b9a53841bc89316f7b7031977949c5b23b1ab239bd03128aedb2fc3", func := "canopy/canopykeep.NoteFull", spec := "noteFull", inPlace := ["internal/bytealg.Compare", "slices.overlaps[canopy/api.Tenant]"], unfollowed := true, recurses := true, apart := false }
def NoteFullSaid : Prop := noteFullRow.holds Try.pinned (OpenSpec.ofChange noteFullSpec)

/-- ITS FALSE NEIGHBOUR: 'it returns false'. Refute it at one input. -/
def noteFullWrong : ChangeSpec := { name := "noteFull", fn := fun _ => fun
  | [d] => { results := [.lit (.bool false)], args := [d] }
  | _ => none }
def NoteFullWrongFalsely : Prop := noteFullRow.holds Try.pinned (OpenSpec.ofChange noteFullWrong)

/- THE SECOND FORM. 'bulk': how many values and letters a reading holds, each counted each time it is reached (what is shared counts as often as it is met; a slice's spare places count too). A statement '..UptoSaid' is the law's where the arguments, and the package variables that the reading takes, are together of bulk at most 1048576: NARROWER than '..Said'. Prove '..Said' where nothing that the law and all that it calls make is longer than what came in: it says more and counts as full. Else prove '..UptoSaid'. A law counts once. -/
mutual
def uptoBulk {H : Type} : DataW H → Nat
  | .lit (.string bytes) => bytes.length + 1
  | .lit _ => 1
  | .nil => 1
  | .ptr d => uptoBulk d + 1
  | .slice elems spare => uptoBulkAll elems + uptoBulkAll spare + 1
  | .agg parts => uptoBulkAll parts + 1
  | .iface _ d => uptoBulk d + 1
  | .map entries => uptoBulkEntries entries + 1
  | .held _ => 1
def uptoBulkAll {H : Type} : List (DataW H) → Nat
  | [] => 0
  | d :: r => uptoBulk d + uptoBulkAll r
def uptoBulkEntries {H : Type} : List (Lit × DataW H) → Nat
  | [] => 0
  | x :: r => uptoBulkEntry x + uptoBulkEntries r
def uptoBulkEntry {H : Type} : Lit × DataW H → Nat
  | (.string bytes, d) => bytes.length + uptoBulk d + 1
  | (_, d) => uptoBulk d + 1
 end
def uptoSmall : (H : Type) → List (DataW H) → Bool := fun _ ds => decide (uptoBulkAll ds ≤ 1048576)
def OpenSpec.upto (s : _root_.Go.ChangeSpec) : _root_.Go.OpenSpec := { _root_.Go.OpenSpec.ofChange s with cond := some uptoSmall }

/-- 'canopykeep.WriteSeen', WHERE WHAT IT READS IS OF BULK AT MOST 1048576: true; the input reads as it did. -/
def writeSeenUptoRow : OpenClaim := { program := "ytpmfbfflacbmjab", sum := "3d1b6a039b9a53841bc89316f7b7031977949c5b23b1ab239bd03128aedb2fc3", func := "canopy/canopykeep.WriteSeen", spec := "writeSeen", inPlace := ["internal/bytealg.Compare", "slices.overlaps[canopy/api.Tenant]"], unfollowed := true, recurses := true, apart := false, narrowed := true }
def WriteSeenUptoSaid : Prop := writeSeenUptoRow.holds Try.pinned (OpenSpec.upto writeSeenSpec)

/-- 'canopykeep.LookApplied', WHERE WHAT IT READS IS OF BULK AT MOST 1048576: true; the input reads as it did. -/
def lookAppliedUptoRow : OpenClaim := { program := "ytpmfbfflacbmjab", sum := "3d1b6a039b9a53841bc89316f7b7031977949c5b23b1ab239bd03128aedb2fc3", func := "canopy/canopykeep.LookApplied", spec := "lookApplied", inPlace := ["internal/bytealg.Compare", "slices.overlaps[canopy/api.Tenant]"], unfollowed := true, recurses := true, apart := false, narrowed := true }
def LookAppliedUptoSaid : Prop := lookAppliedUptoRow.holds Try.pinned (OpenSpec.upto lookAppliedSpec)

/-- 'canopykeep.ScanApplied', WHERE WHAT IT READS IS OF BULK AT MOST 1048576: true; the input reads as it did. -/
def scanAppliedUptoRow : OpenClaim := { program := "ytpmfbfflacbmjab", sum := "3d1b6a039b9a53841bc89316f7b7031977949c5b23b1ab239bd03128aedb2fc3", func := "canopy/canopykeep.ScanApplied", spec := "scanApplied", inPlace := ["internal/bytealg.Compare", "slices.overlaps[canopy/api.Tenant]"], unfollowed := true, recurses := true, apart := false, narrowed := true }
def ScanAppliedUptoSaid : Prop := scanAppliedUptoRow.holds Try.pinned (OpenSpec.upto scanAppliedSpec)

/-- 'canopykeep.WriteAgain', WHERE WHAT IT READS IS OF BULK AT MOST 1048576: true; the input reads as it did. -/
def writeAgainUptoRow : OpenClaim := { program := "ytpmfbfflacbmjab", sum := "3d1b6a039b9a53841bc89316f7b7031977949c5b23b1ab239bd03128aedb2fc3", func := "canopy/canopykeep.WriteAgain", spec := "writeAgain", inPlace := ["internal/bytealg.Compare", "slices.overlaps[canopy/api.Tenant]"], unfollowed := true, recurses := true, apart := false, narrowed := true }
def WriteAgainUptoSaid : Prop := writeAgainUptoRow.holds Try.pinned (OpenSpec.upto writeAgainSpec)

/-- 'canopykeep.NoteOnce', WHERE WHAT IT READS IS OF BULK AT MOST 1048576: true; the input reads as it did. -/
def noteOnceUptoRow : OpenClaim := { program := "ytpmfbfflacbmjab", sum := "3d1b6a039b9a53841bc89316f7b7031977949c5b23b1ab239bd03128aedb2fc3", func := "canopy/canopykeep.NoteOnce", spec := "noteOnce", inPlace := ["internal/bytealg.Compare", "slices.overlaps[canopy/api.Tenant]"], unfollowed := true, recurses := true, apart := false, narrowed := true }
def NoteOnceUptoSaid : Prop := noteOnceUptoRow.holds Try.pinned (OpenSpec.upto noteOnceSpec)

/-- 'canopykeep.NoteFull', WHERE WHAT IT READS IS OF BULK AT MOST 1048576: true; the input reads as it did. -/
def noteFullUptoRow : OpenClaim := { program := "ytpmfbfflacbmjab", sum := "3d1b6a039b9a53841bc89316f7b7031977949c5b23b1ab239bd03128aedb2fc3", func := "canopy/canopykeep.NoteFull", spec := "noteFull", inPlace := ["internal/bytealg.Compare", "slices.overlaps[canopy/api.Tenant]"], unfollowed := true, recurses := true, apart := false, narrowed := true }
def NoteFullUptoSaid : Prop := noteFullUptoRow.holds Try.pinned (OpenSpec.upto noteFullSpec)

end Rows
end Go.Proofs.Ytpmfbfflacbmjab
