/-
  No cell of these rows narrows 'for every input' (looked for: loops, veiled, ifaces, maps, wideKeys, modest, calm, conditions, laid).
  DERIVED. THE GIVEN ROWS OF THIS SEAT. 4 by the template 'for every input the law returns true; each argument reads behind the call as it read before'; 0 by the template 'total and deterministic' (their statements: YtljdconhplgipaaTotals.lean).
  GIVEN WITH THE SEED: the statements are not yours to turn. If you find one false, say at which input.
  Laid BY PROGRAM, IN A SANDBOX (cutbox-rows.mjs): the forced cells as the released guide's own fill.sh prints them over the translation 3ee738ac1cbbe2d2… (all of the seat's roots in one cut). By AI agents, Wed Nov 11 2026. No macro, syntax, notation, axiom, sorry.
-/
import Derived.Test.YtljdconhplgipaaChecked
import GoSem.Claim
import GoSem.ClaimJoined
import GoSem.ClaimMapViews
import Derived.JoinedTies
import Derived.KernelRfl
namespace Go.Proofs.Ytljdconhplgipaa
/- THE CELL 'sum', in the pinned program and in every row, IS THE sha256 OF THE DUMP (.gsa) THAT YtljdconhplgipaaProg.lean LOADS. Nothing in Lean hashes anything: it is a label: what it is worth is what the hold of that sum in a sandbox is worth. -/
noncomputable def Try.pinned : Pinned := { name := "ytljdconhplgipaa", sum := "3ee738ac1cbbe2d2774245ad735feea99fb2b030b55d03eb43100cbe3bd4b2bc", checked := Try.checked }
namespace Rows
def none {H : Type} : Left H := { results := [], args := [] }

/-- 'canopylaw.HistoryChecks': WHATEVER THE INPUT: true; the input reads as it did. -/
def historyChecksSpec : ChangeSpec := { name := "historyChecks", fn := fun _ => fun
  | [d] => { results := [.lit (.bool true)], args := [d] }
  | _ => none }
def historyChecksRow : OpenClaim := { program := "ytljdconhplgipaa", sum := "3ee738ac1cbbe2d2774245ad735feea99fb2b030b55d03eb43100cbe3bd4b2bc", func := "canopy/canopylaw.HistoryChecks", spec := "historyChecks", inPlace := ["internal/bytealg.Compare", "slices.overlaps[canopy/api.Tenant]"], unfollowed := true, recurses := true, apart := false }
def HistoryChecksSaid : Prop := historyChecksRow.holds Try.pinned (OpenSpec.ofChange historyChecksSpec)

/-- ITS FALSE NEIGHBOUR: 'it returns false'. Refute it at one input. -/
def historyChecksWrong : ChangeSpec := { name := "historyChecks", fn := fun _ => fun
  | [d] => { results := [.lit (.bool false)], args := [d] }
  | _ => none }
def HistoryChecksWrongFalsely : Prop := historyChecksRow.holds Try.pinned (OpenSpec.ofChange historyChecksWrong)

/-- 'canopylaw.HistoryFolds': WHATEVER THE INPUT: true; the input reads as it did. -/
def historyFoldsSpec : ChangeSpec := { name := "historyFolds", fn := fun _ => fun
  | [d1, d2] => { results := [.lit (.bool true)], args := [d1, d2] }
  | _ => none }
def historyFoldsRow : OpenClaim := { program := "ytljdconhplgipaa", sum := "3ee738ac1cbbe2d2774245ad735feea99fb2b030b55d03eb43100cbe3bd4b2bc", func := "canopy/canopylaw.HistoryFolds", spec := "historyFolds", inPlace := ["internal/bytealg.Compare", "slices.overlaps[canopy/api.Tenant]"], unfollowed := true, recurses := true, apart := false }
def HistoryFoldsSaid : Prop := historyFoldsRow.holds Try.pinned (OpenSpec.ofChange historyFoldsSpec)

/-- ITS FALSE NEIGHBOUR: 'it returns false'. Refute it at one input. -/
def historyFoldsWrong : ChangeSpec := { name := "historyFolds", fn := fun _ => fun
  | [d1, d2] => { results := [.lit (.bool false)], args := [d1, d2] }
  | _ => none }
def HistoryFoldsWrongFalsely : Prop := historyFoldsRow.holds Try.pinned (OpenSpec.ofChange historyFoldsWrong)

/-- 'canopylaw.HistoryKepts': WHATEVER THE INPUT: true; the input reads as it did. -/
def historyKeptsSpec : ChangeSpec := { name := "historyKepts", fn := fun _ => fun
  | [d1, d2] => { results := [.lit (.bool true)], args := [d1, d2] }
  | _ => none }
def historyKeptsRow : OpenClaim := { program := "ytljdconhplgipaa", sum := "3ee738ac1cbbe2d2774245ad735feea99fb2b030b55d03eb43100cbe3bd4b2bc", func := "canopy/canopylaw.HistoryKepts", spec := "historyKepts", apart := false }
def HistoryKeptsSaid : Prop := historyKeptsRow.holds Try.pinned (OpenSpec.ofChange historyKeptsSpec)

/-- ITS FALSE NEIGHBOUR: 'it returns false'. Refute it at one input. -/
def historyKeptsWrong : ChangeSpec := { name := "historyKepts", fn := fun _ => fun
  | [d1, d2] => { results := [.lit (.bool false)], args := [d1, d2] }
  | _ => none }
def HistoryKeptsWrongFalsely : Prop := historyKeptsRow.holds Try.pinned (OpenSpec.ofChange historyKeptsWrong)

/-- 'canopykeep.FoldNext': WHATEVER THE INPUT: true; the input reads as it did. -/
def foldNextSpec : ChangeSpec := { name := "foldNext", fn := fun _ => fun
  | [d1, d2] => { results := [.lit (.bool true)], args := [d1, d2] }
  | _ => none }
def foldNextRow : OpenClaim := { program := "ytljdconhplgipaa", sum := "3ee738ac1cbbe2d2774245ad735feea99fb2b030b55d03eb43100cbe3bd4b2bc", func := "canopy/canopykeep.FoldNext", spec := "foldNext", inPlace := ["internal/bytealg.Compare", "slices.overlaps[canopy/api.Tenant]"], unfollowed := true, recurses := true, apart := false }
def FoldNextSaid : Prop := foldNextRow.holds Try.pinned (OpenSpec.ofChange foldNextSpec)

/-- ITS FALSE NEIGHBOUR: 'it returns false'. Refute it at one input. -/
def foldNextWrong : ChangeSpec := { name := "foldNext", fn := fun _ => fun
  | [d1, d2] => { results := [.lit (.bool false)], args := [d1, d2] }
  | _ => none }
def FoldNextWrongFalsely : Prop := foldNextRow.holds Try.pinned (OpenSpec.ofChange foldNextWrong)

/- THE SECOND FORM. 'bulk': how many values and letters a reading holds, each counted each time it is reached (what is shared counts as often as it is met; a slice's spare places count too). A statement '..UptoSaid' is the law's where the arguments, and the package variables that the reading takes, are together of bulk at most 1048576: NARROWER than '..Said'. Prove '..Said' where nothing that the law and all that it calls make is longer than what came in: it says more and counts as full. Else prove '..UptoSaid'. A law counts once. -/
mutual
def uptoBulk {H : Type} : DataW H → Nat
  | .lit (.string bytes) => bytes.length + 1
  | .lit _ => 1
  | .nil => 1
  | .ptr d => uptoBulk d + 1
  | .slice elems spare => uptoBulkAll elems + uptoBulkAll spare + 1
  | .agg parts => uptoBulkAll parts + 1
  | .iface _ d => uptoBulk d + 1
  | .map entries => uptoBulkEntries entries + 1
  | .held _ => 1
def uptoBulkAll {H : Type} : List (DataW H) → Nat
  | [] => 0
  | d :: r => uptoBulk d + uptoBulkAll r
def uptoBulkEntries {H : Type} : List (Lit × DataW H) → Nat
  | [] => 0
  | x :: r => uptoBulkEntry x + uptoBulkEntries r
def uptoBulkEntry {H : Type} : Lit × DataW H → Nat
  | (.string bytes, d) => bytes.length + uptoBulk d + 1
  | (_, d) => uptoBulk d + 1
 end
def uptoSmall : (H : Type) → List (DataW H) → Bool := fun _ ds => decide (uptoBulkAll ds ≤ 1048576)
def OpenSpec.upto (s : _root_.Go.ChangeSpec) : _root_.Go.OpenSpec := { _root_.Go.OpenSpec.ofChange s with cond := some uptoSmall }

/-- 'canopylaw.HistoryChecks', WHERE WHAT IT READS IS OF BULK AT MOST 1048576: true; the input reads as it did. -/
def historyChecksUptoRow : OpenClaim := { program := "ytljdconhplgipaa", sum := "3ee738ac1cbbe2d2774245ad735feea99fb2b030b55d03eb43100cbe3bd4b2bc", func := "canopy/canopylaw.HistoryChecks", spec := "historyChecks", inPlace := ["internal/bytealg.Compare", "slices.overlaps[canopy/api.Tenant]"], unfollowed := true, recurses := true, apart := false, narrowed := true }
def HistoryChecksUptoSaid : Prop := historyChecksUptoRow.holds Try.pinned (OpenSpec.upto historyChecksSpec)

/-- 'canopylaw.HistoryFolds', WHERE WHAT IT READS IS OF BULK AT MOST 1048576: true; the input reads as it did. -/
def historyFoldsUptoRow : OpenClaim := { program := "ytljdconhplgipaa", sum := "3ee738ac1cbbe2d2774245ad735feea99fb2b030b55d03eb43100cbe3bd4b2bc", func := "canopy/canopylaw.HistoryFolds", spec := "historyFolds", inPlace := ["internal/bytealg.Compare", "slices.overlaps[canopy/api.Tenant]"], unfollowed := true, recurses := true, apart := false, narrowed := true }
def HistoryFoldsUptoSaid : Prop := historyFoldsUptoRow.holds Try.pinned (OpenSpec.upto historyFoldsSpec)

/-- 'canopylaw.HistoryKepts', WHERE WHAT IT READS IS OF BULK AT MOST 1048576: true; the input reads as it did. -/
def historyKeptsUptoRow : OpenClaim := { program := "ytljdconhplgipaa", sum := "3ee738ac1cbbe2d2774245ad735feea99fb2b030b55d03eb43100cbe3bd4b2bc", func := "canopy/canopylaw.HistoryKepts", spec := "historyKepts", apart := false, narrowed := true }
def HistoryKeptsUptoSaid : Prop := historyKeptsUptoRow.holds Try.pinned (OpenSpec.upto historyKeptsSpec)

/-- 'canopykeep.FoldNext', WHERE WHAT IT READS IS OF BULK AT MOST 1048576: true; the input reads as it did. -/
def foldNextUptoRow : OpenClaim := { program := "ytljdconhplgipaa", sum := "3ee738ac1cbbe2d2774245ad735feea99fb2b030b55d03eb43100cbe3bd4b2bc", func := "canopy/canopykeep.FoldNext", spec := "foldNext", inPlace := ["internal/bytealg.Compare", "slices.overlaps[canopy/api.Tenant]"], unfollowed := true, recurses := true, apart := false, narrowed := true }
def FoldNextUptoSaid : Prop := foldNextUptoRow.holds Try.pinned (OpenSpec.upto foldNextSpec)

end Rows
end Go.Proofs.Ytljdconhplgipaa
