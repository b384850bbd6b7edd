/-
  No cell of these rows narrows 'for every input' (looked for: loops, veiled, ifaces, maps, wideKeys, modest, calm, conditions, laid).
  DERIVED. THE GIVEN ROWS OF THIS SEAT. 5 by the template 'for every input the law returns true; each argument reads behind the call as it read before'; 0 by the template 'total and deterministic' (their statements: YtkkcjnhfbblgiaaTotals.lean).
  GIVEN WITH THE SEED: the statements are not yours to turn. If you find one false, say at which input.
  Laid BY PROGRAM, IN A SANDBOX (cutbox-rows.mjs): the forced cells as the released guide's own fill.sh prints them over the translation 6034c2ec6f288f23… (all of the seat's roots in one cut). By AI agents, Wed Nov 11 2026. No macro, syntax, notation, axiom, sorry.
-/
import Derived.Test.YtkkcjnhfbblgiaaChecked
import GoSem.Claim
import GoSem.ClaimJoined
import GoSem.ClaimMapViews
import Derived.JoinedTies
import Derived.KernelRfl
namespace Go.Proofs.Ytkkcjnhfbblgiaa
/- THE CELL 'sum', in the pinned program and in every row, IS THE sha256 OF THE DUMP (.gsa) THAT YtkkcjnhfbblgiaaProg.lean LOADS. Nothing in Lean hashes anything: it is a label: what it is worth is what the hold of that sum in a sandbox is worth. -/
noncomputable def Try.pinned : Pinned := { name := "ytkkcjnhfbblgiaa", sum := "6034c2ec6f288f23bc8cb06b3aa9a6185e4627ffdce4d8cf74c1894d517d4298", checked := Try.checked }
namespace Rows
def none {H : Type} : Left H := { results := [], args := [] }

/-- 'canopylaw.ForestNames': WHATEVER THE INPUT: true; the input reads as it did. -/
def forestNamesSpec : ChangeSpec := { name := "forestNames", fn := fun _ => fun
  | [d] => { results := [.lit (.bool true)], args := [d] }
  | _ => none }
def forestNamesRow : OpenClaim := { program := "ytkkcjnhfbblgiaa", sum := "6034c2ec6f288f23bc8cb06b3aa9a6185e4627ffdce4d8cf74c1894d517d4298", func := "canopy/canopylaw.ForestNames", spec := "forestNames", apart := false }
def ForestNamesSaid : Prop := forestNamesRow.holds Try.pinned (OpenSpec.ofChange forestNamesSpec)

/-- ITS FALSE NEIGHBOUR: 'it returns false'. Refute it at one input. -/
def forestNamesWrong : ChangeSpec := { name := "forestNames", fn := fun _ => fun
  | [d] => { results := [.lit (.bool false)], args := [d] }
  | _ => none }
def ForestNamesWrongFalsely : Prop := forestNamesRow.holds Try.pinned (OpenSpec.ofChange forestNamesWrong)

/-- 'canopylaw.ForestChecks': WHATEVER THE INPUT: true; the input reads as it did. -/
def forestChecksSpec : ChangeSpec := { name := "forestChecks", fn := fun _ => fun
  | [d] => { results := [.lit (.bool true)], args := [d] }
  | _ => none }
def forestChecksRow : OpenClaim := { program := "ytkkcjnhfbblgiaa", sum := "6034c2ec6f288f23bc8cb06b3aa9a6185e4627ffdce4d8cf74c1894d517d4298", func := "canopy/canopylaw.ForestChecks", spec := "forestChecks", inPlace := ["internal/bytealg.Compare"], apart := false }
def ForestChecksSaid : Prop := forestChecksRow.holds Try.pinned (OpenSpec.ofChange forestChecksSpec)

/-- ITS FALSE NEIGHBOUR: 'it returns false'. Refute it at one input. -/
def forestChecksWrong : ChangeSpec := { name := "forestChecks", fn := fun _ => fun
  | [d] => { results := [.lit (.bool false)], args := [d] }
  | _ => none }
def ForestChecksWrongFalsely : Prop := forestChecksRow.holds Try.pinned (OpenSpec.ofChange forestChecksWrong)

/-- 'canopylaw.ForestGets': WHATEVER THE INPUT: true; the input reads as it did. -/
def forestGetsSpec : ChangeSpec := { name := "forestGets", fn := fun _ => fun
  | [d1, d2, d3] => { results := [.lit (.bool true)], args := [d1, d2, d3] }
  | _ => none }
def forestGetsRow : OpenClaim := { program := "ytkkcjnhfbblgiaa", sum := "6034c2ec6f288f23bc8cb06b3aa9a6185e4627ffdce4d8cf74c1894d517d4298", func := "canopy/canopylaw.ForestGets", spec := "forestGets", inPlace := ["internal/bytealg.Compare"], unfollowed := true, recurses := true, apart := false }
def ForestGetsSaid : Prop := forestGetsRow.holds Try.pinned (OpenSpec.ofChange forestGetsSpec)

/-- ITS FALSE NEIGHBOUR: 'it returns false'. Refute it at one input. -/
def forestGetsWrong : ChangeSpec := { name := "forestGets", fn := fun _ => fun
  | [d1, d2, d3] => { results := [.lit (.bool false)], args := [d1, d2, d3] }
  | _ => none }
def ForestGetsWrongFalsely : Prop := forestGetsRow.holds Try.pinned (OpenSpec.ofChange forestGetsWrong)

/-- 'canopylaw.ForestRanges': WHATEVER THE INPUT: true; the input reads as it did. -/
def forestRangesSpec : ChangeSpec := { name := "forestRanges", fn := fun _ => fun
  | [d1, d2, d3, d4] => { results := [.lit (.bool true)], args := [d1, d2, d3, d4] }
  | _ => none }
def forestRangesRow : OpenClaim := { program := "ytkkcjnhfbblgiaa", sum := "6034c2ec6f288f23bc8cb06b3aa9a6185e4627ffdce4d8cf74c1894d517d4298", func := "canopy/canopylaw.ForestRanges", spec := "forestRanges", inPlace := ["internal/bytealg.Compare"], unfollowed := true, recurses := true, apart := false }
def ForestRangesSaid : Prop := forestRangesRow.holds Try.pinned (OpenSpec.ofChange forestRangesSpec)

/-- ITS FALSE NEIGHBOUR: 'it returns false'. Refute it at one input. -/
def forestRangesWrong : ChangeSpec := { name := "forestRanges", fn := fun _ => fun
  | [d1, d2, d3, d4] => { results := [.lit (.bool false)], args := [d1, d2, d3, d4] }
  | _ => none }
def ForestRangesWrongFalsely : Prop := forestRangesRow.holds Try.pinned (OpenSpec.ofChange forestRangesWrong)

/-- 'canopylaw.ForestApplies': WHATEVER THE INPUT: true; the input reads as it did. -/
def forestAppliesSpec : ChangeSpec := { name := "forestApplies", fn := fun _ => fun
  | [d1, d2] => { results := [.lit (.bool true)], args := [d1, d2] }
  | _ => none }
def forestAppliesRow : OpenClaim := { program := "ytkkcjnhfbblgiaa", sum := "6034c2ec6f288f23bc8cb06b3aa9a6185e4627ffdce4d8cf74c1894d517d4298", func := "canopy/canopylaw.ForestApplies", spec := "forestApplies", inPlace := ["internal/bytealg.Compare", "slices.overlaps[canopy/api.Tenant]"], unfollowed := true, recurses := true, apart := false }
def ForestAppliesSaid : Prop := forestAppliesRow.holds Try.pinned (OpenSpec.ofChange forestAppliesSpec)

/-- ITS FALSE NEIGHBOUR: 'it returns false'. Refute it at one input. -/
def forestAppliesWrong : ChangeSpec := { name := "forestApplies", fn := fun _ => fun
  | [d1, d2] => { results := [.lit (.bool false)], args := [d1, d2] }
  | _ => none }
def ForestAppliesWrongFalsely : Prop := forestAppliesRow.holds Try.pinned (OpenSpec.ofChange forestAppliesWrong)

/- THE SECOND FORM. 'bulk': how many values and letters a reading holds, each counted each time it is reached (what is shared counts as often as it is met; a slice's spare places count too). A statement '..UptoSaid' is the law's where the arguments, and the package variables that the reading takes, are together of bulk at most 1048576: NARROWER than '..Said'. Prove '..Said' where nothing that the law and all that it calls make is longer than what came in: it says more and counts as full. Else prove '..UptoSaid'. A law counts once. -/
mutual
def uptoBulk {H : Type} : DataW H → Nat
  | .lit (.string bytes) => bytes.length + 1
  | .lit _ => 1
  | .nil => 1
  | .ptr d => uptoBulk d + 1
  | .slice elems spare => uptoBulkAll elems + uptoBulkAll spare + 1
  | .agg parts => uptoBulkAll parts + 1
  | .iface _ d => uptoBulk d + 1
  | .map entries => uptoBulkEntries entries + 1
  | .held _ => 1
def uptoBulkAll {H : Type} : List (DataW H) → Nat
  | [] => 0
  | d :: r => uptoBulk d + uptoBulkAll r
def uptoBulkEntries {H : Type} : List (Lit × DataW H) → Nat
  | [] => 0
  | x :: r => uptoBulkEntry x + uptoBulkEntries r
def uptoBulkEntry {H : Type} : Lit × DataW H → Nat
  | (.string bytes, d) => bytes.length + uptoBulk d + 1
  | (_, d) => uptoBulk d + 1
 end
def uptoSmall : (H : Type) → List (DataW H) → Bool := fun _ ds => decide (uptoBulkAll ds ≤ 1048576)
def OpenSpec.upto (s : _root_.Go.ChangeSpec) : _root_.Go.OpenSpec := { _root_.Go.OpenSpec.ofChange s with cond := some uptoSmall }

/-- 'canopylaw.ForestNames', WHERE WHAT IT READS IS OF BULK AT MOST 1048576: true; the input reads as it did. -/
def forestNamesUptoRow : OpenClaim := { program := "ytkkcjnhfbblgiaa", sum := "6034c2ec6f288f23bc8cb06b3aa9a6185e4627ffdce4d8cf74c1894d517d4298", func := "canopy/canopylaw.ForestNames", spec := "forestNames", apart := false, narrowed := true }
def ForestNamesUptoSaid : Prop := forestNamesUptoRow.holds Try.pinned (OpenSpec.upto forestNamesSpec)

/-- 'canopylaw.ForestChecks', WHERE WHAT IT READS IS OF BULK AT MOST 1048576: true; the input reads as it did. -/
def forestChecksUptoRow : OpenClaim := { program := "ytkkcjnhfbblgiaa", sum := "6034c2ec6f288f23bc8cb06b3aa9a6185e4627ffdce4d8cf74c1894d517d4298", func := "canopy/canopylaw.ForestChecks", spec := "forestChecks", inPlace := ["internal/bytealg.Compare"], apart := false, narrowed := true }
def ForestChecksUptoSaid : Prop := forestChecksUptoRow.holds Try.pinned (OpenSpec.upto forestChecksSpec)

/-- 'canopylaw.ForestGets', WHERE WHAT IT READS IS OF BULK AT MOST 1048576: true; the input reads as it did. -/
def forestGetsUptoRow : OpenClaim := { program := "ytkkcjnhfbblgiaa", sum := "6034c2ec6f288f23bc8cb06b3aa9a6185e4627ffdce4d8cf74c1894d517d4298", func := "canopy/canopylaw.ForestGets", spec := "forestGets", inPlace := ["internal/bytealg.Compare"], unfollowed := true, recurses := true, apart := false, narrowed := true }
def ForestGetsUptoSaid : Prop := forestGetsUptoRow.holds Try.pinned (OpenSpec.upto forestGetsSpec)

/-- 'canopylaw.ForestRanges', WHERE WHAT IT READS IS OF BULK AT MOST 1048576: true; the input reads as it did. -/
def forestRangesUptoRow : OpenClaim := { program := "ytkkcjnhfbblgiaa", sum := "6034c2ec6f288f23bc8cb06b3aa9a6185e4627ffdce4d8cf74c1894d517d4298", func := "canopy/canopylaw.ForestRanges", spec := "forestRanges", inPlace := ["internal/bytealg.Compare"], unfollowed := true, recurses := true, apart := false, narrowed := true }
def ForestRangesUptoSaid : Prop := forestRangesUptoRow.holds Try.pinned (OpenSpec.upto forestRangesSpec)

/-- 'canopylaw.ForestApplies', WHERE WHAT IT READS IS OF BULK AT MOST 1048576: true; the input reads as it did. -/
def forestAppliesUptoRow : OpenClaim := { program := "ytkkcjnhfbblgiaa", sum := "6034c2ec6f288f23bc8cb06b3aa9a6185e4627ffdce4d8cf74c1894d517d4298", func := "canopy/canopylaw.ForestApplies", spec := "forestApplies", inPlace := ["internal/bytealg.Compare", "slices.overlaps[canopy/api.Tenant]"], unfollowed := true, recurses := true, apart := false, narrowed := true }
def ForestAppliesUptoSaid : Prop := forestAppliesUptoRow.holds Try.pinned (OpenSpec.upto forestAppliesSpec)

end Rows
end Go.Proofs.Ytkkcjnhfbblgiaa
