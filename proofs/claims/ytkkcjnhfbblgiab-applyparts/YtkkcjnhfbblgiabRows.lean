/-
  No cell of these rows narrows 'for every input' (looked for: loops, veiled, ifaces, maps, wideKeys, modest, calm, conditions, laid).
  DERIVED. THE GIVEN ROWS OF THIS SEAT. 3 by the template 'for every input the law returns true; each argument reads behind the call as it read before'; 0 by the template 'total and deterministic' (their statements: YtkkcjnhfbblgiabTotals.lean).
  GIVEN WITH THE SEED: the statements are not yours to turn. If you find one false, say at which input.
  Laid BY PROGRAM, IN A SANDBOX (cutbox-rows.mjs): the forced cells as the released guide's own fill.sh prints them over the translation e972dc5bebcb30f4… (all of the seat's roots in one cut). By AI agents, Wed Nov 11 2026. No macro, syntax, notation, axiom, sorry.
-/
import Derived.Test.YtkkcjnhfbblgiabChecked
import GoSem.Claim
import GoSem.ClaimJoined
import GoSem.ClaimMapViews
import Derived.JoinedTies
import Derived.KernelRfl
namespace Go.Proofs.Ytkkcjnhfbblgiab
/- THE CELL 'sum', in the pinned program and in every row, IS THE sha256 OF THE DUMP (.gsa) THAT YtkkcjnhfbblgiabProg.lean LOADS. Nothing in Lean hashes anything: it is a label: what it is worth is what the hold of that sum in a sandbox is worth. -/
noncomputable def Try.pinned : Pinned := { name := "ytkkcjnhfbblgiab", sum := "e972dc5bebcb30f47f8f0c777dfe839aab7600cd67c4f06d54c48a51f4ca2ccc", checked := Try.checked }
namespace Rows
def none {H : Type} : Left H := { results := [], args := [] }

/-- 'canopykeep.ApplyGet': WHATEVER THE INPUT: true; the input reads as it did. -/
def applyGetSpec : ChangeSpec := { name := "applyGet", fn := fun _ => fun
  | [d1, d2, d3] => { results := [.lit (.bool true)], args := [d1, d2, d3] }
  | _ => none }
def applyGetRow : OpenClaim := { program := "ytkkcjnhfbblgiab", sum := "e972dc5bebcb30f47f8f0c777dfe839aab7600cd67c4f06d54c48a51f4ca2ccc", func := "canopy/canopykeep.ApplyGet", spec := "applyGet", inPlace := ["internal/bytealg.Compare", "slices.overlaps[canopy/api.Tenant]"], unfollowed := true, recurses := true, apart := false }
def ApplyGetSaid : Prop := applyGetRow.holds Try.pinned (OpenSpec.ofChange applyGetSpec)

/-- ITS FALSE NEIGHBOUR: 'it returns false'. Refute it at one input. -/
def applyGetWrong : ChangeSpec := { name := "applyGet", fn := fun _ => fun
  | [d1, d2, d3] => { results := [.lit (.bool false)], args := [d1, d2, d3] }
  | _ => none }
def ApplyGetWrongFalsely : Prop := applyGetRow.holds Try.pinned (OpenSpec.ofChange applyGetWrong)

/-- 'canopykeep.ApplyParts': WHATEVER THE INPUT: true; the input reads as it did. -/
def applyPartsSpec : ChangeSpec := { name := "applyParts", fn := fun _ => fun
  | [d1, d2, d3] => { results := [.lit (.bool true)], args := [d1, d2, d3] }
  | _ => none }
def applyPartsRow : OpenClaim := { program := "ytkkcjnhfbblgiab", sum := "e972dc5bebcb30f47f8f0c777dfe839aab7600cd67c4f06d54c48a51f4ca2ccc", func := "canopy/canopykeep.ApplyParts", spec := "applyParts", inPlace := ["internal/bytealg.Compare", "slices.overlaps[canopy/api.Tenant]"], unfollowed := true, recurses := true, apart := false }
def ApplyPartsSaid : Prop := applyPartsRow.holds Try.pinned (OpenSpec.ofChange applyPartsSpec)

/-- ITS FALSE NEIGHBOUR: 'it returns false'. Refute it at one input. -/
def applyPartsWrong : ChangeSpec := { name := "applyParts", fn := fun _ => fun
  | [d1, d2, d3] => { results := [.lit (.bool false)], args := [d1, d2, d3] }
  | _ => none }
def ApplyPartsWrongFalsely : Prop := applyPartsRow.holds Try.pinned (OpenSpec.ofChange applyPartsWrong)

/-- 'canopykeep.ApplyTurns': WHATEVER THE INPUT: true; the input reads as it did. -/
def applyTurnsSpec : ChangeSpec := { name := "applyTurns", fn := fun _ => fun
  | [d1, d2, d3] => { results := [.lit (.bool true)], args := [d1, d2, d3] }
  | _ => none }
def applyTurnsRow : OpenClaim := { program := "ytkkcjnhfbblgiab", sum := "e972dc5bebcb30f47f8f0c777dfe839aab7600cd67c4f06d54c48a51f4ca2ccc", func := "canopy/canopykeep.ApplyTurns", spec := "applyTurns", inPlace := ["internal/bytealg.Compare", "slices.overlaps[canopy/api.Tenant]"], unfollowed := true, recurses := true, apart := false }
def ApplyTurnsSaid : Prop := applyTurnsRow.holds Try.pinned (OpenSpec.ofChange applyTurnsSpec)

/-- ITS FALSE NEIGHBOUR: 'it returns false'. Refute it at one input. -/
def applyTurnsWrong : ChangeSpec := { name := "applyTurns", fn := fun _ => fun
  | [d1, d2, d3] => { results := [.lit (.bool false)], args := [d1, d2, d3] }
  | _ => none }
def ApplyTurnsWrongFalsely : Prop := applyTurnsRow.holds Try.pinned (OpenSpec.ofChange applyTurnsWrong)

/- THE SECOND FORM. 'bulk': how many values and letters a reading holds, each counted each time it is reached (what is shared counts as often as it is met; a slice's spare places count too). A statement '..UptoSaid' is the law's where the arguments, and the package variables that the reading takes, are together of bulk at most 1048576: NARROWER than '..Said'. Prove '..Said' where nothing that the law and all that it calls make is longer than what came in: it says more and counts as full. Else prove '..UptoSaid'. A law counts once. -/
mutual
def uptoBulk {H : Type} : DataW H → Nat
  | .lit (.string bytes) => bytes.length + 1
  | .lit _ => 1
  | .nil => 1
  | .ptr d => uptoBulk d + 1
  | .slice elems spare => uptoBulkAll elems + uptoBulkAll spare + 1
  | .agg parts => uptoBulkAll parts + 1
  | .iface _ d => uptoBulk d + 1
  | .map entries => uptoBulkEntries entries + 1
  | .held _ => 1
def uptoBulkAll {H : Type} : List (DataW H) → Nat
  | [] => 0
  | d :: r => uptoBulk d + uptoBulkAll r
def uptoBulkEntries {H : Type} : List (Lit × DataW H) → Nat
  | [] => 0
  | x :: r => uptoBulkEntry x + uptoBulkEntries r
def uptoBulkEntry {H : Type} : Lit × DataW H → Nat
  | (.string bytes, d) => bytes.length + uptoBulk d + 1
  | (_, d) => uptoBulk d + 1
 end
def uptoSmall : (H : Type) → List (DataW H) → Bool := fun _ ds => decide (uptoBulkAll ds ≤ 1048576)
def OpenSpec.upto (s : _root_.Go.ChangeSpec) : _root_.Go.OpenSpec := { _root_.Go.OpenSpec.ofChange s with cond := some uptoSmall }

/-- 'canopykeep.ApplyGet', WHERE WHAT IT READS IS OF BULK AT MOST 1048576: true; the input reads as it did. -/
def applyGetUptoRow : OpenClaim := { program := "ytkkcjnhfbblgiab", sum := "e972dc5bebcb30f47f8f0c777dfe839aab7600cd67c4f06d54c48a51f4ca2ccc", func := "canopy/canopykeep.ApplyGet", spec := "applyGet", inPlace := ["internal/bytealg.Compare", "slices.overlaps[canopy/api.Tenant]"], unfollowed := true, recurses := true, apart := false, narrowed := true }
def ApplyGetUptoSaid : Prop := applyGetUptoRow.holds Try.pinned (OpenSpec.upto applyGetSpec)

/-- 'canopykeep.ApplyParts', WHERE WHAT IT READS IS OF BULK AT MOST 1048576: true; the input reads as it did. -/
def applyPartsUptoRow : OpenClaim := { program := "ytkkcjnhfbblgiab", sum := "e972dc5bebcb30f47f8f0c777dfe839aab7600cd67c4f06d54c48a51f4ca2ccc", func := "canopy/canopykeep.ApplyParts", spec := "applyParts", inPlace := ["internal/bytealg.Compare", "slices.overlaps[canopy/api.Tenant]"], unfollowed := true, recurses := true, apart := false, narrowed := true }
def ApplyPartsUptoSaid : Prop := applyPartsUptoRow.holds Try.pinned (OpenSpec.upto applyPartsSpec)

/-- 'canopykeep.ApplyTurns', WHERE WHAT IT READS IS OF BULK AT MOST 1048576: true; the input reads as it did. -/
def applyTurnsUptoRow : OpenClaim := { program := "ytkkcjnhfbblgiab", sum := "e972dc5bebcb30f47f8f0c777dfe839aab7600cd67c4f06d54c48a51f4ca2ccc", func := "canopy/canopykeep.ApplyTurns", spec := "applyTurns", inPlace := ["internal/bytealg.Compare", "slices.overlaps[canopy/api.Tenant]"], unfollowed := true, recurses := true, apart := false, narrowed := true }
def ApplyTurnsUptoSaid : Prop := applyTurnsUptoRow.holds Try.pinned (OpenSpec.upto applyTurnsSpec)

end Rows
end Go.Proofs.Ytkkcjnhfbblgiab
