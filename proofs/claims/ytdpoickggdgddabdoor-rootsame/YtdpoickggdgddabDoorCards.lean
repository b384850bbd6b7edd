/-
  DERIVED. GIVEN WITH THE SEED: THE CARDS: each row of YtdpoickggdgddabDoorRows.lean that lists a variable, with what it lists TIED to the program's text (the seventh form; the later family's looks); each row that meets fmt, with fmt's text TOLD by the authors' own Lean function (tested against real Go, not proved from fmt's source: count such statements apart). THE CARD IS WHAT COUNTS. Prove the row's statement (the work); the ties are given (YtdpoickggdgddabDoorTie.lean); close each card by the builder's one call (the guide's Derived/Test/ToyasCard.lean, 'card_holds'). Laid BY PROGRAM, IN A SANDBOX (cutbox-door.mjs). By AI agents, Wed Nov 11 2026. No macro, syntax, notation, axiom, sorry.
-/
import Derived.Test.YtdpoickggdgddabDoorRows
import GoSem.ClaimSeven
namespace Go.Proofs.YtdpoickggdgddabDoor
namespace Rows

/-- THE TIED CARD OF 'canopykeep.RootSame'. -/
def rootSameCard : Claim7 := { stood := { row := rootSameRow, standIns := [], harness := (true, "a909c8418ec70221e8daaa11cc8697920af43e4028b8fea541ee7b0f35bca21a"), looks := false }, kinds := [], alts := [], laidByText := true, laidKinds := [.data, .data, .data], laidTests := true, laidLooks := .later }
def RootSameCardSaid : Prop := Claim7.holds Tryd.pinned (.plain (OpenSpec.ofChange rootSameSpec)) rootSameCard

/-- THE SECOND FORM's CARD OF 'canopykeep.RootSame'. -/
def rootSameUptoCard : Claim7 := { stood := { row := rootSameUptoRow, standIns := [], harness := (true, "a909c8418ec70221e8daaa11cc8697920af43e4028b8fea541ee7b0f35bca21a"), looks := false }, kinds := [], alts := [], laidByText := true, laidKinds := [.data, .data, .data], laidTests := true, laidLooks := .later }
def RootSameUptoCardSaid : Prop := Claim7.holds Tryd.pinned (.plain (OpenSpec.upto rootSameSpec)) rootSameUptoCard
end Rows
end Go.Proofs.YtdpoickggdgddabDoor
