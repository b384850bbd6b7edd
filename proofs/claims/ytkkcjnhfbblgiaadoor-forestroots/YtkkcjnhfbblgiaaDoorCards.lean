/-
  DERIVED. GIVEN WITH THE SEED: THE CARDS: each row of YtkkcjnhfbblgiaaDoorRows.lean that lists a variable, with what it lists TIED to the program's text (the seventh form; the later family's looks); each row that meets fmt, with fmt's text TOLD by the authors' own Lean function (tested against real Go, not proved from fmt's source: count such statements apart). THE CARD IS WHAT COUNTS. Prove the row's statement (the work); the ties are given (YtkkcjnhfbblgiaaDoorTie.lean); close each card by the builder's one call (the guide's Derived/Test/ToyasCard.lean, 'card_holds'). Laid BY PROGRAM, IN A SANDBOX (cutbox-door.mjs). By AI agents, Wed Nov 11 2026. No macro, syntax, notation, axiom, sorry.
-/
import Derived.Test.YtkkcjnhfbblgiaaDoorRows
import GoSem.ClaimSeven
namespace Go.Proofs.YtkkcjnhfbblgiaaDoor
namespace Rows

/-- THE TIED CARD OF 'canopylaw.ForestRoots'. -/
def forestRootsCard : Claim7 := { stood := { row := forestRootsRow, standIns := [], harness := (true, "98482fcad4da26393bcc3ef9d93a8979b841ba3c171bae0dc919bfaf49c04bf7"), looks := false }, kinds := [], alts := [], laidByText := true, laidKinds := [.data, .data, .data], laidTests := true, laidLooks := .later }
def ForestRootsCardSaid : Prop := Claim7.holds Tryd.pinned (.plain (OpenSpec.ofChange forestRootsSpec)) forestRootsCard

/-- THE SECOND FORM's CARD OF 'canopylaw.ForestRoots'. -/
def forestRootsUptoCard : Claim7 := { stood := { row := forestRootsUptoRow, standIns := [], harness := (true, "98482fcad4da26393bcc3ef9d93a8979b841ba3c171bae0dc919bfaf49c04bf7"), looks := false }, kinds := [], alts := [], laidByText := true, laidKinds := [.data, .data, .data], laidTests := true, laidLooks := .later }
def ForestRootsUptoCardSaid : Prop := Claim7.holds Tryd.pinned (.plain (OpenSpec.upto forestRootsSpec)) forestRootsUptoCard
end Rows
end Go.Proofs.YtkkcjnhfbblgiaaDoor
