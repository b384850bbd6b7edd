/-
  DERIVED. GIVEN WITH THE SEED: THE CARDS: each row of YtkkcjnhfbblgiacDoorRows.lean that lists a variable, with what it lists TIED to the program's text (the seventh form; the later family's looks); each row that meets fmt, with fmt's text TOLD by the authors' own Lean function (tested against real Go, not proved from fmt's source: count such statements apart). THE CARD IS WHAT COUNTS. Prove the row's statement (the work); the ties are given (YtkkcjnhfbblgiacDoorTie.lean); close each card by the builder's one call (the guide's Derived/Test/ToyasCard.lean, 'card_holds'). Laid BY PROGRAM, IN A SANDBOX (cutbox-door.mjs). By AI agents, Wed Nov 11 2026. No macro, syntax, notation, axiom, sorry.
-/
import Derived.Test.YtkkcjnhfbblgiacDoorRows
import GoSem.ClaimSeven
namespace Go.Proofs.YtkkcjnhfbblgiacDoor
namespace Rows

/-- THE TIED CARD OF 'canopykeep.ForestHolds'. -/
def forestHoldsCard : Claim7 := { stood := { row := forestHoldsRow, standIns := [], harness := (true, "593264c4c75350fcc1446b76b9c2e4df02cb654255fe519a6387c55199dd0cc6"), looks := false }, kinds := [], alts := [], laidByText := true, laidKinds := [.data, .data, .data], laidTests := true, laidLooks := .later }
def ForestHoldsCardSaid : Prop := Claim7.holds Tryd.pinned (.plain (OpenSpec.ofChange forestHoldsSpec)) forestHoldsCard

/-- THE TIED CARD OF 'canopykeep.ForestApart'. -/
def forestApartCard : Claim7 := { stood := { row := forestApartRow, standIns := [], harness := (true, "593264c4c75350fcc1446b76b9c2e4df02cb654255fe519a6387c55199dd0cc6"), looks := false }, kinds := [], alts := [], laidByText := true, laidKinds := [.data, .data, .data], laidTests := true, laidLooks := .later }
def ForestApartCardSaid : Prop := Claim7.holds Tryd.pinned (.plain (OpenSpec.ofChange forestApartSpec)) forestApartCard

/-- THE TIED CARD OF 'canopykeep.RootNames'. -/
def rootNamesCard : Claim7 := { stood := { row := rootNamesRow, standIns := [], harness := (true, "593264c4c75350fcc1446b76b9c2e4df02cb654255fe519a6387c55199dd0cc6"), looks := false }, kinds := [], alts := [], laidByText := true, laidKinds := [.data, .data, .data], laidTests := true, laidLooks := .later }
def RootNamesCardSaid : Prop := Claim7.holds Tryd.pinned (.plain (OpenSpec.ofChange rootNamesSpec)) rootNamesCard

/-- THE SECOND FORM's CARD OF 'canopykeep.ForestHolds'. -/
def forestHoldsUptoCard : Claim7 := { stood := { row := forestHoldsUptoRow, standIns := [], harness := (true, "593264c4c75350fcc1446b76b9c2e4df02cb654255fe519a6387c55199dd0cc6"), looks := false }, kinds := [], alts := [], laidByText := true, laidKinds := [.data, .data, .data], laidTests := true, laidLooks := .later }
def ForestHoldsUptoCardSaid : Prop := Claim7.holds Tryd.pinned (.plain (OpenSpec.upto forestHoldsSpec)) forestHoldsUptoCard

/-- THE SECOND FORM's CARD OF 'canopykeep.ForestApart'. -/
def forestApartUptoCard : Claim7 := { stood := { row := forestApartUptoRow, standIns := [], harness := (true, "593264c4c75350fcc1446b76b9c2e4df02cb654255fe519a6387c55199dd0cc6"), looks := false }, kinds := [], alts := [], laidByText := true, laidKinds := [.data, .data, .data], laidTests := true, laidLooks := .later }
def ForestApartUptoCardSaid : Prop := Claim7.holds Tryd.pinned (.plain (OpenSpec.upto forestApartSpec)) forestApartUptoCard

/-- THE SECOND FORM's CARD OF 'canopykeep.RootNames'. -/
def rootNamesUptoCard : Claim7 := { stood := { row := rootNamesUptoRow, standIns := [], harness := (true, "593264c4c75350fcc1446b76b9c2e4df02cb654255fe519a6387c55199dd0cc6"), looks := false }, kinds := [], alts := [], laidByText := true, laidKinds := [.data, .data, .data], laidTests := true, laidLooks := .later }
def RootNamesUptoCardSaid : Prop := Claim7.holds Tryd.pinned (.plain (OpenSpec.upto rootNamesSpec)) rootNamesUptoCard
end Rows
end Go.Proofs.YtkkcjnhfbblgiacDoor
