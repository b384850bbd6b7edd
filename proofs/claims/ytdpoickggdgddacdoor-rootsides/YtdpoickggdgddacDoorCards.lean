/-
  DERIVED. GIVEN WITH THE SEED: THE CARDS: each row of YtdpoickggdgddacDoorRows.lean that lists a variable, with what it lists TIED to the program's text (the seventh form; the later family's looks); each row that meets fmt, with fmt's text TOLD by the authors' own Lean function (tested against real Go, not proved from fmt's source: count such statements apart). THE CARD IS WHAT COUNTS. Prove the row's statement (the work); the ties are given (YtdpoickggdgddacDoorTie.lean); close each card by the builder's one call (the guide's Derived/Test/ToyasCard.lean, 'card_holds'). Laid BY PROGRAM, IN A SANDBOX (cutbox-door.mjs). By AI agents, Wed Nov 11 2026. No macro, syntax, notation, axiom, sorry.
-/
import Derived.Test.YtdpoickggdgddacDoorRows
import GoSem.ClaimSeven
namespace Go.Proofs.YtdpoickggdgddacDoor
namespace Rows

/-- THE TIED CARD OF 'canopykeep.RootMade'. -/
def rootMadeCard : Claim7 := { stood := { row := rootMadeRow, standIns := [], harness := (true, "3f61dd95fb6eda63fb0d286b189d0311743fa374ab95e373b8adafed363ccc1b"), looks := false }, kinds := [], alts := [], laidByText := true, laidKinds := [.data, .data, .data], laidTests := true, laidLooks := .later }
def RootMadeCardSaid : Prop := Claim7.holds Tryd.pinned (.plain (OpenSpec.ofChange rootMadeSpec)) rootMadeCard

/-- THE TIED CARD OF 'canopykeep.RootSides'. -/
def rootSidesCard : Claim7 := { stood := { row := rootSidesRow, standIns := [], harness := (true, "3f61dd95fb6eda63fb0d286b189d0311743fa374ab95e373b8adafed363ccc1b"), looks := false }, kinds := [], alts := [], laidByText := true, laidKinds := [.data, .data, .data], laidTests := true, laidLooks := .later }
def RootSidesCardSaid : Prop := Claim7.holds Tryd.pinned (.plain (OpenSpec.ofChange rootSidesSpec)) rootSidesCard

/-- THE SECOND FORM's CARD OF 'canopykeep.RootMade'. -/
def rootMadeUptoCard : Claim7 := { stood := { row := rootMadeUptoRow, standIns := [], harness := (true, "3f61dd95fb6eda63fb0d286b189d0311743fa374ab95e373b8adafed363ccc1b"), looks := false }, kinds := [], alts := [], laidByText := true, laidKinds := [.data, .data, .data], laidTests := true, laidLooks := .later }
def RootMadeUptoCardSaid : Prop := Claim7.holds Tryd.pinned (.plain (OpenSpec.upto rootMadeSpec)) rootMadeUptoCard

/-- THE SECOND FORM's CARD OF 'canopykeep.RootSides'. -/
def rootSidesUptoCard : Claim7 := { stood := { row := rootSidesUptoRow, standIns := [], harness := (true, "3f61dd95fb6eda63fb0d286b189d0311743fa374ab95e373b8adafed363ccc1b"), looks := false }, kinds := [], alts := [], laidByText := true, laidKinds := [.data, .data, .data], laidTests := true, laidLooks := .later }
def RootSidesUptoCardSaid : Prop := Claim7.holds Tryd.pinned (.plain (OpenSpec.upto rootSidesSpec)) rootSidesUptoCard
end Rows
end Go.Proofs.YtdpoickggdgddacDoor
