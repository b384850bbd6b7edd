/-
  DERIVED. GIVEN WITH THE SEED: THE CARDS: each row of YtcieibjgedmdlaaGreatDoorRows.lean that lists a variable, with what it lists TIED to the program's text (the seventh form; the later family's looks); each row that meets fmt, with fmt's text TOLD by the authors' own Lean function (tested against real Go, not proved from fmt's source: count such statements apart). THE CARD IS WHAT COUNTS. Prove the row's statement (the work); the ties are given (YtcieibjgedmdlaaGreatDoorTie.lean); close each card by the builder's one call (the guide's Derived/Test/ToyasCard.lean, 'card_holds'). Laid BY PROGRAM, IN A SANDBOX (cutbox-door.mjs). By AI agents, Wed Nov 11 2026. No macro, syntax, notation, axiom, sorry.
-/
import Derived.Test.YtcieibjgedmdlaaGreatDoorRows
import GoSem.ClaimSeven
namespace Go.Proofs.YtcieibjgedmdlaaGreatDoor
namespace Rows

/-- THE TIED CARD OF 'canopytop.TopTenant'. -/
def topTenantCard : Claim7 := { stood := { row := topTenantRow, standIns := [], harness := (true, "b4981f5efcae26b9c271ab984a85034b0c4bab272f1fc4b4e66303a491adcac8"), looks := false }, kinds := [], alts := [], laidByText := true, laidKinds := [.data, .data, .data, .data], laidTests := true, laidLooks := .later }
def TopTenantCardSaid : Prop := Claim7.holds Tryz.pinned (.plain (OpenSpec.ofChange topTenantSpec)) topTenantCard

/-- THE SECOND FORM's CARD OF 'canopytop.TopTenant'. -/
def topTenantUptoCard : Claim7 := { stood := { row := topTenantUptoRow, standIns := [], harness := (true, "b4981f5efcae26b9c271ab984a85034b0c4bab272f1fc4b4e66303a491adcac8"), looks := false }, kinds := [], alts := [], laidByText := true, laidKinds := [.data, .data, .data, .data], laidTests := true, laidLooks := .later }
def TopTenantUptoCardSaid : Prop := Claim7.holds Tryz.pinned (.plain (OpenSpec.upto topTenantSpec)) topTenantUptoCard
end Rows
end Go.Proofs.YtcieibjgedmdlaaGreatDoor
