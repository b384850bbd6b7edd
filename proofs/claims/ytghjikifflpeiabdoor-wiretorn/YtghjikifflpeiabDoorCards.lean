/-
  DERIVED. GIVEN WITH THE SEED: THE CARDS: each row of YtghjikifflpeiabDoorRows.lean that lists a variable, with what it lists TIED to the program's text (the seventh form; the later family's looks); each row that meets fmt, with fmt's text TOLD by the authors' own Lean function (tested against real Go, not proved from fmt's source: count such statements apart). THE CARD IS WHAT COUNTS. Prove the row's statement (the work); the ties are given (YtghjikifflpeiabDoorTie.lean); close each card by the builder's one call (the guide's Derived/Test/ToyasCard.lean, 'card_holds'). Laid BY PROGRAM, IN A SANDBOX (cutbox-door.mjs). By AI agents, Wed Nov 11 2026. No macro, syntax, notation, axiom, sorry.
-/
import Derived.Test.YtghjikifflpeiabDoorRows
import GoSem.ClaimSeven
namespace Go.Proofs.YtghjikifflpeiabDoor
namespace Rows

/-- THE TIED CARD OF 'canopykeep.WireFixed'. -/
def wireFixedCard : Claim7 := { stood := { row := wireFixedRow, standIns := [], harness := (true, "7b0bb4e955f50b5a2b7b1d94943f682841856fddc54580620aeff7c1c6909fa0"), looks := false }, kinds := [], alts := [], laidByText := true, laidKinds := [.data], laidTests := true, laidLooks := .later }
def WireFixedCardSaid : Prop := Claim7.holds Tryd.pinned (.plain (OpenSpec.ofChange wireFixedSpec)) wireFixedCard

/-- THE TIED CARD OF 'canopykeep.WireTorn'. -/
def wireTornCard : Claim7 := { stood := { row := wireTornRow, standIns := [], harness := (true, "7b0bb4e955f50b5a2b7b1d94943f682841856fddc54580620aeff7c1c6909fa0"), looks := false }, kinds := [], alts := [], laidByText := true, laidKinds := [.data], laidTests := true, laidLooks := .later }
def WireTornCardSaid : Prop := Claim7.holds Tryd.pinned (.plain (OpenSpec.ofChange wireTornSpec)) wireTornCard

/-- THE TIED CARD OF 'canopykeep.WireTells'. -/
def wireTellsCard : Claim7 := { stood := { row := wireTellsRow, standIns := [], harness := (true, "7b0bb4e955f50b5a2b7b1d94943f682841856fddc54580620aeff7c1c6909fa0"), looks := false }, kinds := [], alts := [], laidByText := true, laidKinds := [.data], laidTests := true, laidLooks := .later }
def WireTellsCardSaid : Prop := Claim7.holds Tryd.pinned (.plain (OpenSpec.ofChange wireTellsSpec)) wireTellsCard

/-- THE TIED CARD OF 'canopykeep.WireLong'. -/
def wireLongCard : Claim7 := { stood := { row := wireLongRow, standIns := [], harness := (true, "7b0bb4e955f50b5a2b7b1d94943f682841856fddc54580620aeff7c1c6909fa0"), looks := false }, kinds := [], alts := [], laidByText := true, laidKinds := [.data], laidTests := true, laidLooks := .later }
def WireLongCardSaid : Prop := Claim7.holds Tryd.pinned (.plain (OpenSpec.ofChange wireLongSpec)) wireLongCard

/-- THE SECOND FORM's CARD OF 'canopykeep.WireFixed'. -/
def wireFixedUptoCard : Claim7 := { stood := { row := wireFixedUptoRow, standIns := [], harness := (true, "7b0bb4e955f50b5a2b7b1d94943f682841856fddc54580620aeff7c1c6909fa0"), looks := false }, kinds := [], alts := [], laidByText := true, laidKinds := [.data], laidTests := true, laidLooks := .later }
def WireFixedUptoCardSaid : Prop := Claim7.holds Tryd.pinned (.plain (OpenSpec.upto wireFixedSpec)) wireFixedUptoCard

/-- THE SECOND FORM's CARD OF 'canopykeep.WireTorn'. -/
def wireTornUptoCard : Claim7 := { stood := { row := wireTornUptoRow, standIns := [], harness := (true, "7b0bb4e955f50b5a2b7b1d94943f682841856fddc54580620aeff7c1c6909fa0"), looks := false }, kinds := [], alts := [], laidByText := true, laidKinds := [.data], laidTests := true, laidLooks := .later }
def WireTornUptoCardSaid : Prop := Claim7.holds Tryd.pinned (.plain (OpenSpec.upto wireTornSpec)) wireTornUptoCard

/-- THE SECOND FORM's CARD OF 'canopykeep.WireTells'. -/
def wireTellsUptoCard : Claim7 := { stood := { row := wireTellsUptoRow, standIns := [], harness := (true, "7b0bb4e955f50b5a2b7b1d94943f682841856fddc54580620aeff7c1c6909fa0"), looks := false }, kinds := [], alts := [], laidByText := true, laidKinds := [.data], laidTests := true, laidLooks := .later }
def WireTellsUptoCardSaid : Prop := Claim7.holds Tryd.pinned (.plain (OpenSpec.upto wireTellsSpec)) wireTellsUptoCard

/-- THE SECOND FORM's CARD OF 'canopykeep.WireLong'. -/
def wireLongUptoCard : Claim7 := { stood := { row := wireLongUptoRow, standIns := [], harness := (true, "7b0bb4e955f50b5a2b7b1d94943f682841856fddc54580620aeff7c1c6909fa0"), looks := false }, kinds := [], alts := [], laidByText := true, laidKinds := [.data], laidTests := true, laidLooks := .later }
def WireLongUptoCardSaid : Prop := Claim7.holds Tryd.pinned (.plain (OpenSpec.upto wireLongSpec)) wireLongUptoCard
end Rows
end Go.Proofs.YtghjikifflpeiabDoor
