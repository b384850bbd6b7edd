/-
  DERIVED. GIVEN WITH THE SEED: THE CARDS: each row of YtkheombfjgjedacDoorRows.lean that lists a variable, with what it lists TIED to the program's text (the seventh form; the later family's looks); each row that meets fmt, with fmt's text TOLD by the authors' own Lean function (tested against real Go, not proved from fmt's source: count such statements apart). THE CARD IS WHAT COUNTS. Prove the row's statement (the work); the ties are given (YtkheombfjgjedacDoorTie.lean); close each card by the builder's one call (the guide's Derived/Test/ToyasCard.lean, 'card_holds'). Laid BY PROGRAM, IN A SANDBOX (cutbox-door.mjs). By AI agents, Wed Nov 11 2026. No macro, syntax, notation, axiom, sorry.
-/
import Derived.Test.YtkheombfjgjedacDoorRows
import GoSem.ClaimSeven
namespace Go.Proofs.YtkheombfjgjedacDoor
namespace Rows

/-- THE TIED CARD OF 'canopykeep.TapeKeeps'. -/
def tapeKeepsCard : Claim7 := { stood := { row := tapeKeepsRow, standIns := [], harness := (true, "5091f7b4c20eeb153c88e966bec2d3fe5006eaf1ae86bdfc6691952e21a2d1cb"), looks := false }, kinds := [], alts := [], laidByText := true, laidKinds := [.data, .data, .data], laidTests := true, laidLooks := .later }
def TapeKeepsCardSaid : Prop := Claim7.holds Tryd.pinned (.plain (OpenSpec.ofChange tapeKeepsSpec)) tapeKeepsCard

/-- THE TIED CARD OF 'canopykeep.TapeTorn'. -/
def tapeTornCard : Claim7 := { stood := { row := tapeTornRow, standIns := [], harness := (true, "5091f7b4c20eeb153c88e966bec2d3fe5006eaf1ae86bdfc6691952e21a2d1cb"), looks := false }, kinds := [], alts := [], laidByText := true, laidKinds := [.data, .data, .data], laidTests := true, laidLooks := .later }
def TapeTornCardSaid : Prop := Claim7.holds Tryd.pinned (.plain (OpenSpec.ofChange tapeTornSpec)) tapeTornCard

/-- THE TIED CARD OF 'canopykeep.TapeOn'. -/
def tapeOnCard : Claim7 := { stood := { row := tapeOnRow, standIns := [], harness := (true, "5091f7b4c20eeb153c88e966bec2d3fe5006eaf1ae86bdfc6691952e21a2d1cb"), looks := false }, kinds := [], alts := [], laidByText := true, laidKinds := [.data, .data, .data], laidTests := true, laidLooks := .later }
def TapeOnCardSaid : Prop := Claim7.holds Tryd.pinned (.plain (OpenSpec.ofChange tapeOnSpec)) tapeOnCard

/-- THE TIED CARD OF 'canopykeep.TapeTurns'. -/
def tapeTurnsCard : Claim7 := { stood := { row := tapeTurnsRow, standIns := [], harness := (true, "5091f7b4c20eeb153c88e966bec2d3fe5006eaf1ae86bdfc6691952e21a2d1cb"), looks := false }, kinds := [], alts := [], laidByText := true, laidKinds := [.data, .data, .data], laidTests := true, laidLooks := .later }
def TapeTurnsCardSaid : Prop := Claim7.holds Tryd.pinned (.plain (OpenSpec.ofChange tapeTurnsSpec)) tapeTurnsCard

/-- THE TIED CARD OF 'canopykeep.TapeMany'. -/
def tapeManyCard : Claim7 := { stood := { row := tapeManyRow, standIns := [], harness := (true, "5091f7b4c20eeb153c88e966bec2d3fe5006eaf1ae86bdfc6691952e21a2d1cb"), looks := false }, kinds := [], alts := [], laidByText := true, laidKinds := [.data, .data, .data], laidTests := true, laidLooks := .later }
def TapeManyCardSaid : Prop := Claim7.holds Tryd.pinned (.plain (OpenSpec.ofChange tapeManySpec)) tapeManyCard

/-- THE SECOND FORM's CARD OF 'canopykeep.TapeKeeps'. -/
def tapeKeepsUptoCard : Claim7 := { stood := { row := tapeKeepsUptoRow, standIns := [], harness := (true, "5091f7b4c20eeb153c88e966bec2d3fe5006eaf1ae86bdfc6691952e21a2d1cb"), looks := false }, kinds := [], alts := [], laidByText := true, laidKinds := [.data, .data, .data], laidTests := true, laidLooks := .later }
def TapeKeepsUptoCardSaid : Prop := Claim7.holds Tryd.pinned (.plain (OpenSpec.upto tapeKeepsSpec)) tapeKeepsUptoCard

/-- THE SECOND FORM's CARD OF 'canopykeep.TapeTorn'. -/
def tapeTornUptoCard : Claim7 := { stood := { row := tapeTornUptoRow, standIns := [], harness := (true, "5091f7b4c20eeb153c88e966bec2d3fe5006eaf1ae86bdfc6691952e21a2d1cb"), looks := false }, kinds := [], alts := [], laidByText := true, laidKinds := [.data, .data, .data], laidTests := true, laidLooks := .later }
def TapeTornUptoCardSaid : Prop := Claim7.holds Tryd.pinned (.plain (OpenSpec.upto tapeTornSpec)) tapeTornUptoCard

/-- THE SECOND FORM's CARD OF 'canopykeep.TapeOn'. -/
def tapeOnUptoCard : Claim7 := { stood := { row := tapeOnUptoRow, standIns := [], harness := (true, "5091f7b4c20eeb153c88e966bec2d3fe5006eaf1ae86bdfc6691952e21a2d1cb"), looks := false }, kinds := [], alts := [], laidByText := true, laidKinds := [.data, .data, .data], laidTests := true, laidLooks := .later }
def TapeOnUptoCardSaid : Prop := Claim7.holds Tryd.pinned (.plain (OpenSpec.upto tapeOnSpec)) tapeOnUptoCard

/-- THE SECOND FORM's CARD OF 'canopykeep.TapeTurns'. -/
def tapeTurnsUptoCard : Claim7 := { stood := { row := tapeTurnsUptoRow, standIns := [], harness := (true, "5091f7b4c20eeb153c88e966bec2d3fe5006eaf1ae86bdfc6691952e21a2d1cb"), looks := false }, kinds := [], alts := [], laidByText := true, laidKinds := [.data, .data, .data], laidTests := true, laidLooks := .later }
def TapeTurnsUptoCardSaid : Prop := Claim7.holds Tryd.pinned (.plain (OpenSpec.upto tapeTurnsSpec)) tapeTurnsUptoCard

/-- THE SECOND FORM's CARD OF 'canopykeep.TapeMany'. -/
def tapeManyUptoCard : Claim7 := { stood := { row := tapeManyUptoRow, standIns := [], harness := (true, "5091f7b4c20eeb153c88e966bec2d3fe5006eaf1ae86bdfc6691952e21a2d1cb"), looks := false }, kinds := [], alts := [], laidByText := true, laidKinds := [.data, .data, .data], laidTests := true, laidLooks := .later }
def TapeManyUptoCardSaid : Prop := Claim7.holds Tryd.pinned (.plain (OpenSpec.upto tapeManySpec)) tapeManyUptoCard
end Rows
end Go.Proofs.YtkheombfjgjedacDoor
