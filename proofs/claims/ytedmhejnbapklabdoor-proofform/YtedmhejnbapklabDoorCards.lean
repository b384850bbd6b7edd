/-
  DERIVED. GIVEN WITH THE SEED: THE CARDS: each row of YtedmhejnbapklabDoorRows.lean that lists a variable, with what it lists TIED to the program's text (the seventh form; the later family's looks); each row that meets fmt, with fmt's text TOLD by the authors' own Lean function (tested against real Go, not proved from fmt's source: count such statements apart). THE CARD IS WHAT COUNTS. Prove the row's statement (the work); the ties are given (YtedmhejnbapklabDoorTie.lean); close each card by the builder's one call (the guide's Derived/Test/ToyasCard.lean, 'card_holds'). Laid BY PROGRAM, IN A SANDBOX (cutbox-door.mjs). By AI agents, Wed Nov 11 2026. No macro, syntax, notation, axiom, sorry.
-/
import Derived.Test.YtedmhejnbapklabDoorRows
import GoSem.ClaimSeven
namespace Go.Proofs.YtedmhejnbapklabDoor
namespace Rows

/-- THE TIED CARD OF 'canopykeep.ProofElse'. -/
def proofElseCard : Claim7 := { stood := { row := proofElseRow, standIns := [], harness := (true, "70d2826d50a5c31fe0b9935994fee7202da21ae7374ff4070b8b2e366b2c9c6d"), looks := false }, kinds := [], alts := [], laidByText := true, laidKinds := [.data, .data, .data], laidTests := true, laidLooks := .later }
def ProofElseCardSaid : Prop := Claim7.holds Tryd.pinned (.plain (OpenSpec.ofChange proofElseSpec)) proofElseCard

/-- THE TIED CARD OF 'canopykeep.ProofForm'. -/
def proofFormCard : Claim7 := { stood := { row := proofFormRow, standIns := [], harness := (true, "70d2826d50a5c31fe0b9935994fee7202da21ae7374ff4070b8b2e366b2c9c6d"), looks := false }, kinds := [], alts := [], laidByText := true, laidKinds := [.data, .data, .data], laidTests := true, laidLooks := .later }
def ProofFormCardSaid : Prop := Claim7.holds Tryd.pinned (.plain (OpenSpec.ofChange proofFormSpec)) proofFormCard

/-- THE TIED CARD OF 'canopykeep.PairsOrder'. -/
def pairsOrderCard : Claim7 := { stood := { row := pairsOrderRow, standIns := [], harness := (true, "70d2826d50a5c31fe0b9935994fee7202da21ae7374ff4070b8b2e366b2c9c6d"), looks := false }, kinds := [], alts := [], laidByText := true, laidKinds := [.data, .data, .data], laidTests := true, laidLooks := .later }
def PairsOrderCardSaid : Prop := Claim7.holds Tryd.pinned (.plain (OpenSpec.ofChange pairsOrderSpec)) pairsOrderCard

/-- THE SECOND FORM's CARD OF 'canopykeep.ProofElse'. -/
def proofElseUptoCard : Claim7 := { stood := { row := proofElseUptoRow, standIns := [], harness := (true, "70d2826d50a5c31fe0b9935994fee7202da21ae7374ff4070b8b2e366b2c9c6d"), looks := false }, kinds := [], alts := [], laidByText := true, laidKinds := [.data, .data, .data], laidTests := true, laidLooks := .later }
def ProofElseUptoCardSaid : Prop := Claim7.holds Tryd.pinned (.plain (OpenSpec.upto proofElseSpec)) proofElseUptoCard

/-- THE SECOND FORM's CARD OF 'canopykeep.ProofForm'. -/
def proofFormUptoCard : Claim7 := { stood := { row := proofFormUptoRow, standIns := [], harness := (true, "70d2826d50a5c31fe0b9935994fee7202da21ae7374ff4070b8b2e366b2c9c6d"), looks := false }, kinds := [], alts := [], laidByText := true, laidKinds := [.data, .data, .data], laidTests := true, laidLooks := .later }
def ProofFormUptoCardSaid : Prop := Claim7.holds Tryd.pinned (.plain (OpenSpec.upto proofFormSpec)) proofFormUptoCard

/-- THE SECOND FORM's CARD OF 'canopykeep.PairsOrder'. -/
def pairsOrderUptoCard : Claim7 := { stood := { row := pairsOrderUptoRow, standIns := [], harness := (true, "70d2826d50a5c31fe0b9935994fee7202da21ae7374ff4070b8b2e366b2c9c6d"), looks := false }, kinds := [], alts := [], laidByText := true, laidKinds := [.data, .data, .data], laidTests := true, laidLooks := .later }
def PairsOrderUptoCardSaid : Prop := Claim7.holds Tryd.pinned (.plain (OpenSpec.upto pairsOrderSpec)) pairsOrderUptoCard
end Rows
end Go.Proofs.YtedmhejnbapklabDoor
