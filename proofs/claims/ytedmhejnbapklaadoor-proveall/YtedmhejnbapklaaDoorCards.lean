/-
  DERIVED. GIVEN WITH THE SEED: THE CARDS: each row of YtedmhejnbapklaaDoorRows.lean that lists a variable, with what it lists TIED to the program's text (the seventh form; the later family's looks); each row that meets fmt, with fmt's text TOLD by the authors' own Lean function (tested against real Go, not proved from fmt's source: count such statements apart). THE CARD IS WHAT COUNTS. Prove the row's statement (the work); the ties are given (YtedmhejnbapklaaDoorTie.lean); close each card by the builder's one call (the guide's Derived/Test/ToyasCard.lean, 'card_holds'). Laid BY PROGRAM, IN A SANDBOX (cutbox-door.mjs). By AI agents, Wed Nov 11 2026. No macro, syntax, notation, axiom, sorry.
-/
import Derived.Test.YtedmhejnbapklaaDoorRows
import GoSem.ClaimSeven
namespace Go.Proofs.YtedmhejnbapklaaDoor
namespace Rows

/-- THE TIED CARD OF 'canopylaw.ProofProves'. -/
def proofProvesCard : Claim7 := { stood := { row := proofProvesRow, standIns := [], harness := (true, "9b13df297e69a0395b0dfca58eb34e9d3a7274b92b5c2d9811c20ce16c538455"), looks := false }, kinds := [], alts := [], laidByText := true, laidKinds := [.data, .data, .data], laidTests := true, laidLooks := .later }
def ProofProvesCardSaid : Prop := Claim7.holds Tryd.pinned (.plain (OpenSpec.ofChange proofProvesSpec)) proofProvesCard

/-- THE TIED CARD OF 'canopylaw.ProofVerifies'. -/
def proofVerifiesCard : Claim7 := { stood := { row := proofVerifiesRow, standIns := [], harness := (true, "9b13df297e69a0395b0dfca58eb34e9d3a7274b92b5c2d9811c20ce16c538455"), looks := false }, kinds := [], alts := [], laidByText := true, laidKinds := [.data, .data, .data], laidTests := true, laidLooks := .later }
def ProofVerifiesCardSaid : Prop := Claim7.holds Tryd.pinned (.plain (OpenSpec.ofChange proofVerifiesSpec)) proofVerifiesCard

/-- THE TIED CARD OF 'canopykeep.ProveHolds'. -/
def proveHoldsCard : Claim7 := { stood := { row := proveHoldsRow, standIns := [], harness := (true, "9b13df297e69a0395b0dfca58eb34e9d3a7274b92b5c2d9811c20ce16c538455"), looks := false }, kinds := [], alts := [], laidByText := true, laidKinds := [.data, .data, .data], laidTests := true, laidLooks := .later }
def ProveHoldsCardSaid : Prop := Claim7.holds Tryd.pinned (.plain (OpenSpec.ofChange proveHoldsSpec)) proveHoldsCard

/-- THE TIED CARD OF 'canopykeep.ProveAll'. -/
def proveAllCard : Claim7 := { stood := { row := proveAllRow, standIns := [], harness := (true, "9b13df297e69a0395b0dfca58eb34e9d3a7274b92b5c2d9811c20ce16c538455"), looks := false }, kinds := [], alts := [], laidByText := true, laidKinds := [.data, .data, .data], laidTests := true, laidLooks := .later }
def ProveAllCardSaid : Prop := Claim7.holds Tryd.pinned (.plain (OpenSpec.ofChange proveAllSpec)) proveAllCard

/-- THE TIED CARD OF 'canopykeep.ProofParts'. -/
def proofPartsCard : Claim7 := { stood := { row := proofPartsRow, standIns := [], harness := (true, "9b13df297e69a0395b0dfca58eb34e9d3a7274b92b5c2d9811c20ce16c538455"), looks := false }, kinds := [], alts := [], laidByText := true, laidKinds := [.data, .data, .data], laidTests := true, laidLooks := .later }
def ProofPartsCardSaid : Prop := Claim7.holds Tryd.pinned (.plain (OpenSpec.ofChange proofPartsSpec)) proofPartsCard

/-- THE SECOND FORM's CARD OF 'canopylaw.ProofProves'. -/
def proofProvesUptoCard : Claim7 := { stood := { row := proofProvesUptoRow, standIns := [], harness := (true, "9b13df297e69a0395b0dfca58eb34e9d3a7274b92b5c2d9811c20ce16c538455"), looks := false }, kinds := [], alts := [], laidByText := true, laidKinds := [.data, .data, .data], laidTests := true, laidLooks := .later }
def ProofProvesUptoCardSaid : Prop := Claim7.holds Tryd.pinned (.plain (OpenSpec.upto proofProvesSpec)) proofProvesUptoCard

/-- THE SECOND FORM's CARD OF 'canopylaw.ProofVerifies'. -/
def proofVerifiesUptoCard : Claim7 := { stood := { row := proofVerifiesUptoRow, standIns := [], harness := (true, "9b13df297e69a0395b0dfca58eb34e9d3a7274b92b5c2d9811c20ce16c538455"), looks := false }, kinds := [], alts := [], laidByText := true, laidKinds := [.data, .data, .data], laidTests := true, laidLooks := .later }
def ProofVerifiesUptoCardSaid : Prop := Claim7.holds Tryd.pinned (.plain (OpenSpec.upto proofVerifiesSpec)) proofVerifiesUptoCard

/-- THE SECOND FORM's CARD OF 'canopykeep.ProveHolds'. -/
def proveHoldsUptoCard : Claim7 := { stood := { row := proveHoldsUptoRow, standIns := [], harness := (true, "9b13df297e69a0395b0dfca58eb34e9d3a7274b92b5c2d9811c20ce16c538455"), looks := false }, kinds := [], alts := [], laidByText := true, laidKinds := [.data, .data, .data], laidTests := true, laidLooks := .later }
def ProveHoldsUptoCardSaid : Prop := Claim7.holds Tryd.pinned (.plain (OpenSpec.upto proveHoldsSpec)) proveHoldsUptoCard

/-- THE SECOND FORM's CARD OF 'canopykeep.ProveAll'. -/
def proveAllUptoCard : Claim7 := { stood := { row := proveAllUptoRow, standIns := [], harness := (true, "9b13df297e69a0395b0dfca58eb34e9d3a7274b92b5c2d9811c20ce16c538455"), looks := false }, kinds := [], alts := [], laidByText := true, laidKinds := [.data, .data, .data], laidTests := true, laidLooks := .later }
def ProveAllUptoCardSaid : Prop := Claim7.holds Tryd.pinned (.plain (OpenSpec.upto proveAllSpec)) proveAllUptoCard

/-- THE SECOND FORM's CARD OF 'canopykeep.ProofParts'. -/
def proofPartsUptoCard : Claim7 := { stood := { row := proofPartsUptoRow, standIns := [], harness := (true, "9b13df297e69a0395b0dfca58eb34e9d3a7274b92b5c2d9811c20ce16c538455"), looks := false }, kinds := [], alts := [], laidByText := true, laidKinds := [.data, .data, .data], laidTests := true, laidLooks := .later }
def ProofPartsUptoCardSaid : Prop := Claim7.holds Tryd.pinned (.plain (OpenSpec.upto proofPartsSpec)) proofPartsUptoCard
end Rows
end Go.Proofs.YtedmhejnbapklaaDoor
