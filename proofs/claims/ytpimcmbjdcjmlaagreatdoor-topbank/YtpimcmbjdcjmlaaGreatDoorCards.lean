/-
  DERIVED. GIVEN WITH THE SEED: THE CARDS: each row of YtpimcmbjdcjmlaaGreatDoorRows.lean that lists a variable, with what it lists TIED to the program's text (the seventh form; the later family's looks); each row that meets fmt, with fmt's text TOLD by the authors' own Lean function (tested against real Go, not proved from fmt's source: count such statements apart). THE CARD IS WHAT COUNTS. Prove the row's statement (the work); the ties are given (YtpimcmbjdcjmlaaGreatDoorTie.lean); close each card by the builder's one call (the guide's Derived/Test/ToyasCard.lean, 'card_holds'). Laid BY PROGRAM, IN A SANDBOX (cutbox-door.mjs). By AI agents, Wed Nov 11 2026. No macro, syntax, notation, axiom, sorry.
-/
import Derived.Test.YtpimcmbjdcjmlaaGreatDoorRows
import GoSem.ClaimSeven
namespace Go.Proofs.YtpimcmbjdcjmlaaGreatDoor
namespace Rows

/-- THE TIED CARD OF 'canopytop.TopRoots'. -/
def topRootsCard : Claim7 := { stood := { row := topRootsRow, standIns := [], harness := (true, "13675029d5d79270cccf63da218542850a30b95e7c3dbcc8f8febda01607abcb"), looks := false }, kinds := [], alts := [], laidByText := true, laidKinds := [.data, .data, .data, .data], laidTests := true, laidLooks := .later }
def TopRootsCardSaid : Prop := Claim7.holds Tryz.pinned (.plain (OpenSpec.ofChange topRootsSpec)) topRootsCard

/-- THE TIED CARD OF 'canopytop.TopBank'. -/
def topBankCard : Claim7 := { stood := { row := topBankRow, standIns := [], harness := (true, "13675029d5d79270cccf63da218542850a30b95e7c3dbcc8f8febda01607abcb"), looks := false }, kinds := [], alts := [], laidByText := true, laidKinds := [.data, .data, .data, .data], laidTests := true, laidLooks := .later }
def TopBankCardSaid : Prop := Claim7.holds Tryz.pinned (.plain (OpenSpec.ofChange topBankSpec)) topBankCard

/-- THE SECOND FORM's CARD OF 'canopytop.TopRoots'. -/
def topRootsUptoCard : Claim7 := { stood := { row := topRootsUptoRow, standIns := [], harness := (true, "13675029d5d79270cccf63da218542850a30b95e7c3dbcc8f8febda01607abcb"), looks := false }, kinds := [], alts := [], laidByText := true, laidKinds := [.data, .data, .data, .data], laidTests := true, laidLooks := .later }
def TopRootsUptoCardSaid : Prop := Claim7.holds Tryz.pinned (.plain (OpenSpec.upto topRootsSpec)) topRootsUptoCard

/-- THE SECOND FORM's CARD OF 'canopytop.TopBank'. -/
def topBankUptoCard : Claim7 := { stood := { row := topBankUptoRow, standIns := [], harness := (true, "13675029d5d79270cccf63da218542850a30b95e7c3dbcc8f8febda01607abcb"), looks := false }, kinds := [], alts := [], laidByText := true, laidKinds := [.data, .data, .data, .data], laidTests := true, laidLooks := .later }
def TopBankUptoCardSaid : Prop := Claim7.holds Tryz.pinned (.plain (OpenSpec.upto topBankSpec)) topBankUptoCard
end Rows
end Go.Proofs.YtpimcmbjdcjmlaaGreatDoor
