/-
  DERIVED. GIVEN WITH THE SEED: THE CARDS: each row of YtljdconhplgipaaGreatDoorRows.lean that lists a variable, with what it lists TIED to the program's text (the seventh form; the later family's looks); each row that meets fmt, with fmt's text TOLD by the authors' own Lean function (tested against real Go, not proved from fmt's source: count such statements apart). THE CARD IS WHAT COUNTS. Prove the row's statement (the work); the ties are given (YtljdconhplgipaaGreatDoorTie.lean); close each card by the builder's one call (the guide's Derived/Test/ToyasCard.lean, 'card_holds'). Laid BY PROGRAM, IN A SANDBOX (cutbox-door.mjs). By AI agents, Wed Nov 11 2026. No macro, syntax, notation, axiom, sorry.
-/
import Derived.Test.YtljdconhplgipaaGreatDoorRows
import GoSem.ClaimSeven
namespace Go.Proofs.YtljdconhplgipaaGreatDoor
namespace Rows

/-- THE TIED CARD OF 'canopylaw.HistoryRoots'. -/
def historyRootsCard : Claim7 := { stood := { row := historyRootsRow, standIns := [], harness := (true, "95eda55f54d36c68f58ea3f78fabe2c883e912d1186e6c9db2a91f39a75173c5"), looks := false }, kinds := [], alts := [], laidByText := true, laidKinds := [.data, .data, .data], laidTests := true, laidLooks := .later }
def HistoryRootsCardSaid : Prop := Claim7.holds Tryz.pinned (.plain (OpenSpec.ofChange historyRootsSpec)) historyRootsCard

/-- THE SECOND FORM's CARD OF 'canopylaw.HistoryRoots'. -/
def historyRootsUptoCard : Claim7 := { stood := { row := historyRootsUptoRow, standIns := [], harness := (true, "95eda55f54d36c68f58ea3f78fabe2c883e912d1186e6c9db2a91f39a75173c5"), looks := false }, kinds := [], alts := [], laidByText := true, laidKinds := [.data, .data, .data], laidTests := true, laidLooks := .later }
def HistoryRootsUptoCardSaid : Prop := Claim7.holds Tryz.pinned (.plain (OpenSpec.upto historyRootsSpec)) historyRootsUptoCard
end Rows
end Go.Proofs.YtljdconhplgipaaGreatDoor
