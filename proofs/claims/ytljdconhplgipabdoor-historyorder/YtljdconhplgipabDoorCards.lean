/-
  DERIVED. GIVEN WITH THE SEED: THE CARDS: each row of YtljdconhplgipabDoorRows.lean that lists a variable, with what it lists TIED to the program's text (the seventh form; the later family's looks); each row that meets fmt, with fmt's text TOLD by the authors' own Lean function (tested against real Go, not proved from fmt's source: count such statements apart). THE CARD IS WHAT COUNTS. Prove the row's statement (the work); the ties are given (YtljdconhplgipabDoorTie.lean); close each card by the builder's one call (the guide's Derived/Test/ToyasCard.lean, 'card_holds'). Laid BY PROGRAM, IN A SANDBOX (cutbox-door.mjs). By AI agents, Wed Nov 11 2026. No macro, syntax, notation, axiom, sorry.
-/
import Derived.Test.YtljdconhplgipabDoorRows
import GoSem.ClaimSeven
namespace Go.Proofs.YtljdconhplgipabDoor
namespace Rows

/-- THE TIED CARD OF 'canopykeep.FoldCut'. -/
def foldCutCard : Claim7 := { stood := { row := foldCutRow, standIns := [], harness := (true, "efec22ea82bd5c94321da14d04f957a1eb41d1aff7c5a82f37ca1f8cbdd5df2a"), looks := false }, kinds := [], alts := [], laidByText := true, laidKinds := [.data, .data, .data], laidTests := true, laidLooks := .later }
def FoldCutCardSaid : Prop := Claim7.holds Tryd.pinned (.plain (OpenSpec.ofChange foldCutSpec)) foldCutCard

/-- THE TIED CARD OF 'canopykeep.HistoryOrder'. -/
def historyOrderCard : Claim7 := { stood := { row := historyOrderRow, standIns := [], harness := (true, "efec22ea82bd5c94321da14d04f957a1eb41d1aff7c5a82f37ca1f8cbdd5df2a"), looks := false }, kinds := [], alts := [], laidByText := true, laidKinds := [.data, .data, .data], laidTests := true, laidLooks := .later }
def HistoryOrderCardSaid : Prop := Claim7.holds Tryd.pinned (.plain (OpenSpec.ofChange historyOrderSpec)) historyOrderCard

/-- THE SECOND FORM's CARD OF 'canopykeep.FoldCut'. -/
def foldCutUptoCard : Claim7 := { stood := { row := foldCutUptoRow, standIns := [], harness := (true, "efec22ea82bd5c94321da14d04f957a1eb41d1aff7c5a82f37ca1f8cbdd5df2a"), looks := false }, kinds := [], alts := [], laidByText := true, laidKinds := [.data, .data, .data], laidTests := true, laidLooks := .later }
def FoldCutUptoCardSaid : Prop := Claim7.holds Tryd.pinned (.plain (OpenSpec.upto foldCutSpec)) foldCutUptoCard

/-- THE SECOND FORM's CARD OF 'canopykeep.HistoryOrder'. -/
def historyOrderUptoCard : Claim7 := { stood := { row := historyOrderUptoRow, standIns := [], harness := (true, "efec22ea82bd5c94321da14d04f957a1eb41d1aff7c5a82f37ca1f8cbdd5df2a"), looks := false }, kinds := [], alts := [], laidByText := true, laidKinds := [.data, .data, .data], laidTests := true, laidLooks := .later }
def HistoryOrderUptoCardSaid : Prop := Claim7.holds Tryd.pinned (.plain (OpenSpec.upto historyOrderSpec)) historyOrderUptoCard
end Rows
end Go.Proofs.YtljdconhplgipabDoor
