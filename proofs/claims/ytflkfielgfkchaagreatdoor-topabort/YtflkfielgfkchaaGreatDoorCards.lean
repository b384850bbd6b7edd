/-
  DERIVED. GIVEN WITH THE SEED: THE CARDS: each row of YtflkfielgfkchaaGreatDoorRows.lean that lists a variable, with what it lists TIED to the program's text (the seventh form; the later family's looks); each row that meets fmt, with fmt's text TOLD by the authors' own Lean function (tested against real Go, not proved from fmt's source: count such statements apart). THE CARD IS WHAT COUNTS. Prove the row's statement (the work); the ties are given (YtflkfielgfkchaaGreatDoorTie.lean); close each card by the builder's one call (the guide's Derived/Test/ToyasCard.lean, 'card_holds'). Laid BY PROGRAM, IN A SANDBOX (cutbox-door.mjs). By AI agents, Wed Nov 11 2026. No macro, syntax, notation, axiom, sorry.
-/
import Derived.Test.YtflkfielgfkchaaGreatDoorRows
import GoSem.ClaimSeven
namespace Go.Proofs.YtflkfielgfkchaaGreatDoor
namespace Rows

/-- THE TIED CARD OF 'canopytop.TopProofs'. -/
def topProofsCard : Claim7 := { stood := { row := topProofsRow, standIns := [], harness := (true, "1d2150a2e1674b2169ab9dd7086b21ee9fc3fdabb9a79f9c0317ff80d4afd814"), looks := false }, kinds := [], alts := [], laidByText := true, laidKinds := [.data, .data, .data, .data], laidTests := true, laidLooks := .later }
def TopProofsCardSaid : Prop := Claim7.holds Tryz.pinned (.plain (OpenSpec.ofChange topProofsSpec)) topProofsCard

/-- THE TIED CARD OF 'canopytop.TopDurable'. -/
def topDurableCard : Claim7 := { stood := { row := topDurableRow, standIns := [], harness := (true, "1d2150a2e1674b2169ab9dd7086b21ee9fc3fdabb9a79f9c0317ff80d4afd814"), looks := false }, kinds := [], alts := [], laidByText := true, laidKinds := [.data, .data, .data, .data], laidTests := true, laidLooks := .later }
def TopDurableCardSaid : Prop := Claim7.holds Tryz.pinned (.plain (OpenSpec.ofChange topDurableSpec)) topDurableCard

/-- THE TIED CARD OF 'canopytop.TopWhole'. -/
def topWholeCard : Claim7 := { stood := { row := topWholeRow, standIns := [], harness := (true, "1d2150a2e1674b2169ab9dd7086b21ee9fc3fdabb9a79f9c0317ff80d4afd814"), looks := false }, kinds := [], alts := [], laidByText := true, laidKinds := [.data, .data, .data, .data], laidTests := true, laidLooks := .later }
def TopWholeCardSaid : Prop := Claim7.holds Tryz.pinned (.plain (OpenSpec.ofChange topWholeSpec)) topWholeCard

/-- THE TIED CARD OF 'canopytop.TopHidden'. -/
def topHiddenCard : Claim7 := { stood := { row := topHiddenRow, standIns := [], harness := (true, "1d2150a2e1674b2169ab9dd7086b21ee9fc3fdabb9a79f9c0317ff80d4afd814"), looks := false }, kinds := [], alts := [], laidByText := true, laidKinds := [.data, .data, .data, .data], laidTests := true, laidLooks := .later }
def TopHiddenCardSaid : Prop := Claim7.holds Tryz.pinned (.plain (OpenSpec.ofChange topHiddenSpec)) topHiddenCard

/-- THE TIED CARD OF 'canopytop.TopAbort'. -/
def topAbortCard : Claim7 := { stood := { row := topAbortRow, standIns := [], harness := (true, "1d2150a2e1674b2169ab9dd7086b21ee9fc3fdabb9a79f9c0317ff80d4afd814"), looks := false }, kinds := [], alts := [], laidByText := true, laidKinds := [.data, .data, .data, .data], laidTests := true, laidLooks := .later }
def TopAbortCardSaid : Prop := Claim7.holds Tryz.pinned (.plain (OpenSpec.ofChange topAbortSpec)) topAbortCard

/-- THE TIED CARD OF 'canopytop.TopDown'. -/
def topDownCard : Claim7 := { stood := { row := topDownRow, standIns := [], harness := (true, "1d2150a2e1674b2169ab9dd7086b21ee9fc3fdabb9a79f9c0317ff80d4afd814"), looks := false }, kinds := [], alts := [], laidByText := true, laidKinds := [.data, .data, .data, .data], laidTests := true, laidLooks := .later }
def TopDownCardSaid : Prop := Claim7.holds Tryz.pinned (.plain (OpenSpec.ofChange topDownSpec)) topDownCard

/-- THE TIED CARD OF 'canopytop.TopBad'. -/
def topBadCard : Claim7 := { stood := { row := topBadRow, standIns := [], harness := (true, "1d2150a2e1674b2169ab9dd7086b21ee9fc3fdabb9a79f9c0317ff80d4afd814"), looks := false }, kinds := [], alts := [], laidByText := true, laidKinds := [.data, .data, .data, .data], laidTests := true, laidLooks := .later }
def TopBadCardSaid : Prop := Claim7.holds Tryz.pinned (.plain (OpenSpec.ofChange topBadSpec)) topBadCard

/-- THE TIED CARD OF 'canopytop.TopGrows'. -/
def topGrowsCard : Claim7 := { stood := { row := topGrowsRow, standIns := [], harness := (true, "1d2150a2e1674b2169ab9dd7086b21ee9fc3fdabb9a79f9c0317ff80d4afd814"), looks := false }, kinds := [], alts := [], laidByText := true, laidKinds := [.data, .data, .data, .data], laidTests := true, laidLooks := .later }
def TopGrowsCardSaid : Prop := Claim7.holds Tryz.pinned (.plain (OpenSpec.ofChange topGrowsSpec)) topGrowsCard

/-- THE TIED CARD OF 'canopytop.TopReads'. -/
def topReadsCard : Claim7 := { stood := { row := topReadsRow, standIns := [], harness := (true, "1d2150a2e1674b2169ab9dd7086b21ee9fc3fdabb9a79f9c0317ff80d4afd814"), looks := false }, kinds := [], alts := [], laidByText := true, laidKinds := [.data, .data, .data, .data], laidTests := true, laidLooks := .later }
def TopReadsCardSaid : Prop := Claim7.holds Tryz.pinned (.plain (OpenSpec.ofChange topReadsSpec)) topReadsCard

/-- THE SECOND FORM's CARD OF 'canopytop.TopProofs'. -/
def topProofsUptoCard : Claim7 := { stood := { row := topProofsUptoRow, standIns := [], harness := (true, "1d2150a2e1674b2169ab9dd7086b21ee9fc3fdabb9a79f9c0317ff80d4afd814"), looks := false }, kinds := [], alts := [], laidByText := true, laidKinds := [.data, .data, .data, .data], laidTests := true, laidLooks := .later }
def TopProofsUptoCardSaid : Prop := Claim7.holds Tryz.pinned (.plain (OpenSpec.upto topProofsSpec)) topProofsUptoCard

/-- THE SECOND FORM's CARD OF 'canopytop.TopDurable'. -/
def topDurableUptoCard : Claim7 := { stood := { row := topDurableUptoRow, standIns := [], harness := (true, "1d2150a2e1674b2169ab9dd7086b21ee9fc3fdabb9a79f9c0317ff80d4afd814"), looks := false }, kinds := [], alts := [], laidByText := true, laidKinds := [.data, .data, .data, .data], laidTests := true, laidLooks := .later }
def TopDurableUptoCardSaid : Prop := Claim7.holds Tryz.pinned (.plain (OpenSpec.upto topDurableSpec)) topDurableUptoCard

/-- THE SECOND FORM's CARD OF 'canopytop.TopWhole'. -/
def topWholeUptoCard : Claim7 := { stood := { row := topWholeUptoRow, standIns := [], harness := (true, "1d2150a2e1674b2169ab9dd7086b21ee9fc3fdabb9a79f9c0317ff80d4afd814"), looks := false }, kinds := [], alts := [], laidByText := true, laidKinds := [.data, .data, .data, .data], laidTests := true, laidLooks := .later }
def TopWholeUptoCardSaid : Prop := Claim7.holds Tryz.pinned (.plain (OpenSpec.upto topWholeSpec)) topWholeUptoCard

/-- THE SECOND FORM's CARD OF 'canopytop.TopHidden'. -/
def topHiddenUptoCard : Claim7 := { stood := { row := topHiddenUptoRow, standIns := [], harness := (true, "1d2150a2e1674b2169ab9dd7086b21ee9fc3fdabb9a79f9c0317ff80d4afd814"), looks := false }, kinds := [], alts := [], laidByText := true, laidKinds := [.data, .data, .data, .data], laidTests := true, laidLooks := .later }
def TopHiddenUptoCardSaid : Prop := Claim7.holds Tryz.pinned (.plain (OpenSpec.upto topHiddenSpec)) topHiddenUptoCard

/-- THE SECOND FORM's CARD OF 'canopytop.TopAbort'. -/
def topAbortUptoCard : Claim7 := { stood := { row := topAbortUptoRow, standIns := [], harness := (true, "1d2150a2e1674b2169ab9dd7086b21ee9fc3fdabb9a79f9c0317ff80d4afd814"), looks := false }, kinds := [], alts := [], laidByText := true, laidKinds := [.data, .data, .data, .data], laidTests := true, laidLooks := .later }
def TopAbortUptoCardSaid : Prop := Claim7.holds Tryz.pinned (.plain (OpenSpec.upto topAbortSpec)) topAbortUptoCard

/-- THE SECOND FORM's CARD OF 'canopytop.TopDown'. -/
def topDownUptoCard : Claim7 := { stood := { row := topDownUptoRow, standIns := [], harness := (true, "1d2150a2e1674b2169ab9dd7086b21ee9fc3fdabb9a79f9c0317ff80d4afd814"), looks := false }, kinds := [], alts := [], laidByText := true, laidKinds := [.data, .data, .data, .data], laidTests := true, laidLooks := .later }
def TopDownUptoCardSaid : Prop := Claim7.holds Tryz.pinned (.plain (OpenSpec.upto topDownSpec)) topDownUptoCard

/-- THE SECOND FORM's CARD OF 'canopytop.TopBad'. -/
def topBadUptoCard : Claim7 := { stood := { row := topBadUptoRow, standIns := [], harness := (true, "1d2150a2e1674b2169ab9dd7086b21ee9fc3fdabb9a79f9c0317ff80d4afd814"), looks := false }, kinds := [], alts := [], laidByText := true, laidKinds := [.data, .data, .data, .data], laidTests := true, laidLooks := .later }
def TopBadUptoCardSaid : Prop := Claim7.holds Tryz.pinned (.plain (OpenSpec.upto topBadSpec)) topBadUptoCard

/-- THE SECOND FORM's CARD OF 'canopytop.TopGrows'. -/
def topGrowsUptoCard : Claim7 := { stood := { row := topGrowsUptoRow, standIns := [], harness := (true, "1d2150a2e1674b2169ab9dd7086b21ee9fc3fdabb9a79f9c0317ff80d4afd814"), looks := false }, kinds := [], alts := [], laidByText := true, laidKinds := [.data, .data, .data, .data], laidTests := true, laidLooks := .later }
def TopGrowsUptoCardSaid : Prop := Claim7.holds Tryz.pinned (.plain (OpenSpec.upto topGrowsSpec)) topGrowsUptoCard

/-- THE SECOND FORM's CARD OF 'canopytop.TopReads'. -/
def topReadsUptoCard : Claim7 := { stood := { row := topReadsUptoRow, standIns := [], harness := (true, "1d2150a2e1674b2169ab9dd7086b21ee9fc3fdabb9a79f9c0317ff80d4afd814"), looks := false }, kinds := [], alts := [], laidByText := true, laidKinds := [.data, .data, .data, .data], laidTests := true, laidLooks := .later }
def TopReadsUptoCardSaid : Prop := Claim7.holds Tryz.pinned (.plain (OpenSpec.upto topReadsSpec)) topReadsUptoCard
end Rows
end Go.Proofs.YtflkfielgfkchaaGreatDoor
