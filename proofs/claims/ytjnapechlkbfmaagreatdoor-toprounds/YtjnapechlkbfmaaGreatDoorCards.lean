/-
  DERIVED. GIVEN WITH THE SEED: THE CARDS: each row of YtjnapechlkbfmaaGreatDoorRows.lean that lists a variable, with what it lists TIED to the program's text (the seventh form; the later family's looks); each row that meets fmt, with fmt's text TOLD by the authors' own Lean function (tested against real Go, not proved from fmt's source: count such statements apart). THE CARD IS WHAT COUNTS. Prove the row's statement (the work); the ties are given (YtjnapechlkbfmaaGreatDoorTie.lean); close each card by the builder's one call (the guide's Derived/Test/ToyasCard.lean, 'card_holds'). Laid BY PROGRAM, IN A SANDBOX (cutbox-door.mjs). By AI agents, Wed Nov 11 2026. No macro, syntax, notation, axiom, sorry.
-/
import Derived.Test.YtjnapechlkbfmaaGreatDoorRows
import GoSem.ClaimSeven
namespace Go.Proofs.YtjnapechlkbfmaaGreatDoor
namespace Rows

/-- THE TIED CARD OF 'canopytop.TopFresh'. -/
def topFreshCard : Claim7 := { stood := { row := topFreshRow, standIns := [], harness := (true, "451d9b94b7e160eca037ceeebd43ddd97d2cdff1f8fe08c19364329060514fcc"), looks := false }, kinds := [], alts := [], laidByText := true, laidKinds := [.data, .data, .data, .data], laidTests := true, laidLooks := .later }
def TopFreshCardSaid : Prop := Claim7.holds Tryz.pinned (.plain (OpenSpec.ofChange topFreshSpec)) topFreshCard

/-- THE TIED CARD OF 'canopytop.TopHidden'. -/
def topHiddenCard : Claim7 := { stood := { row := topHiddenRow, standIns := [], harness := (true, "451d9b94b7e160eca037ceeebd43ddd97d2cdff1f8fe08c19364329060514fcc"), looks := false }, kinds := [], alts := [], laidByText := true, laidKinds := [.data, .data, .data, .data], laidTests := true, laidLooks := .later }
def TopHiddenCardSaid : Prop := Claim7.holds Tryz.pinned (.plain (OpenSpec.ofChange topHiddenSpec)) topHiddenCard

/-- THE TIED CARD OF 'canopytop.TopBlind'. -/
def topBlindCard : Claim7 := { stood := { row := topBlindRow, standIns := [], harness := (true, "451d9b94b7e160eca037ceeebd43ddd97d2cdff1f8fe08c19364329060514fcc"), looks := false }, kinds := [], alts := [], laidByText := true, laidKinds := [.data, .data, .data, .data], laidTests := true, laidLooks := .later }
def TopBlindCardSaid : Prop := Claim7.holds Tryz.pinned (.plain (OpenSpec.ofChange topBlindSpec)) topBlindCard

/-- THE TIED CARD OF 'canopytop.TopApart'. -/
def topApartCard : Claim7 := { stood := { row := topApartRow, standIns := [], harness := (true, "451d9b94b7e160eca037ceeebd43ddd97d2cdff1f8fe08c19364329060514fcc"), looks := false }, kinds := [], alts := [], laidByText := true, laidKinds := [.data, .data, .data, .data], laidTests := true, laidLooks := .later }
def TopApartCardSaid : Prop := Claim7.holds Tryz.pinned (.plain (OpenSpec.ofChange topApartSpec)) topApartCard

/-- THE TIED CARD OF 'canopytop.TopOwn'. -/
def topOwnCard : Claim7 := { stood := { row := topOwnRow, standIns := [], harness := (true, "451d9b94b7e160eca037ceeebd43ddd97d2cdff1f8fe08c19364329060514fcc"), looks := false }, kinds := [], alts := [], laidByText := true, laidKinds := [.data, .data, .data, .data], laidTests := true, laidLooks := .later }
def TopOwnCardSaid : Prop := Claim7.holds Tryz.pinned (.plain (OpenSpec.ofChange topOwnSpec)) topOwnCard

/-- THE TIED CARD OF 'canopytop.TopClash'. -/
def topClashCard : Claim7 := { stood := { row := topClashRow, standIns := [], harness := (true, "451d9b94b7e160eca037ceeebd43ddd97d2cdff1f8fe08c19364329060514fcc"), looks := false }, kinds := [], alts := [], laidByText := true, laidKinds := [.data, .data, .data, .data], laidTests := true, laidLooks := .later }
def TopClashCardSaid : Prop := Claim7.holds Tryz.pinned (.plain (OpenSpec.ofChange topClashSpec)) topClashCard

/-- THE TIED CARD OF 'canopytop.TopRounds'. -/
def topRoundsCard : Claim7 := { stood := { row := topRoundsRow, standIns := [], harness := (true, "451d9b94b7e160eca037ceeebd43ddd97d2cdff1f8fe08c19364329060514fcc"), looks := false }, kinds := [], alts := [], laidByText := true, laidKinds := [.data, .data, .data, .data], laidTests := true, laidLooks := .later }
def TopRoundsCardSaid : Prop := Claim7.holds Tryz.pinned (.plain (OpenSpec.ofChange topRoundsSpec)) topRoundsCard

/-- THE TIED CARD OF 'canopytop.TopProofs'. -/
def topProofsCard : Claim7 := { stood := { row := topProofsRow, standIns := [], harness := (true, "451d9b94b7e160eca037ceeebd43ddd97d2cdff1f8fe08c19364329060514fcc"), looks := false }, kinds := [], alts := [], laidByText := true, laidKinds := [.data, .data, .data, .data], laidTests := true, laidLooks := .later }
def TopProofsCardSaid : Prop := Claim7.holds Tryz.pinned (.plain (OpenSpec.ofChange topProofsSpec)) topProofsCard

/-- THE TIED CARD OF 'canopytop.TopRoots'. -/
def topRootsCard : Claim7 := { stood := { row := topRootsRow, standIns := [], harness := (true, "451d9b94b7e160eca037ceeebd43ddd97d2cdff1f8fe08c19364329060514fcc"), looks := false }, kinds := [], alts := [], laidByText := true, laidKinds := [.data, .data, .data, .data], laidTests := true, laidLooks := .later }
def TopRootsCardSaid : Prop := Claim7.holds Tryz.pinned (.plain (OpenSpec.ofChange topRootsSpec)) topRootsCard

/-- THE TIED CARD OF 'canopytop.TopTenant'. -/
def topTenantCard : Claim7 := { stood := { row := topTenantRow, standIns := [], harness := (true, "451d9b94b7e160eca037ceeebd43ddd97d2cdff1f8fe08c19364329060514fcc"), looks := false }, kinds := [], alts := [], laidByText := true, laidKinds := [.data, .data, .data, .data], laidTests := true, laidLooks := .later }
def TopTenantCardSaid : Prop := Claim7.holds Tryz.pinned (.plain (OpenSpec.ofChange topTenantSpec)) topTenantCard

/-- THE TIED CARD OF 'canopytop.TopCounter'. -/
def topCounterCard : Claim7 := { stood := { row := topCounterRow, standIns := [], harness := (true, "451d9b94b7e160eca037ceeebd43ddd97d2cdff1f8fe08c19364329060514fcc"), looks := false }, kinds := [], alts := [], laidByText := true, laidKinds := [.data, .data, .data, .data], laidTests := true, laidLooks := .later }
def TopCounterCardSaid : Prop := Claim7.holds Tryz.pinned (.plain (OpenSpec.ofChange topCounterSpec)) topCounterCard

/-- THE TIED CARD OF 'canopytop.TopBank'. -/
def topBankCard : Claim7 := { stood := { row := topBankRow, standIns := [], harness := (true, "451d9b94b7e160eca037ceeebd43ddd97d2cdff1f8fe08c19364329060514fcc"), looks := false }, kinds := [], alts := [], laidByText := true, laidKinds := [.data, .data, .data, .data], laidTests := true, laidLooks := .later }
def TopBankCardSaid : Prop := Claim7.holds Tryz.pinned (.plain (OpenSpec.ofChange topBankSpec)) topBankCard

/-- THE SECOND FORM's CARD OF 'canopytop.TopFresh'. -/
def topFreshUptoCard : Claim7 := { stood := { row := topFreshUptoRow, standIns := [], harness := (true, "451d9b94b7e160eca037ceeebd43ddd97d2cdff1f8fe08c19364329060514fcc"), looks := false }, kinds := [], alts := [], laidByText := true, laidKinds := [.data, .data, .data, .data], laidTests := true, laidLooks := .later }
def TopFreshUptoCardSaid : Prop := Claim7.holds Tryz.pinned (.plain (OpenSpec.upto topFreshSpec)) topFreshUptoCard

/-- THE SECOND FORM's CARD OF 'canopytop.TopHidden'. -/
def topHiddenUptoCard : Claim7 := { stood := { row := topHiddenUptoRow, standIns := [], harness := (true, "451d9b94b7e160eca037ceeebd43ddd97d2cdff1f8fe08c19364329060514fcc"), looks := false }, kinds := [], alts := [], laidByText := true, laidKinds := [.data, .data, .data, .data], laidTests := true, laidLooks := .later }
def TopHiddenUptoCardSaid : Prop := Claim7.holds Tryz.pinned (.plain (OpenSpec.upto topHiddenSpec)) topHiddenUptoCard

/-- THE SECOND FORM's CARD OF 'canopytop.TopBlind'. -/
def topBlindUptoCard : Claim7 := { stood := { row := topBlindUptoRow, standIns := [], harness := (true, "451d9b94b7e160eca037ceeebd43ddd97d2cdff1f8fe08c19364329060514fcc"), looks := false }, kinds := [], alts := [], laidByText := true, laidKinds := [.data, .data, .data, .data], laidTests := true, laidLooks := .later }
def TopBlindUptoCardSaid : Prop := Claim7.holds Tryz.pinned (.plain (OpenSpec.upto topBlindSpec)) topBlindUptoCard

/-- THE SECOND FORM's CARD OF 'canopytop.TopApart'. -/
def topApartUptoCard : Claim7 := { stood := { row := topApartUptoRow, standIns := [], harness := (true, "451d9b94b7e160eca037ceeebd43ddd97d2cdff1f8fe08c19364329060514fcc"), looks := false }, kinds := [], alts := [], laidByText := true, laidKinds := [.data, .data, .data, .data], laidTests := true, laidLooks := .later }
def TopApartUptoCardSaid : Prop := Claim7.holds Tryz.pinned (.plain (OpenSpec.upto topApartSpec)) topApartUptoCard

/-- THE SECOND FORM's CARD OF 'canopytop.TopOwn'. -/
def topOwnUptoCard : Claim7 := { stood := { row := topOwnUptoRow, standIns := [], harness := (true, "451d9b94b7e160eca037ceeebd43ddd97d2cdff1f8fe08c19364329060514fcc"), looks := false }, kinds := [], alts := [], laidByText := true, laidKinds := [.data, .data, .data, .data], laidTests := true, laidLooks := .later }
def TopOwnUptoCardSaid : Prop := Claim7.holds Tryz.pinned (.plain (OpenSpec.upto topOwnSpec)) topOwnUptoCard

/-- THE SECOND FORM's CARD OF 'canopytop.TopClash'. -/
def topClashUptoCard : Claim7 := { stood := { row := topClashUptoRow, standIns := [], harness := (true, "451d9b94b7e160eca037ceeebd43ddd97d2cdff1f8fe08c19364329060514fcc"), looks := false }, kinds := [], alts := [], laidByText := true, laidKinds := [.data, .data, .data, .data], laidTests := true, laidLooks := .later }
def TopClashUptoCardSaid : Prop := Claim7.holds Tryz.pinned (.plain (OpenSpec.upto topClashSpec)) topClashUptoCard

/-- THE SECOND FORM's CARD OF 'canopytop.TopRounds'. -/
def topRoundsUptoCard : Claim7 := { stood := { row := topRoundsUptoRow, standIns := [], harness := (true, "451d9b94b7e160eca037ceeebd43ddd97d2cdff1f8fe08c19364329060514fcc"), looks := false }, kinds := [], alts := [], laidByText := true, laidKinds := [.data, .data, .data, .data], laidTests := true, laidLooks := .later }
def TopRoundsUptoCardSaid : Prop := Claim7.holds Tryz.pinned (.plain (OpenSpec.upto topRoundsSpec)) topRoundsUptoCard

/-- THE SECOND FORM's CARD OF 'canopytop.TopProofs'. -/
def topProofsUptoCard : Claim7 := { stood := { row := topProofsUptoRow, standIns := [], harness := (true, "451d9b94b7e160eca037ceeebd43ddd97d2cdff1f8fe08c19364329060514fcc"), looks := false }, kinds := [], alts := [], laidByText := true, laidKinds := [.data, .data, .data, .data], laidTests := true, laidLooks := .later }
def TopProofsUptoCardSaid : Prop := Claim7.holds Tryz.pinned (.plain (OpenSpec.upto topProofsSpec)) topProofsUptoCard

/-- THE SECOND FORM's CARD OF 'canopytop.TopRoots'. -/
def topRootsUptoCard : Claim7 := { stood := { row := topRootsUptoRow, standIns := [], harness := (true, "451d9b94b7e160eca037ceeebd43ddd97d2cdff1f8fe08c19364329060514fcc"), looks := false }, kinds := [], alts := [], laidByText := true, laidKinds := [.data, .data, .data, .data], laidTests := true, laidLooks := .later }
def TopRootsUptoCardSaid : Prop := Claim7.holds Tryz.pinned (.plain (OpenSpec.upto topRootsSpec)) topRootsUptoCard

/-- THE SECOND FORM's CARD OF 'canopytop.TopTenant'. -/
def topTenantUptoCard : Claim7 := { stood := { row := topTenantUptoRow, standIns := [], harness := (true, "451d9b94b7e160eca037ceeebd43ddd97d2cdff1f8fe08c19364329060514fcc"), looks := false }, kinds := [], alts := [], laidByText := true, laidKinds := [.data, .data, .data, .data], laidTests := true, laidLooks := .later }
def TopTenantUptoCardSaid : Prop := Claim7.holds Tryz.pinned (.plain (OpenSpec.upto topTenantSpec)) topTenantUptoCard

/-- THE SECOND FORM's CARD OF 'canopytop.TopCounter'. -/
def topCounterUptoCard : Claim7 := { stood := { row := topCounterUptoRow, standIns := [], harness := (true, "451d9b94b7e160eca037ceeebd43ddd97d2cdff1f8fe08c19364329060514fcc"), looks := false }, kinds := [], alts := [], laidByText := true, laidKinds := [.data, .data, .data, .data], laidTests := true, laidLooks := .later }
def TopCounterUptoCardSaid : Prop := Claim7.holds Tryz.pinned (.plain (OpenSpec.upto topCounterSpec)) topCounterUptoCard

/-- THE SECOND FORM's CARD OF 'canopytop.TopBank'. -/
def topBankUptoCard : Claim7 := { stood := { row := topBankUptoRow, standIns := [], harness := (true, "451d9b94b7e160eca037ceeebd43ddd97d2cdff1f8fe08c19364329060514fcc"), looks := false }, kinds := [], alts := [], laidByText := true, laidKinds := [.data, .data, .data, .data], laidTests := true, laidLooks := .later }
def TopBankUptoCardSaid : Prop := Claim7.holds Tryz.pinned (.plain (OpenSpec.upto topBankSpec)) topBankUptoCard
end Rows
end Go.Proofs.YtjnapechlkbfmaaGreatDoor
