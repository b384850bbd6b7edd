/-
  DERIVED. GIVEN WITH THE SEED: THE CARDS: each row of YtkkcjnhfbblgiabDoorRows.lean that lists a variable, with what it lists TIED to the program's text (the seventh form; the later family's looks); each row that meets fmt, with fmt's text TOLD by the authors' own Lean function (tested against real Go, not proved from fmt's source: count such statements apart). THE CARD IS WHAT COUNTS. Prove the row's statement (the work); the ties are given (YtkkcjnhfbblgiabDoorTie.lean); close each card by the builder's one call (the guide's Derived/Test/ToyasCard.lean, 'card_holds'). Laid BY PROGRAM, IN A SANDBOX (cutbox-door.mjs). By AI agents, Wed Nov 11 2026. No macro, syntax, notation, axiom, sorry.
-/
import Derived.Test.YtkkcjnhfbblgiabDoorRows
import GoSem.ClaimSeven
namespace Go.Proofs.YtkkcjnhfbblgiabDoor
namespace Rows

/-- THE TIED CARD OF 'canopylaw.ForestProves'. -/
def forestProvesCard : Claim7 := { stood := { row := forestProvesRow, standIns := [], harness := (true, "9d18e00a75d66e8cbda8ab92bbed82dea540077650bf03e30f6ce3a564cf6d19"), looks := false }, kinds := [], alts := [], laidByText := true, laidKinds := [.data, .data, .data], laidTests := true, laidLooks := .later }
def ForestProvesCardSaid : Prop := Claim7.holds Tryd.pinned (.plain (OpenSpec.ofChange forestProvesSpec)) forestProvesCard

/-- THE TIED CARD OF 'canopylaw.ForestVerifies'. -/
def forestVerifiesCard : Claim7 := { stood := { row := forestVerifiesRow, standIns := [], harness := (true, "9d18e00a75d66e8cbda8ab92bbed82dea540077650bf03e30f6ce3a564cf6d19"), looks := false }, kinds := [], alts := [], laidByText := true, laidKinds := [.data, .data, .data], laidTests := true, laidLooks := .later }
def ForestVerifiesCardSaid : Prop := Claim7.holds Tryd.pinned (.plain (OpenSpec.ofChange forestVerifiesSpec)) forestVerifiesCard

/-- THE TIED CARD OF 'canopykeep.ForestEmpty'. -/
def forestEmptyCard : Claim7 := { stood := { row := forestEmptyRow, standIns := [], harness := (true, "9d18e00a75d66e8cbda8ab92bbed82dea540077650bf03e30f6ce3a564cf6d19"), looks := false }, kinds := [], alts := [], laidByText := true, laidKinds := [.data, .data, .data], laidTests := true, laidLooks := .later }
def ForestEmptyCardSaid : Prop := Claim7.holds Tryd.pinned (.plain (OpenSpec.ofChange forestEmptySpec)) forestEmptyCard

/-- THE SECOND FORM's CARD OF 'canopylaw.ForestProves'. -/
def forestProvesUptoCard : Claim7 := { stood := { row := forestProvesUptoRow, standIns := [], harness := (true, "9d18e00a75d66e8cbda8ab92bbed82dea540077650bf03e30f6ce3a564cf6d19"), looks := false }, kinds := [], alts := [], laidByText := true, laidKinds := [.data, .data, .data], laidTests := true, laidLooks := .later }
def ForestProvesUptoCardSaid : Prop := Claim7.holds Tryd.pinned (.plain (OpenSpec.upto forestProvesSpec)) forestProvesUptoCard

/-- THE SECOND FORM's CARD OF 'canopylaw.ForestVerifies'. -/
def forestVerifiesUptoCard : Claim7 := { stood := { row := forestVerifiesUptoRow, standIns := [], harness := (true, "9d18e00a75d66e8cbda8ab92bbed82dea540077650bf03e30f6ce3a564cf6d19"), looks := false }, kinds := [], alts := [], laidByText := true, laidKinds := [.data, .data, .data], laidTests := true, laidLooks := .later }
def ForestVerifiesUptoCardSaid : Prop := Claim7.holds Tryd.pinned (.plain (OpenSpec.upto forestVerifiesSpec)) forestVerifiesUptoCard

/-- THE SECOND FORM's CARD OF 'canopykeep.ForestEmpty'. -/
def forestEmptyUptoCard : Claim7 := { stood := { row := forestEmptyUptoRow, standIns := [], harness := (true, "9d18e00a75d66e8cbda8ab92bbed82dea540077650bf03e30f6ce3a564cf6d19"), looks := false }, kinds := [], alts := [], laidByText := true, laidKinds := [.data, .data, .data], laidTests := true, laidLooks := .later }
def ForestEmptyUptoCardSaid : Prop := Claim7.holds Tryd.pinned (.plain (OpenSpec.upto forestEmptySpec)) forestEmptyUptoCard
end Rows
end Go.Proofs.YtkkcjnhfbblgiabDoor
