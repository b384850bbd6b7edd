/-
  DERIVED. GIVEN WITH THE SEED: THE CARDS: each row of YtpkegibjoieemaaDoorRows.lean that lists a variable, with what it lists TIED to the program's text (the seventh form; the later family's looks); each row that meets fmt, with fmt's text TOLD by the authors' own Lean function (tested against real Go, not proved from fmt's source: count such statements apart). THE CARD IS WHAT COUNTS. Prove the row's statement (the work); the ties are given (YtpkegibjoieemaaDoorTie.lean); close each card by the builder's one call (the guide's Derived/Test/ToyasCard.lean, 'card_holds'). Laid BY PROGRAM, IN A SANDBOX (cutbox-door.mjs). By AI agents, Wed Nov 11 2026. No macro, syntax, notation, axiom, sorry.
-/
import Derived.Test.YtpkegibjoieemaaDoorRows
import GoSem.ClaimSeven
namespace Go.Proofs.YtpkegibjoieemaaDoor
namespace Rows

/-- THE TIED CARD OF 'canopylaw.DigestSums'. -/
def digestSumsCard : Claim7 := { stood := { row := digestSumsRow, standIns := [], harness := (true, "f226bab47a8a235484812fbf180a3ea527227ce3f6c42335aebd121ad54966cf"), looks := false }, kinds := [], alts := [], laidByText := true, laidKinds := [.data, .data, .data], laidTests := true, laidLooks := .later }
def DigestSumsCardSaid : Prop := Claim7.holds Tryd.pinned (.plain (OpenSpec.ofChange digestSumsSpec)) digestSumsCard

/-- THE TIED CARD OF 'canopylaw.DigestParts'. -/
def digestPartsCard : Claim7 := { stood := { row := digestPartsRow, standIns := [], harness := (true, "f226bab47a8a235484812fbf180a3ea527227ce3f6c42335aebd121ad54966cf"), looks := false }, kinds := [], alts := [], laidByText := true, laidKinds := [.data, .data, .data], laidTests := true, laidLooks := .later }
def DigestPartsCardSaid : Prop := Claim7.holds Tryd.pinned (.plain (OpenSpec.ofChange digestPartsSpec)) digestPartsCard

/-- THE TIED CARD OF 'canopykeep.KnownSums'. -/
def knownSumsCard : Claim7 := { stood := { row := knownSumsRow, standIns := [], harness := (true, "f226bab47a8a235484812fbf180a3ea527227ce3f6c42335aebd121ad54966cf"), looks := false }, kinds := [], alts := [], laidByText := true, laidKinds := [.data, .data, .data], laidTests := true, laidLooks := .later }
def KnownSumsCardSaid : Prop := Claim7.holds Tryd.pinned (.plain (OpenSpec.ofChange knownSumsSpec)) knownSumsCard

/-- THE TIED CARD OF 'canopykeep.SumLong'. -/
def sumLongCard : Claim7 := { stood := { row := sumLongRow, standIns := [], harness := (true, "f226bab47a8a235484812fbf180a3ea527227ce3f6c42335aebd121ad54966cf"), looks := false }, kinds := [], alts := [], laidByText := true, laidKinds := [.data, .data, .data], laidTests := true, laidLooks := .later }
def SumLongCardSaid : Prop := Claim7.holds Tryd.pinned (.plain (OpenSpec.ofChange sumLongSpec)) sumLongCard

/-- THE TIED CARD OF 'canopykeep.PartsMade'. -/
def partsMadeCard : Claim7 := { stood := { row := partsMadeRow, standIns := [], harness := (true, "f226bab47a8a235484812fbf180a3ea527227ce3f6c42335aebd121ad54966cf"), looks := false }, kinds := [], alts := [], laidByText := true, laidKinds := [.data, .data, .data], laidTests := true, laidLooks := .later }
def PartsMadeCardSaid : Prop := Claim7.holds Tryd.pinned (.plain (OpenSpec.ofChange partsMadeSpec)) partsMadeCard

/-- THE TIED CARD OF 'canopykeep.PartsLong'. -/
def partsLongCard : Claim7 := { stood := { row := partsLongRow, standIns := [], harness := (true, "f226bab47a8a235484812fbf180a3ea527227ce3f6c42335aebd121ad54966cf"), looks := false }, kinds := [], alts := [], laidByText := true, laidKinds := [.data, .data, .data], laidTests := true, laidLooks := .later }
def PartsLongCardSaid : Prop := Claim7.holds Tryd.pinned (.plain (OpenSpec.ofChange partsLongSpec)) partsLongCard

/-- THE SECOND FORM's CARD OF 'canopylaw.DigestSums'. -/
def digestSumsUptoCard : Claim7 := { stood := { row := digestSumsUptoRow, standIns := [], harness := (true, "f226bab47a8a235484812fbf180a3ea527227ce3f6c42335aebd121ad54966cf"), looks := false }, kinds := [], alts := [], laidByText := true, laidKinds := [.data, .data, .data], laidTests := true, laidLooks := .later }
def DigestSumsUptoCardSaid : Prop := Claim7.holds Tryd.pinned (.plain (OpenSpec.upto digestSumsSpec)) digestSumsUptoCard

/-- THE SECOND FORM's CARD OF 'canopylaw.DigestParts'. -/
def digestPartsUptoCard : Claim7 := { stood := { row := digestPartsUptoRow, standIns := [], harness := (true, "f226bab47a8a235484812fbf180a3ea527227ce3f6c42335aebd121ad54966cf"), looks := false }, kinds := [], alts := [], laidByText := true, laidKinds := [.data, .data, .data], laidTests := true, laidLooks := .later }
def DigestPartsUptoCardSaid : Prop := Claim7.holds Tryd.pinned (.plain (OpenSpec.upto digestPartsSpec)) digestPartsUptoCard

/-- THE SECOND FORM's CARD OF 'canopykeep.KnownSums'. -/
def knownSumsUptoCard : Claim7 := { stood := { row := knownSumsUptoRow, standIns := [], harness := (true, "f226bab47a8a235484812fbf180a3ea527227ce3f6c42335aebd121ad54966cf"), looks := false }, kinds := [], alts := [], laidByText := true, laidKinds := [.data, .data, .data], laidTests := true, laidLooks := .later }
def KnownSumsUptoCardSaid : Prop := Claim7.holds Tryd.pinned (.plain (OpenSpec.upto knownSumsSpec)) knownSumsUptoCard

/-- THE SECOND FORM's CARD OF 'canopykeep.SumLong'. -/
def sumLongUptoCard : Claim7 := { stood := { row := sumLongUptoRow, standIns := [], harness := (true, "f226bab47a8a235484812fbf180a3ea527227ce3f6c42335aebd121ad54966cf"), looks := false }, kinds := [], alts := [], laidByText := true, laidKinds := [.data, .data, .data], laidTests := true, laidLooks := .later }
def SumLongUptoCardSaid : Prop := Claim7.holds Tryd.pinned (.plain (OpenSpec.upto sumLongSpec)) sumLongUptoCard

/-- THE SECOND FORM's CARD OF 'canopykeep.PartsMade'. -/
def partsMadeUptoCard : Claim7 := { stood := { row := partsMadeUptoRow, standIns := [], harness := (true, "f226bab47a8a235484812fbf180a3ea527227ce3f6c42335aebd121ad54966cf"), looks := false }, kinds := [], alts := [], laidByText := true, laidKinds := [.data, .data, .data], laidTests := true, laidLooks := .later }
def PartsMadeUptoCardSaid : Prop := Claim7.holds Tryd.pinned (.plain (OpenSpec.upto partsMadeSpec)) partsMadeUptoCard

/-- THE SECOND FORM's CARD OF 'canopykeep.PartsLong'. -/
def partsLongUptoCard : Claim7 := { stood := { row := partsLongUptoRow, standIns := [], harness := (true, "f226bab47a8a235484812fbf180a3ea527227ce3f6c42335aebd121ad54966cf"), looks := false }, kinds := [], alts := [], laidByText := true, laidKinds := [.data, .data, .data], laidTests := true, laidLooks := .later }
def PartsLongUptoCardSaid : Prop := Claim7.holds Tryd.pinned (.plain (OpenSpec.upto partsLongSpec)) partsLongUptoCard
end Rows
end Go.Proofs.YtpkegibjoieemaaDoor
