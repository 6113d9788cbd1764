/-
  DERIVED. GIVEN WITH THE SEED: THE CARDS: each row of YtphhebdmfdjfeafGreatDoorRows.lean that lists a variable, with what it lists TIED to the program's text (the seventh form; the later family's looks); each row that meets fmt, with fmt's text TOLD by the authors' own Lean function (tested against real Go, not proved from fmt's source: count such statements apart). THE CARD IS WHAT COUNTS. Prove the row's statement (the work); the ties are given (YtphhebdmfdjfeafGreatDoorTie.lean); close each card by the builder's one call (the guide's Derived/Test/ToyasCard.lean, 'card_holds'). Laid BY PROGRAM, IN A SANDBOX (cutbox-door.mjs). By AI agents, Wed Nov 11 2026. No macro, syntax, notation, axiom, sorry.
-/
import Derived.Test.YtphhebdmfdjfeafGreatDoorRows
import GoSem.ClaimSeven
namespace Go.Proofs.YtphhebdmfdjfeafGreatDoor
namespace Rows

/-- THE TIED CARD OF 'rillkeep.LogFront'. -/
def logFrontCard : Claim7 := { stood := { row := logFrontRow, standIns := [], harness := (true, "2f43820fa83bcc2344d8b17d1374359aa262116dce49fa8a7c990cf6f4972089"), looks := false }, kinds := [], alts := [], laidByText := true, laidKinds := [.data, .pinned], laidTests := true, laidLooks := .later }
def LogFrontCardSaid : Prop := Claim7.holds Tryz.pinned (.plain (OpenSpec.ofChange logFrontSpec)) logFrontCard

/-- THE TIED CARD OF 'rillkeep.VaultSure'. -/
def vaultSureCard : Claim7 := { stood := { row := vaultSureRow, standIns := [], harness := (true, "2f43820fa83bcc2344d8b17d1374359aa262116dce49fa8a7c990cf6f4972089"), looks := false }, kinds := [], alts := [], laidByText := true, laidKinds := [.data, .pinned], laidTests := true, laidLooks := .later }
def VaultSureCardSaid : Prop := Claim7.holds Tryz.pinned (.plain (OpenSpec.ofChange vaultSureSpec)) vaultSureCard

/-- THE SECOND FORM's CARD OF 'rillkeep.LogFront'. -/
def logFrontUptoCard : Claim7 := { stood := { row := logFrontUptoRow, standIns := [], harness := (true, "2f43820fa83bcc2344d8b17d1374359aa262116dce49fa8a7c990cf6f4972089"), looks := false }, kinds := [], alts := [], laidByText := true, laidKinds := [.data, .pinned], laidTests := true, laidLooks := .later }
def LogFrontUptoCardSaid : Prop := Claim7.holds Tryz.pinned (.plain (OpenSpec.upto logFrontSpec)) logFrontUptoCard

/-- THE SECOND FORM's CARD OF 'rillkeep.VaultSure'. -/
def vaultSureUptoCard : Claim7 := { stood := { row := vaultSureUptoRow, standIns := [], harness := (true, "2f43820fa83bcc2344d8b17d1374359aa262116dce49fa8a7c990cf6f4972089"), looks := false }, kinds := [], alts := [], laidByText := true, laidKinds := [.data, .pinned], laidTests := true, laidLooks := .later }
def VaultSureUptoCardSaid : Prop := Claim7.holds Tryz.pinned (.plain (OpenSpec.upto vaultSureSpec)) vaultSureUptoCard
end Rows
end Go.Proofs.YtphhebdmfdjfeafGreatDoor
