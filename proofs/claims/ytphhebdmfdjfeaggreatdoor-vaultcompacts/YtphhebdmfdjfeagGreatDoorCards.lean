/-
  DERIVED. GIVEN WITH THE SEED: THE CARDS: each row of YtphhebdmfdjfeagGreatDoorRows.lean that lists a variable, with what it lists TIED to the program's text (the seventh form; the later family's looks); each row that meets fmt, with fmt's text TOLD by the authors' own Lean function (tested against real Go, not proved from fmt's source: count such statements apart). THE CARD IS WHAT COUNTS. Prove the row's statement (the work); the ties are given (YtphhebdmfdjfeagGreatDoorTie.lean); close each card by the builder's one call (the guide's Derived/Test/ToyasCard.lean, 'card_holds'). Laid BY PROGRAM, IN A SANDBOX (cutbox-door.mjs). By AI agents, Wed Nov 11 2026. No macro, syntax, notation, axiom, sorry.
-/
import Derived.Test.YtphhebdmfdjfeagGreatDoorRows
import GoSem.ClaimSeven
namespace Go.Proofs.YtphhebdmfdjfeagGreatDoor
namespace Rows

/-- THE TIED CARD OF 'rillkeep.VaultCompacts'. -/
def vaultCompactsCard : Claim7 := { stood := { row := vaultCompactsRow, standIns := [], harness := (true, "1e31b3f463537cff0ffdf19ab0aa1c0ba74b3a4f634a3ef24c6a9fecc0df4bea"), looks := false }, kinds := [], alts := [], laidByText := true, laidKinds := [.data, .pinned], laidTests := true, laidLooks := .later }
def VaultCompactsCardSaid : Prop := Claim7.holds Tryz.pinned (.plain (OpenSpec.ofChange vaultCompactsSpec)) vaultCompactsCard

/-- THE SECOND FORM's CARD OF 'rillkeep.VaultCompacts'. -/
def vaultCompactsUptoCard : Claim7 := { stood := { row := vaultCompactsUptoRow, standIns := [], harness := (true, "1e31b3f463537cff0ffdf19ab0aa1c0ba74b3a4f634a3ef24c6a9fecc0df4bea"), looks := false }, kinds := [], alts := [], laidByText := true, laidKinds := [.data, .pinned], laidTests := true, laidLooks := .later }
def VaultCompactsUptoCardSaid : Prop := Claim7.holds Tryz.pinned (.plain (OpenSpec.upto vaultCompactsSpec)) vaultCompactsUptoCard
end Rows
end Go.Proofs.YtphhebdmfdjfeagGreatDoor
