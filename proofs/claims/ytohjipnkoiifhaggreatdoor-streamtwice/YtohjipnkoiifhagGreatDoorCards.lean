/-
  DERIVED. GIVEN WITH THE SEED: THE CARDS: each row of YtohjipnkoiifhagGreatDoorRows.lean that lists a variable, with what it lists TIED to the program's text (the seventh form; the later family's looks); each row that meets fmt, with fmt's text TOLD by the authors' own Lean function (tested against real Go, not proved from fmt's source: count such statements apart). THE CARD IS WHAT COUNTS. Prove the row's statement (the work); the ties are given (YtohjipnkoiifhagGreatDoorTie.lean); close each card by the builder's one call (the guide's Derived/Test/ToyasCard.lean, 'card_holds'). Laid BY PROGRAM, IN A SANDBOX (cutbox-door.mjs). By AI agents, Wed Nov 11 2026. No macro, syntax, notation, axiom, sorry.
-/
import Derived.Test.YtohjipnkoiifhagGreatDoorRows
import GoSem.ClaimSeven
namespace Go.Proofs.YtohjipnkoiifhagGreatDoor
namespace Rows

/-- THE TIED CARD OF 'rillkeep.VaultCompacts'. -/
def vaultCompactsCard : Claim7 := { stood := { row := vaultCompactsRow, standIns := [], harness := (true, "aa051b1c57c74bc16857f9ebe90d78a7c0ee31a779cf0933ac670bd3058e51a6"), looks := false }, kinds := [], alts := [], laidByText := true, laidKinds := [.data, .pinned], laidTests := true, laidLooks := .later }
def VaultCompactsCardSaid : Prop := Claim7.holds Tryz.pinned (.plain (OpenSpec.ofChange vaultCompactsSpec)) vaultCompactsCard

/-- THE TIED CARD OF 'rillkeep.StreamBounds'. -/
def streamBoundsCard : Claim7 := { stood := { row := streamBoundsRow, standIns := [], harness := (true, "aa051b1c57c74bc16857f9ebe90d78a7c0ee31a779cf0933ac670bd3058e51a6"), looks := false }, kinds := [], alts := [], laidByText := true, laidKinds := [.data, .data, .pinned], laidTests := true, laidLooks := .later }
def StreamBoundsCardSaid : Prop := Claim7.holds Tryz.pinned (.plain (OpenSpec.ofChange streamBoundsSpec)) streamBoundsCard

/-- THE TIED CARD OF 'rillkeep.StreamTwice'. -/
def streamTwiceCard : Claim7 := { stood := { row := streamTwiceRow, standIns := [], harness := (true, "aa051b1c57c74bc16857f9ebe90d78a7c0ee31a779cf0933ac670bd3058e51a6"), looks := false }, kinds := [], alts := [], laidByText := true, laidKinds := [.data, .data, .pinned], laidTests := true, laidLooks := .later }
def StreamTwiceCardSaid : Prop := Claim7.holds Tryz.pinned (.plain (OpenSpec.ofChange streamTwiceSpec)) streamTwiceCard

/-- THE SECOND FORM's CARD OF 'rillkeep.VaultCompacts'. -/
def vaultCompactsUptoCard : Claim7 := { stood := { row := vaultCompactsUptoRow, standIns := [], harness := (true, "aa051b1c57c74bc16857f9ebe90d78a7c0ee31a779cf0933ac670bd3058e51a6"), looks := false }, kinds := [], alts := [], laidByText := true, laidKinds := [.data, .pinned], laidTests := true, laidLooks := .later }
def VaultCompactsUptoCardSaid : Prop := Claim7.holds Tryz.pinned (.plain (OpenSpec.upto vaultCompactsSpec)) vaultCompactsUptoCard

/-- THE SECOND FORM's CARD OF 'rillkeep.StreamBounds'. -/
def streamBoundsUptoCard : Claim7 := { stood := { row := streamBoundsUptoRow, standIns := [], harness := (true, "aa051b1c57c74bc16857f9ebe90d78a7c0ee31a779cf0933ac670bd3058e51a6"), looks := false }, kinds := [], alts := [], laidByText := true, laidKinds := [.data, .data, .pinned], laidTests := true, laidLooks := .later }
def StreamBoundsUptoCardSaid : Prop := Claim7.holds Tryz.pinned (.plain (OpenSpec.upto streamBoundsSpec)) streamBoundsUptoCard

/-- THE SECOND FORM's CARD OF 'rillkeep.StreamTwice'. -/
def streamTwiceUptoCard : Claim7 := { stood := { row := streamTwiceUptoRow, standIns := [], harness := (true, "aa051b1c57c74bc16857f9ebe90d78a7c0ee31a779cf0933ac670bd3058e51a6"), looks := false }, kinds := [], alts := [], laidByText := true, laidKinds := [.data, .data, .pinned], laidTests := true, laidLooks := .later }
def StreamTwiceUptoCardSaid : Prop := Claim7.holds Tryz.pinned (.plain (OpenSpec.upto streamTwiceSpec)) streamTwiceUptoCard
end Rows
end Go.Proofs.YtohjipnkoiifhagGreatDoor
