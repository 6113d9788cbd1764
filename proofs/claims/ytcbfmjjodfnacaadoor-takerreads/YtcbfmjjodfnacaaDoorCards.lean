/-
  DERIVED. GIVEN WITH THE SEED: THE CARDS: each row of YtcbfmjjodfnacaaDoorRows.lean that lists a variable, with what it lists TIED to the program's text (the seventh form; the later family's looks); each row that meets fmt, with fmt's text TOLD by the authors' own Lean function (tested against real Go, not proved from fmt's source: count such statements apart). THE CARD IS WHAT COUNTS. Prove the row's statement (the work); the ties are given (YtcbfmjjodfnacaaDoorTie.lean); close each card by the builder's one call (the guide's Derived/Test/ToyasCard.lean, 'card_holds'). Laid BY PROGRAM, IN A SANDBOX (cutbox-door.mjs). By AI agents, Wed Nov 11 2026. No macro, syntax, notation, axiom, sorry.
-/
import Derived.Test.YtcbfmjjodfnacaaDoorRows
import GoSem.ClaimSeven
namespace Go.Proofs.YtcbfmjjodfnacaaDoor
namespace Rows

/-- THE TIED CARD OF 'rilllaw.TakerSays'. -/
def takerSaysCard : Claim7 := { stood := { row := takerSaysRow, standIns := [], harness := (true, "68a134c167f36fe45d013c50098e67a2071215c84bc493467f84a553850e27ec"), looks := true }, kinds := [], alts := [], laidByText := true, laidKinds := [.data, .data, .data, .data, .data, .pinned], laidTests := true, laidLooks := .later }
def TakerSaysCardSaid : Prop := Claim7.holds Tryd.pinned (.plain (OpenSpec.ofChange takerSaysSpec)) takerSaysCard

/-- THE TIED CARD OF 'rilllaw.TakerReads'. -/
def takerReadsCard : Claim7 := { stood := { row := takerReadsRow, standIns := [], harness := (true, "68a134c167f36fe45d013c50098e67a2071215c84bc493467f84a553850e27ec"), looks := true }, kinds := [], alts := [], laidByText := true, laidKinds := [.data, .data, .data, .data, .sentinel, .sentinel, .data, .pinned], laidTests := true, laidLooks := .later }
def TakerReadsCardSaid : Prop := Claim7.holds Tryd.pinned (.plain (OpenSpec.ofChange takerReadsSpec)) takerReadsCard

/-- THE TIED CARD OF 'rillkeep.TakerBack'. -/
def takerBackCard : Claim7 := { stood := { row := takerBackRow, standIns := [], harness := (true, "68a134c167f36fe45d013c50098e67a2071215c84bc493467f84a553850e27ec"), looks := true }, kinds := [], alts := [], laidByText := true, laidKinds := [.data, .data, .data, .data, .sentinel, .sentinel, .data, .pinned], laidTests := true, laidLooks := .later }
def TakerBackCardSaid : Prop := Claim7.holds Tryd.pinned (.plain (OpenSpec.ofChange takerBackSpec)) takerBackCard

/-- THE SECOND FORM's CARD OF 'rilllaw.TakerSays'. -/
def takerSaysUptoCard : Claim7 := { stood := { row := takerSaysUptoRow, standIns := [], harness := (true, "68a134c167f36fe45d013c50098e67a2071215c84bc493467f84a553850e27ec"), looks := true }, kinds := [], alts := [], laidByText := true, laidKinds := [.data, .data, .data, .data, .data, .pinned], laidTests := true, laidLooks := .later }
def TakerSaysUptoCardSaid : Prop := Claim7.holds Tryd.pinned (.plain (OpenSpec.upto takerSaysSpec)) takerSaysUptoCard

/-- THE SECOND FORM's CARD OF 'rilllaw.TakerReads'. -/
def takerReadsUptoCard : Claim7 := { stood := { row := takerReadsUptoRow, standIns := [], harness := (true, "68a134c167f36fe45d013c50098e67a2071215c84bc493467f84a553850e27ec"), looks := true }, kinds := [], alts := [], laidByText := true, laidKinds := [.data, .data, .data, .data, .sentinel, .sentinel, .data, .pinned], laidTests := true, laidLooks := .later }
def TakerReadsUptoCardSaid : Prop := Claim7.holds Tryd.pinned (.plain (OpenSpec.upto takerReadsSpec)) takerReadsUptoCard

/-- THE SECOND FORM's CARD OF 'rillkeep.TakerBack'. -/
def takerBackUptoCard : Claim7 := { stood := { row := takerBackUptoRow, standIns := [], harness := (true, "68a134c167f36fe45d013c50098e67a2071215c84bc493467f84a553850e27ec"), looks := true }, kinds := [], alts := [], laidByText := true, laidKinds := [.data, .data, .data, .data, .sentinel, .sentinel, .data, .pinned], laidTests := true, laidLooks := .later }
def TakerBackUptoCardSaid : Prop := Claim7.holds Tryd.pinned (.plain (OpenSpec.upto takerBackSpec)) takerBackUptoCard
end Rows
end Go.Proofs.YtcbfmjjodfnacaaDoor
