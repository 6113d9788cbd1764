/-
  DERIVED. GIVEN WITH THE SEED: THE CARDS: each row of YtohjipnkoiifhagDoorRows.lean that lists a variable, with what it lists TIED to the program's text (the seventh form; the later family's looks); each row that meets fmt, with fmt's text TOLD by the authors' own Lean function (tested against real Go, not proved from fmt's source: count such statements apart). THE CARD IS WHAT COUNTS. Prove the row's statement (the work); the ties are given (YtohjipnkoiifhagDoorTie.lean); close each card by the builder's one call (the guide's Derived/Test/ToyasCard.lean, 'card_holds'). Laid BY PROGRAM, IN A SANDBOX (cutbox-door.mjs). By AI agents, Wed Nov 11 2026. No macro, syntax, notation, axiom, sorry.
-/
import Derived.Test.YtohjipnkoiifhagDoorRows
import GoSem.ClaimSeven
namespace Go.Proofs.YtohjipnkoiifhagDoor
namespace Rows

/-- THE TIED CARD OF 'rillkeep.PlanBack'. -/
def planBackCard : Claim7 := { stood := { row := planBackRow, standIns := [], harness := (true, "c57c8542e749dfd995204d2720fdfbfbbc640bddabd2872c8f6a20b87ebb8654"), looks := true }, kinds := [], alts := [], laidByText := true, laidKinds := [.data, .data, .data, .data, .sentinel, .sentinel, .data, .pinned], laidTests := true, laidLooks := .later }
def PlanBackCardSaid : Prop := Claim7.holds Tryd.pinned (.plain (OpenSpec.ofChange planBackSpec)) planBackCard

/-- THE TIED CARD OF 'rillkeep.TakerBack'. -/
def takerBackCard : Claim7 := { stood := { row := takerBackRow, standIns := [], harness := (true, "c57c8542e749dfd995204d2720fdfbfbbc640bddabd2872c8f6a20b87ebb8654"), looks := true }, kinds := [], alts := [], laidByText := true, laidKinds := [.data, .data, .data, .data, .sentinel, .sentinel, .data, .pinned], laidTests := true, laidLooks := .later }
def TakerBackCardSaid : Prop := Claim7.holds Tryd.pinned (.plain (OpenSpec.ofChange takerBackSpec)) takerBackCard

/-- THE SECOND FORM's CARD OF 'rillkeep.PlanBack'. -/
def planBackUptoCard : Claim7 := { stood := { row := planBackUptoRow, standIns := [], harness := (true, "c57c8542e749dfd995204d2720fdfbfbbc640bddabd2872c8f6a20b87ebb8654"), looks := true }, kinds := [], alts := [], laidByText := true, laidKinds := [.data, .data, .data, .data, .sentinel, .sentinel, .data, .pinned], laidTests := true, laidLooks := .later }
def PlanBackUptoCardSaid : Prop := Claim7.holds Tryd.pinned (.plain (OpenSpec.upto planBackSpec)) planBackUptoCard

/-- THE SECOND FORM's CARD OF 'rillkeep.TakerBack'. -/
def takerBackUptoCard : Claim7 := { stood := { row := takerBackUptoRow, standIns := [], harness := (true, "c57c8542e749dfd995204d2720fdfbfbbc640bddabd2872c8f6a20b87ebb8654"), looks := true }, kinds := [], alts := [], laidByText := true, laidKinds := [.data, .data, .data, .data, .sentinel, .sentinel, .data, .pinned], laidTests := true, laidLooks := .later }
def TakerBackUptoCardSaid : Prop := Claim7.holds Tryd.pinned (.plain (OpenSpec.upto takerBackSpec)) takerBackUptoCard
end Rows
end Go.Proofs.YtohjipnkoiifhagDoor
