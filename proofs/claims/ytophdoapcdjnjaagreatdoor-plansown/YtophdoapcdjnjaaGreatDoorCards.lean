/-
  DERIVED. GIVEN WITH THE SEED: THE CARDS: each row of YtophdoapcdjnjaaGreatDoorRows.lean that lists a variable, with what it lists TIED to the program's text (the seventh form; the later family's looks); each row that meets fmt, with fmt's text TOLD by the authors' own Lean function (tested against real Go, not proved from fmt's source: count such statements apart). THE CARD IS WHAT COUNTS. Prove the row's statement (the work); the ties are given (YtophdoapcdjnjaaGreatDoorTie.lean); close each card by the builder's one call (the guide's Derived/Test/ToyasCard.lean, 'card_holds'). Laid BY PROGRAM, IN A SANDBOX (cutbox-door.mjs). By AI agents, Wed Nov 11 2026. No macro, syntax, notation, axiom, sorry.
-/
import Derived.Test.YtophdoapcdjnjaaGreatDoorRows
import GoSem.ClaimSeven
namespace Go.Proofs.YtophdoapcdjnjaaGreatDoor
namespace Rows

/-- THE TIED CARD OF 'rillkeep.ConsumerDrains'. -/
def consumerDrainsCard : Claim7 := { stood := { row := consumerDrainsRow, standIns := [], harness := (true, "83a87ef33f4ab0ebbed13ef1cb767dc0137793711b315a49e15fc8fdefff15e4"), looks := false }, kinds := [], alts := [], laidByText := true, laidKinds := [.data, .pinned], laidTests := true, laidLooks := .later }
def ConsumerDrainsCardSaid : Prop := Claim7.holds Tryz.pinned (.plain (OpenSpec.ofChange consumerDrainsSpec)) consumerDrainsCard

/-- THE TIED CARD OF 'rillkeep.PlansOwn'. -/
def plansOwnCard : Claim7 := { stood := { row := plansOwnRow, standIns := [], harness := (true, "83a87ef33f4ab0ebbed13ef1cb767dc0137793711b315a49e15fc8fdefff15e4"), looks := false }, kinds := [], alts := [], laidByText := true, laidKinds := [.data, .data, .pinned], laidTests := true, laidLooks := .later }
def PlansOwnCardSaid : Prop := Claim7.holds Tryz.pinned (.plain (OpenSpec.ofChange plansOwnSpec)) plansOwnCard

/-- THE SECOND FORM's CARD OF 'rillkeep.ConsumerDrains'. -/
def consumerDrainsUptoCard : Claim7 := { stood := { row := consumerDrainsUptoRow, standIns := [], harness := (true, "83a87ef33f4ab0ebbed13ef1cb767dc0137793711b315a49e15fc8fdefff15e4"), looks := false }, kinds := [], alts := [], laidByText := true, laidKinds := [.data, .pinned], laidTests := true, laidLooks := .later }
def ConsumerDrainsUptoCardSaid : Prop := Claim7.holds Tryz.pinned (.plain (OpenSpec.upto consumerDrainsSpec)) consumerDrainsUptoCard

/-- THE SECOND FORM's CARD OF 'rillkeep.PlansOwn'. -/
def plansOwnUptoCard : Claim7 := { stood := { row := plansOwnUptoRow, standIns := [], harness := (true, "83a87ef33f4ab0ebbed13ef1cb767dc0137793711b315a49e15fc8fdefff15e4"), looks := false }, kinds := [], alts := [], laidByText := true, laidKinds := [.data, .data, .pinned], laidTests := true, laidLooks := .later }
def PlansOwnUptoCardSaid : Prop := Claim7.holds Tryz.pinned (.plain (OpenSpec.upto plansOwnSpec)) plansOwnUptoCard
end Rows
end Go.Proofs.YtophdoapcdjnjaaGreatDoor
