/-
  DERIVED. GIVEN WITH THE SEED: THE CARDS: each row of YtmhbobnfmncdbaaGreatDoorRows.lean that lists a variable, with what it lists TIED to the program's text (the seventh form; the later family's looks); each row that meets fmt, with fmt's text TOLD by the authors' own Lean function (tested against real Go, not proved from fmt's source: count such statements apart). THE CARD IS WHAT COUNTS. Prove the row's statement (the work); the ties are given (YtmhbobnfmncdbaaGreatDoorTie.lean); close each card by the builder's one call (the guide's Derived/Test/ToyasCard.lean, 'card_holds'). Laid BY PROGRAM, IN A SANDBOX (cutbox-door.mjs). By AI agents, Wed Nov 11 2026. No macro, syntax, notation, axiom, sorry.
-/
import Derived.Test.YtmhbobnfmncdbaaGreatDoorRows
import GoSem.ClaimSeven
namespace Go.Proofs.YtmhbobnfmncdbaaGreatDoor
namespace Rows

/-- THE TIED CARD OF 'rilllaw.ConsumerPlays'. -/
def consumerPlaysCard : Claim7 := { stood := { row := consumerPlaysRow, standIns := [], harness := (true, "80bbb2d49e4f04653c2b94a624a5c92d5a828cd31435a55a161d8860853de2d0"), looks := false }, kinds := [], alts := [], laidByText := true, laidKinds := [.data, .pinned], laidTests := true, laidLooks := .later }
def ConsumerPlaysCardSaid : Prop := Claim7.holds Tryz.pinned (.plain (OpenSpec.ofChange consumerPlaysSpec)) consumerPlaysCard

/-- THE TIED CARD OF 'rillkeep.ConsumerRules'. -/
def consumerRulesCard : Claim7 := { stood := { row := consumerRulesRow, standIns := [], harness := (true, "80bbb2d49e4f04653c2b94a624a5c92d5a828cd31435a55a161d8860853de2d0"), looks := false }, kinds := [], alts := [], laidByText := true, laidKinds := [.data, .pinned], laidTests := true, laidLooks := .later }
def ConsumerRulesCardSaid : Prop := Claim7.holds Tryz.pinned (.plain (OpenSpec.ofChange consumerRulesSpec)) consumerRulesCard

/-- THE TIED CARD OF 'rillkeep.ConsumerDrains'. -/
def consumerDrainsCard : Claim7 := { stood := { row := consumerDrainsRow, standIns := [], harness := (true, "80bbb2d49e4f04653c2b94a624a5c92d5a828cd31435a55a161d8860853de2d0"), looks := false }, kinds := [], alts := [], laidByText := true, laidKinds := [.data, .pinned], laidTests := true, laidLooks := .later }
def ConsumerDrainsCardSaid : Prop := Claim7.holds Tryz.pinned (.plain (OpenSpec.ofChange consumerDrainsSpec)) consumerDrainsCard

/-- THE TIED CARD OF 'rillkeep.PlansOwn'. -/
def plansOwnCard : Claim7 := { stood := { row := plansOwnRow, standIns := [], harness := (true, "80bbb2d49e4f04653c2b94a624a5c92d5a828cd31435a55a161d8860853de2d0"), looks := false }, kinds := [], alts := [], laidByText := true, laidKinds := [.data, .data, .pinned], laidTests := true, laidLooks := .later }
def PlansOwnCardSaid : Prop := Claim7.holds Tryz.pinned (.plain (OpenSpec.ofChange plansOwnSpec)) plansOwnCard

/-- THE SECOND FORM's CARD OF 'rilllaw.ConsumerPlays'. -/
def consumerPlaysUptoCard : Claim7 := { stood := { row := consumerPlaysUptoRow, standIns := [], harness := (true, "80bbb2d49e4f04653c2b94a624a5c92d5a828cd31435a55a161d8860853de2d0"), looks := false }, kinds := [], alts := [], laidByText := true, laidKinds := [.data, .pinned], laidTests := true, laidLooks := .later }
def ConsumerPlaysUptoCardSaid : Prop := Claim7.holds Tryz.pinned (.plain (OpenSpec.upto consumerPlaysSpec)) consumerPlaysUptoCard

/-- THE SECOND FORM's CARD OF 'rillkeep.ConsumerRules'. -/
def consumerRulesUptoCard : Claim7 := { stood := { row := consumerRulesUptoRow, standIns := [], harness := (true, "80bbb2d49e4f04653c2b94a624a5c92d5a828cd31435a55a161d8860853de2d0"), looks := false }, kinds := [], alts := [], laidByText := true, laidKinds := [.data, .pinned], laidTests := true, laidLooks := .later }
def ConsumerRulesUptoCardSaid : Prop := Claim7.holds Tryz.pinned (.plain (OpenSpec.upto consumerRulesSpec)) consumerRulesUptoCard

/-- THE SECOND FORM's CARD OF 'rillkeep.ConsumerDrains'. -/
def consumerDrainsUptoCard : Claim7 := { stood := { row := consumerDrainsUptoRow, standIns := [], harness := (true, "80bbb2d49e4f04653c2b94a624a5c92d5a828cd31435a55a161d8860853de2d0"), looks := false }, kinds := [], alts := [], laidByText := true, laidKinds := [.data, .pinned], laidTests := true, laidLooks := .later }
def ConsumerDrainsUptoCardSaid : Prop := Claim7.holds Tryz.pinned (.plain (OpenSpec.upto consumerDrainsSpec)) consumerDrainsUptoCard

/-- THE SECOND FORM's CARD OF 'rillkeep.PlansOwn'. -/
def plansOwnUptoCard : Claim7 := { stood := { row := plansOwnUptoRow, standIns := [], harness := (true, "80bbb2d49e4f04653c2b94a624a5c92d5a828cd31435a55a161d8860853de2d0"), looks := false }, kinds := [], alts := [], laidByText := true, laidKinds := [.data, .data, .pinned], laidTests := true, laidLooks := .later }
def PlansOwnUptoCardSaid : Prop := Claim7.holds Tryz.pinned (.plain (OpenSpec.upto plansOwnSpec)) plansOwnUptoCard
end Rows
end Go.Proofs.YtmhbobnfmncdbaaGreatDoor
