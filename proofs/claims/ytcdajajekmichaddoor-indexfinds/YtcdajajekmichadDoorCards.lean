/-
  DERIVED. GIVEN WITH THE SEED: THE CARDS: each row of YtcdajajekmichadDoorRows.lean that lists a variable, with what it lists TIED to the program's text (the seventh form; the later family's looks); each row that meets fmt, with fmt's text TOLD by the authors' own Lean function (tested against real Go, not proved from fmt's source: count such statements apart). THE CARD IS WHAT COUNTS. Prove the row's statement (the work); the ties are given (YtcdajajekmichadDoorTie.lean); close each card by the builder's one call (the guide's Derived/Test/ToyasCard.lean, 'card_holds'). Laid BY PROGRAM, IN A SANDBOX (cutbox-door.mjs). By AI agents, Wed Nov 11 2026. No macro, syntax, notation, axiom, sorry.
-/
import Derived.Test.YtcdajajekmichadDoorRows
import GoSem.ClaimSeven
namespace Go.Proofs.YtcdajajekmichadDoor
namespace Rows

/-- THE TIED CARD OF 'rillkeep.SubjectSelf'. -/
def subjectSelfCard : Claim7 := { stood := { row := subjectSelfRow, standIns := [], harness := (true, "4c8b4ef600257f339e0e4401315595e68861454087d2b2f412ba76341811c65f"), looks := false }, kinds := [], alts := [], laidByText := true, laidKinds := [.data, .pinned], laidTests := true, laidLooks := .later }
def SubjectSelfCardSaid : Prop := Claim7.holds Tryd.pinned (.plain (OpenSpec.ofChange subjectSelfSpec)) subjectSelfCard

/-- THE TIED CARD OF 'rillkeep.SubjectTwo'. -/
def subjectTwoCard : Claim7 := { stood := { row := subjectTwoRow, standIns := [], harness := (true, "4c8b4ef600257f339e0e4401315595e68861454087d2b2f412ba76341811c65f"), looks := false }, kinds := [], alts := [], laidByText := true, laidKinds := [.data, .pinned], laidTests := true, laidLooks := .later }
def SubjectTwoCardSaid : Prop := Claim7.holds Tryd.pinned (.plain (OpenSpec.ofChange subjectTwoSpec)) subjectTwoCard

/-- THE TIED CARD OF 'rillkeep.SubjectThree'. -/
def subjectThreeCard : Claim7 := { stood := { row := subjectThreeRow, standIns := [], harness := (true, "4c8b4ef600257f339e0e4401315595e68861454087d2b2f412ba76341811c65f"), looks := false }, kinds := [], alts := [], laidByText := true, laidKinds := [.data, .pinned], laidTests := true, laidLooks := .later }
def SubjectThreeCardSaid : Prop := Claim7.holds Tryd.pinned (.plain (OpenSpec.ofChange subjectThreeSpec)) subjectThreeCard

/-- THE TIED CARD OF 'rillkeep.SubjectShows'. -/
def subjectShowsCard : Claim7 := { stood := { row := subjectShowsRow, standIns := [], harness := (true, "4c8b4ef600257f339e0e4401315595e68861454087d2b2f412ba76341811c65f"), looks := false }, kinds := [], alts := [], laidByText := true, laidKinds := [.data, .pinned], laidTests := true, laidLooks := .later }
def SubjectShowsCardSaid : Prop := Claim7.holds Tryd.pinned (.plain (OpenSpec.ofChange subjectShowsSpec)) subjectShowsCard

/-- THE TIED CARD OF 'rillkeep.IndexFinds'. -/
def indexFindsCard : Claim7 := { stood := { row := indexFindsRow, standIns := [], harness := (true, "4c8b4ef600257f339e0e4401315595e68861454087d2b2f412ba76341811c65f"), looks := false }, kinds := [], alts := [], laidByText := true, laidKinds := [.data, .pinned], laidTests := true, laidLooks := .later }
def IndexFindsCardSaid : Prop := Claim7.holds Tryd.pinned (.plain (OpenSpec.ofChange indexFindsSpec)) indexFindsCard

/-- THE SECOND FORM's CARD OF 'rillkeep.SubjectSelf'. -/
def subjectSelfUptoCard : Claim7 := { stood := { row := subjectSelfUptoRow, standIns := [], harness := (true, "4c8b4ef600257f339e0e4401315595e68861454087d2b2f412ba76341811c65f"), looks := false }, kinds := [], alts := [], laidByText := true, laidKinds := [.data, .pinned], laidTests := true, laidLooks := .later }
def SubjectSelfUptoCardSaid : Prop := Claim7.holds Tryd.pinned (.plain (OpenSpec.upto subjectSelfSpec)) subjectSelfUptoCard

/-- THE SECOND FORM's CARD OF 'rillkeep.SubjectTwo'. -/
def subjectTwoUptoCard : Claim7 := { stood := { row := subjectTwoUptoRow, standIns := [], harness := (true, "4c8b4ef600257f339e0e4401315595e68861454087d2b2f412ba76341811c65f"), looks := false }, kinds := [], alts := [], laidByText := true, laidKinds := [.data, .pinned], laidTests := true, laidLooks := .later }
def SubjectTwoUptoCardSaid : Prop := Claim7.holds Tryd.pinned (.plain (OpenSpec.upto subjectTwoSpec)) subjectTwoUptoCard

/-- THE SECOND FORM's CARD OF 'rillkeep.SubjectThree'. -/
def subjectThreeUptoCard : Claim7 := { stood := { row := subjectThreeUptoRow, standIns := [], harness := (true, "4c8b4ef600257f339e0e4401315595e68861454087d2b2f412ba76341811c65f"), looks := false }, kinds := [], alts := [], laidByText := true, laidKinds := [.data, .pinned], laidTests := true, laidLooks := .later }
def SubjectThreeUptoCardSaid : Prop := Claim7.holds Tryd.pinned (.plain (OpenSpec.upto subjectThreeSpec)) subjectThreeUptoCard

/-- THE SECOND FORM's CARD OF 'rillkeep.SubjectShows'. -/
def subjectShowsUptoCard : Claim7 := { stood := { row := subjectShowsUptoRow, standIns := [], harness := (true, "4c8b4ef600257f339e0e4401315595e68861454087d2b2f412ba76341811c65f"), looks := false }, kinds := [], alts := [], laidByText := true, laidKinds := [.data, .pinned], laidTests := true, laidLooks := .later }
def SubjectShowsUptoCardSaid : Prop := Claim7.holds Tryd.pinned (.plain (OpenSpec.upto subjectShowsSpec)) subjectShowsUptoCard

/-- THE SECOND FORM's CARD OF 'rillkeep.IndexFinds'. -/
def indexFindsUptoCard : Claim7 := { stood := { row := indexFindsUptoRow, standIns := [], harness := (true, "4c8b4ef600257f339e0e4401315595e68861454087d2b2f412ba76341811c65f"), looks := false }, kinds := [], alts := [], laidByText := true, laidKinds := [.data, .pinned], laidTests := true, laidLooks := .later }
def IndexFindsUptoCardSaid : Prop := Claim7.holds Tryd.pinned (.plain (OpenSpec.upto indexFindsSpec)) indexFindsUptoCard
end Rows
end Go.Proofs.YtcdajajekmichadDoor
