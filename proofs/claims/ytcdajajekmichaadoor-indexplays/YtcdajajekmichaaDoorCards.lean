/-
  DERIVED. GIVEN WITH THE SEED: THE CARDS: each row of YtcdajajekmichaaDoorRows.lean that lists a variable, with what it lists TIED to the program's text (the seventh form; the later family's looks); each row that meets fmt, with fmt's text TOLD by the authors' own Lean function (tested against real Go, not proved from fmt's source: count such statements apart). THE CARD IS WHAT COUNTS. Prove the row's statement (the work); the ties are given (YtcdajajekmichaaDoorTie.lean); close each card by the builder's one call (the guide's Derived/Test/ToyasCard.lean, 'card_holds'). Laid BY PROGRAM, IN A SANDBOX (cutbox-door.mjs). By AI agents, Wed Nov 11 2026. No macro, syntax, notation, axiom, sorry.
-/
import Derived.Test.YtcdajajekmichaaDoorRows
import GoSem.ClaimSeven
namespace Go.Proofs.YtcdajajekmichaaDoor
namespace Rows

/-- THE TIED CARD OF 'rilllaw.SubjectSays'. -/
def subjectSaysCard : Claim7 := { stood := { row := subjectSaysRow, standIns := [], harness := (true, "ce3e6dc00f9042f7ed7f3cd539b068dff20c4404baeceb34805fd727a737c060"), looks := false }, kinds := [], alts := [], laidByText := true, laidKinds := [.data, .pinned], laidTests := true, laidLooks := .later }
def SubjectSaysCardSaid : Prop := Claim7.holds Tryd.pinned (.plain (OpenSpec.ofChange subjectSaysSpec)) subjectSaysCard

/-- THE TIED CARD OF 'rilllaw.SubjectMatches'. -/
def subjectMatchesCard : Claim7 := { stood := { row := subjectMatchesRow, standIns := [], harness := (true, "ce3e6dc00f9042f7ed7f3cd539b068dff20c4404baeceb34805fd727a737c060"), looks := false }, kinds := [], alts := [], laidByText := true, laidKinds := [.data, .pinned], laidTests := true, laidLooks := .later }
def SubjectMatchesCardSaid : Prop := Claim7.holds Tryd.pinned (.plain (OpenSpec.ofChange subjectMatchesSpec)) subjectMatchesCard

/-- THE TIED CARD OF 'rilllaw.IndexPlays'. -/
def indexPlaysCard : Claim7 := { stood := { row := indexPlaysRow, standIns := [], harness := (true, "ce3e6dc00f9042f7ed7f3cd539b068dff20c4404baeceb34805fd727a737c060"), looks := false }, kinds := [], alts := [], laidByText := true, laidKinds := [.data, .pinned], laidTests := true, laidLooks := .later }
def IndexPlaysCardSaid : Prop := Claim7.holds Tryd.pinned (.plain (OpenSpec.ofChange indexPlaysSpec)) indexPlaysCard

/-- THE TIED CARD OF 'rilllaw.RecordSays'. -/
def recordSaysCard : Claim7 := { stood := { row := recordSaysRow, standIns := [], harness := (true, "ce3e6dc00f9042f7ed7f3cd539b068dff20c4404baeceb34805fd727a737c060"), looks := false }, kinds := [], alts := [], laidByText := true, laidKinds := [.data, .pinned], laidTests := true, laidLooks := .later }
def RecordSaysCardSaid : Prop := Claim7.holds Tryd.pinned (.plain (OpenSpec.ofChange recordSaysSpec)) recordSaysCard

/-- THE TIED CARD OF 'rilllaw.RecordReads'. -/
def recordReadsCard : Claim7 := { stood := { row := recordReadsRow, standIns := [], harness := (true, "ce3e6dc00f9042f7ed7f3cd539b068dff20c4404baeceb34805fd727a737c060"), looks := false }, kinds := [], alts := [], laidByText := true, laidKinds := [.data, .pinned], laidTests := true, laidLooks := .later }
def RecordReadsCardSaid : Prop := Claim7.holds Tryd.pinned (.plain (OpenSpec.ofChange recordReadsSpec)) recordReadsCard

/-- THE SECOND FORM's CARD OF 'rilllaw.SubjectSays'. -/
def subjectSaysUptoCard : Claim7 := { stood := { row := subjectSaysUptoRow, standIns := [], harness := (true, "ce3e6dc00f9042f7ed7f3cd539b068dff20c4404baeceb34805fd727a737c060"), looks := false }, kinds := [], alts := [], laidByText := true, laidKinds := [.data, .pinned], laidTests := true, laidLooks := .later }
def SubjectSaysUptoCardSaid : Prop := Claim7.holds Tryd.pinned (.plain (OpenSpec.upto subjectSaysSpec)) subjectSaysUptoCard

/-- THE SECOND FORM's CARD OF 'rilllaw.SubjectMatches'. -/
def subjectMatchesUptoCard : Claim7 := { stood := { row := subjectMatchesUptoRow, standIns := [], harness := (true, "ce3e6dc00f9042f7ed7f3cd539b068dff20c4404baeceb34805fd727a737c060"), looks := false }, kinds := [], alts := [], laidByText := true, laidKinds := [.data, .pinned], laidTests := true, laidLooks := .later }
def SubjectMatchesUptoCardSaid : Prop := Claim7.holds Tryd.pinned (.plain (OpenSpec.upto subjectMatchesSpec)) subjectMatchesUptoCard

/-- THE SECOND FORM's CARD OF 'rilllaw.IndexPlays'. -/
def indexPlaysUptoCard : Claim7 := { stood := { row := indexPlaysUptoRow, standIns := [], harness := (true, "ce3e6dc00f9042f7ed7f3cd539b068dff20c4404baeceb34805fd727a737c060"), looks := false }, kinds := [], alts := [], laidByText := true, laidKinds := [.data, .pinned], laidTests := true, laidLooks := .later }
def IndexPlaysUptoCardSaid : Prop := Claim7.holds Tryd.pinned (.plain (OpenSpec.upto indexPlaysSpec)) indexPlaysUptoCard

/-- THE SECOND FORM's CARD OF 'rilllaw.RecordSays'. -/
def recordSaysUptoCard : Claim7 := { stood := { row := recordSaysUptoRow, standIns := [], harness := (true, "ce3e6dc00f9042f7ed7f3cd539b068dff20c4404baeceb34805fd727a737c060"), looks := false }, kinds := [], alts := [], laidByText := true, laidKinds := [.data, .pinned], laidTests := true, laidLooks := .later }
def RecordSaysUptoCardSaid : Prop := Claim7.holds Tryd.pinned (.plain (OpenSpec.upto recordSaysSpec)) recordSaysUptoCard

/-- THE SECOND FORM's CARD OF 'rilllaw.RecordReads'. -/
def recordReadsUptoCard : Claim7 := { stood := { row := recordReadsUptoRow, standIns := [], harness := (true, "ce3e6dc00f9042f7ed7f3cd539b068dff20c4404baeceb34805fd727a737c060"), looks := false }, kinds := [], alts := [], laidByText := true, laidKinds := [.data, .pinned], laidTests := true, laidLooks := .later }
def RecordReadsUptoCardSaid : Prop := Claim7.holds Tryd.pinned (.plain (OpenSpec.upto recordReadsSpec)) recordReadsUptoCard
end Rows
end Go.Proofs.YtcdajajekmichaaDoor
