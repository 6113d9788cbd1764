/-
  DERIVED. GIVEN WITH THE SEED: THE CARDS: each row of YtebofkkfbkodiaaGreatDoorRows.lean that lists a variable, with what it lists TIED to the program's text (the seventh form; the later family's looks); each row that meets fmt, with fmt's text TOLD by the authors' own Lean function (tested against real Go, not proved from fmt's source: count such statements apart). THE CARD IS WHAT COUNTS. Prove the row's statement (the work); the ties are given (YtebofkkfbkodiaaGreatDoorTie.lean); close each card by the builder's one call (the guide's Derived/Test/ToyasCard.lean, 'card_holds'). Laid BY PROGRAM, IN A SANDBOX (cutbox-door.mjs). By AI agents, Wed Nov 11 2026. No macro, syntax, notation, axiom, sorry.
-/
import Derived.Test.YtebofkkfbkodiaaGreatDoorRows
import GoSem.ClaimSeven
namespace Go.Proofs.YtebofkkfbkodiaaGreatDoor
namespace Rows

/-- THE TIED CARD OF 'rilltop.TopOnce'. -/
def topOnceCard : Claim7 := { stood := { row := topOnceRow, standIns := [], harness := (true, "9b4ec685673c596672b4e97e05dd45f4f4b1a526e77f0f169e844817320f90bc"), looks := true }, kinds := [], alts := [], laidByText := true, laidKinds := [.data, .data, .data, .data, .sentinel, .sentinel, .data, .data, .pinned], laidTests := true, laidLooks := .later }
def TopOnceCardSaid : Prop := Claim7.holds Tryz.pinned (.plain (OpenSpec.ofChange topOnceSpec)) topOnceCard

/-- THE TIED CARD OF 'rilltop.TopPulls'. -/
def topPullsCard : Claim7 := { stood := { row := topPullsRow, standIns := [], harness := (true, "9b4ec685673c596672b4e97e05dd45f4f4b1a526e77f0f169e844817320f90bc"), looks := true }, kinds := [], alts := [], laidByText := true, laidKinds := [.data, .data, .data, .data, .sentinel, .sentinel, .data, .data, .pinned], laidTests := true, laidLooks := .later }
def TopPullsCardSaid : Prop := Claim7.holds Tryz.pinned (.plain (OpenSpec.ofChange topPullsSpec)) topPullsCard

/-- THE TIED CARD OF 'rilltop.TopAges'. -/
def topAgesCard : Claim7 := { stood := { row := topAgesRow, standIns := [], harness := (true, "9b4ec685673c596672b4e97e05dd45f4f4b1a526e77f0f169e844817320f90bc"), looks := true }, kinds := [], alts := [], laidByText := true, laidKinds := [.data, .data, .data, .data, .sentinel, .sentinel, .data, .data, .pinned], laidTests := true, laidLooks := .later }
def TopAgesCardSaid : Prop := Claim7.holds Tryz.pinned (.plain (OpenSpec.ofChange topAgesSpec)) topAgesCard

/-- THE SECOND FORM's CARD OF 'rilltop.TopOnce'. -/
def topOnceUptoCard : Claim7 := { stood := { row := topOnceUptoRow, standIns := [], harness := (true, "9b4ec685673c596672b4e97e05dd45f4f4b1a526e77f0f169e844817320f90bc"), looks := true }, kinds := [], alts := [], laidByText := true, laidKinds := [.data, .data, .data, .data, .sentinel, .sentinel, .data, .data, .pinned], laidTests := true, laidLooks := .later }
def TopOnceUptoCardSaid : Prop := Claim7.holds Tryz.pinned (.plain (OpenSpec.upto topOnceSpec)) topOnceUptoCard

/-- THE SECOND FORM's CARD OF 'rilltop.TopPulls'. -/
def topPullsUptoCard : Claim7 := { stood := { row := topPullsUptoRow, standIns := [], harness := (true, "9b4ec685673c596672b4e97e05dd45f4f4b1a526e77f0f169e844817320f90bc"), looks := true }, kinds := [], alts := [], laidByText := true, laidKinds := [.data, .data, .data, .data, .sentinel, .sentinel, .data, .data, .pinned], laidTests := true, laidLooks := .later }
def TopPullsUptoCardSaid : Prop := Claim7.holds Tryz.pinned (.plain (OpenSpec.upto topPullsSpec)) topPullsUptoCard

/-- THE SECOND FORM's CARD OF 'rilltop.TopAges'. -/
def topAgesUptoCard : Claim7 := { stood := { row := topAgesUptoRow, standIns := [], harness := (true, "9b4ec685673c596672b4e97e05dd45f4f4b1a526e77f0f169e844817320f90bc"), looks := true }, kinds := [], alts := [], laidByText := true, laidKinds := [.data, .data, .data, .data, .sentinel, .sentinel, .data, .data, .pinned], laidTests := true, laidLooks := .later }
def TopAgesUptoCardSaid : Prop := Claim7.holds Tryz.pinned (.plain (OpenSpec.upto topAgesSpec)) topAgesUptoCard
end Rows
end Go.Proofs.YtebofkkfbkodiaaGreatDoor
