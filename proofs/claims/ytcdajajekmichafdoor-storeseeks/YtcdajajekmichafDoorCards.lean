/-
  DERIVED. GIVEN WITH THE SEED: THE CARDS: each row of YtcdajajekmichafDoorRows.lean that lists a variable, with what it lists TIED to the program's text (the seventh form; the later family's looks); each row that meets fmt, with fmt's text TOLD by the authors' own Lean function (tested against real Go, not proved from fmt's source: count such statements apart). THE CARD IS WHAT COUNTS. Prove the row's statement (the work); the ties are given (YtcdajajekmichafDoorTie.lean); close each card by the builder's one call (the guide's Derived/Test/ToyasCard.lean, 'card_holds'). Laid BY PROGRAM, IN A SANDBOX (cutbox-door.mjs). By AI agents, Wed Nov 11 2026. No macro, syntax, notation, axiom, sorry.
-/
import Derived.Test.YtcdajajekmichafDoorRows
import GoSem.ClaimSeven
namespace Go.Proofs.YtcdajajekmichafDoor
namespace Rows

/-- THE TIED CARD OF 'rillkeep.StoreSums'. -/
def storeSumsCard : Claim7 := { stood := { row := storeSumsRow, standIns := [], harness := (true, "c426a6de97bf94056b1f166b689db5a92207165b5ecf1129189a8ecf0809b859"), looks := false }, kinds := [], alts := [], laidByText := true, laidKinds := [.data, .pinned], laidTests := true, laidLooks := .later }
def StoreSumsCardSaid : Prop := Claim7.holds Tryd.pinned (.plain (OpenSpec.ofChange storeSumsSpec)) storeSumsCard

/-- THE TIED CARD OF 'rillkeep.StoreSeeks'. -/
def storeSeeksCard : Claim7 := { stood := { row := storeSeeksRow, standIns := [], harness := (true, "c426a6de97bf94056b1f166b689db5a92207165b5ecf1129189a8ecf0809b859"), looks := false }, kinds := [], alts := [], laidByText := true, laidKinds := [.data, .pinned], laidTests := true, laidLooks := .later }
def StoreSeeksCardSaid : Prop := Claim7.holds Tryd.pinned (.plain (OpenSpec.ofChange storeSeeksSpec)) storeSeeksCard

/-- THE TIED CARD OF 'rillkeep.StorePurges'. -/
def storePurgesCard : Claim7 := { stood := { row := storePurgesRow, standIns := [], harness := (true, "c426a6de97bf94056b1f166b689db5a92207165b5ecf1129189a8ecf0809b859"), looks := false }, kinds := [], alts := [], laidByText := true, laidKinds := [.data, .pinned], laidTests := true, laidLooks := .later }
def StorePurgesCardSaid : Prop := Claim7.holds Tryd.pinned (.plain (OpenSpec.ofChange storePurgesSpec)) storePurgesCard

/-- THE SECOND FORM's CARD OF 'rillkeep.StoreSums'. -/
def storeSumsUptoCard : Claim7 := { stood := { row := storeSumsUptoRow, standIns := [], harness := (true, "c426a6de97bf94056b1f166b689db5a92207165b5ecf1129189a8ecf0809b859"), looks := false }, kinds := [], alts := [], laidByText := true, laidKinds := [.data, .pinned], laidTests := true, laidLooks := .later }
def StoreSumsUptoCardSaid : Prop := Claim7.holds Tryd.pinned (.plain (OpenSpec.upto storeSumsSpec)) storeSumsUptoCard

/-- THE SECOND FORM's CARD OF 'rillkeep.StoreSeeks'. -/
def storeSeeksUptoCard : Claim7 := { stood := { row := storeSeeksUptoRow, standIns := [], harness := (true, "c426a6de97bf94056b1f166b689db5a92207165b5ecf1129189a8ecf0809b859"), looks := false }, kinds := [], alts := [], laidByText := true, laidKinds := [.data, .pinned], laidTests := true, laidLooks := .later }
def StoreSeeksUptoCardSaid : Prop := Claim7.holds Tryd.pinned (.plain (OpenSpec.upto storeSeeksSpec)) storeSeeksUptoCard

/-- THE SECOND FORM's CARD OF 'rillkeep.StorePurges'. -/
def storePurgesUptoCard : Claim7 := { stood := { row := storePurgesUptoRow, standIns := [], harness := (true, "c426a6de97bf94056b1f166b689db5a92207165b5ecf1129189a8ecf0809b859"), looks := false }, kinds := [], alts := [], laidByText := true, laidKinds := [.data, .pinned], laidTests := true, laidLooks := .later }
def StorePurgesUptoCardSaid : Prop := Claim7.holds Tryd.pinned (.plain (OpenSpec.upto storePurgesSpec)) storePurgesUptoCard
end Rows
end Go.Proofs.YtcdajajekmichafDoor
