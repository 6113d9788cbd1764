/-
  The law StreamStops: the card, out of the stream's contracts.
-/
import Derived.Test.YtohjipnkoiifhahGreatDoorRowTc
import Derived.Test.YtohjipnkoiifhahGreatDoorJointWalkMDWalkMF
import Derived.Test.YtohjipnkoiifhahGreatDoorJointWalkL3WalkL5Ov1Ov3Ov5Ov2Ov6
import Derived.Test.YtohjipnkoiifhahGreatDoorOvV
import Derived.Test.YtohjipnkoiifhahGreatDoorJointWalkXTWalkXLWalkXW
import Derived.Test.YtohjipnkoiifhahGreatDoorOsW
import Derived.Test.YtohjipnkoiifhahGreatDoorLawStreamStops
namespace Go.Proofs.YtohjipnkoiifhahGreatDoor.Dk.streamStops
open Go.ChangeShapes Go.WideShapes Go.ChangeAt Go.RowKit Go.Deep

/-- what the listed tables say -/
theorem tables {W : World} (h : laidMetH Tryz.prog Rows.streamStopsRow.laid W) : BndIs W := by
  have h' : laidMet Tryz.prog Rows.streamStopsRow.laid W := h
  exact bnd_of h' (by simp [Rows.streamStopsRow])
theorem und : Und Has SHas := ⟨more, lworks_of more lists, svault⟩
theorem card : Rows.StreamStopsCardSaid := card_of (fun h hb => h.next hb) tables (rworks_of und news stells sworks) (rstops_of und) svault.sees
end Go.Proofs.YtohjipnkoiifhahGreatDoor.Dk.streamStops
