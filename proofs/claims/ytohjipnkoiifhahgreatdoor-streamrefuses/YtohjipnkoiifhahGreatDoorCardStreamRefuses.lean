/-
  The law StreamRefuses: the card, out of the stream's contracts.
-/
import Derived.Test.YtohjipnkoiifhahGreatDoorRowTc
import Derived.Test.YtohjipnkoiifhahGreatDoorJointWalkMDWalkMF
import Derived.Test.YtohjipnkoiifhahGreatDoorJointWalkL3WalkL5Ov1Ov3Ov5Ov2Ov6
import Derived.Test.YtohjipnkoiifhahGreatDoorOvV
import Derived.Test.YtohjipnkoiifhahGreatDoorJointWalkXTWalkXLWalkXW
import Derived.Test.YtohjipnkoiifhahGreatDoorOsW
import Derived.Test.YtohjipnkoiifhahGreatDoorLawStreamRefuses
namespace Go.Proofs.YtohjipnkoiifhahGreatDoor.Dk.streamRefuses
open Go.ChangeShapes Go.WideShapes Go.ChangeAt Go.RowKit Go.Deep

/-- what the listed tables say -/
theorem tables {W : World} (h : laidMetH Tryz.prog Rows.streamRefusesRow.laid W) : BndIs W := by
  have h' : laidMet Tryz.prog Rows.streamRefusesRow.laid W := h
  exact bnd_of h' (by simp [Rows.streamRefusesRow])
theorem und : Und Has SHas := ⟨more, lworks_of more lists, svault⟩
theorem card : Rows.StreamRefusesCardSaid := card_of (fun h hb => h.next hb) tables (rworks_of und news stells sworks) svault.sees
end Go.Proofs.YtohjipnkoiifhahGreatDoor.Dk.streamRefuses
