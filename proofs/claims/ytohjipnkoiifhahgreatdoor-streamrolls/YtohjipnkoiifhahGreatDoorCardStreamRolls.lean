/-
  The law StreamRolls: the card, out of the stream's contracts.
-/
import Derived.Test.YtohjipnkoiifhahGreatDoorRowTc
import Derived.Test.YtohjipnkoiifhahGreatDoorJointWalkMDWalkMF
import Derived.Test.YtohjipnkoiifhahGreatDoorJointWalkL3WalkL5Ov1Ov3Ov5Ov2Ov6
import Derived.Test.YtohjipnkoiifhahGreatDoorOvV
import Derived.Test.YtohjipnkoiifhahGreatDoorJointWalkXTWalkXLWalkXW
import Derived.Test.YtohjipnkoiifhahGreatDoorOsW
import Derived.Test.YtohjipnkoiifhahGreatDoorLawStreamRolls
namespace Go.Proofs.YtohjipnkoiifhahGreatDoor.Dk.streamRolls
open Go.ChangeShapes Go.WideShapes Go.ChangeAt Go.RowKit Go.Deep

/-- what the listed tables say -/
theorem tables {W : World} (h : laidMetH Tryz.prog Rows.streamRollsRow.laid W) : BndIs W := by
  have h' : laidMet Tryz.prog Rows.streamRollsRow.laid W := h
  exact bnd_of h' (by simp [Rows.streamRollsRow])
theorem und : Und Has SHas := ⟨more, lworks_of more lists, svault⟩
theorem card : Rows.StreamRollsCardSaid := card_of (fun h hb => h.next hb) tables (rworks_of und news stells sworks) svault.sees
end Go.Proofs.YtohjipnkoiifhahGreatDoor.Dk.streamRolls
