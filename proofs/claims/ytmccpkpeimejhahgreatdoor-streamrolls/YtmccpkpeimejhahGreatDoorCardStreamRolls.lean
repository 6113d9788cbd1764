/-
  The law StreamRolls: the card, out of the stream's contracts.
-/
import Derived.Test.YtmccpkpeimejhahGreatDoorRowTc
import Derived.Test.YtmccpkpeimejhahGreatDoorJointWalkMDWalkMF
import Derived.Test.YtmccpkpeimejhahGreatDoorJointWalkL3WalkL5Ov1Ov3Ov5Ov2Ov6
import Derived.Test.YtmccpkpeimejhahGreatDoorOvV
import Derived.Test.YtmccpkpeimejhahGreatDoorJointWalkXTWalkXLWalkXW
import Derived.Test.YtmccpkpeimejhahGreatDoorOsW
import Derived.Test.YtmccpkpeimejhahGreatDoorLawStreamRolls
namespace Go.Proofs.YtmccpkpeimejhahGreatDoor.Dk.streamRolls
open Go.ChangeShapes Go.WideShapes Go.ChangeAt Go.RowKit Go.Deep

/-- what the listed tables say -/
theorem tables {W : World} (h : laidMetH Tryz.prog Rows.streamRollsRow.laid W) : BndIs W := by
  have h' : laidMet Tryz.prog Rows.streamRollsRow.laid W := h
  exact bnd_of h' (by simp [Rows.streamRollsRow])
theorem und : Und Has SHas := ⟨more, lworks_of more lists, svault⟩
theorem card : Rows.StreamRollsCardSaid := card_of (fun h hb => h.next hb) tables (rworks_of und news stells sworks) svault.sees
end Go.Proofs.YtmccpkpeimejhahGreatDoor.Dk.streamRolls
