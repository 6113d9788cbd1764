/-
  The law StreamTwice: the card, out of the stream's contracts.
-/
import Derived.Test.YtohjipnkoiifhagGreatDoorRowTc
import Derived.Test.YtohjipnkoiifhagGreatDoorJointWalkMDWalkMF
import Derived.Test.YtohjipnkoiifhagGreatDoorJointWalkLEWalkL4WalkL5
import Derived.Test.YtohjipnkoiifhagGreatDoorOvV
import Derived.Test.YtohjipnkoiifhagGreatDoorJointWalkXTWalkXLWalkXW
import Derived.Test.YtohjipnkoiifhagGreatDoorOsW
import Derived.Test.YtohjipnkoiifhagGreatDoorLawStreamTwice
namespace Go.Proofs.YtohjipnkoiifhagGreatDoor.Dk.streamTwice
open Go.ChangeShapes Go.WideShapes Go.ChangeAt Go.RowKit Go.Deep

/-- what the listed tables say -/
theorem tables {W : World} (h : laidMetH Tryz.prog Rows.streamTwiceRow.laid W) : BndIs W := by
  have h' : laidMet Tryz.prog Rows.streamTwiceRow.laid W := h
  exact bnd_of h' (by simp [Rows.streamTwiceRow])
theorem und : Und Has SHas := ⟨more, lworks_of more lists, svault⟩
theorem card : Rows.StreamTwiceCardSaid := card_of (fun h hb => h.next hb) tables (rworks_of und news stells sworks) svault.sees
end Go.Proofs.YtohjipnkoiifhagGreatDoor.Dk.streamTwice
