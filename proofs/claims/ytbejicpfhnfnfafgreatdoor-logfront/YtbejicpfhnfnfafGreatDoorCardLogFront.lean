/-
  The law LogFront: the card, out of the disk's contracts and the log's.
-/
import Derived.Test.YtbejicpfhnfnfafGreatDoorWalkMF
import Derived.Test.YtbejicpfhnfnfafGreatDoorJointWalkL4WalkL5
import Derived.Test.YtbejicpfhnfnfafGreatDoorLawLogFront
namespace Go.Proofs.YtbejicpfhnfnfafGreatDoor.Dk.logFront

theorem card : Rows.LogFrontCardSaid := card_of works news (lworks_of more lists)
end Go.Proofs.YtbejicpfhnfnfafGreatDoor.Dk.logFront
