/- The law ConsumerDrains: the card, out of the contracts of the landed store and consumer. -/
import Derived.Test.YtmhbobnfmncdbaaGreatDoorQ38
import Derived.Test.YtmhbobnfmncdbaaGreatDoorQ39
import Derived.Test.YtmhbobnfmncdbaaGreatDoorQ41
namespace Go.Proofs.YtmhbobnfmncdbaaGreatDoor.Dk.consumerDrains
theorem card:Rows.ConsumerDrainsCardSaid:=Ee Ed (TG Ed XY)
end Go.Proofs.YtmhbobnfmncdbaaGreatDoor.Dk.consumerDrains
