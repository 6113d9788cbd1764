/- The law ConsumerPlays: the card, out of the contracts of the landed store and consumer. -/
import Derived.Test.YtmhbobnfmncdbaaGreatDoorQ38
import Derived.Test.YtmhbobnfmncdbaaGreatDoorQ41
import Derived.Test.YtmhbobnfmncdbaaGreatDoorQ45
namespace Go.Proofs.YtmhbobnfmncdbaaGreatDoor.Dk.consumerPlays
theorem card:Rows.ConsumerPlaysCardSaid:=Ee Ed (TG Ed XY)
end Go.Proofs.YtmhbobnfmncdbaaGreatDoor.Dk.consumerPlays
