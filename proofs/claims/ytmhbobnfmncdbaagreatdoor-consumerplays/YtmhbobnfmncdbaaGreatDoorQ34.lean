/- The law ConsumerPlays: the card, out of the contracts of the landed store and consumer. -/
import Derived.Test.YtmhbobnfmncdbaaGreatDoorQ29
import Derived.Test.YtmhbobnfmncdbaaGreatDoorQ33
namespace Go.Proofs.YtmhbobnfmncdbaaGreatDoor.Dk.consumerPlays
theorem card:Rows.ConsumerPlaysCardSaid:=Wi RP (Yw RP aaw)
end Go.Proofs.YtmhbobnfmncdbaaGreatDoor.Dk.consumerPlays
