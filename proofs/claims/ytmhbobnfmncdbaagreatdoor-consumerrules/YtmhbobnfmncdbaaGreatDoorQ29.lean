/- The law ConsumerRules: the card, out of the contracts of the landed store and consumer. -/
import Derived.Test.YtmhbobnfmncdbaaGreatDoorQ24
import Derived.Test.YtmhbobnfmncdbaaGreatDoorQ27
import Derived.Test.YtmhbobnfmncdbaaGreatDoorQ28
namespace Go.Proofs.YtmhbobnfmncdbaaGreatDoor.Dk.consumerRules
theorem card:Rows.ConsumerRulesCardSaid:=Rz OD (Va OD SX) SX
end Go.Proofs.YtmhbobnfmncdbaaGreatDoor.Dk.consumerRules
