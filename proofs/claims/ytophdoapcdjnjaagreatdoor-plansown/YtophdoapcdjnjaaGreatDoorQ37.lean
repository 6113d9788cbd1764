/- The law PlansOwn: the card, out of the contracts of the landed store and consumer. -/
import Derived.Test.YtophdoapcdjnjaaGreatDoorQ32
import Derived.Test.YtophdoapcdjnjaaGreatDoorQ34
import Derived.Test.YtophdoapcdjnjaaGreatDoorQ36
namespace Go.Proofs.YtophdoapcdjnjaaGreatDoor.Dk.plansOwn
open Go.Proofs.Tryz
theorem tables {W:World}(h:laidMetH prog Rows.plansOwnRow.laid W):dZ W:=by
 have h':laidMet prog Rows.plansOwnRow.laid W:=h;exact Wx h' (by simp[Rows.plansOwnRow])
theorem card:Rows.PlansOwnCardSaid:=UZ Rf (WO Rf YA) tables
end Go.Proofs.YtophdoapcdjnjaaGreatDoor.Dk.plansOwn
