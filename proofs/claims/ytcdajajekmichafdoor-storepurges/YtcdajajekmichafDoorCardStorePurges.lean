/-
  The law StorePurges: the card, out of the store's contracts.
-/
import Derived.Test.YtcdajajekmichafDoorWalkXW
import Derived.Test.YtcdajajekmichafDoorLawStorePurges
namespace Go.Proofs.YtcdajajekmichafDoor.Dk.storePurges

theorem card : Rows.StorePurgesCardSaid := card_of sworks
end Go.Proofs.YtcdajajekmichafDoor.Dk.storePurges
