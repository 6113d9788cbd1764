/-
  The law StoreSums: the card, out of the store's contracts.
-/
import Derived.Test.YtcdajajekmichafDoorWalkXW
import Derived.Test.YtcdajajekmichafDoorLawStoreSums
namespace Go.Proofs.YtcdajajekmichafDoor.Dk.storeSums

theorem card : Rows.StoreSumsCardSaid := card_of sworks stells
end Go.Proofs.YtcdajajekmichafDoor.Dk.storeSums
