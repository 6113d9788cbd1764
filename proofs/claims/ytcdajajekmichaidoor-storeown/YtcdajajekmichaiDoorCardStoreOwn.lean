/-
  The law StoreOwn: the card, out of the store's contracts.
-/
import Derived.Test.YtcdajajekmichaiDoorWalkXB
import Derived.Test.YtcdajajekmichaiDoorLawStoreOwn
namespace Go.Proofs.YtcdajajekmichaiDoor.Dk.storeOwn

theorem card : Rows.StoreOwnCardSaid := card_of sbase stellsB
end Go.Proofs.YtcdajajekmichaiDoor.Dk.storeOwn
