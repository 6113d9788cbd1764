/-
  The law StoreSeeks: the card, out of the store's contracts.
-/
import Derived.Test.YtcdajajekmichafDoorWalkXW
import Derived.Test.YtcdajajekmichafDoorLawStoreSeeks
namespace Go.Proofs.YtcdajajekmichafDoor.Dk.storeSeeks

theorem card : Rows.StoreSeeksCardSaid := card_of sworks
end Go.Proofs.YtcdajajekmichafDoor.Dk.storeSeeks
