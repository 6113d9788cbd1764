/-
  The law StorePlays: the card, out of the store's contracts.
-/
import Derived.Test.YtcdajajekmichabGreatDoorJointWalkXWWalkXY
import Derived.Test.YtcdajajekmichabGreatDoorLawStorePlays
namespace Go.Proofs.YtcdajajekmichabGreatDoor.Dk.storePlays

theorem card : Rows.StorePlaysCardSaid := card_of sworks stells strys
end Go.Proofs.YtcdajajekmichabGreatDoor.Dk.storePlays
