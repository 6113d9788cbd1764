/-
  The law VaultPlays: the card, out of the vault's contracts and the store's.
-/
import Derived.Test.YtphhebdmfdjfeabGreatDoorJointWalkM4WalkMDWalkMF
import Derived.Test.YtphhebdmfdjfeabGreatDoorJointWalkLEWalkL4WalkL5
import Derived.Test.YtphhebdmfdjfeabGreatDoorJointWalkVVWalkVU
import Derived.Test.YtphhebdmfdjfeabGreatDoorJointWalkXWWalkXY
import Derived.Test.YtphhebdmfdjfeabGreatDoorLawVaultPlays
namespace Go.Proofs.YtphhebdmfdjfeabGreatDoor.Dk.vaultPlays

theorem card : Rows.VaultPlaysCardSaid := card_of (vworks_of more news (lworks_of more lists) svault) (vstops_of more (lworks_of more lists) svault) sworks stells strys
end Go.Proofs.YtphhebdmfdjfeabGreatDoor.Dk.vaultPlays
