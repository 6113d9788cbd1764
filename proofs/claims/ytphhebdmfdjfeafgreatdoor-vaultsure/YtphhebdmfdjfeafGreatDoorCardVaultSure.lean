/-
  The law VaultSure: the card, out of the vault's contracts.
-/
import Derived.Test.YtphhebdmfdjfeafGreatDoorJointWalkM4WalkMDWalkMF
import Derived.Test.YtphhebdmfdjfeafGreatDoorJointWalkL4WalkL5
import Derived.Test.YtphhebdmfdjfeafGreatDoorJointWalkVVWalkVU
import Derived.Test.YtphhebdmfdjfeafGreatDoorLawVaultSure
namespace Go.Proofs.YtphhebdmfdjfeafGreatDoor.Dk.vaultSure

theorem card : Rows.VaultSureCardSaid := card_of (vworks_of more news (lworks_of more lists) svault) (vstops_of more (lworks_of more lists) svault) svault.sees
end Go.Proofs.YtphhebdmfdjfeafGreatDoor.Dk.vaultSure
