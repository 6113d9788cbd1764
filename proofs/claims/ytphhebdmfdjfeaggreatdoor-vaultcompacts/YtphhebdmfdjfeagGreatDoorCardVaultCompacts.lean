/-
  The law VaultCompacts: the card, out of the vault's contracts.
-/
import Derived.Test.YtphhebdmfdjfeagGreatDoorJointWalkM4WalkMDWalkMF
import Derived.Test.YtphhebdmfdjfeagGreatDoorJointWalkL4WalkL5
import Derived.Test.YtphhebdmfdjfeagGreatDoorWalkVV
import Derived.Test.YtphhebdmfdjfeagGreatDoorLawVaultCompacts
namespace Go.Proofs.YtphhebdmfdjfeagGreatDoor.Dk.vaultCompacts

theorem card : Rows.VaultCompactsCardSaid := card_of (vworks_of more news (lworks_of more lists) svault) svault.sees
end Go.Proofs.YtphhebdmfdjfeagGreatDoor.Dk.vaultCompacts
