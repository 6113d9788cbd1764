/-
  For every list of texts (of more than 20, or with one of more than 1000 bytes, the law speaks no further), every choice of which are synced and every number of bytes to keep: behind a stop what is sure is there, and of what isn't a front of the asked size; a second stop takes nothing: the law DiskSure returns true. No condition.
-/
import Derived.Test.YtbejicpfhnfnfafLawDiskSure
import Derived.Test.YtbejicpfhnfnfafWalkM9
namespace Go.Proofs.Ytbejicpfhnfnfaf.Dk.diskSure
theorem said : Rows.DiskSureSaid := said_of works news
end Go.Proofs.Ytbejicpfhnfnfaf.Dk.diskSure
