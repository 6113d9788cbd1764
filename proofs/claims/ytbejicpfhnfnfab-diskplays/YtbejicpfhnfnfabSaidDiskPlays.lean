/-
  For every room, every list of calls (of more than 100 the law speaks no further) and every number of a file, a disk does what the document's own disk does: the law DiskPlays returns true. No condition.
-/
import Derived.Test.YtbejicpfhnfnfabLawDiskPlays
import Derived.Test.YtbejicpfhnfnfabWalkMD
namespace Go.Proofs.Ytbejicpfhnfnfab.Dk.diskPlays
theorem said : Rows.DiskPlaysSaid := said_of more news
end Go.Proofs.Ytbejicpfhnfnfab.Dk.diskPlays
