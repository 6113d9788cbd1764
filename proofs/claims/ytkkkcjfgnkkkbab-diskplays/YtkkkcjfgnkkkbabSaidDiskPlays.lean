/-
  For every room, every list of calls (of more than 100 the law speaks no further) and every number of a file, a disk does what the document's own disk does: the law DiskPlays returns true. No condition.
-/
import Derived.Test.YtkkkcjfgnkkkbabLawDiskPlays
import Derived.Test.YtkkkcjfgnkkkbabWalkMD
namespace Go.Proofs.Ytkkkcjfgnkkkbab.Dk.diskPlays
theorem said : Rows.DiskPlaysSaid := said_of more news
end Go.Proofs.Ytkkkcjfgnkkkbab.Dk.diskPlays
