/-
  The program's disk does what is asked of a disk, Cut and List too.
-/
import Derived.Test.YtkkkcjfgnkkkbabWorksE
import Derived.Test.YtkkkcjfgnkkkbabWalkM9
import Derived.Test.YtkkkcjfgnkkkbabWalkMC
import Derived.Test.YtkkkcjfgnkkkbabWalkM4
namespace Go.Proofs.Ytkkkcjfgnkkkbab.Dk
open Go.RowKit

theorem more : More Has := {
  works := works
  cut := fun n size hn h ht _ _ => dcut_any n size hn h ht
  list := fun h ht _ _ => dlist_any h ht }
end Go.Proofs.Ytkkkcjfgnkkkbab.Dk
