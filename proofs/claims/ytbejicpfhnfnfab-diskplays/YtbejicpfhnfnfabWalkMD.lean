/-
  The program's disk does what is asked of a disk, Cut and List too.
-/
import Derived.Test.YtbejicpfhnfnfabWorksE
import Derived.Test.YtbejicpfhnfnfabWalkM9
import Derived.Test.YtbejicpfhnfnfabWalkMC
import Derived.Test.YtbejicpfhnfnfabWalkM4
namespace Go.Proofs.Ytbejicpfhnfnfab.Dk
open Go.RowKit

theorem more : More Has := {
  works := works
  cut := fun n size hn h ht _ _ => dcut_any n size hn h ht
  list := fun h ht _ _ => dlist_any h ht }
end Go.Proofs.Ytbejicpfhnfnfab.Dk
