/-
  The program's disk does what is asked of a disk, Cut and List too.
  The program's disk does what a log asks of List, Read, Try and Remove.
-/
import Derived.Test.YtohjipnkoiifhagGreatDoorJointBase0PlainPapPaPapDRowZPapPdPapLPapMWorksDWorksEPlainNPlainRec
import Derived.Test.YtohjipnkoiifhagGreatDoorJointWalkM5WalkM6WalkM7WalkM9
import Derived.Test.YtohjipnkoiifhagGreatDoorJointRowMWalkM1WalkM2WalkMC
import Derived.Test.YtohjipnkoiifhagGreatDoorWalkM4
import Derived.Test.YtohjipnkoiifhagGreatDoorJointPlainSPlainR2PapGRowGPapNWorksGPapHWorksFRowBWalkC6RowY
namespace Go.Proofs.YtohjipnkoiifhagGreatDoor.Dk
open Go.RowKit

theorem more : More Has := {
  works := works
  cut := fun n size hn h ht _ _ => dcut_any n size hn h ht
  list := fun h ht _ _ => dlist_any h ht }
end Go.Proofs.YtohjipnkoiifhagGreatDoor.Dk

namespace Go.Proofs.YtohjipnkoiifhagGreatDoor.Dk
open Go.RowKit

theorem lists : Lists Has := {
  list := fun h ht _ _ => dlist_new h ht
  reads := fun n hn h _ _ _ => (dread_any n hn h).mono (fun e w' ⟨h1, h2⟩ => ⟨h1, by subst h2; exact Below.refl _ _⟩)
  tries := fun n s h ht hm hs _ => dtry_any n s h ht hm hs
  drops := fun n hn h ht _ _ => dremove_left n hn h ht }
end Go.Proofs.YtohjipnkoiifhagGreatDoor.Dk
