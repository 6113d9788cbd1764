/-
  The program's disk does what a log asks of List, Read, Try and Remove.
-/
import Derived.Test.YtbejicpfhnfnfafGreatDoorJointPapNWorksGPapHPapFWorksF
import Derived.Test.YtbejicpfhnfnfafGreatDoorJointWalkM4WalkMD
namespace Go.Proofs.YtbejicpfhnfnfafGreatDoor.Dk
open Go.RowKit

theorem lists : Lists Has := {
  list := fun h ht _ _ => dlist_new h ht
  reads := fun n hn h _ _ _ => (dread_any n hn h).mono (fun e w' ⟨h1, h2⟩ => ⟨h1, by subst h2; exact Below.refl _ _⟩)
  tries := fun n s h ht hm hs _ => dtry_any n s h ht hm hs
  drops := fun n hn h ht _ _ => dremove_left n hn h ht }
end Go.Proofs.YtbejicpfhnfnfafGreatDoor.Dk
