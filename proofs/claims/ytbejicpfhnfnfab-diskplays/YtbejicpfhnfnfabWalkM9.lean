/-
  The program's disk does what is asked of a disk.
-/
import Derived.Test.YtbejicpfhnfnfabWalkM8
namespace Go.Proofs.Ytbejicpfhnfnfab.Dk
open Go.RowKit

theorem works : Works Has := {
  own := fun h => h.own
  chg := fun h hc hA => h.chg hc hA
  append := fun n s h ht hm hs hB => dappend_any n s h ht hm hs hB
  sync := fun n hn h ht _ _ => dsync_any n hn h ht
  remove := fun n hn h ht _ _ => dremove_any n hn h ht
  crash := fun keep h ht hm _ => dcrash_any keep h ht hm
  read := fun n hn h _ _ _ => (dread_any n hn h).mono (fun e w' ⟨h1, h2⟩ => ⟨h1, by subst h2; exact did_same h⟩)
  used := fun h ht hm _ => (dused_any h ht hm).mono (fun e w' ⟨h1, h2⟩ => ⟨h1, did_new h h2⟩) }
end Go.Proofs.Ytbejicpfhnfnfab.Dk
