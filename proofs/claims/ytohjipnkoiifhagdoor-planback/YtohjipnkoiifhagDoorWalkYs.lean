/-
  The landed package plan checks and prints as is asked of it.
-/
import Derived.Test.YtohjipnkoiifhagDoorWorksPl
import Derived.Test.YtohjipnkoiifhagDoorWalkY6
import Derived.Test.YtohjipnkoiifhagDoorPapPs
namespace Go.Proofs.YtohjipnkoiifhagDoor
open Go.RowKit

theorem small8 {p : Pn.Pln} (h : SmallP p) : ∃ x0 x1 x2 x3 x4 x5 x6 x7, p = ⟨p.n, p.f, [x0, x1, x2, x3, x4, x5, x6, x7]⟩ := by
  obtain ⟨n, f, v⟩ := p
  obtain ⟨x0, x1, x2, x3, x4, x5, x6, x7, rfl⟩ := eight h.nums
  exact ⟨x0, x1, x2, x3, x4, x5, x6, x7, rfl⟩
theorem psays {G : World → Prop} (hG : ∀ {w : World}, G w → PG w) : PSays G where
  check := fun p a c w hs hsl hc hg => by
    obtain ⟨x0, x1, x2, x3, x4, x5, x6, x7, e⟩ := small8 hs
    rw [e]
    exact plcheck_any p.n a p.f c x0 x1 x2 x3 x4 x5 x6 x7 w hs.name hsl hs.each hs.many hc (hG hg).1
  print := fun p a c w hs hsl hc hg => by
    obtain ⟨x0, x1, x2, x3, x4, x5, x6, x7, e⟩ := small8 hs
    rw [e]
    exact print_any p.n a p.f c x0 x1 x2 x3 x4 x5 x6 x7 w hs.name hsl hs.each hs.many hc (hG hg)
end Go.Proofs.YtohjipnkoiifhagDoor
