/-
  Texts that lie in a row of one's own; a cell that is written elsewhere. No walk.
-/
import Derived.Test.YtcbfmjjodfnacaaDoorRowPs
namespace Go.Proofs.YtcbfmjjodfnacaaDoor
open Go.RowKit

theorem own_txts {w : World} {B g cap : Nat} {l : List ByteArray} (h : Own w B g cap l) : SlS w (some ⟨g, 0, none⟩) l := fun k hk => by
  have hr := World.ownsRow.cellAt h k (by simpa using hk)
  refine ⟨g, 0, rfl, (own_base h).2, ?_⟩
  rw [Nat.zero_add, hr, List.getElem?_map]
  unfold tk
  rw [List.getElem?_eq_getElem hk]
  rfl

theorem set_far {W : World} {b k j i : Nat} {x : Value} (h : k ≠ b) : (W.setCell ⟨b, i, none⟩ x).cell? ⟨k, j, none⟩ = W.cell? ⟨k, j, none⟩ := World.cell?_setCell_other _ _ _ _ (by intro e; injection e; omega)
theorem SlS.far {W : World} {a : Option Addr} {l : List ByteArray} {b i : Nat} {x : Value} (h : SlS W a l) (hn : ∀ z, a = some z → z.block ≠ b) : SlS (W.setCell ⟨b, i, none⟩ x) a l := fun k hk => by
  obtain ⟨b', o, h1, h2, h3⟩ := h k hk
  exact ⟨b', o, h1, by simpa [World.setCell] using h2, by rw [set_far (hn _ h1)]; exact h3⟩
end Go.Proofs.YtcbfmjjodfnacaaDoor
