/-
  Texts that lie in a row of one's own; a cell that is written elsewhere. No walk.
  Texts in a row of one's own: what is kept, what is appended. No walk.
-/
import Derived.Test.YtcbfmjjodfnacaaDoorJointRowPlRowPs
import Derived.Test.YtcbfmjjodfnacaaDoorPapD
namespace Go.Proofs.YtcbfmjjodfnacaaDoor
open Go.RowKit

theorem own_txts {w : World} {B g cap : Nat} {l : List ByteArray} (h : Own w B g cap l) : SlS w (some ⟨g, 0, none⟩) l := fun k hk => by
  have hr := World.ownsRow.cellAt h k (by simpa using hk)
  refine ⟨g, 0, rfl, (own_base h).2, ?_⟩
  rw [Nat.zero_add, hr, List.getElem?_map]
  unfold tk
  rw [List.getElem?_eq_getElem hk]
  rfl

theorem set_far {W : World} {b k j i : Nat} {x : Value} (h : k ≠ b) : (W.setCell ⟨b, i, none⟩ x).cell? ⟨k, j, none⟩ = W.cell? ⟨k, j, none⟩ := World.cell?_setCell_other _ _ _ _ (by intro e; injection e; omega)
theorem SlS.far {W : World} {a : Option Addr} {l : List ByteArray} {b i : Nat} {x : Value} (h : SlS W a l) (hn : ∀ z, a = some z → z.block ≠ b) : SlS (W.setCell ⟨b, i, none⟩ x) a l := fun k hk => by
  obtain ⟨b', o, h1, h2, h3⟩ := h k hk
  exact ⟨b', o, h1, by simpa [World.setCell] using h2, by rw [set_far (hn _ h1)]; exact h3⟩
end Go.Proofs.YtcbfmjjodfnacaaDoor

namespace Go.Proofs.YtcbfmjjodfnacaaDoor
open Go.RowKit

/-- texts in a row of one's own -/
def Txts (w : World) (B : Nat) (v : Value) (l : List ByteArray) : Prop := w.ownsRow B 9 1 v l.length (l.map Value.string)
theorem Txts.lit (w : World) (x y : ByteArray) : Txts (w.alloc (.cells #[.string x, .string y] 9)) w.heap.size (.slice (some ⟨w.heap.size, 0, none⟩) 2 2) [x, y] := World.ownsRow_lit (base := w.heap.size) (e := 9) (size := 1) w #[.string x, .string y] 2 (Nat.le_refl _) (by unfold maxLen; omega) (by simp)
theorem Txts.below {w w' : World} {B : Nat} {v : Value} {l : List ByteArray} (h : Txts w B v l) (hb : Below w.heap.size w w') : Txts w' B v l := by
  refine ⟨h.1, ?_⟩
  rcases h.2 with q | ⟨g, cap, cur, h1, h2, h3, r⟩
  · exact .inl q
  · refine .inr ⟨g, cap, cur, h1, h2, ?_, r⟩
    rw [hb.block g (World.ownsRow.lt h g (by rw [h1]; rfl)).2]
    exact h3
theorem txt_more {w wr : World} {B : Nat} {v : Value} {l : List ByteArray} (h : Txts wr B v l) (hb : Below B w wr) (t : ByteArray) (hl : l.length ≤ 200000) (hB : B ≤ wr.heap.size) :
    ∃ v8 w8, (Builtin.append_ #[40, 40] 40 #[v, .slice (some ⟨wr.heap.size, 0, none⟩) 1 1]).run Tryd.prog (wr.alloc (.cells #[.string t] 9)) = .ok v8 w8 ∧ Txts w8 B v8 (l ++ [t]) ∧ Below B w w8 := by
  have hb7 : Below wr.heap.size wr (wr.alloc (.cells #[.string t] 9)) := (Below.refl _ _).alloc (Nat.le_refl _) _
  have h7 := h.below hb7
  obtain ⟨i0, hi, hz0, hz1, hz2⟩ := info_parts info9
  obtain ⟨v', w', hr, h2, h3, h4⟩ := run_append_own (P := Tryd.prog) (wr.alloc (.cells #[.string t] 9)) B 40 40 9 i0 (.string ByteArray.empty) 1 16 Tryd.underlying40 hi hz0 hz1 hz2 rfl (by omega) v l.length (l.map Value.string) h7 ⟨wr.heap.size, 0, none⟩ 1 1 [.string t] rfl (one_new _ _ _) (one_cell _) (by unfold maxLen; omega) (by omega) (Nat.le_trans hB hb7.size)
  refine ⟨v', w', hr, ?_, ?_⟩
  · unfold Txts
    rw [List.length_append, List.map_append]
    exact h2
  · refine (hb.trans (hb7.mono hB)).grown h3 (Nat.le_trans hB hb7.size) ?_
    intro j hj
    exact (World.ownsRow.lt h j hj).1
theorem Txts.sl {w : World} {B : Nat} {v : Value} {l : List ByteArray} (h : Txts w B v l) (h0 : 0 < l.length) : ∃ g cap, v = .slice (some ⟨g, 0, none⟩) l.length cap ∧ l.length ≤ cap ∧ SlS w (some ⟨g, 0, none⟩) l := by
  obtain ⟨n, hn⟩ : ∃ n, l.length = n + 1 := ⟨l.length - 1, by omega⟩
  have h' := h
  unfold Txts at h'
  rw [hn] at h'
  obtain ⟨g, cap, rfl⟩ := own_some h'
  refine ⟨g, cap, by rw [hn], ?_, fun k hk => ⟨g, 0, rfl, (World.ownsRow.lt h' g rfl).2, ?_⟩⟩
  · rcases h'.2 with ⟨e, _⟩ | ⟨g', cap', cur, e, _, _, hn', _⟩
    · simp at e
    · simp only [Value.slice.injEq] at e
      omega
  · rw [Nat.zero_add, World.ownsRow.cellAt h' k (by omega), List.getElem?_map, List.getElem?_eq_getElem hk]
    unfold tk
    rw [List.getElem?_eq_getElem hk]
    rfl
theorem Txts.chg {A : Nat → Prop} {w w' : World} {B : Nat} {v : Value} {l : List ByteArray} (h : Txts w B v l) (hc : Dk.Chg A w w') (hn : ∀ g, B ≤ g → ¬ A g) : Txts w' B v l := by
  refine ⟨h.1, ?_⟩
  rcases h.2 with q | ⟨g, cap, cur, h1, h2, h3, r⟩
  · exact .inl q
  · refine .inr ⟨g, cap, cur, h1, h2, ?_, r⟩
    have hg := World.ownsRow.lt h g (by rw [h1]; rfl)
    rw [hc.block g hg.2 (hn g hg.1)]
    exact h3
/-- no text yet -/
theorem Txts.nil (w : World) (B : Nat) : Txts w B (.slice none 0 0) [] := ⟨by simp, .inl ⟨rfl, rfl⟩⟩
theorem Txts.shape {w : World} {B : Nat} {v : Value} {l : List ByteArray} (h : Txts w B v l) : ∃ a c, v = .slice a l.length c ∧ l.length ≤ c ∧ SlS w a l := by
  by_cases h0 : 0 < l.length
  · obtain ⟨g, cap, e, hc, hs⟩ := h.sl h0
    exact ⟨_, cap, e, hc, hs⟩
  · have hl : l = [] := List.length_eq_zero_iff.1 (by omega)
    subst hl
    rcases h.2 with ⟨e, _⟩ | ⟨g, cap, cur, h1, h2, h3, r⟩
    · exact ⟨none, 0, e, Nat.le_refl _, fun k hk => by simp at hk⟩
    · exact ⟨_, cap, h1, by simp, fun k hk => by simp at hk⟩
end Go.Proofs.YtcbfmjjodfnacaaDoor
