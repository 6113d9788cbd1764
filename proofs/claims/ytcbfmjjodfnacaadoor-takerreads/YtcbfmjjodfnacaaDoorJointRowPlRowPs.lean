/-
  A plan in memory: ten cells in a block. No walk.
  Texts that a slice shows; a plan that is looked at. No walk.
-/
import Derived.Test.YtcbfmjjodfnacaaDoorJointPapPbPapPc
import Derived.Test.YtcbfmjjodfnacaaDoorPapD
import Derived.Test.YtcbfmjjodfnacaaDoorJointPlain2Plain5PlainK
import Derived.Test.YtcbfmjjodfnacaaDoorWalkSplit
namespace Go.Proofs.YtcbfmjjodfnacaaDoor
open Go.RowKit

/-- a plan as a value: its name, the slice of its filters, its eight numbers -/
abbrev planV (n : ByteArray) (a : Option Addr) (l c : Nat) (x0 x1 x2 x3 x4 x5 x6 x7 : Int) : Value := .agg #[.string n, .slice a l c, .int .i64 x0, .int .i64 x1, .int .i64 x2, .int .i64 x3, .int .i64 x4, .int .i64 x5, .int .i64 x6, .int .i64 x7]
/-- the cells of a plan in block b -/
structure PB (w : World) (b : Nat) (n : ByteArray) (a : Option Addr) (l c : Nat) (x0 x1 x2 x3 x4 x5 x6 x7 : Int) : Prop where
  lt : b < w.heap.size
  c0 : w.cell? ⟨b, 0, none⟩ = some (.string n)
  c1 : w.cell? ⟨b, 1, none⟩ = some (.slice a l c)
  c2 : w.cell? ⟨b, 2, none⟩ = some (.int .i64 x0)
  c3 : w.cell? ⟨b, 3, none⟩ = some (.int .i64 x1)
  c4 : w.cell? ⟨b, 4, none⟩ = some (.int .i64 x2)
  c5 : w.cell? ⟨b, 5, none⟩ = some (.int .i64 x3)
  c6 : w.cell? ⟨b, 6, none⟩ = some (.int .i64 x4)
  c7 : w.cell? ⟨b, 7, none⟩ = some (.int .i64 x5)
  c8 : w.cell? ⟨b, 8, none⟩ = some (.int .i64 x6)
  c9 : w.cell? ⟨b, 9, none⟩ = some (.int .i64 x7)
section
variable {w w' : World} {b : Nat} {n : ByteArray} {a : Option Addr} {l c : Nat} {x0 x1 x2 x3 x4 x5 x6 x7 : Int}
theorem PB.next (h : PB w b n a l c x0 x1 x2 x3 x4 x5 x6 x7) (hb : Below w.heap.size w w') : PB w' b n a l c x0 x1 x2 x3 x4 x5 x6 x7 :=
  ⟨Nat.lt_of_lt_of_le h.lt hb.size, by rw [hb.cell (p := ⟨b, 0, none⟩) h.lt]; exact h.c0, by rw [hb.cell (p := ⟨b, 1, none⟩) h.lt]; exact h.c1, by rw [hb.cell (p := ⟨b, 2, none⟩) h.lt]; exact h.c2, by rw [hb.cell (p := ⟨b, 3, none⟩) h.lt]; exact h.c3, by rw [hb.cell (p := ⟨b, 4, none⟩) h.lt]; exact h.c4, by rw [hb.cell (p := ⟨b, 5, none⟩) h.lt]; exact h.c5, by rw [hb.cell (p := ⟨b, 6, none⟩) h.lt]; exact h.c6, by rw [hb.cell (p := ⟨b, 7, none⟩) h.lt]; exact h.c7, by rw [hb.cell (p := ⟨b, 8, none⟩) h.lt]; exact h.c8, by rw [hb.cell (p := ⟨b, 9, none⟩) h.lt]; exact h.c9⟩
theorem PB.new (w : World) (n : ByteArray) (a : Option Addr) (l c : Nat) (x0 x1 x2 x3 x4 x5 x6 x7 : Int) (T : TypeId) : PB (w.alloc (.cells #[.string n, .slice a l c, .int .i64 x0, .int .i64 x1, .int .i64 x2, .int .i64 x3, .int .i64 x4, .int .i64 x5, .int .i64 x6, .int .i64 x7] T)) w.heap.size n a l c x0 x1 x2 x3 x4 x5 x6 x7 :=
  ⟨by simp, by simp, by simp, by simp, by simp, by simp, by simp, by simp, by simp, by simp, by simp⟩
end
/-- eight numbers in a block of their own -/
theorem eight_row (w : World) (x0 x1 x2 x3 x4 x5 x6 x7 : Int) (T : TypeId) : Dk.SlI (w.alloc (.cells #[.int .i64 x0, .int .i64 x1, .int .i64 x2, .int .i64 x3, .int .i64 x4, .int .i64 x5, .int .i64 x6, .int .i64 x7] T)) (some ⟨w.heap.size, 0, none⟩) [x0, x1, x2, x3, x4, x5, x6, x7] := fun k hk => by
  refine ⟨w.heap.size, 0, rfl, by simp, ?_⟩
  rw [cell_of_row _ w.heap.size (0 + k) _ _ _ (heap_alloc_new w _), Nat.zero_add]
  have : k < 8 := by simpa using hk
  rcases k with _ | _ | _ | _ | _ | _ | _ | _ | k
  all_goals first
    | rfl
    | omega
theorem nums_next {w w' : World} {a : Option Addr} {l : List Int} (h : Dk.SlI w a l) (hb : Below w.heap.size w w') : Dk.SlI w' a l := fun k hk => by
  obtain ⟨b, o, h1, h2, h3⟩ := h k hk
  exact ⟨b, o, h1, Nat.lt_of_lt_of_le h2 hb.size, by rw [hb.cell (p := ⟨b, o + k, none⟩) h2]; exact h3⟩
end Go.Proofs.YtcbfmjjodfnacaaDoor

namespace Go.Proofs.YtcbfmjjodfnacaaDoor
open Go.RowKit

/-- the texts that a slice shows -/
def SlS (w : World) (a : Option Addr) (l : List ByteArray) : Prop := ∀ k, k < l.length → ∃ b o, a = some ⟨b, o, none⟩ ∧ b < w.heap.size ∧ w.cell? ⟨b, o + k, none⟩ = some (.string (tk l k))
theorem SlS.next {w w' : World} {a : Option Addr} {l : List ByteArray} (h : SlS w a l) (hb : Below w.heap.size w w') : SlS w' a l := fun k hk => by
  obtain ⟨b, o, h1, h2, h3⟩ := h k hk
  exact ⟨b, o, h1, Nat.lt_of_lt_of_le h2 hb.size, by rw [hb.cell (p := ⟨b, o + k, none⟩) h2]; exact h3⟩
theorem SlS.from {B : Nat} {w w' : World} {a : Option Addr} {l : List ByteArray} (h : SlS w a l) (hb : Below B w w') (hB : w.heap.size ≤ B) : SlS w' a l := fun k hk => by
  obtain ⟨b, o, h1, h2, h3⟩ := h k hk
  exact ⟨b, o, h1, Nat.lt_of_lt_of_le h2 hb.size, by rw [hb.cell (p := ⟨b, o + k, none⟩) (Nat.lt_of_lt_of_le h2 hB)]; exact h3⟩
namespace Pn
theorem filtE_drop {l : List ByteArray} {i : Nat} (h : i < l.length) : filtE (l.drop i) = if errS true (tk l i) = 0 then filtE (l.drop (i + 1)) else errS true (tk l i) := by rw [drop_tk h]; rfl
theorem laps_drop {l : List ByteArray} {i : Nat} (h : i < l.length) : laps (l.drop i) = ((l.drop (i + 1)).any (fun g => meetL (Pl.toks (tk l i)) (Pl.toks g)) || laps (l.drop (i + 1))) := by rw [drop_tk h]; rfl
theorem any_drop {l : List ByteArray} {i : Nat} (h : i < l.length) (f : ByteArray → Bool) : (l.drop i).any f = (f (tk l i) || (l.drop (i + 1)).any f) := by rw [drop_tk h]; rfl
theorem inAll_drop {v : List Int} {i : Nat} (h : i < v.length) (h8 : v.length = 8) : inAll (v.drop i) (most8.drop i) = ((decide (0 ≤ Dk.nth v i) && decide (Dk.nth v i ≤ Dk.nth most8 i)) && inAll (v.drop (i + 1)) (most8.drop (i + 1))) := by
  have h2 : i < most8.length := by rw [h8] at h; exact h
  rw [List.drop_eq_getElem_cons h, List.drop_eq_getElem_cons h2, inAll, Dk.nth, Dk.nth, List.getElem?_eq_getElem h, List.getElem?_eq_getElem h2]
  rfl
section
variable {p : Pln}
theorem planE_name (h : namedB p.n = false) : planE p = 3 := by unfold planE; rw [if_pos h]
theorem planE_many (h : namedB p.n = true) (h2 : 4 < p.f.length) : planE p = 2 := by unfold planE; rw [if_neg (by rw [h]; simp), if_pos h2]
theorem planE_none (h : namedB p.n = true) (h2 : p.f.length = 0) : planE p = 1 := by unfold planE; rw [if_neg (by rw [h]; simp), if_neg (by omega), if_pos h2]
theorem planE_filt (h : namedB p.n = true) (h2 : ¬ 4 < p.f.length) (h3 : p.f.length ≠ 0) (h4 : filtE p.f ≠ 0) : planE p = filtE p.f := by unfold planE; rw [if_neg (by rw [h]; simp), if_neg h2, if_neg h3, if_pos h4]
theorem planE_laps (h : namedB p.n = true) (h2 : ¬ 4 < p.f.length) (h3 : p.f.length ≠ 0) (h4 : filtE p.f = 0) (h5 : laps p.f = true) : planE p = 10 := by unfold planE; rw [if_neg (by rw [h]; simp), if_neg h2, if_neg h3, if_neg (by rw [h4]; simp), if_pos h5]
theorem planE_nums (h : namedB p.n = true) (h2 : ¬ 4 < p.f.length) (h3 : p.f.length ≠ 0) (h4 : filtE p.f = 0) (h5 : laps p.f = false) : planE p = if inAll p.v most8 = true then 0 else 1 := by unfold planE; rw [if_neg (by rw [h]; simp), if_neg h2, if_neg h3, if_neg (by rw [h4]; simp), if_neg (by rw [h5]; simp)]
end
end Pn

/-- a plan that is looked at: its block, its filters -/
def Pst (w wr : World) (b : Nat) (n : ByteArray) (a : Option Addr) (l : List ByteArray) (c : Nat) (x0 x1 x2 x3 x4 x5 x6 x7 : Int) : Prop := PB wr b n a l.length c x0 x1 x2 x3 x4 x5 x6 x7 ∧ SlS wr a l ∧ Below w.heap.size w wr
theorem Pst.next {w wr w' : World} {b : Nat} {n : ByteArray} {a : Option Addr} {l : List ByteArray} {c : Nat} {x0 x1 x2 x3 x4 x5 x6 x7 : Int} (h : Pst w wr b n a l c x0 x1 x2 x3 x4 x5 x6 x7) (hb : Below wr.heap.size wr w') : Pst w w' b n a l c x0 x1 x2 x3 x4 x5 x6 x7 := ⟨h.1.next hb, h.2.1.next hb, bstep h.2.2 hb⟩
/-- a plan's values and what they may be, in rows -/
def Vst (w wr : World) (g1 g2 : Nat) (v : List Int) : Prop := Dk.SlI wr (some ⟨g1, 0, none⟩) v ∧ Dk.SlI wr (some ⟨g2, 0, none⟩) Pn.most8 ∧ Below w.heap.size w wr
theorem Vst.next {w wr w' : World} {g1 g2 : Nat} {v : List Int} (h : Vst w wr g1 g2 v) (hb : Below wr.heap.size wr w') : Vst w w' g1 g2 v := ⟨nums_next h.1 hb, nums_next h.2.1 hb, bstep h.2.2 hb⟩
abbrev Two3 (g1 g2 i : Nat) (x y : Int) (w : World) : Prop := w.cell? ⟨g1, i, none⟩ = some (.int .i64 x) ∧ w.cell? ⟨g2, i, none⟩ = some (.int .i64 y)
theorem Vst.two {w wr : World} {g1 g2 : Nat} {v : List Int} (h : Vst w wr g1 g2 v) (h8 : v.length = 8) {i : Nat} (hi : i < 8) : Two3 g1 g2 i (Dk.nth v i) (Dk.nth Pn.most8 i) wr := by
  obtain ⟨b1, o1, e1, _, h1⟩ := h.1 i (by omega)
  obtain ⟨b2, o2, e2, _, h2⟩ := h.2.1 i hi
  cases e1
  cases e2
  rw [Nat.zero_add] at h1 h2
  exact ⟨h1, h2⟩
/-- two texts of a row and the slice that shows it -/
abbrev Two2 (b : Nat) (a : Option Addr) (l c ba o i k : Nat) (f g : ByteArray) (w : World) : Prop := w.cell? ⟨b, 1, none⟩ = some (.slice a l c) ∧ w.cell? ⟨ba, o + i, none⟩ = some (.string f) ∧ w.cell? ⟨ba, o + k, none⟩ = some (.string g)
theorem Pst.two {w wr : World} {b ba o : Nat} {n : ByteArray} {l : List ByteArray} {c : Nat} {x0 x1 x2 x3 x4 x5 x6 x7 : Int} (h : Pst w wr b n (some ⟨ba, o, none⟩) l c x0 x1 x2 x3 x4 x5 x6 x7) {i k : Nat} (hi : i < l.length) (hk : k < l.length) : Two2 b (some ⟨ba, o, none⟩) l.length c ba o i k (tk l i) (tk l k) wr := by
  obtain ⟨b1, o1, e1, _, h1⟩ := h.2.1 i hi
  obtain ⟨b2, o2, e2, _, h2⟩ := h.2.1 k hk
  cases e1
  cases e2
  exact ⟨h.1.c1, h1, h2⟩
end Go.Proofs.YtcbfmjjodfnacaaDoor
