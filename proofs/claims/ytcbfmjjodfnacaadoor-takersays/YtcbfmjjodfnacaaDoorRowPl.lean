/-
  A plan in memory: ten cells in a block. No walk.
-/
import Derived.Test.YtcbfmjjodfnacaaDoorPapPb
import Derived.Test.YtcbfmjjodfnacaaDoorPapD
namespace Go.Proofs.YtcbfmjjodfnacaaDoor
open Go.RowKit

/-- a plan as a value: its name, the slice of its filters, its eight numbers -/
abbrev planV (n : ByteArray) (a : Option Addr) (l c : Nat) (x0 x1 x2 x3 x4 x5 x6 x7 : Int) : Value := .agg #[.string n, .slice a l c, .int .i64 x0, .int .i64 x1, .int .i64 x2, .int .i64 x3, .int .i64 x4, .int .i64 x5, .int .i64 x6, .int .i64 x7]
/-- the cells of a plan in block b -/
structure PB (w : World) (b : Nat) (n : ByteArray) (a : Option Addr) (l c : Nat) (x0 x1 x2 x3 x4 x5 x6 x7 : Int) : Prop where
  lt : b < w.heap.size
  c0 : w.cell? ⟨b, 0, none⟩ = some (.string n)
  c1 : w.cell? ⟨b, 1, none⟩ = some (.slice a l c)
  c2 : w.cell? ⟨b, 2, none⟩ = some (.int .i64 x0)
  c3 : w.cell? ⟨b, 3, none⟩ = some (.int .i64 x1)
  c4 : w.cell? ⟨b, 4, none⟩ = some (.int .i64 x2)
  c5 : w.cell? ⟨b, 5, none⟩ = some (.int .i64 x3)
  c6 : w.cell? ⟨b, 6, none⟩ = some (.int .i64 x4)
  c7 : w.cell? ⟨b, 7, none⟩ = some (.int .i64 x5)
  c8 : w.cell? ⟨b, 8, none⟩ = some (.int .i64 x6)
  c9 : w.cell? ⟨b, 9, none⟩ = some (.int .i64 x7)
section
variable {w w' : World} {b : Nat} {n : ByteArray} {a : Option Addr} {l c : Nat} {x0 x1 x2 x3 x4 x5 x6 x7 : Int}
theorem PB.next (h : PB w b n a l c x0 x1 x2 x3 x4 x5 x6 x7) (hb : Below w.heap.size w w') : PB w' b n a l c x0 x1 x2 x3 x4 x5 x6 x7 :=
  ⟨Nat.lt_of_lt_of_le h.lt hb.size, by rw [hb.cell (p := ⟨b, 0, none⟩) h.lt]; exact h.c0, by rw [hb.cell (p := ⟨b, 1, none⟩) h.lt]; exact h.c1, by rw [hb.cell (p := ⟨b, 2, none⟩) h.lt]; exact h.c2, by rw [hb.cell (p := ⟨b, 3, none⟩) h.lt]; exact h.c3, by rw [hb.cell (p := ⟨b, 4, none⟩) h.lt]; exact h.c4, by rw [hb.cell (p := ⟨b, 5, none⟩) h.lt]; exact h.c5, by rw [hb.cell (p := ⟨b, 6, none⟩) h.lt]; exact h.c6, by rw [hb.cell (p := ⟨b, 7, none⟩) h.lt]; exact h.c7, by rw [hb.cell (p := ⟨b, 8, none⟩) h.lt]; exact h.c8, by rw [hb.cell (p := ⟨b, 9, none⟩) h.lt]; exact h.c9⟩
theorem PB.new (w : World) (n : ByteArray) (a : Option Addr) (l c : Nat) (x0 x1 x2 x3 x4 x5 x6 x7 : Int) (T : TypeId) : PB (w.alloc (.cells #[.string n, .slice a l c, .int .i64 x0, .int .i64 x1, .int .i64 x2, .int .i64 x3, .int .i64 x4, .int .i64 x5, .int .i64 x6, .int .i64 x7] T)) w.heap.size n a l c x0 x1 x2 x3 x4 x5 x6 x7 :=
  ⟨by simp, by simp, by simp, by simp, by simp, by simp, by simp, by simp, by simp, by simp, by simp⟩
end
/-- eight numbers in a block of their own -/
theorem eight_row (w : World) (x0 x1 x2 x3 x4 x5 x6 x7 : Int) (T : TypeId) : Dk.SlI (w.alloc (.cells #[.int .i64 x0, .int .i64 x1, .int .i64 x2, .int .i64 x3, .int .i64 x4, .int .i64 x5, .int .i64 x6, .int .i64 x7] T)) (some ⟨w.heap.size, 0, none⟩) [x0, x1, x2, x3, x4, x5, x6, x7] := fun k hk => by
  refine ⟨w.heap.size, 0, rfl, by simp, ?_⟩
  rw [cell_of_row _ w.heap.size (0 + k) _ _ _ (heap_alloc_new w _), Nat.zero_add]
  have : k < 8 := by simpa using hk
  rcases k with _ | _ | _ | _ | _ | _ | _ | _ | k
  all_goals first
    | rfl
    | omega
theorem nums_next {w w' : World} {a : Option Addr} {l : List Int} (h : Dk.SlI w a l) (hb : Below w.heap.size w w') : Dk.SlI w' a l := fun k hk => by
  obtain ⟨b, o, h1, h2, h3⟩ := h k hk
  exact ⟨b, o, h1, Nat.lt_of_lt_of_le h2 hb.size, by rw [hb.cell (p := ⟨b, o + k, none⟩) h2]; exact h3⟩
end Go.Proofs.YtcbfmjjodfnacaaDoor
