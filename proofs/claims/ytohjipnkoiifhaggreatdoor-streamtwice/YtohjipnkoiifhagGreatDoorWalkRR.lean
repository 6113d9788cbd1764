/-
  The law StreamRolls, over what is asked of the program's stream.
-/
import Derived.Test.YtohjipnkoiifhagGreatDoorWalkRa
import Derived.Test.YtohjipnkoiifhagGreatDoorJointRowPfRowStRowSo
namespace Go.Proofs.YtohjipnkoiifhagGreatDoor.Dk
open Go.RowKit

/-- a plan's box, a post's box and steps, behind a stream -/
structure Held3 (w : World) (bx : Nat) (x : Po) (a : Option Addr) (l : List Stp) : Prop where
  lt : bx < w.heap.size
  c0 : w.cell? ⟨bx, 0, none⟩ = some (.string x.s)
  c1 : w.cell? ⟨bx, 1, none⟩ = some (.string x.i)
  c2 : w.cell? ⟨bx, 2, none⟩ = some (.string x.h)
  c3 : w.cell? ⟨bx, 3, none⟩ = some (.string x.d)
  c4 : w.cell? ⟨bx, 4, none⟩ = some (.int .i64 x.x)
  c5 : w.cell? ⟨bx, 5, none⟩ = some (.int .i64 x.ro)
  row : SlP w a l
theorem Held3.from {B : Nat} {w w' : World} {bx : Nat} {x : Po} {a : Option Addr} {l : List Stp} (h : Held3 w bx x a l) (hb : Below B w w') (hB : w.heap.size ≤ B) : Held3 w' bx x a l := by
  have hlt : bx < B := Nat.lt_of_lt_of_le h.lt hB
  exact ⟨Nat.lt_of_lt_of_le h.lt hb.size, by rw [hb.cell (p := ⟨bx, 0, none⟩) hlt]; exact h.c0, by rw [hb.cell (p := ⟨bx, 1, none⟩) hlt]; exact h.c1, by rw [hb.cell (p := ⟨bx, 2, none⟩) hlt]; exact h.c2, by rw [hb.cell (p := ⟨bx, 3, none⟩) hlt]; exact h.c3, by rw [hb.cell (p := ⟨bx, 4, none⟩) hlt]; exact h.c4, by rw [hb.cell (p := ⟨bx, 5, none⟩) hlt]; exact h.c5, h.row.from hb hB⟩
theorem Held3.next {w w' : World} {bx : Nat} {x : Po} {a : Option Addr} {l : List Stp} (h : Held3 w bx x a l) (hb : Below w.heap.size w w') : Held3 w' bx x a l := h.from hb (Nat.le_refl _)
theorem Held3.new (w : World) (x : Po) {a : Option Addr} {l : List Stp} (h : SlP w a l) : Held3 (w.alloc (.cells #[.string x.s, .string x.i, .string x.h, .string x.d, .int .i64 x.x, .int .i64 x.ro] 50)) w.heap.size x a l := ⟨by simp, by simp, by simp, by simp, by simp, by simp, by simp, h.next ((Below.refl _ _).alloc (Nat.le_refl _) _)⟩
theorem rc_memR {l : List Rc} {k : Nat} (h : k < l.length) : rc l k ∈ l := by
  unfold rc
  rw [List.getElem?_eq_getElem h]
  exact List.getElem_mem h
section
variable {G : World → Prop} {RH : World → Nat → Nat → (Nat → Prop) → Pn.Pln → Int → Int → Str → Prop} {SH : World → Nat → Nat → (Nat → Prop) → Sto → Prop}
end
end Go.Proofs.YtohjipnkoiifhagGreatDoor.Dk
