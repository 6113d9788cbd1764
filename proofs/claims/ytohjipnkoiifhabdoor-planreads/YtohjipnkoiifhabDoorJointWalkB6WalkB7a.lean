/-
  How far the words of a plan were read. No walk.
  ReadPlan's plan when it is laid: its two orders. No walk.
-/
import Derived.Test.YtohjipnkoiifhabDoorWalkB5
import Derived.Test.YtohjipnkoiifhabDoorJointPapPwPapPr
import Derived.Test.YtohjipnkoiifhabDoorJointRowPtRowPuRowPq
import Derived.Test.YtohjipnkoiifhabDoorWorksPl
import Derived.Test.YtohjipnkoiifhabDoorRowPr
namespace Go.Proofs.YtohjipnkoiifhabDoor
open Go.RowKit


/-- ReadPlan on its way: the result's block rb, the plan's block b, the pointers to its numbers bt, the row g of words -/
structure Rd (w wr : World) (rb b bt g : Nat) (ws : List ByteArray) (n : ByteArray) (a : Option Addr) (l : List ByteArray) (c : Nat) (v : List Int) : Prop where
  res : PB wr rb ⟨#[]⟩ none 0 0 0 0 0 0 0 0 0 0
  rfr : ∀ j, wr.frozen? ⟨rb, j, none⟩ = false
  rlo : w.heap.size ≤ rb
  c0 : wr.cell? ⟨b, 0, none⟩ = some (.string n)
  c1 : wr.cell? ⟨b, 1, none⟩ = some (.slice a l.length c)
  num : ∀ i, i < 8 → wr.cell? ⟨b, 2 + i, none⟩ = some (.int .i64 (Dk.nth v i))
  fr : ∀ j, wr.frozen? ⟨b, j, none⟩ = false
  blo : w.heap.size ≤ b
  blt : b < wr.heap.size
  to : ∀ i, i < 8 → wr.cell? ⟨bt, i, none⟩ = some (.pointer (some ⟨b, 2 + i, none⟩))
  btl : bt < wr.heap.size
  row : SlS wr (some ⟨g, 0, none⟩) ws
  fil : SlS wr a l
  wrd : WrdIs wr
  low : 1 < w.heap.size
  bl : Below w.heap.size w wr
  ne1 : rb ≠ b
  ne2 : bt ≠ b
  ne3 : g ≠ b
  ne4 : ∀ z, a = some z → z.block ≠ b
section
variable {w wr w' : World} {rb b bt g : Nat} {ws : List ByteArray} {n : ByteArray} {a : Option Addr} {l : List ByteArray} {c : Nat} {v : List Int}
theorem Rd.next (h : Rd w wr rb b bt g ws n a l c v) (hb : Below wr.heap.size wr w') : Rd w w' rb b bt g ws n a l c v where
  res := h.res.next hb
  rfr := fun j => by rw [hb.frozen (p := ⟨rb, j, none⟩) h.res.lt]; exact h.rfr j
  rlo := h.rlo
  c0 := by rw [hb.cell (p := ⟨b, 0, none⟩) h.blt]; exact h.c0
  c1 := by rw [hb.cell (p := ⟨b, 1, none⟩) h.blt]; exact h.c1
  num := fun i hi => by rw [hb.cell (p := ⟨b, 2 + i, none⟩) h.blt]; exact h.num i hi
  fr := fun j => by rw [hb.frozen (p := ⟨b, j, none⟩) h.blt]; exact h.fr j
  blo := h.blo
  blt := Nat.lt_of_lt_of_le h.blt hb.size
  to := fun i hi => by rw [hb.cell (p := ⟨bt, i, none⟩) h.btl]; exact h.to i hi
  btl := Nat.lt_of_lt_of_le h.btl hb.size
  row := h.row.next hb
  fil := h.fil.next hb
  wrd := h.wrd.next hb
  low := h.low
  bl := bstep h.bl hb
  ne1 := h.ne1
  ne2 := h.ne2
  ne3 := h.ne3
  ne4 := h.ne4
/-- a number is stored -/
theorem Rd.put (h : Rd w wr rb b bt g ws n a l c v) (h8 : v.length = 8) {i : Nat} (hi : i < 8) (x : Int) : Rd w (wr.setCell ⟨b, 2 + i, none⟩ (.int .i64 x)) rb b bt g ws n a l c (v.set i x) where
  res := by
    have r := h.res
    have e := h.ne1
    exact ⟨by simpa [World.setCell] using r.lt, by rw [set_far e]; exact r.c0, by rw [set_far e]; exact r.c1, by rw [set_far e]; exact r.c2, by rw [set_far e]; exact r.c3, by rw [set_far e]; exact r.c4, by rw [set_far e]; exact r.c5, by rw [set_far e]; exact r.c6, by rw [set_far e]; exact r.c7, by rw [set_far e]; exact r.c8, by rw [set_far e]; exact r.c9⟩
  rfr := fun j => by rw [World.frozen?_setCell]; exact h.rfr j
  rlo := h.rlo
  c0 := by rw [World.cell?_setCell_other _ _ _ _ (by intro e; injection e; omega)]; exact h.c0
  c1 := by rw [World.cell?_setCell_other _ _ _ _ (by intro e; injection e; omega)]; exact h.c1
  num := fun j hj => by
    rw [Pn.nth_set (by omega)]
    by_cases e : i = j
    · rw [if_pos e, e]
      exact World.cell?_setCell_same _ _ _ (h.num j hj)
    · rw [if_neg e, World.cell?_setCell_other _ _ _ _ (by intro z; injection z; omega)]
      exact h.num j hj
  fr := fun j => by rw [World.frozen?_setCell]; exact h.fr j
  blo := h.blo
  blt := by simpa [World.setCell] using h.blt
  to := fun j hj => by rw [set_far h.ne2]; exact h.to j hj
  btl := by simpa [World.setCell] using h.btl
  row := h.row.far (fun z hz => by cases hz; exact h.ne3)
  fil := h.fil.far h.ne4
  wrd := ⟨by simpa [World.setCell] using h.wrd.1, fun j hj => by
    have h1 := h.wrd.1
    have hb := h.blo
    rw [set_far (fun e => by
      have hG : 1 < w.heap.size := h.low
      omega)]
    exact h.wrd.2 j hj⟩
  low := h.low
  bl := h.bl.setCell (p := ⟨b, 2 + i, none⟩) h.blo _
  ne1 := h.ne1
  ne2 := h.ne2
  ne3 := h.ne3
  ne4 := h.ne4
end
end Go.Proofs.YtohjipnkoiifhabDoor

namespace Go.Proofs.YtohjipnkoiifhabDoor
open Go.RowKit

/-- the result's block, the words -/
structure Pre (w wr : World) (rb g : Nat) (ws : List ByteArray) : Prop where
  res : PB wr rb ⟨#[]⟩ none 0 0 0 0 0 0 0 0 0 0
  rfr : ∀ j, wr.frozen? ⟨rb, j, none⟩ = false
  bl : Below w.heap.size w wr
  row : SlS wr (some ⟨g, 0, none⟩) ws
  wrd : WrdIs wr
  low : 1 < w.heap.size
section
variable {w wr w' : World} {rb b g : Nat} {ws : List ByteArray}
theorem Pre.next (h : Pre w wr rb g ws) (hb : Below wr.heap.size wr w') : Pre w w' rb g ws where
  res := h.res.next hb
  rfr := fun j => by rw [hb.frozen (p := ⟨rb, j, none⟩) h.res.lt]; exact h.rfr j
  bl := bstep h.bl hb
  row := h.row.next hb
  wrd := h.wrd.next hb
  low := h.low
theorem Pre.far (h : Pre w wr rb g ws) (h1 : rb ≠ b) (h2 : g ≠ b) (hb : w.heap.size ≤ b) (i : Nat) (x : Value) : Pre w (wr.setCell ⟨b, i, none⟩ x) rb g ws where
  res := by
    have r := h.res
    exact ⟨by simpa [World.setCell] using r.lt, by rw [set_far h1]; exact r.c0, by rw [set_far h1]; exact r.c1, by rw [set_far h1]; exact r.c2, by rw [set_far h1]; exact r.c3, by rw [set_far h1]; exact r.c4, by rw [set_far h1]; exact r.c5, by rw [set_far h1]; exact r.c6, by rw [set_far h1]; exact r.c7, by rw [set_far h1]; exact r.c8, by rw [set_far h1]; exact r.c9⟩
  rfr := fun j => by rw [World.frozen?_setCell]; exact h.rfr j
  bl := h.bl.setCell (p := ⟨b, i, none⟩) hb _
  row := h.row.far (fun z hz => by cases hz; exact h2)
  wrd := ⟨by simpa [World.setCell] using h.wrd.1, fun j hj => by
    rw [set_far (fun e => by
      have hG : 1 < w.heap.size := h.low
      omega)]
    exact h.wrd.2 j hj⟩
  low := h.low
theorem Pre.puts (h1 : rb ≠ b) (h2 : g ≠ b) (hb : w.heap.size ≤ b) : ∀ (vs : List Value) (W : World) (o : Nat), Pre w W rb g ws → Pre w (puts W b o vs) rb g ws
  | [], _, _, h => h
  | v :: vs, _, o, h => Pre.puts h1 h2 hb vs _ (o + 1) (h.far h1 h2 hb o v)
end
/-- the plan is laid: no number yet -/
structure Rs (w wr : World) (rb b g : Nat) (ws : List ByteArray) (n : ByteArray) (a : Option Addr) (l : List ByteArray) (c : Nat) : Prop where
  pre : Pre w wr rb g ws
  pb : PB wr b n a l.length c 0 0 0 0 0 0 0 0
  fr : ∀ j, wr.frozen? ⟨b, j, none⟩ = false
  fil : SlS wr a l
  rlo : w.heap.size ≤ rb
  blo : w.heap.size ≤ b
  ne1 : rb ≠ b
  ne3 : g ≠ b
  ne4 : ∀ z, a = some z → z.block ≠ b
  ne5 : ∀ z, a = some z → z.block ≠ rb

/-- the call first, then the block -/
theorem Rs.call_first {w w1 w2 : World} {rb g g2 c2 : Nat} {ws l2 : List ByteArray} (X : ByteArray) (h : Pre w w1 rb g ws) (hr : w.heap.size ≤ rb) (hg : g < w1.heap.size) (o2 : Own w2 w1.drew.heap.size g2 c2 l2) (b2 : Below w1.drew.heap.size w1.drew w2) :
    Rs w (w2.alloc (.cells #[.string X, .slice (some ⟨g2, 0, none⟩) l2.length c2, .int .i64 0, .int .i64 0, .int .i64 0, .int .i64 0, .int .i64 0, .int .i64 0, .int .i64 0, .int .i64 0] 24)) rb w2.heap.size g ws X (some ⟨g2, 0, none⟩) l2 c2 := by
  have bd : Below w1.heap.size w1 w2 := (Below.refl w1.heap.size w1).drew.trans b2
  have ba : Below w2.heap.size w2 (w2.alloc (.cells #[.string X, .slice (some ⟨g2, 0, none⟩) l2.length c2, .int .i64 0, .int .i64 0, .int .i64 0, .int .i64 0, .int .i64 0, .int .i64 0, .int .i64 0, .int .i64 0] 24)) := (Below.refl _ _).alloc (Nat.le_refl _) _
  have hs := bd.size
  have h0 := h.bl.size
  have hrl := h.res.lt
  have hg2 := (own_base o2).2
  exact ⟨(h.next bd).next ba, PB.new w2 X (some ⟨g2, 0, none⟩) l2.length c2 0 0 0 0 0 0 0 0 _, fun j => World.frozen?_alloc_new _ _ _ j, (own_txts o2).next ba, hr, by omega, by omega, by omega, fun z hz => by cases hz; exact Nat.ne_of_lt hg2, fun z hz => by
    cases hz
    have h3 : w1.heap.size ≤ g2 := (own_base o2).1
    exact fun e => by simp at e; omega⟩
/-- the block first, then the call -/
theorem Rs.block_first {w w1 w2 : World} {rb g g2 c2 : Nat} {ws l2 : List ByteArray} (X : ByteArray) (h : Pre w w1 rb g ws) (hr : w.heap.size ≤ rb) (hg : g < w1.heap.size) (o2 : Own w2 (w1.alloc (.cells #[.string ⟨#[]⟩, .slice none 0 0, .int .i64 0, .int .i64 0, .int .i64 0, .int .i64 0, .int .i64 0, .int .i64 0, .int .i64 0, .int .i64 0] 24)).drew.heap.size g2 c2 l2) (b2 : Below (w1.alloc (.cells #[.string ⟨#[]⟩, .slice none 0 0, .int .i64 0, .int .i64 0, .int .i64 0, .int .i64 0, .int .i64 0, .int .i64 0, .int .i64 0, .int .i64 0] 24)).drew.heap.size (w1.alloc (.cells #[.string ⟨#[]⟩, .slice none 0 0, .int .i64 0, .int .i64 0, .int .i64 0, .int .i64 0, .int .i64 0, .int .i64 0, .int .i64 0, .int .i64 0] 24)).drew w2) :
    Rs w (puts w2 w1.heap.size 0 [.string X, .slice (some ⟨g2, 0, none⟩) l2.length c2, .int .i64 0, .int .i64 0, .int .i64 0, .int .i64 0, .int .i64 0, .int .i64 0, .int .i64 0, .int .i64 0]) rb w1.heap.size g ws X (some ⟨g2, 0, none⟩) l2 c2 := by
  have ba : Below w1.heap.size w1 (w1.alloc (.cells #[.string ⟨#[]⟩, .slice none 0 0, .int .i64 0, .int .i64 0, .int .i64 0, .int .i64 0, .int .i64 0, .int .i64 0, .int .i64 0, .int .i64 0] 24)).drew := ((Below.refl _ _).alloc (Nat.le_refl _) _).drew
  have p := (PB.new w1 ⟨#[]⟩ none 0 0 0 0 0 0 0 0 0 0 24).next (Below.refl _ _).drew
  have p2 := p.next b2
  have h0 := h.bl.size
  have hrl := h.res.lt
  have hg2 : w1.heap.size + 1 ≤ g2 := Nat.le_trans (by simp) (own_base o2).1
  have ne4 : ∀ z : Addr, some (⟨g2, 0, none⟩ : Addr) = some z → z.block ≠ w1.heap.size := fun z hz => by cases hz; exact Nat.ne_of_gt hg2
  refine ⟨Pre.puts (by omega) (by omega) (by omega) _ _ _ ((h.next ba).next b2), p2.puts X (some ⟨g2, 0, none⟩) l2.length c2 0 0 0 0 0 0 0 0, fun j => ?_, SlS.puts ne4 _ _ _ (own_txts o2), hr, by omega, by omega, by omega, ne4, fun z hz => by cases hz; exact fun e => by simp at e; omega⟩
  rw [puts_frozen, b2.frozen (p := ⟨w1.heap.size, j, none⟩) p.lt]
  exact World.frozen?_alloc_new _ _ _ j
/-- the pointers to the numbers are laid -/
theorem Rs.rd {w wr : World} {rb b g c : Nat} {ws l : List ByteArray} {n : ByteArray} {a : Option Addr} (h : Rs w wr rb b g ws n a l c) (T : TypeId) : Rd w (wr.alloc (.cells #[.pointer (some ⟨b, 2, none⟩), .pointer (some ⟨b, 3, none⟩), .pointer (some ⟨b, 4, none⟩), .pointer (some ⟨b, 5, none⟩), .pointer (some ⟨b, 6, none⟩), .pointer (some ⟨b, 7, none⟩), .pointer (some ⟨b, 8, none⟩), .pointer (some ⟨b, 9, none⟩)] T)) rb b wr.heap.size g ws n a l c [0, 0, 0, 0, 0, 0, 0, 0] := by
  have ba : Below wr.heap.size wr (wr.alloc (.cells #[.pointer (some ⟨b, 2, none⟩), .pointer (some ⟨b, 3, none⟩), .pointer (some ⟨b, 4, none⟩), .pointer (some ⟨b, 5, none⟩), .pointer (some ⟨b, 6, none⟩), .pointer (some ⟨b, 7, none⟩), .pointer (some ⟨b, 8, none⟩), .pointer (some ⟨b, 9, none⟩)] T)) := (Below.refl _ _).alloc (Nat.le_refl _) _
  have q := h.pre.next ba
  have p := h.pb.next ba
  have hl := h.pb.lt
  exact ⟨q.res, q.rfr, h.rlo, p.c0, p.c1, fun i hi => by
      have : i = 0 ∨ i = 1 ∨ i = 2 ∨ i = 3 ∨ i = 4 ∨ i = 5 ∨ i = 6 ∨ i = 7 := by omega
      rcases this with rfl | rfl | rfl | rfl | rfl | rfl | rfl | rfl
      · exact p.c2
      · exact p.c3
      · exact p.c4
      · exact p.c5
      · exact p.c6
      · exact p.c7
      · exact p.c8
      · exact p.c9, fun j => by rw [ba.frozen (p := ⟨b, j, none⟩) hl]; exact h.fr j, h.blo, p.lt, fun i hi => by
      have : i = 0 ∨ i = 1 ∨ i = 2 ∨ i = 3 ∨ i = 4 ∨ i = 5 ∨ i = 6 ∨ i = 7 := by omega
      rcases this with rfl | rfl | rfl | rfl | rfl | rfl | rfl | rfl <;> simp, by simp, q.row, h.fil.next ba, q.wrd, h.pre.low, q.bl, h.ne1, by omega, h.ne3, h.ne4⟩
end Go.Proofs.YtohjipnkoiifhabDoor
