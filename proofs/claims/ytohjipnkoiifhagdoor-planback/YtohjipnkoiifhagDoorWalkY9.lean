/-
  What the landed plan.read keeps while the filters are laid; its answer. No walk.
-/
import Derived.Test.YtohjipnkoiifhagDoorJointWalkY7WalkY8
import Derived.Test.YtohjipnkoiifhagDoorWalkY0
import Derived.Test.YtohjipnkoiifhagDoorJointRowPtRowPuRowPq
import Derived.Test.YtohjipnkoiifhagDoorRowY
import Derived.Test.YtohjipnkoiifhagDoorWalkCl
namespace Go.Proofs.YtohjipnkoiifhagDoor
open Go.RowKit

theorem read_cut {s : ByteArray} (h : ¬ 1024 < s.size) (h2 : ¬ (cutT 32 s).length < 2) : Pn.readP s = match Pn.rdN Pn.words8 (((cutT 32 s).drop 2).map (·.data.toList)) with
    | some v => if Pn.planE ⟨tk (cutT 32 s) 0, cutT 44 (tk (cutT 32 s) 1), v⟩ = 0 then (⟨tk (cutT 32 s) 0, cutT 44 (tk (cutT 32 s) 1), v⟩, 0) else (Pn.zeroP, Pn.planE ⟨tk (cutT 32 s) 0, cutT 44 (tk (cutT 32 s) 1), v⟩)
    | none => (Pn.zeroP, 3) := by
  unfold Pn.readP
  rw [if_neg h, ← cutT_data 32 s]
  generalize cutT 32 s = ws at h2 ⊢
  cases ws with
  | nil => simp at h2
  | cons x xs =>
    cases xs with
    | nil => simp at h2
    | cons y ys =>
      show (match Pn.rdN Pn.words8 (ys.map (·.data.toList)) with
        | some v => if Pn.planE ⟨Pn.bs x.data.toList, (Pn.cut 44 y.data.toList).map Pn.bs, v⟩ = 0 then ((⟨Pn.bs x.data.toList, (Pn.cut 44 y.data.toList).map Pn.bs, v⟩ : Pn.Pln), (0 : Int)) else (Pn.zeroP, Pn.planE ⟨Pn.bs x.data.toList, (Pn.cut 44 y.data.toList).map Pn.bs, v⟩)
        | none => (Pn.zeroP, 3)) = _
      rw [Pn.bs_list]
      rfl
theorem cutT_few (d : UInt8) (s : ByteArray) (h : s.size ≤ 1024) : (cutT d s).length ≤ 1025 := by
  rw [cutT_length]
  have h1 := List.count_le_length (a := d) (l := s.data.toList)
  have e : s.data.toList.length = s.size := by simp
  omega
theorem cutT_size (d : UInt8) (s : ByteArray) {k : Nat} (hk : k < (cutT d s).length) : (tk (cutT d s) k).size ≤ s.size := cut_piece (cutT_data d s) hk

/-- the filters that were laid so far -/
structure Fl (w5 wr : World) (b : Nat) (X : ByteArray) (lf : List ByteArray) (k : Nat) (a : Option Addr) (c : Nat) : Prop where
  st : Nst wr b X a k c [0, 0, 0, 0, 0, 0, 0, 0]
  row : Txts wr w5.heap.size (.slice a k c) (lf.take k)
  chg : Dk.Chg (fun q => q = b) w5 wr
  blt : b < w5.heap.size
theorem Nst.fil {wr : World} {b : Nat} {n : ByteArray} {a : Option Addr} {l c : Nat} {v : List Int} (h : Nst wr b n a l c v) (a' : Option Addr) (l' c' : Nat) : Nst (wr.setCell ⟨b, 1, none⟩ (.slice a' l' c')) b n a' l' c' v where
  lt := by simpa [World.setCell] using h.lt
  c0 := by rw [World.cell?_setCell_other _ _ _ _ (by intro e; injection e; omega)]; exact h.c0
  c1 := World.cell?_setCell_same _ _ _ h.c1
  num := fun j hj => by rw [World.cell?_setCell_other _ _ _ _ (by intro e; injection e; omega)]; exact h.num j hj
  fr := fun j => by rw [World.frozen?_setCell]; exact h.fr j
theorem Nst.chg {A : Nat → Prop} {wr w' : World} {b : Nat} {n : ByteArray} {a : Option Addr} {l c : Nat} {v : List Int} (h : Nst wr b n a l c v) (hb : Dk.Chg A wr w') (hn : ¬ A b) : Nst w' b n a l c v where
  lt := Nat.lt_of_lt_of_le h.lt hb.size
  c0 := by rw [hb.cell (p := ⟨b, 0, none⟩) h.lt hn]; exact h.c0
  c1 := by rw [hb.cell (p := ⟨b, 1, none⟩) h.lt hn]; exact h.c1
  num := fun i hi => by rw [hb.cell (p := ⟨b, 2 + i, none⟩) h.lt hn]; exact h.num i hi
  fr := fun j => by rw [hb.frozen (p := ⟨b, j, none⟩) h.lt hn]; exact h.fr j
theorem tk_take {l : List ByteArray} {k : Nat} (h : k < l.length) : l.take (k + 1) = l.take k ++ [tk l k] := by
  rw [List.take_succ_eq_append_getElem h, Pn.tk_at h]
/-- one filter more -/
theorem Fl.more {w5 wr w3 : World} {b : Nat} {X : ByteArray} {lf : List ByteArray} {k : Nat} {a : Option Addr} {c : Nat} (h : Fl w5 wr b X lf k a c) (hk : k < lf.length) (hl : lf.length ≤ 100000) (hb : Below wr.heap.size wr w3) :
    ∃ a' c' w8, (Builtin.append_ #[22, 22] 22 #[.slice a k c, .slice (some ⟨w3.heap.size, 0, none⟩) 1 1]).run Tryd.prog (w3.alloc (.cells #[.string (tk lf k)] 9)) = .ok (.slice a' (k + 1) c') w8 ∧ w8.cell? ⟨b, 1, none⟩ = some (.slice a k c) ∧ w8.frozen? ⟨b, 1, none⟩ = false ∧ Fl w5 (w8.setCell ⟨b, 1, none⟩ (.slice a' (k + 1) c')) b X lf (k + 1) a' c' := by
  have T3 := h.row.below hb
  have hB : w5.heap.size ≤ w3.heap.size := Nat.le_trans h.chg.size hb.size
  have hlen : (lf.take k).length = k := by rw [List.length_take]; omega
  obtain ⟨v8, w8, hrun, T8, B8⟩ := txt_more T3 (Below.refl _ _) (tk lf k) (by omega) hB
  obtain ⟨a', c', rfl, hc', _⟩ := T8.shape
  have hl8 : (lf.take k ++ [tk lf k]).length = k + 1 := by rw [List.length_append, hlen]; rfl
  rw [hl8] at hrun T8
  have st3 := h.st.next hb
  have C8 : Dk.Chg (fun q => w5.heap.size ≤ q) w3 w8 := ⟨B8.os, B8.tape, B8.output, B8.size, fun q _ hn => B8.block q (by omega)⟩
  have st8 := st3.chg C8 (by have := h.blt; omega)
  have C5 : Dk.Chg (fun q => q = b) w5 w8 := by
    refine ⟨?_, ?_, ?_, ?_, fun q hq hn => ?_⟩
    · rw [B8.os, hb.os, h.chg.os]
    · rw [B8.tape, hb.tape, h.chg.tape]
    · rw [B8.output, hb.output, h.chg.output]
    · exact Nat.le_trans hB B8.size
    · rw [B8.block q hq, hb.block q (Nat.lt_of_lt_of_le hq h.chg.size), h.chg.block q hq hn]
  refine ⟨a', c', w8, hrun, st8.c1, st8.fr 1, st8.fil a' (k + 1) c', ?_, C5.setCell (p := ⟨b, 1, none⟩) (.inl rfl) _, h.blt⟩
  rw [tk_take hk]
  exact T8.chg (A := fun q => q = b) ((Dk.Chg.refl (fun q => q = b) w8).setCell (p := ⟨b, 1, none⟩) (.inl rfl) _) (fun g hg e => by have := h.blt; omega)
theorem SlS.chg {A : Nat → Prop} {w w' : World} {a : Option Addr} {l : List ByteArray} (h : SlS w a l) (hc : Dk.Chg A w w') (hn : ∀ z, a = some z → ¬ A z.block) : SlS w' a l := fun k hk => by
  obtain ⟨b, o, e, h1, h2⟩ := h k hk
  exact ⟨b, o, e, Nat.lt_of_lt_of_le h1 hc.size, by rw [hc.cell (p := ⟨b, o + k, none⟩) h1 (show ¬ A b from hn ⟨b, o, none⟩ e)]; exact h2⟩
theorem BndIs.chg {A : Nat → Prop} {w w' : World} (h : BndIs w) (hc : Dk.Chg A w w') (hn : ¬ A 0) : BndIs w' := ⟨Nat.lt_of_lt_of_le h.1 hc.size, fun i hi => ⟨by rw [hc.cell (p := ⟨0, i * 2, none⟩) h.1 hn]; exact (h.2 i hi).1, by rw [hc.cell (p := ⟨0, i * 2 + 1, none⟩) h.1 hn]; exact (h.2 i hi).2⟩⟩
theorem PB.chg {A : Nat → Prop} {w w' : World} {b : Nat} {n : ByteArray} {a : Option Addr} {l c : Nat} {x0 x1 x2 x3 x4 x5 x6 x7 : Int} (h : PB w b n a l c x0 x1 x2 x3 x4 x5 x6 x7) (hc : Dk.Chg A w w') (hn : ¬ A b) : PB w' b n a l c x0 x1 x2 x3 x4 x5 x6 x7 :=
  ⟨Nat.lt_of_lt_of_le h.lt hc.size, by rw [hc.cell (p := ⟨b, 0, none⟩) h.lt hn]; exact h.c0, by rw [hc.cell (p := ⟨b, 1, none⟩) h.lt hn]; exact h.c1, by rw [hc.cell (p := ⟨b, 2, none⟩) h.lt hn]; exact h.c2, by rw [hc.cell (p := ⟨b, 3, none⟩) h.lt hn]; exact h.c3, by rw [hc.cell (p := ⟨b, 4, none⟩) h.lt hn]; exact h.c4, by rw [hc.cell (p := ⟨b, 5, none⟩) h.lt hn]; exact h.c5, by rw [hc.cell (p := ⟨b, 6, none⟩) h.lt hn]; exact h.c6, by rw [hc.cell (p := ⟨b, 7, none⟩) h.lt hn]; exact h.c7, by rw [hc.cell (p := ⟨b, 8, none⟩) h.lt hn]; exact h.c8, by rw [hc.cell (p := ⟨b, 9, none⟩) h.lt hn]; exact h.c9⟩
theorem Nst.pb {w : World} {b : Nat} {n : ByteArray} {a : Option Addr} {l c : Nat} {x0 x1 x2 x3 x4 x5 x6 x7 : Int} (h : Nst w b n a l c [x0, x1, x2, x3, x4, x5, x6, x7]) : PB w b n a l c x0 x1 x2 x3 x4 x5 x6 x7 := ⟨h.lt, h.c0, h.c1, h.num 0 (by omega), h.num 1 (by omega), h.num 2 (by omega), h.num 3 (by omega), h.num 4 (by omega), h.num 5 (by omega), h.num 6 (by omega), h.num 7 (by omega)⟩
theorem Fl.fin {w5 wr : World} {b : Nat} {X : ByteArray} {lf : List ByteArray} {a : Option Addr} {c : Nat} (h : Fl w5 wr b X lf lf.length a c) : lf.length ≤ c ∧ SlS wr a lf ∧ ∀ z, a = some z → w5.heap.size ≤ z.block := by
  have r := h.row
  rw [List.take_length] at r
  obtain ⟨a', c', e, hc, hs⟩ := r.shape
  obtain ⟨rfl, _, rfl⟩ := Value.slice.inj e
  refine ⟨hc, hs, fun z hz => ?_⟩
  subst hz
  exact (World.ownsRow.lt r z.block rfl).1
/-- the words behind the second, as a slice is cut -/
theorem SlS.two {w : World} {g : Nat} {ws : List ByteArray} (h : SlS w (some ⟨g, 0, none⟩) ws) : SlS w (if ws.length = 2 then some ⟨g, 0, none⟩ else some ⟨g, 2, none⟩) (ws.drop 2) := fun k hk => by
  rw [List.length_drop] at hk
  rw [if_neg (by omega)]
  obtain ⟨b, o, e, h1, h2⟩ := h (k + 2) (by omega)
  cases e
  refine ⟨g, 2, rfl, h1, ?_⟩
  rw [show 2 + k = 0 + (k + 2) by omega, h2]
  unfold tk
  rw [List.getElem?_drop, Nat.add_comm 2 k]
/-- what read answers -/
def ReadsIs (s : ByteArray) (w : World) (e : Ending) (w' : World) : Prop := ∃ (r : Bool) (n : ByteArray) (a : Option Addr) (l : List ByteArray) (c : Nat) (x0 x1 x2 x3 x4 x5 x6 x7 : Int), e = .returned (.tuple #[planV n a l.length c x0 x1 x2 x3 x4 x5 x6 x7, .bool r]) ∧ SlS w' a l ∧ l.length ≤ c ∧ Below w.heap.size w w' ∧ (r = false → Pn.readP s = (Pn.zeroP, 3)) ∧ (r = true → Pn.readP s = if Pn.planE ⟨n, l, [x0, x1, x2, x3, x4, x5, x6, x7]⟩ = 0 then (⟨n, l, [x0, x1, x2, x3, x4, x5, x6, x7]⟩, 0) else (Pn.zeroP, Pn.planE ⟨n, l, [x0, x1, x2, x3, x4, x5, x6, x7]⟩)) ∧ n.size ≤ 1024 ∧ (∀ k, k < l.length → (tk l k).size ≤ 1024) ∧ l.length ≤ 1025 ∧ ∀ z, a = some z → w.heap.size ≤ z.block
theorem ReadsIs.short {s : ByteArray} {w W : World} (h : Pn.readP s = (Pn.zeroP, 3)) (hb : Below w.heap.size w W) {t : Value} (ht : t = .bool false) : ReadsIs s w (.returned (.tuple #[planV ⟨#[]⟩ none 0 0 0 0 0 0 0 0 0 0, t])) W := by
  subst ht
  exact ⟨false, ⟨#[]⟩, none, [], 0, 0, 0, 0, 0, 0, 0, 0, 0, rfl, fun k hk => by simp at hk, Nat.le_refl _, hb, fun _ => h, fun q => by simp at q, by decide, fun k hk => by simp at hk, by simp, fun z hz => by cases hz⟩
end Go.Proofs.YtohjipnkoiifhagDoor
