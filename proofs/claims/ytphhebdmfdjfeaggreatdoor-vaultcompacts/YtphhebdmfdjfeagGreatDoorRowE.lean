/-
  Rows of entries in memory (a text and a number each), what an index keeps, and which blocks a call may have written. No walk.
-/
import Derived.Test.YtphhebdmfdjfeagGreatDoorJointPapSPapTPlainIPapCPapE
import Derived.Laws.IdiomCopy
import Derived.Lib.Overlaps
import Derived.Lib.AppendZerosOnto
import Derived.Laws.NewBlocks
namespace Go.Proofs.YtphhebdmfdjfeagGreatDoor
open Go.RowKit

/-- the cells of a row of entries -/
def cel : List Ent → List Value
  | [] => []
  | e :: r => .string e.1 :: .int .i64 e.2 :: cel r
theorem cel_length : ∀ es : List Ent, (cel es).length = es.length * 2
  | [] => rfl
  | e :: r => by simp [cel, cel_length r]; omega
theorem cel_append : ∀ a b : List Ent, cel (a ++ b) = cel a ++ cel b
  | [], _ => rfl
  | e :: a, b => by simp [cel, cel_append a b]
theorem cel_take : ∀ (es : List Ent) (k : Nat), cel (es.take k) = (cel es).take (k * 2)
  | [], k => by simp [cel]
  | e :: r, 0 => by simp [cel]
  | e :: r, k + 1 => by rw [show (k + 1) * 2 = k * 2 + 1 + 1 by omega]; simp [cel, cel_take r k]
theorem cel_drop : ∀ (es : List Ent) (k : Nat), cel (es.drop k) = (cel es).drop (k * 2)
  | [], k => by simp [cel]
  | e :: r, 0 => by simp [cel]
  | e :: r, k + 1 => by rw [show (k + 1) * 2 = k * 2 + 1 + 1 by omega]; simp [cel, cel_drop r k]
theorem cel_text : ∀ (es : List Ent) (k : Nat), k < es.length → (cel es)[k * 2]? = some (.string (en es k).1)
  | [], k, h => absurd h (Nat.not_lt_zero k)
  | e :: r, 0, _ => rfl
  | e :: r, k + 1, h => by
    rw [show (k + 1) * 2 = k * 2 + 1 + 1 by omega]
    simp only [cel, List.getElem?_cons_succ]
    exact cel_text r k (by simpa using h)
theorem cel_num : ∀ (es : List Ent) (k : Nat), k < es.length → (cel es)[k * 2 + 1]? = some (.int .i64 (en es k).2)
  | [], k, h => absurd h (Nat.not_lt_zero k)
  | e :: r, 0, _ => rfl
  | e :: r, k + 1, h => by
    rw [show (k + 1) * 2 + 1 = k * 2 + 1 + 1 + 1 by omega]
    simp only [cel, List.getElem?_cons_succ]
    exact cel_num r k (by simpa using h)
theorem cel_one : ∀ (es : List Ent), ∀ v ∈ cel es, v.oneCell' = true
  | [], v, h => by simp [cel] at h
  | e :: r, v, h => by
    simp only [cel, List.mem_cons] at h
    rcases h with h | h | h
    · subst h; rfl
    · subst h; rfl
    · exact cel_one r v h
theorem cel_set : ∀ (es : List Ent) (k : Nat) (s : ByteArray) (n : Int), k < es.length → (en es k).1 = s → cel (es.set k (s, n)) = (cel es).set (k * 2 + 1) (.int .i64 n)
  | [], k, _, _, h, _ => absurd h (Nat.not_lt_zero k)
  | e :: r, 0, s, n, _, q => by
    have : e.1 = s := q
    simp [cel, this]
  | e :: r, k + 1, s, n, h, q => by
    rw [show (k + 1) * 2 + 1 = k * 2 + 1 + 1 + 1 by omega]
    simp only [List.set_cons_succ, cel]
    rw [cel_set r k s n (by simpa using h) q]
theorem cel_inj : ∀ a b : List Ent, cel a = cel b → a = b
  | [], [], _ => rfl
  | [], _ :: _, h => by simp [cel] at h
  | _ :: _, [], h => by simp [cel] at h
  | (s, n) :: a, (t, m) :: b, h => by
    simp only [cel, List.cons.injEq, Value.string.injEq, Value.int.injEq, true_and] at h
    obtain ⟨h1, h2, h3⟩ := h
    rw [h1, h2, cel_inj a b h3]

theorem infoE : (Tryz.prog.info? 124).map (fun i => (i.zero, i.size, i.bytes)) = some (some (.agg #[.string ByteArray.empty, .int .i64 0]), 2, 24) := by kernel_rfl
/-- a row of entries that is the program's own from block B on -/
def Arr (w : World) (B : Nat) (v : Value) (es : List Ent) : Prop := w.ownsRow B 124 2 v es.length (cel es)
theorem Arr.empty (w : World) (B : Nat) : Arr w B (.slice none 0 0) [] := World.ownsRow_nil w B _ 2
theorem Arr.shape {w : World} {B : Nat} {v : Value} {es : List Ent} (h : Arr w B v es) : ∃ a cap, v = .slice a es.length cap ∧ es.length ≤ cap ∧ cap ≤ maxLen ∧ ∀ g, v.ownBlock = some g → a = some ⟨g, 0, none⟩ ∧ B ≤ g ∧ g < w.heap.size := by
  rcases h.2 with ⟨h1, h2⟩ | ⟨g, cap, cur, h1, h2, h3, h4, h5, h6, h7⟩
  · exact ⟨none, 0, by rw [h1, h2], by omega, by simp [maxLen], fun g hg => by rw [h1] at hg; simp [Value.ownBlock] at hg⟩
  · exact ⟨_, cap, h1, h4, h5, fun k hk => by
      have := h.lt k hk
      rw [h1] at hk
      simp only [Value.ownBlock, Option.some.injEq] at hk
      subst hk
      exact ⟨rfl, this⟩⟩
theorem Arr.there {w : World} {B : Nat} {v : Value} {es : List Ent} (h : Arr w B v es) (hn : 0 < es.length) : ∃ g cap, v = .slice (some ⟨g, 0, none⟩) es.length cap ∧ es.length ≤ cap ∧ cap ≤ maxLen ∧ B ≤ g ∧ g < w.heap.size := by
  rcases h.2 with ⟨h1, h2⟩ | ⟨g, cap, cur, h1, h2, h3, h4, h5, h6, h7⟩
  · omega
  · exact ⟨g, cap, h1, h4, h5, h.lt g (by rw [h1]; rfl)⟩
theorem Arr.text {w : World} {B g cap : Nat} {es : List Ent} (h : Arr w B (.slice (some ⟨g, 0, none⟩) es.length cap) es) {k : Nat} (hk : k < es.length) : w.cell? ⟨g, k * 2, none⟩ = some (.string (en es k).1) := by
  rw [World.ownsRow.cellAt h _ (by omega)]
  exact cel_text es k hk
theorem Arr.num {w : World} {B g cap : Nat} {es : List Ent} (h : Arr w B (.slice (some ⟨g, 0, none⟩) es.length cap) es) {k : Nat} (hk : k < es.length) : w.cell? ⟨g, k * 2 + 1, none⟩ = some (.int .i64 (en es k).2) := by
  rw [World.ownsRow.cellAt h _ (by omega)]
  exact cel_num es k hk
theorem Arr.cell {w : World} {B g cap : Nat} {es : List Ent} (h : Arr w B (.slice (some ⟨g, 0, none⟩) es.length cap) es) (j : Nat) (u : Value) (hj : (cel es)[j]? = some u) : w.cell? ⟨g, j, none⟩ = some u := by
  have hl : j < es.length * 2 := by
    rw [← cel_length]
    rcases Nat.lt_or_ge j (cel es).length with q | q
    · exact q
    · rw [List.getElem?_eq_none q] at hj; cases hj
  rw [World.ownsRow.cellAt h _ hl]
  exact hj
theorem Arr.below {w w' : World} {B : Nat} {v : Value} {es : List Ent} (h : Arr w B v es) (hb : Below w.heap.size w w') : Arr w' B v es := by
  refine ⟨h.1, ?_⟩
  rcases h.2 with q | ⟨g, cap, cur, h1, h2, h3, r⟩
  · exact .inl q
  · refine .inr ⟨g, cap, cur, h1, h2, ?_, r⟩
    rw [hb.block g (h.lt g (by rw [h1]; rfl)).2]
    exact h3

/-- which blocks may have been written; new ones may be there -/
structure Chg (A : Nat → Prop) (w w' : World) : Prop where
  os : w'.os = w.os
  tape : w'.tape = w.tape
  output : w'.output = w.output
  size : w.heap.size ≤ w'.heap.size
  block : ∀ k, k < w.heap.size → ¬ A k → w'.heap[k]? = w.heap[k]?
theorem Chg.refl (A : Nat → Prop) (w : World) : Chg A w w := ⟨rfl, rfl, rfl, Nat.le_refl _, fun _ _ _ => rfl⟩
theorem Chg.trans {A : Nat → Prop} {a b c : World} (h : Chg A a b) (k : Chg A b c) : Chg A a c :=
  ⟨k.os.trans h.os, k.tape.trans h.tape, k.output.trans h.output, Nat.le_trans h.size k.size, fun i hi hn => (k.block i (by have := h.size; omega) hn).trans (h.block i hi hn)⟩
theorem Chg.mono {A A' : Nat → Prop} {a b : World} (h : Chg A a b) (hA : ∀ k, k < a.heap.size → A k → A' k) : Chg A' a b :=
  ⟨h.os, h.tape, h.output, h.size, fun k hk hn => h.block k hk (fun q => hn (hA k hk q))⟩
theorem Chg.of_below {A : Nat → Prop} {w w' : World} (h : Below w.heap.size w w') : Chg A w w' := ⟨h.os, h.tape, h.output, h.size, fun k hk _ => h.block k hk⟩
theorem Chg.of_grown {w w' : World} {row : Option Nat} (h : w.grownBy w' row) : Chg (fun k => row = some k) w w' := ⟨h.os, h.tape, h.output, h.size, fun k hk hn => h.block k hk (fun e => hn e.symm)⟩
theorem Chg.setCell {A : Nat → Prop} {a w : World} (h : Chg A a w) {p : Addr} (hp : A p.block ∨ a.heap.size ≤ p.block) (u : Value) : Chg A a (w.setCell p u) := by
  refine ⟨h.os, h.tape, h.output, by simpa [World.setCell] using h.size, fun k hk hn => ?_⟩
  rw [Below.heap_setCell _ _ _ _ (fun e => by subst e; rcases hp with q | q; exact hn q; omega)]
  exact h.block k hk hn
theorem Chg.below {A : Nat → Prop} {B : Nat} {w w' : World} (h : Chg A w w') (hB : B ≤ w.heap.size) (hA : ∀ k, k < B → ¬ A k) : Below B w w' := ⟨h.os, h.tape, h.output, h.size, fun k hk => h.block k (by omega) (hA k hk)⟩
theorem Chg.cell {A : Nat → Prop} {w w' : World} (h : Chg A w w') {p : Addr} (hp : p.block < w.heap.size) (hn : ¬ A p.block) : w'.cell? p = w.cell? p := World.cell?_of_block (w := w) (h.block p.block hp hn)
theorem Chg.frozen {A : Nat → Prop} {w w' : World} (h : Chg A w w') {p : Addr} (hp : p.block < w.heap.size) (hn : ¬ A p.block) : w'.frozen? p = w.frozen? p := World.frozen?_of_block (w := w) (h.block p.block hp hn)
theorem Arr.chg {A : Nat → Prop} {w w' : World} {B : Nat} {v : Value} {es : List Ent} (h : Arr w B v es) (hb : Chg A w w') (hn : ∀ g, v.ownBlock = some g → ¬ A g) : Arr w' B v es := by
  refine ⟨h.1, ?_⟩
  rcases h.2 with q | ⟨g, cap, cur, h1, h2, h3, r⟩
  · exact .inl q
  · refine .inr ⟨g, cap, cur, h1, h2, ?_, r⟩
    rw [hb.block g (h.lt g (by rw [h1]; rfl)).2 (hn g (by rw [h1]; rfl))]
    exact h3

/-- an index, or the document's: cell o of the block p holds the slice v of the entries es -/
structure KeepsO (o : Nat) (w : World) (B p : Nat) (v : Value) (es : List Ent) : Prop where
  cell : w.cell? ⟨p, o, none⟩ = some v
  free : w.frozen? ⟨p, o, none⟩ = false
  base : B ≤ p
  lt : p < w.heap.size
  arr : Arr w B v es
  apart : v.ownBlock ≠ some p
abbrev Keeps (w : World) (B p : Nat) (v : Value) (es : List Ent) : Prop := KeepsO 0 w B p v es
def foot (p : Nat) (v : Value) (k : Nat) : Prop := k = p ∨ v.ownBlock = some k
theorem KeepsO.below {o : Nat} {w w' : World} {B p : Nat} {v : Value} {es : List Ent} (h : KeepsO o w B p v es) (hb : Below w.heap.size w w') : KeepsO o w' B p v es :=
  ⟨by rw [hb.cell (p := ⟨p, o, none⟩) h.lt]; exact h.cell, by rw [hb.frozen (p := ⟨p, o, none⟩) h.lt]; exact h.free, h.base, by have := hb.size; have := h.lt; omega, h.arr.below hb, h.apart⟩
theorem KeepsO.chg {o : Nat} {A : Nat → Prop} {w w' : World} {B p : Nat} {v : Value} {es : List Ent} (h : KeepsO o w B p v es) (hb : Chg A w w') (hn : ∀ k, foot p v k → ¬ A k) : KeepsO o w' B p v es :=
  ⟨by rw [hb.cell (p := ⟨p, o, none⟩) h.lt (hn p (.inl rfl))]; exact h.cell, by rw [hb.frozen (p := ⟨p, o, none⟩) h.lt (hn p (.inl rfl))]; exact h.free, h.base, by have := hb.size; have := h.lt; omega, h.arr.chg hb (fun g hg => hn g (.inr hg)), h.apart⟩
/-- of the block p all cells but o are as they were -/
structure Side (o p : Nat) (w w' : World) : Prop where
  cell : ∀ j, j ≠ o → w'.cell? ⟨p, j, none⟩ = w.cell? ⟨p, j, none⟩
  free : ∀ j, w'.frozen? ⟨p, j, none⟩ = w.frozen? ⟨p, j, none⟩
theorem Side.trans {o p : Nat} {a b c : World} (h : Side o p a b) (k : Side o p b c) : Side o p a c := ⟨fun j hj => (k.cell j hj).trans (h.cell j hj), fun j => (k.free j).trans (h.free j)⟩
theorem Side.chg {o p : Nat} {A : Nat → Prop} {w w' : World} (h : Chg A w w') (hp : p < w.heap.size) (hn : ¬ A p) : Side o p w w' := ⟨fun j _ => h.cell (p := ⟨p, j, none⟩) hp hn, fun j => h.frozen (p := ⟨p, j, none⟩) hp hn⟩
theorem Side.below {o p : Nat} {w w' : World} (h : Below w.heap.size w w') (hp : p < w.heap.size) : Side o p w w' := Side.chg (A := fun _ => False) (Chg.of_below h) hp (fun z => z)
theorem Side.set {o p : Nat} {w : World} (v : Value) : Side o p w (w.setCell ⟨p, o, none⟩ v) := ⟨fun j hj => by rw [World.cell?_setCell_other _ _ _ _ (by simp <;> omega)], fun j => World.frozen?_setCell _ _ _ _⟩
theorem Side.other {o p g j : Nat} {w : World} (v : Value) (h : g ≠ p) : Side o p w (w.setCell ⟨g, j, none⟩ v) := ⟨fun i hi => by rw [World.cell?_setCell_other _ _ _ _ (by simp <;> omega)], fun i => World.frozen?_setCell _ _ _ _⟩
/-- the new slice is stored in the block -/
theorem KeepsO.store {o : Nat} {w w' : World} {B p : Nat} {v v' : Value} {es es' : List Ent} (h : KeepsO o w B p v es) (hb : Chg (fun k => v.ownBlock = some k) w w') (ha : Arr w' B v' es') (hv : ∀ g, v'.ownBlock = some g → v.ownBlock = some g ∨ w.heap.size ≤ g) :
    KeepsO o (w'.setCell ⟨p, o, none⟩ v') B p v' es' ∧ Chg (foot p v) w (w'.setCell ⟨p, o, none⟩ v') := by
  have hne : v'.ownBlock ≠ some p := fun e => by
    rcases hv p e with q | q
    · exact h.apart q
    · have := h.lt; omega
  have hc : w'.cell? ⟨p, o, none⟩ = some v := by rw [hb.cell (p := ⟨p, o, none⟩) h.lt h.apart]; exact h.cell
  refine ⟨⟨World.cell?_setCell_same _ _ _ hc, ?_, h.base, ?_, ?_, hne⟩, ?_⟩
  · rw [World.frozen?_setCell, hb.frozen (p := ⟨p, o, none⟩) h.lt h.apart]; exact h.free
  · have := hb.size; have := h.lt; simp [World.setCell]; omega
  · refine ha.chg (A := fun k => k = p) (Chg.setCell (A := fun k => k = p) (p := ⟨p, o, none⟩) (Chg.refl _ _) (.inl rfl) _) (fun g hg e => ?_)
    subst e
    exact hne hg
  · exact (hb.mono (fun k _ q => .inr q)).setCell (.inl (.inl rfl)) _
/-- the number of an entry is stored -/
theorem KeepsO.number {o : Nat} {w : World} {B p g cap : Nat} {es : List Ent} (h : KeepsO o w B p (.slice (some ⟨g, 0, none⟩) es.length cap) es) {k : Nat} (hk : k < es.length) {s : ByteArray} (hs : (en es k).1 = s) (n : Int) :
    KeepsO o (w.setCell ⟨g, k * 2 + 1, none⟩ (.int .i64 n)) B p (.slice (some ⟨g, 0, none⟩) es.length cap) (es.set k (s, n)) ∧ Chg (foot p (.slice (some ⟨g, 0, none⟩) es.length cap)) w (w.setCell ⟨g, k * 2 + 1, none⟩ (.int .i64 n)) := by
  have hgp : g ≠ p := fun e => h.apart (by rw [e]; rfl)
  have hst := (World.ownsRow.stored h.arr (k * 2 + 1) (.int .i64 n)).1
  refine ⟨⟨?_, ?_, h.base, ?_, ?_, h.apart⟩, ?_⟩
  · rw [World.cell?_setCell_other _ _ _ _ (by simp <;> omega)]
    exact h.cell
  · rw [World.frozen?_setCell]; exact h.free
  · have := h.lt; simpa [World.setCell] using this
  · unfold Arr
    rw [List.length_set, cel_set es k s n hk hs]
    exact hst
  · exact (Chg.refl _ _).setCell (.inl (.inr rfl)) _
end Go.Proofs.YtphhebdmfdjfeagGreatDoor
