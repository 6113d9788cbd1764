/-
  Rows of entries in memory (a text and a number each), what an index keeps, and which blocks a call may have written. No walk.
  Contracts of cmp.Compare at texts, slices.Compare at rows of texts, index.byTokens and the closure of index.place: the order of rows of tokens.
  Contracts of slices.BinarySearchFunc at entries, index.place, lookUp, New, Count, Get: where a subject is in a list that lies in order.
-/
import Derived.Test.YtohjipnkoiifhagGreatDoorJointWalkSplitWalk2Plain2Plain5PlainKWalk5aWalk5PlainI
import Derived.Laws.IdiomCopy
import Derived.Lib.Overlaps
import Derived.Lib.AppendZerosOnto
import Derived.Laws.NewBlocks
import Derived.Laws.Cover1
namespace Go.Proofs.YtohjipnkoiifhagGreatDoor
open Go.RowKit

/-- the cells of a row of entries -/
def cel : List Ent → List Value
  | [] => []
  | e :: r => .string e.1 :: .int .i64 e.2 :: cel r
theorem cel_length : ∀ es : List Ent, (cel es).length = es.length * 2
  | [] => rfl
  | e :: r => by simp [cel, cel_length r]; omega
theorem cel_append : ∀ a b : List Ent, cel (a ++ b) = cel a ++ cel b
  | [], _ => rfl
  | e :: a, b => by simp [cel, cel_append a b]
theorem cel_take : ∀ (es : List Ent) (k : Nat), cel (es.take k) = (cel es).take (k * 2)
  | [], k => by simp [cel]
  | e :: r, 0 => by simp [cel]
  | e :: r, k + 1 => by rw [show (k + 1) * 2 = k * 2 + 1 + 1 by omega]; simp [cel, cel_take r k]
theorem cel_drop : ∀ (es : List Ent) (k : Nat), cel (es.drop k) = (cel es).drop (k * 2)
  | [], k => by simp [cel]
  | e :: r, 0 => by simp [cel]
  | e :: r, k + 1 => by rw [show (k + 1) * 2 = k * 2 + 1 + 1 by omega]; simp [cel, cel_drop r k]
theorem cel_text : ∀ (es : List Ent) (k : Nat), k < es.length → (cel es)[k * 2]? = some (.string (en es k).1)
  | [], k, h => absurd h (Nat.not_lt_zero k)
  | e :: r, 0, _ => rfl
  | e :: r, k + 1, h => by
    rw [show (k + 1) * 2 = k * 2 + 1 + 1 by omega]
    simp only [cel, List.getElem?_cons_succ]
    exact cel_text r k (by simpa using h)
theorem cel_num : ∀ (es : List Ent) (k : Nat), k < es.length → (cel es)[k * 2 + 1]? = some (.int .i64 (en es k).2)
  | [], k, h => absurd h (Nat.not_lt_zero k)
  | e :: r, 0, _ => rfl
  | e :: r, k + 1, h => by
    rw [show (k + 1) * 2 + 1 = k * 2 + 1 + 1 + 1 by omega]
    simp only [cel, List.getElem?_cons_succ]
    exact cel_num r k (by simpa using h)
theorem cel_one : ∀ (es : List Ent), ∀ v ∈ cel es, v.oneCell' = true
  | [], v, h => by simp [cel] at h
  | e :: r, v, h => by
    simp only [cel, List.mem_cons] at h
    rcases h with h | h | h
    · subst h; rfl
    · subst h; rfl
    · exact cel_one r v h
theorem cel_set : ∀ (es : List Ent) (k : Nat) (s : ByteArray) (n : Int), k < es.length → (en es k).1 = s → cel (es.set k (s, n)) = (cel es).set (k * 2 + 1) (.int .i64 n)
  | [], k, _, _, h, _ => absurd h (Nat.not_lt_zero k)
  | e :: r, 0, s, n, _, q => by
    have : e.1 = s := q
    simp [cel, this]
  | e :: r, k + 1, s, n, h, q => by
    rw [show (k + 1) * 2 + 1 = k * 2 + 1 + 1 + 1 by omega]
    simp only [List.set_cons_succ, cel]
    rw [cel_set r k s n (by simpa using h) q]
theorem cel_inj : ∀ a b : List Ent, cel a = cel b → a = b
  | [], [], _ => rfl
  | [], _ :: _, h => by simp [cel] at h
  | _ :: _, [], h => by simp [cel] at h
  | (s, n) :: a, (t, m) :: b, h => by
    simp only [cel, List.cons.injEq, Value.string.injEq, Value.int.injEq, true_and] at h
    obtain ⟨h1, h2, h3⟩ := h
    rw [h1, h2, cel_inj a b h3]

theorem infoE : (Tryz.prog.info? 59).map (fun i => (i.zero, i.size, i.bytes)) = some (some (.agg #[.string ByteArray.empty, .int .i64 0]), 2, 24) := by kernel_rfl
/-- a row of entries that is the program's own from block B on -/
def Arr (w : World) (B : Nat) (v : Value) (es : List Ent) : Prop := w.ownsRow B 59 2 v es.length (cel es)
theorem Arr.empty (w : World) (B : Nat) : Arr w B (.slice none 0 0) [] := World.ownsRow_nil w B _ 2
theorem Arr.shape {w : World} {B : Nat} {v : Value} {es : List Ent} (h : Arr w B v es) : ∃ a cap, v = .slice a es.length cap ∧ es.length ≤ cap ∧ cap ≤ maxLen ∧ ∀ g, v.ownBlock = some g → a = some ⟨g, 0, none⟩ ∧ B ≤ g ∧ g < w.heap.size := by
  rcases h.2 with ⟨h1, h2⟩ | ⟨g, cap, cur, h1, h2, h3, h4, h5, h6, h7⟩
  · exact ⟨none, 0, by rw [h1, h2], by omega, by simp [maxLen], fun g hg => by rw [h1] at hg; simp [Value.ownBlock] at hg⟩
  · exact ⟨_, cap, h1, h4, h5, fun k hk => by
      have := h.lt k hk
      rw [h1] at hk
      simp only [Value.ownBlock, Option.some.injEq] at hk
      subst hk
      exact ⟨rfl, this⟩⟩
theorem Arr.there {w : World} {B : Nat} {v : Value} {es : List Ent} (h : Arr w B v es) (hn : 0 < es.length) : ∃ g cap, v = .slice (some ⟨g, 0, none⟩) es.length cap ∧ es.length ≤ cap ∧ cap ≤ maxLen ∧ B ≤ g ∧ g < w.heap.size := by
  rcases h.2 with ⟨h1, h2⟩ | ⟨g, cap, cur, h1, h2, h3, h4, h5, h6, h7⟩
  · omega
  · exact ⟨g, cap, h1, h4, h5, h.lt g (by rw [h1]; rfl)⟩
theorem Arr.text {w : World} {B g cap : Nat} {es : List Ent} (h : Arr w B (.slice (some ⟨g, 0, none⟩) es.length cap) es) {k : Nat} (hk : k < es.length) : w.cell? ⟨g, k * 2, none⟩ = some (.string (en es k).1) := by
  rw [World.ownsRow.cellAt h _ (by omega)]
  exact cel_text es k hk
theorem Arr.num {w : World} {B g cap : Nat} {es : List Ent} (h : Arr w B (.slice (some ⟨g, 0, none⟩) es.length cap) es) {k : Nat} (hk : k < es.length) : w.cell? ⟨g, k * 2 + 1, none⟩ = some (.int .i64 (en es k).2) := by
  rw [World.ownsRow.cellAt h _ (by omega)]
  exact cel_num es k hk
theorem Arr.cell {w : World} {B g cap : Nat} {es : List Ent} (h : Arr w B (.slice (some ⟨g, 0, none⟩) es.length cap) es) (j : Nat) (u : Value) (hj : (cel es)[j]? = some u) : w.cell? ⟨g, j, none⟩ = some u := by
  have hl : j < es.length * 2 := by
    rw [← cel_length]
    rcases Nat.lt_or_ge j (cel es).length with q | q
    · exact q
    · rw [List.getElem?_eq_none q] at hj; cases hj
  rw [World.ownsRow.cellAt h _ hl]
  exact hj
theorem Arr.below {w w' : World} {B : Nat} {v : Value} {es : List Ent} (h : Arr w B v es) (hb : Below w.heap.size w w') : Arr w' B v es := by
  refine ⟨h.1, ?_⟩
  rcases h.2 with q | ⟨g, cap, cur, h1, h2, h3, r⟩
  · exact .inl q
  · refine .inr ⟨g, cap, cur, h1, h2, ?_, r⟩
    rw [hb.block g (h.lt g (by rw [h1]; rfl)).2]
    exact h3

/-- which blocks may have been written; new ones may be there -/
structure Chg (A : Nat → Prop) (w w' : World) : Prop where
  os : w'.os = w.os
  tape : w'.tape = w.tape
  output : w'.output = w.output
  size : w.heap.size ≤ w'.heap.size
  block : ∀ k, k < w.heap.size → ¬ A k → w'.heap[k]? = w.heap[k]?
theorem Chg.refl (A : Nat → Prop) (w : World) : Chg A w w := ⟨rfl, rfl, rfl, Nat.le_refl _, fun _ _ _ => rfl⟩
theorem Chg.trans {A : Nat → Prop} {a b c : World} (h : Chg A a b) (k : Chg A b c) : Chg A a c :=
  ⟨k.os.trans h.os, k.tape.trans h.tape, k.output.trans h.output, Nat.le_trans h.size k.size, fun i hi hn => (k.block i (by have := h.size; omega) hn).trans (h.block i hi hn)⟩
theorem Chg.mono {A A' : Nat → Prop} {a b : World} (h : Chg A a b) (hA : ∀ k, k < a.heap.size → A k → A' k) : Chg A' a b :=
  ⟨h.os, h.tape, h.output, h.size, fun k hk hn => h.block k hk (fun q => hn (hA k hk q))⟩
theorem Chg.of_below {A : Nat → Prop} {w w' : World} (h : Below w.heap.size w w') : Chg A w w' := ⟨h.os, h.tape, h.output, h.size, fun k hk _ => h.block k hk⟩
theorem Chg.of_grown {w w' : World} {row : Option Nat} (h : w.grownBy w' row) : Chg (fun k => row = some k) w w' := ⟨h.os, h.tape, h.output, h.size, fun k hk hn => h.block k hk (fun e => hn e.symm)⟩
theorem Chg.setCell {A : Nat → Prop} {a w : World} (h : Chg A a w) {p : Addr} (hp : A p.block ∨ a.heap.size ≤ p.block) (u : Value) : Chg A a (w.setCell p u) := by
  refine ⟨h.os, h.tape, h.output, by simpa [World.setCell] using h.size, fun k hk hn => ?_⟩
  rw [Below.heap_setCell _ _ _ _ (fun e => by subst e; rcases hp with q | q; exact hn q; omega)]
  exact h.block k hk hn
theorem Chg.below {A : Nat → Prop} {B : Nat} {w w' : World} (h : Chg A w w') (hB : B ≤ w.heap.size) (hA : ∀ k, k < B → ¬ A k) : Below B w w' := ⟨h.os, h.tape, h.output, h.size, fun k hk => h.block k (by omega) (hA k hk)⟩
theorem Chg.cell {A : Nat → Prop} {w w' : World} (h : Chg A w w') {p : Addr} (hp : p.block < w.heap.size) (hn : ¬ A p.block) : w'.cell? p = w.cell? p := World.cell?_of_block (w := w) (h.block p.block hp hn)
theorem Chg.frozen {A : Nat → Prop} {w w' : World} (h : Chg A w w') {p : Addr} (hp : p.block < w.heap.size) (hn : ¬ A p.block) : w'.frozen? p = w.frozen? p := World.frozen?_of_block (w := w) (h.block p.block hp hn)
theorem Arr.chg {A : Nat → Prop} {w w' : World} {B : Nat} {v : Value} {es : List Ent} (h : Arr w B v es) (hb : Chg A w w') (hn : ∀ g, v.ownBlock = some g → ¬ A g) : Arr w' B v es := by
  refine ⟨h.1, ?_⟩
  rcases h.2 with q | ⟨g, cap, cur, h1, h2, h3, r⟩
  · exact .inl q
  · refine .inr ⟨g, cap, cur, h1, h2, ?_, r⟩
    rw [hb.block g (h.lt g (by rw [h1]; rfl)).2 (hn g (by rw [h1]; rfl))]
    exact h3

/-- an index, or the document's: cell o of the block p holds the slice v of the entries es -/
structure KeepsO (o : Nat) (w : World) (B p : Nat) (v : Value) (es : List Ent) : Prop where
  cell : w.cell? ⟨p, o, none⟩ = some v
  free : w.frozen? ⟨p, o, none⟩ = false
  base : B ≤ p
  lt : p < w.heap.size
  arr : Arr w B v es
  apart : v.ownBlock ≠ some p
abbrev Keeps (w : World) (B p : Nat) (v : Value) (es : List Ent) : Prop := KeepsO 0 w B p v es
def foot (p : Nat) (v : Value) (k : Nat) : Prop := k = p ∨ v.ownBlock = some k
theorem KeepsO.below {o : Nat} {w w' : World} {B p : Nat} {v : Value} {es : List Ent} (h : KeepsO o w B p v es) (hb : Below w.heap.size w w') : KeepsO o w' B p v es :=
  ⟨by rw [hb.cell (p := ⟨p, o, none⟩) h.lt]; exact h.cell, by rw [hb.frozen (p := ⟨p, o, none⟩) h.lt]; exact h.free, h.base, by have := hb.size; have := h.lt; omega, h.arr.below hb, h.apart⟩
theorem KeepsO.chg {o : Nat} {A : Nat → Prop} {w w' : World} {B p : Nat} {v : Value} {es : List Ent} (h : KeepsO o w B p v es) (hb : Chg A w w') (hn : ∀ k, foot p v k → ¬ A k) : KeepsO o w' B p v es :=
  ⟨by rw [hb.cell (p := ⟨p, o, none⟩) h.lt (hn p (.inl rfl))]; exact h.cell, by rw [hb.frozen (p := ⟨p, o, none⟩) h.lt (hn p (.inl rfl))]; exact h.free, h.base, by have := hb.size; have := h.lt; omega, h.arr.chg hb (fun g hg => hn g (.inr hg)), h.apart⟩
/-- of the block p all cells but o are as they were -/
structure Side (o p : Nat) (w w' : World) : Prop where
  cell : ∀ j, j ≠ o → w'.cell? ⟨p, j, none⟩ = w.cell? ⟨p, j, none⟩
  free : ∀ j, w'.frozen? ⟨p, j, none⟩ = w.frozen? ⟨p, j, none⟩
theorem Side.trans {o p : Nat} {a b c : World} (h : Side o p a b) (k : Side o p b c) : Side o p a c := ⟨fun j hj => (k.cell j hj).trans (h.cell j hj), fun j => (k.free j).trans (h.free j)⟩
theorem Side.chg {o p : Nat} {A : Nat → Prop} {w w' : World} (h : Chg A w w') (hp : p < w.heap.size) (hn : ¬ A p) : Side o p w w' := ⟨fun j _ => h.cell (p := ⟨p, j, none⟩) hp hn, fun j => h.frozen (p := ⟨p, j, none⟩) hp hn⟩
theorem Side.below {o p : Nat} {w w' : World} (h : Below w.heap.size w w') (hp : p < w.heap.size) : Side o p w w' := Side.chg (A := fun _ => False) (Chg.of_below h) hp (fun z => z)
theorem Side.set {o p : Nat} {w : World} (v : Value) : Side o p w (w.setCell ⟨p, o, none⟩ v) := ⟨fun j hj => by rw [World.cell?_setCell_other _ _ _ _ (by simp <;> omega)], fun j => World.frozen?_setCell _ _ _ _⟩
theorem Side.other {o p g j : Nat} {w : World} (v : Value) (h : g ≠ p) : Side o p w (w.setCell ⟨g, j, none⟩ v) := ⟨fun i hi => by rw [World.cell?_setCell_other _ _ _ _ (by simp <;> omega)], fun i => World.frozen?_setCell _ _ _ _⟩
/-- the new slice is stored in the block -/
theorem KeepsO.store {o : Nat} {w w' : World} {B p : Nat} {v v' : Value} {es es' : List Ent} (h : KeepsO o w B p v es) (hb : Chg (fun k => v.ownBlock = some k) w w') (ha : Arr w' B v' es') (hv : ∀ g, v'.ownBlock = some g → v.ownBlock = some g ∨ w.heap.size ≤ g) :
    KeepsO o (w'.setCell ⟨p, o, none⟩ v') B p v' es' ∧ Chg (foot p v) w (w'.setCell ⟨p, o, none⟩ v') := by
  have hne : v'.ownBlock ≠ some p := fun e => by
    rcases hv p e with q | q
    · exact h.apart q
    · have := h.lt; omega
  have hc : w'.cell? ⟨p, o, none⟩ = some v := by rw [hb.cell (p := ⟨p, o, none⟩) h.lt h.apart]; exact h.cell
  refine ⟨⟨World.cell?_setCell_same _ _ _ hc, ?_, h.base, ?_, ?_, hne⟩, ?_⟩
  · rw [World.frozen?_setCell, hb.frozen (p := ⟨p, o, none⟩) h.lt h.apart]; exact h.free
  · have := hb.size; have := h.lt; simp [World.setCell]; omega
  · refine ha.chg (A := fun k => k = p) (Chg.setCell (A := fun k => k = p) (p := ⟨p, o, none⟩) (Chg.refl _ _) (.inl rfl) _) (fun g hg e => ?_)
    subst e
    exact hne hg
  · exact (hb.mono (fun k _ q => .inr q)).setCell (.inl (.inl rfl)) _
/-- the number of an entry is stored -/
theorem KeepsO.number {o : Nat} {w : World} {B p g cap : Nat} {es : List Ent} (h : KeepsO o w B p (.slice (some ⟨g, 0, none⟩) es.length cap) es) {k : Nat} (hk : k < es.length) {s : ByteArray} (hs : (en es k).1 = s) (n : Int) :
    KeepsO o (w.setCell ⟨g, k * 2 + 1, none⟩ (.int .i64 n)) B p (.slice (some ⟨g, 0, none⟩) es.length cap) (es.set k (s, n)) ∧ Chg (foot p (.slice (some ⟨g, 0, none⟩) es.length cap)) w (w.setCell ⟨g, k * 2 + 1, none⟩ (.int .i64 n)) := by
  have hgp : g ≠ p := fun e => h.apart (by rw [e]; rfl)
  have hst := (World.ownsRow.stored h.arr (k * 2 + 1) (.int .i64 n)).1
  refine ⟨⟨?_, ?_, h.base, ?_, ?_, h.apart⟩, ?_⟩
  · rw [World.cell?_setCell_other _ _ _ _ (by simp <;> omega)]
    exact h.cell
  · rw [World.frozen?_setCell]; exact h.free
  · have := h.lt; simpa [World.setCell] using this
  · unfold Arr
    rw [List.length_set, cel_set es k s n hk hs]
    exact hst
  · exact (Chg.refl _ _).setCell (.inl (.inr rfl)) _
end Go.Proofs.YtohjipnkoiifhagGreatDoor

namespace Go.Proofs.YtohjipnkoiifhagGreatDoor
open Go.RowKit

set_option maxHeartbeats 400000 in
theorem nan_any (x : ByteArray) (w : World) :
    Calls Tryz.prog 194 #[.string x] w fun e w' => e = .returned (.bool false) ∧ w' = w := by
  go_enter Tryz.func194, Tryz.ntmps194
  go_wp2
  go_ret
  exact ⟨ret_bool (by simp), rfl⟩

set_option maxHeartbeats 400000 in
theorem cmps_any (x y : ByteArray) (w : World) :
    Calls Tryz.prog 181 #[.string x, .string y] w fun e w' => e = .returned (.int .i64 (cmpS x y)) ∧ w' = w := by
  cases h1 : Op.bytesLess x.toList y.toList <;> cases h2 : (x.toList == y.toList)
  all_goals
    have hr : cmpS x y = (if Op.bytesLess x.toList y.toList = true then -1 else if (x.toList == y.toList) = true then 0 else 1) := rfl
    rw [h1, h2] at hr
    simp at hr
    have Hr := hide hr
    clear hr
    go_enter Tryz.func181, Tryz.ntmps181
    go_wp2_with (first | (go_at_call 194; refine (nan_any _ _).mono ?_; rintro e w' ⟨rfl, rfl⟩))
    go_ret
    exact ⟨ret_eq (unhide Hr), rfl⟩

theorem cmp_step {f g : List ByteArray} {k : Nat} (hf : k < f.length) (hg : k < g.length) : cmpL (f.drop k) (g.drop k) = if eqB (tk f k) (tk g k) then cmpL (f.drop (k + 1)) (g.drop (k + 1)) else if ltS (tk f k) (tk g k) then -1 else 1 := by
  rw [drop_tk hf, drop_tk hg, cmpL]
theorem cmp_long {f g : List ByteArray} {k : Nat} (hf : k < f.length) (hg : ¬ k < g.length) : cmpL (f.drop k) (g.drop k) = 1 := by
  have e : g.drop k = [] := List.drop_of_length_le (by omega)
  rw [drop_tk hf, e, cmpL]
theorem cmp_short {f g : List ByteArray} {k : Nat} (hf : ¬ k < f.length) (hg : k < g.length) : cmpL (f.drop k) (g.drop k) = -1 := by
  have e : f.drop k = [] := List.drop_of_length_le (by omega)
  rw [drop_tk hg, e, cmpL]
theorem cmp_both {f g : List ByteArray} {k : Nat} (hf : ¬ k < f.length) (hg : ¬ k < g.length) : cmpL (f.drop k) (g.drop k) = 0 := by
  rw [List.drop_of_length_le (by omega), List.drop_of_length_le (by omega), cmpL]

set_option maxHeartbeats 1000000 in
theorem cmpl_any (bf bg : Nat) (f g : List ByteArray) (w : World) (hf : Row w bf 0 f) (hg : Row w bg 0 g) (nf : f.length ≤ 8) :
    Calls Tryz.prog 162 #[.slice (some ⟨bf, 0, none⟩) f.length f.length, .slice (some ⟨bg, 0, none⟩) g.length g.length] w fun e w' => e = .returned (.int .i64 (cmpL f g)) ∧ w' = w := by
  have hcf : ∀ k, k < f.length → w.cell? ⟨bf, k, none⟩ = some (.string (tk f k)) := fun k hk => by have := hf k hk; rwa [Nat.zero_add] at this
  have hcg : ∀ k, k < g.length → w.cell? ⟨bg, k, none⟩ = some (.string (tk g k)) := fun k hk => by have := hg k hk; rwa [Nat.zero_add] at this
  clear hf hg
  go_enter Tryz.func162, Tryz.ntmps162
  go_wp2
  go_loop [11] (fun i => ∃ k : Nat, k ≤ f.length ∧ k ≤ g.length ∧ i = .int .i64 k ∧ Hid (cmpL f g = cmpL (f.drop k) (g.drop k))) (fun i => f.length - (intOf i).toNat)
  case atStart => exact ⟨0, Nat.zero_le _, Nat.zero_le _, rfl, hide rfl⟩
  case round =>
    obtain ⟨k, hk, hk2, rfl, hq⟩ := hrel
    by_cases hlt : k < f.length
    · have hc1 := hcf k hlt
      by_cases hlg : k < g.length
      · have hc2 := hcg k hlg
        have Hs := hide (cmp_step hlt hlg)
        clear hcf hcg
        cases he : eqB (tk f k) (tk g k) with
        | true =>
          have Hc := hide (cmpS_eq he)
          have He := hide he
          clear he
          go_wp2_with (first | (go_at_call 181; refine (cmps_any _ _ _).mono ?_; rintro e w' ⟨rfl, rfl⟩; rw [unhide Hc]))
          go_round
          case rel => exact ⟨k + 1, by omega, by omega, by go_num, hide (by rw [unhide hq, unhide Hs, if_pos (unhide He)])⟩
          case measure => simp [intOf]; omega
        | false =>
          cases hl : ltS (tk f k) (tk g k)
          all_goals
            have Hc := hide (show cmpS (tk f k) (tk g k) = (if ltS (tk f k) (tk g k) = true then -1 else if eqB (tk f k) (tk g k) = true then 0 else 1) from rfl)
            have Hs2 : Hid (cmpL f g = (if ltS (tk f k) (tk g k) = true then -1 else 1)) := hide (by rw [unhide hq, unhide Hs, if_neg (by rw [he]; simp)])
            rw [hl] at Hs2
            rw [hl, he] at Hc
            clear hl he
            go_wp2_with (first | (go_at_call 181; refine (cmps_any _ _ _).mono ?_; rintro e w' ⟨rfl, rfl⟩; rw [unhide Hc]; simp only [Bool.false_eq_true, if_false, if_true]))
            go_ret
            exact ⟨ret_eq (by rw [unhide Hs2]; simp), rfl⟩
      · clear hcf hcg
        have Hs := hide (cmp_long hlt hlg)
        go_wp2
        go_ret
        exact ⟨ret_eq (by rw [unhide hq]; exact unhide Hs), rfl⟩
    · clear hcf hcg
      by_cases hlg : k < g.length
      · have Hs := hide (cmp_short hlt hlg)
        go_wp2
        go_ret
        exact ⟨ret_eq (by rw [unhide hq]; exact unhide Hs), rfl⟩
      · have Hs := hide (cmp_both hlt hlg)
        go_wp2
        go_ret
        exact ⟨ret_eq (by rw [unhide hq]; exact unhide Hs), rfl⟩

def cmpT (a b : ByteArray) : Int := cmpL (Pl.toks a) (Pl.toks b)
set_option maxHeartbeats 400000 in
theorem bytok_any (a b : ByteArray) (w : World) (ha : a.size ≤ 140737488355328) (hb : b.size ≤ 140737488355328) (na : (Pl.toks a).length ≤ 8) (nb : (Pl.toks b).length ≤ 8) :
    Calls Tryz.prog 145 #[.string a, .string b] w fun e w' => e = .returned (.int .i64 (cmpT a b)) ∧ Below w.heap.size w w' := by
  go_enter Tryz.func145, Tryz.ntmps145
  go_wp2_with fail
  refine (split_few a _ ha na).mono ?_
  rintro e w1 ⟨b1, rfl, h1, h2, h3, h4⟩
  go_wp2_with fail
  refine (split_few b _ hb nb).mono ?_
  rintro e w2 ⟨b2, rfl, g1, g2, g3, g4⟩
  go_wp2_with fail
  refine (cmpl_any b1 b2 _ _ _ (h4.below g3 h2) g4 na).mono ?_
  rintro e w3 ⟨rfl, rfl⟩
  go_wp2_with fail
  go_ret
  exact ⟨rfl, bstep h3 g3⟩

set_option maxHeartbeats 400000 in
theorem closure_any (e : Ent) (b : ByteArray) (w : World) (ha : e.1.size ≤ 140737488355328) (hb : b.size ≤ 140737488355328) (na : (Pl.toks e.1).length ≤ 8) (nb : (Pl.toks b).length ≤ 8) :
    Calls Tryz.prog 144 #[.agg #[.string e.1, .int .i64 e.2], .string b] w fun r w' => r = .returned (.int .i64 (cmpT e.1 b)) ∧ Below w.heap.size w w' := by
  go_enter Tryz.func144, Tryz.ntmps144
  go_wp2_with fail
  refine (bytok_any _ b _ ha hb na nb).mono ?_
  rintro e w1 ⟨rfl, h1⟩
  go_wp2_with fail
  go_ret
  exact ⟨rfl, bstep ((Below.refl _ _).alloc (Nat.le_refl _) _) h1⟩
end Go.Proofs.YtohjipnkoiifhagGreatDoor

namespace Go.Proofs.YtohjipnkoiifhagGreatDoor
open Go.RowKit

theorem cmpT_el (a b : ByteArray) : decide (cmpT a b < 0) = el a b := cmpL_bef _ _
theorem ret_tib {a b : Int} {c d : Bool} (h : b = a) (g : d = c) : Ending.returned (.tuple #[.int .i64 a, .bool c]) = .returned (.tuple #[.int .i64 b, .bool d]) := by rw [h, g]
/-- the slice of a row, whatever its length -/
def Sl (w : World) (a : Option Addr) (es : List Ent) : Prop := ∀ k, k < es.length → ∃ g, a = some ⟨g, 0, none⟩ ∧ g < w.heap.size ∧ w.cell? ⟨g, k * 2, none⟩ = some (.string (en es k).1) ∧ w.cell? ⟨g, k * 2 + 1, none⟩ = some (.int .i64 (en es k).2)
theorem Arr.sl {w : World} {B : Nat} {v : Value} {es : List Ent} (h : Arr w B v es) : ∃ a cap, v = .slice a es.length cap ∧ Sl w a es := by
  rcases Nat.eq_zero_or_pos es.length with h0 | h0
  · obtain ⟨a, cap, h1, _⟩ := h.shape
    exact ⟨a, cap, h1, fun k hk => by omega⟩
  · obtain ⟨g, cap, h1, h2, h3, h4, h5⟩ := h.there h0
    subst h1
    exact ⟨_, cap, rfl, fun k hk => ⟨g, rfl, h5, h.text hk, h.num hk⟩⟩
theorem Sl.below {w w' : World} {a : Option Addr} {es : List Ent} (h : Sl w a es) (hb : Below w.heap.size w w') : Sl w' a es := by
  intro k hk
  obtain ⟨g, h1, h2, h3, h4⟩ := h k hk
  exact ⟨g, h1, by have := hb.size; omega, by rw [hb.cell (p := ⟨g, k * 2, none⟩) h2]; exact h3, by rw [hb.cell (p := ⟨g, k * 2 + 1, none⟩) h2]; exact h4⟩
def Fits (es : List Ent) : Prop := ∀ e ∈ es, errS false e.1 = 0 ∧ e.1.size ≤ 140737488355328

set_option maxHeartbeats 2000000 in
theorem search_any (a : Option Addr) (cap : Nat) (es : List Ent) (s : ByteArray) (w : World) (hsl : Sl w a es) (hord : Ord es) (h100 : es.length ≤ 100) (hfit : Fits es) (hs : s.size ≤ 140737488355328) (hn : (Pl.toks s).length ≤ 8) :
    Calls Tryz.prog 143 #[.slice a es.length cap, .string s, .func (.func 144) #[] #[]] w fun e w' => e = .returned (.tuple #[.int .i64 (place es s), .bool (hasAt es s)]) ∧ Below w.heap.size w w' := by
  have Hord := hide hord
  have Hfit := hide hfit
  clear hord hfit
  go_enter Tryz.func143, Tryz.ntmps143
  go_wp2
  go_loopw [9, 10] (fun iv jv wr => ∃ (i j : Nat), iv = .int .i64 i ∧ jv = .int .i64 j ∧ i ≤ j ∧ j ≤ es.length ∧ Hid (∀ k, k < i → el (en es k).1 s = true) ∧ Hid (∀ k, j ≤ k → k < es.length → el (en es k).1 s = false) ∧ Hid (Sl wr a es) ∧ Below w.heap.size w wr) (fun iv jv _ => (intOf jv).toNat - (intOf iv).toNat)
  case atStart => exact ⟨0, es.length, rfl, rfl, Nat.zero_le _, Nat.le_refl _, hide (fun k hk => absurd hk (Nat.not_lt_zero k)), hide (fun k h1 h2 => by omega), hide hsl, Below.refl _ _⟩
  case round =>
    obtain ⟨i, j, rfl, rfl, hij, hj, hlo, hhi, hsl2, hb⟩ := hrel
    by_cases hlt : i < j
    · obtain ⟨h, hh⟩ : ∃ h : Nat, h = (i + j) / 2 := ⟨_, rfl⟩
      have hh1 : i ≤ h ∧ h < j := by omega
      obtain ⟨g, rfl, hg, hc1, hc2⟩ := unhide hsl2 h (by omega)
      have hmid : ((i : Int) + (j : Int)) / 2 = (h : Int) := by omega
      clear hh
      obtain ⟨f1, f2⟩ := unhide Hfit (en es h) (en_mem (by omega))
      have H := hide (closure_any (en es h) s wr f2 hs (few f1) hn)
      clear f1 f2
      cases he : el (en es h).1 s with
      | true =>
        have hz : cmpT (en es h).1 s < 0 := by rw [← cmpT_el] at he; simpa using he
        have He := hide he
        clear he
        go_wp2_with fail
        refine (unhide H).mono ?_
        rintro e w1 ⟨rfl, hb1⟩
        have hc1' := hc1
        clear hc1 hc2
        go_wp2_with fail
        refine ⟨⟨h + 1, j, by go_num, rfl, by omega, hj, hide (fun k hk => ?_), hhi, hide ((unhide hsl2).below hb1), bstep hb hb1⟩, ?_⟩
        · rcases Nat.lt_succ_iff_lt_or_eq.1 hk with q | q
          · exact el_trans (ord_lt (unhide Hord) q (by omega)) (unhide He)
          · rw [q]; exact unhide He
        · simp [intOf]; omega
      | false =>
        have hz : ¬ cmpT (en es h).1 s < 0 := by rw [← cmpT_el] at he; simpa using he
        have He := hide he
        clear he
        go_wp2_with fail
        refine (unhide H).mono ?_
        rintro e w1 ⟨rfl, hb1⟩
        clear hc1 hc2
        go_wp2_with fail
        refine ⟨⟨i, h, rfl, rfl, by omega, by omega, hlo, hide (fun k hk hk2 => ?_), hide ((unhide hsl2).below hb1), bstep hb hb1⟩, ?_⟩
        · rcases Nat.eq_or_lt_of_le hk with q | q
          · rw [← q]; exact unhide He
          · cases x : el (en es k).1 s
            · rfl
            · have := el_trans (ord_lt (unhide Hord) q hk2) x
              rw [unhide He] at this; cases this
        · simp [intOf]; omega
    · obtain rfl : i = j := by omega
      have hpl := place_is (s := s) hj (unhide hlo) (unhide hhi)
      by_cases hl : i < es.length
      · obtain ⟨g, rfl, hg, hc1, hc2⟩ := unhide hsl2 i (by omega)
        obtain ⟨f1, f2⟩ := unhide Hfit (en es i) (en_mem (by omega))
        have H := hide (closure_any (en es i) s wr f2 hs (few f1) hn)
        have hha := has_cmp (es := es) s (by rw [← hpl]; exact hl)
        rw [← hpl] at hha
        have Hha := hide hha
        have Hpl := hide hpl
        clear f1 f2 hpl hha
        go_wp2_with fail
        refine (unhide H).mono ?_
        rintro e w1 ⟨rfl, hb1⟩
        clear hc1 hc2
        go_wp2_with fail
        go_ret2
        refine ⟨ret_tib ?_ ?_, bstep hb hb1⟩
        · rw [← unhide Hpl]
        · rw [unhide Hha]; rfl
      · have Hpl := hide hpl
        clear hpl
        go_wp2_with fail
        go_ret2
        refine ⟨ret_tib ?_ ?_, hb⟩
        · rw [← unhide Hpl]
        · unfold hasAt
          rw [← unhide Hpl]
          simp [hl]

theorem fits_of {es : List Ent} (h : Good es) : Fits es := h.2.2
set_option maxHeartbeats 400000 in
theorem place_any {o : Nat} (B p : Nat) (v : Value) (es : List Ent) (s : ByteArray) (w : World) (hk : KeepsO o w B p v es) (hg : Good es) (hs : s.size ≤ 140737488355328) (hn : (Pl.toks s).length ≤ 8) :
    Calls Tryz.prog 121 #[.pointer (some ⟨p, o, none⟩), .string s] w fun e w' => e = .returned (.tuple #[.int .i64 (place es s), .bool (hasAt es s)]) ∧ Below w.heap.size w w' := by
  obtain ⟨a, cap, rfl, hsl⟩ := hk.arr.sl
  have hc := hk.cell
  go_enter Tryz.func121, Tryz.ntmps121
  go_wp2_with fail
  refine (search_any a cap es s _ hsl hg.1 hg.2.1 hg.2.2 hs hn).mono ?_
  rintro e w1 ⟨rfl, hb⟩
  go_wp2_with fail
  go_ret2
  exact ⟨rfl, hb⟩

def lookI (es : List Ent) (s : ByteArray) : Int := if errS false s = 0 then (if hasAt es s then (place es s : Int) else 0) else 0
theorem ret_tii {a b c d : Int} (h : b = a) (g : d = c) : Ending.returned (.tuple #[.int .i64 a, .int .i64 c]) = .returned (.tuple #[.int .i64 b, .int .i64 d]) := by rw [h, g]
set_option maxHeartbeats 400000 in
theorem lookup_any {o : Nat} (B p : Nat) (v : Value) (es : List Ent) (s : ByteArray) (w : World) (hk : KeepsO o w B p v es) (hg : Good es) (hs : s.size ≤ 140737488355328) :
    Calls Tryz.prog 141 #[.pointer (some ⟨p, o, none⟩), .string s] w fun e w' => e = .returned (.tuple #[.int .i64 (lookI es s), .int .i64 (seeE es s)]) ∧ Below w.heap.size w w' := by
  have Hk := hide hk
  have Hg := hide hg
  clear hk hg
  by_cases he : errS false s = 0
  · have hn := few he
    have He := hide he
    cases hh : hasAt es s
    all_goals
      have Hl := hide (show lookI es s = (if errS false s = 0 then (if hasAt es s then (place es s : Int) else 0) else 0) from rfl)
      have Hse := hide (show seeE es s = (if errS false s = 0 then (if hasAt es s then 0 else 4) else errS false s) from rfl)
      rw [hh, he] at Hl Hse
      have Hh := hide hh
      clear he hh
      go_enter Tryz.func141, Tryz.ntmps141
      go_wp2_with fail
      refine (subject_any s _ hs).mono ?_
      rintro e w1 ⟨rfl, hb1⟩
      rw [unhide He]
      go_wp2_with fail
      refine (place_any B p v es s _ ((unhide Hk).below hb1) (unhide Hg) hs hn).mono ?_
      rintro e w2 ⟨rfl, hb2⟩
      rw [unhide Hh]
      go_wp2_with fail
      go_ret2
      exact ⟨ret_tii (by rw [unhide Hl]; simp) (by rw [unhide Hse]; simp), bstep hb1 hb2⟩
  · have Hl := hide (show lookI es s = 0 by unfold lookI; rw [if_neg he])
    have Hse := hide (show seeE es s = errS false s by unfold seeE; rw [if_neg he])
    go_enter Tryz.func141, Tryz.ntmps141
    go_wp2_with fail
    refine (subject_any s _ hs).mono ?_
    rintro e w1 ⟨rfl, hb1⟩
    go_wp2_with fail
    go_ret2
    exact ⟨ret_tii (unhide Hl) (unhide Hse), hb1⟩

set_option maxHeartbeats 400000 in
theorem get_any {o : Nat} (B p : Nat) (v : Value) (es : List Ent) (s : ByteArray) (w : World) (hk : KeepsO o w B p v es) (hg : Good es) (hs : s.size ≤ 140737488355328) :
    Calls Tryz.prog 115 #[.pointer (some ⟨p, o, none⟩), .string s] w fun e w' => e = .returned (.tuple #[.int .i64 (getN es s), .int .i64 (seeE es s)]) ∧ Below w.heap.size w w' := by
  have Hk := hide hk
  have Hg := hide hg
  clear hk hg
  by_cases h0 : seeE es s = 0
  · have hh : errS false s = 0 ∧ hasAt es s = true := by
      unfold seeE at h0
      split at h0
      · rename_i he
        refine ⟨he, ?_⟩
        split at h0
        · assumption
        · omega
      · rename_i he
        exact absurd h0 he
    obtain ⟨h1, h2⟩ := has_at hh.2
    have hl : lookI es s = (place es s : Int) := by unfold lookI; rw [if_pos hh.1, if_pos hh.2]
    have hgn : getN es s = (en es (place es s)).2 := by unfold getN; rw [if_pos hh.1, if_pos hh.2]
    have Hgn := hide hgn
    have Hl := hide hl
    have H0 := hide h0
    clear hgn hl h0 hh h2
    obtain ⟨q, hq⟩ : ∃ q, place es s = q := ⟨_, rfl⟩
    rw [hq] at h1 Hl Hgn
    clear hq
    obtain ⟨g, cap, rfl, c1, c2, c3, c4⟩ := (unhide Hk).arr.there (by omega)
    unfold maxLen at c2
    go_enter Tryz.func115, Tryz.ntmps115
    go_wp2_with fail
    refine (lookup_any B p _ es s _ (unhide Hk) (unhide Hg) hs).mono ?_
    rintro e w1 ⟨rfl, hb1⟩
    rw [unhide Hl, unhide H0]
    have k1 := (unhide Hk).below hb1
    have hc1 := k1.cell
    have hc2 := k1.arr.num h1
    clear k1
    go_wp2_with fail
    go_ret2
    exact ⟨ret_tii (unhide Hgn) (unhide H0), hb1⟩
  · have hgn : getN es s = 0 := by
      unfold getN
      unfold seeE at h0
      split
      · rename_i he
        rw [if_pos he] at h0
        split
        · rename_i hh
          rw [if_pos hh] at h0
          exact absurd rfl h0
        · rfl
      · rfl
    have Hgn := hide hgn
    clear hgn
    go_enter Tryz.func115, Tryz.ntmps115
    go_wp2_with fail
    refine (lookup_any B p v es s _ (unhide Hk) (unhide Hg) hs).mono ?_
    rintro e w1 ⟨rfl, hb1⟩
    go_wp2_with fail
    go_ret2
    exact ⟨ret_tii (unhide Hgn) rfl, hb1⟩

set_option maxHeartbeats 400000 in
theorem count_any {o : Nat} (B p : Nat) (v : Value) (es : List Ent) (w : World) (hk : KeepsO o w B p v es) :
    Calls Tryz.prog 87 #[.pointer (some ⟨p, o, none⟩)] w fun e w' => e = .returned (.int .i64 es.length) ∧ w' = w := by
  obtain ⟨a, cap, rfl, hsl⟩ := hk.arr.sl
  have hc := hk.cell
  clear hk hsl
  go_enter Tryz.func87, Tryz.ntmps87
  go_wp2_with fail
  go_ret
  exact ⟨rfl, rfl⟩

theorem keeps_new (w : World) (B : Nat) (t : TypeId) (hB : B ≤ w.heap.size) : Keeps (w.alloc (.cells #[.slice none 0 0] t)) B w.heap.size (.slice none 0 0) [] :=
  ⟨by simp, by simp, hB, by simp, Arr.empty _ _, by simp [Value.ownBlock]⟩
end Go.Proofs.YtohjipnkoiifhagGreatDoor
