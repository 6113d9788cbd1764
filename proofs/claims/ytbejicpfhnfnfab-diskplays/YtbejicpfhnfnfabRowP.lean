/-
  Rows of papers in memory (two numbers and a text each), what the document's disk keeps, and which blocks a call may have written. No walk.
-/
import Derived.Test.YtbejicpfhnfnfabPapD
namespace Go.Proofs.Ytbejicpfhnfnfab.Dk
open Go.RowKit

/-- the cells of a row of papers -/
def cel : List Pap → List Value
  | [] => []
  | e :: r => .int .i64 e.n :: .int .i64 e.sure :: .string e.text :: cel r
theorem cel_length : ∀ es : List Pap, (cel es).length = es.length * 3
  | [] => rfl
  | e :: r => by simp [cel, cel_length r]; omega
theorem cel_append : ∀ a b : List Pap, cel (a ++ b) = cel a ++ cel b
  | [], _ => rfl
  | e :: a, b => by simp [cel, cel_append a b]
theorem cel_take : ∀ (es : List Pap) (k : Nat), cel (es.take k) = (cel es).take (k * 3)
  | [], k => by simp [cel]
  | e :: r, 0 => by simp [cel]
  | e :: r, k + 1 => by rw [show (k + 1) * 3 = k * 3 + 1 + 1 + 1 by omega]; simp [cel, cel_take r k]
theorem cel_drop : ∀ (es : List Pap) (k : Nat), cel (es.drop k) = (cel es).drop (k * 3)
  | [], k => by simp [cel]
  | e :: r, 0 => by simp [cel]
  | e :: r, k + 1 => by rw [show (k + 1) * 3 = k * 3 + 1 + 1 + 1 by omega]; simp [cel, cel_drop r k]
theorem cel_n : ∀ (es : List Pap) (k : Nat), k < es.length → (cel es)[k * 3]? = some (.int .i64 (pa es k).n)
  | [], k, h => absurd h (Nat.not_lt_zero k)
  | e :: r, 0, _ => rfl
  | e :: r, k + 1, h => by
    rw [show (k + 1) * 3 = k * 3 + 1 + 1 + 1 by omega]
    simp only [cel, List.getElem?_cons_succ]
    exact cel_n r k (by simpa using h)
theorem cel_sure : ∀ (es : List Pap) (k : Nat), k < es.length → (cel es)[k * 3 + 1]? = some (.int .i64 (pa es k).sure)
  | [], k, h => absurd h (Nat.not_lt_zero k)
  | e :: r, 0, _ => rfl
  | e :: r, k + 1, h => by
    rw [show (k + 1) * 3 + 1 = k * 3 + 1 + 1 + 1 + 1 by omega]
    simp only [cel, List.getElem?_cons_succ]
    exact cel_sure r k (by simpa using h)
theorem cel_text : ∀ (es : List Pap) (k : Nat), k < es.length → (cel es)[k * 3 + 2]? = some (.string (pa es k).text)
  | [], k, h => absurd h (Nat.not_lt_zero k)
  | e :: r, 0, _ => rfl
  | e :: r, k + 1, h => by
    rw [show (k + 1) * 3 + 2 = k * 3 + 2 + 1 + 1 + 1 by omega]
    simp only [cel, List.getElem?_cons_succ]
    exact cel_text r k (by simpa using h)
theorem cel_one : ∀ (es : List Pap), ∀ v ∈ cel es, v.oneCell' = true
  | [], v, h => by simp [cel] at h
  | e :: r, v, h => by
    simp only [cel, List.mem_cons] at h
    rcases h with h | h | h | h
    · subst h; rfl
    · subst h; rfl
    · subst h; rfl
    · exact cel_one r v h
theorem cel_set_sure : ∀ (es : List Pap) (k : Nat) (n : Int), k < es.length → cel (es.set k { pa es k with sure := n }) = (cel es).set (k * 3 + 1) (.int .i64 n)
  | [], k, _, h => absurd h (Nat.not_lt_zero k)
  | e :: r, 0, n, _ => by simp [cel, pa_zero]
  | e :: r, k + 1, n, h => by
    rw [show (k + 1) * 3 + 1 = k * 3 + 1 + 1 + 1 + 1 by omega, pa_succ]
    simp only [List.set_cons_succ, cel]
    rw [cel_set_sure r k n (by simpa using h)]
theorem cel_set_text : ∀ (es : List Pap) (k : Nat) (s : ByteArray), k < es.length → cel (es.set k { pa es k with text := s }) = (cel es).set (k * 3 + 2) (.string s)
  | [], k, _, h => absurd h (Nat.not_lt_zero k)
  | e :: r, 0, n, _ => by simp [cel, pa_zero]
  | e :: r, k + 1, s, h => by
    rw [show (k + 1) * 3 + 2 = k * 3 + 2 + 1 + 1 + 1 by omega, pa_succ]
    simp only [List.set_cons_succ, cel]
    rw [cel_set_text r k s (by simpa using h)]

theorem infoE : (Try.prog.info? 52).map (fun i => (i.zero, i.size, i.bytes)) = some (some (.agg #[.int .i64 0, .int .i64 0, .string ByteArray.empty]), 3, 32) := by kernel_rfl
/-- a row of papers that is the program's own from block B on -/
def Arr (w : World) (B : Nat) (v : Value) (es : List Pap) : Prop := w.ownsRow B 52 3 v es.length (cel es)
theorem Arr.empty (w : World) (B : Nat) : Arr w B (.slice none 0 0) [] := World.ownsRow_nil w B _ 3
theorem Arr.shape {w : World} {B : Nat} {v : Value} {es : List Pap} (h : Arr w B v es) : ∃ a cap, v = .slice a es.length cap ∧ es.length ≤ cap ∧ cap ≤ maxLen ∧ ∀ g, v.ownBlock = some g → a = some ⟨g, 0, none⟩ ∧ B ≤ g ∧ g < w.heap.size := by
  rcases h.2 with ⟨h1, h2⟩ | ⟨g, cap, cur, h1, h2, h3, h4, h5, h6, h7⟩
  · exact ⟨none, 0, by rw [h1, h2], by omega, by simp [maxLen], fun g hg => by rw [h1] at hg; simp [Value.ownBlock] at hg⟩
  · exact ⟨_, cap, h1, h4, h5, fun k hk => by
      have := h.lt k hk
      rw [h1] at hk
      simp only [Value.ownBlock, Option.some.injEq] at hk
      subst hk
      exact ⟨rfl, this⟩⟩
theorem Arr.there {w : World} {B : Nat} {v : Value} {es : List Pap} (h : Arr w B v es) (hn : 0 < es.length) : ∃ g cap, v = .slice (some ⟨g, 0, none⟩) es.length cap ∧ es.length ≤ cap ∧ cap ≤ maxLen ∧ B ≤ g ∧ g < w.heap.size := by
  rcases h.2 with ⟨h1, h2⟩ | ⟨g, cap, cur, h1, h2, h3, h4, h5, h6, h7⟩
  · omega
  · exact ⟨g, cap, h1, h4, h5, h.lt g (by rw [h1]; rfl)⟩
theorem Arr.num {w : World} {B g cap : Nat} {es : List Pap} (h : Arr w B (.slice (some ⟨g, 0, none⟩) es.length cap) es) {k : Nat} (hk : k < es.length) : w.cell? ⟨g, k * 3, none⟩ = some (.int .i64 (pa es k).n) := by
  rw [World.ownsRow.cellAt h _ (by omega)]
  exact cel_n es k hk
theorem Arr.sure {w : World} {B g cap : Nat} {es : List Pap} (h : Arr w B (.slice (some ⟨g, 0, none⟩) es.length cap) es) {k : Nat} (hk : k < es.length) : w.cell? ⟨g, k * 3 + 1, none⟩ = some (.int .i64 (pa es k).sure) := by
  rw [World.ownsRow.cellAt h _ (by omega)]
  exact cel_sure es k hk
theorem Arr.text {w : World} {B g cap : Nat} {es : List Pap} (h : Arr w B (.slice (some ⟨g, 0, none⟩) es.length cap) es) {k : Nat} (hk : k < es.length) : w.cell? ⟨g, k * 3 + 2, none⟩ = some (.string (pa es k).text) := by
  rw [World.ownsRow.cellAt h _ (by omega)]
  exact cel_text es k hk
theorem Arr.cell {w : World} {B g cap : Nat} {es : List Pap} (h : Arr w B (.slice (some ⟨g, 0, none⟩) es.length cap) es) (j : Nat) (u : Value) (hj : (cel es)[j]? = some u) : w.cell? ⟨g, j, none⟩ = some u := by
  have hl : j < es.length * 3 := by
    rw [← cel_length]
    rcases Nat.lt_or_ge j (cel es).length with q | q
    · exact q
    · rw [List.getElem?_eq_none q] at hj; cases hj
  rw [World.ownsRow.cellAt h _ hl]
  exact hj
theorem Arr.below {w w' : World} {B : Nat} {v : Value} {es : List Pap} (h : Arr w B v es) (hb : Below w.heap.size w w') : Arr w' B v es := by
  refine ⟨h.1, ?_⟩
  rcases h.2 with q | ⟨g, cap, cur, h1, h2, h3, r⟩
  · exact .inl q
  · refine .inr ⟨g, cap, cur, h1, h2, ?_, r⟩
    rw [hb.block g (h.lt g (by rw [h1]; rfl)).2]
    exact h3

theorem Arr.chg {A : Nat → Prop} {w w' : World} {B : Nat} {v : Value} {es : List Pap} (h : Arr w B v es) (hb : Chg A w w') (hn : ∀ g, v.ownBlock = some g → ¬ A g) : Arr w' B v es := by
  refine ⟨h.1, ?_⟩
  rcases h.2 with q | ⟨g, cap, cur, h1, h2, h3, r⟩
  · exact .inl q
  · refine .inr ⟨g, cap, cur, h1, h2, ?_, r⟩
    rw [hb.block g (h.lt g (by rw [h1]; rfl)).2 (hn g (by rw [h1]; rfl))]
    exact h3


/-- the document's disk: a block p of two cells: how much room there is, and the slice v of the papers es -/
structure Keeps (w : World) (B p : Nat) (room : Int) (v : Value) (es : List Pap) : Prop where
  room : w.cell? ⟨p, 0, none⟩ = some (.int .i64 room)
  cell : w.cell? ⟨p, 1, none⟩ = some v
  free : w.frozen? ⟨p, 1, none⟩ = false
  base : B ≤ p
  lt : p < w.heap.size
  arr : Arr w B v es
  apart : v.ownBlock ≠ some p
def foot (p : Nat) (v : Value) (k : Nat) : Prop := k = p ∨ v.ownBlock = some k
theorem Keeps.below {w w' : World} {B p : Nat} {m : Int} {v : Value} {es : List Pap} (h : Keeps w B p m v es) (hb : Below w.heap.size w w') : Keeps w' B p m v es :=
  ⟨by rw [hb.cell (p := ⟨p, 0, none⟩) h.lt]; exact h.room, by rw [hb.cell (p := ⟨p, 1, none⟩) h.lt]; exact h.cell, by rw [hb.frozen (p := ⟨p, 1, none⟩) h.lt]; exact h.free, h.base, by have := hb.size; have := h.lt; omega, h.arr.below hb, h.apart⟩
theorem Keeps.chg {A : Nat → Prop} {w w' : World} {B p : Nat} {m : Int} {v : Value} {es : List Pap} (h : Keeps w B p m v es) (hb : Chg A w w') (hn : ∀ k, foot p v k → ¬ A k) : Keeps w' B p m v es :=
  ⟨by rw [hb.cell (p := ⟨p, 0, none⟩) h.lt (hn p (.inl rfl))]; exact h.room, by rw [hb.cell (p := ⟨p, 1, none⟩) h.lt (hn p (.inl rfl))]; exact h.cell, by rw [hb.frozen (p := ⟨p, 1, none⟩) h.lt (hn p (.inl rfl))]; exact h.free, h.base, by have := hb.size; have := h.lt; omega, h.arr.chg hb (fun g hg => hn g (.inr hg)), h.apart⟩
/-- the new slice is stored in the block -/
theorem Keeps.store {w w' : World} {B p : Nat} {m : Int} {v v' : Value} {es es' : List Pap} (h : Keeps w B p m v es) (hb : Chg (fun k => v.ownBlock = some k) w w') (ha : Arr w' B v' es') (hv : ∀ g, v'.ownBlock = some g → v.ownBlock = some g ∨ w.heap.size ≤ g) :
    Keeps (w'.setCell ⟨p, 1, none⟩ v') B p m v' es' ∧ Chg (foot p v) w (w'.setCell ⟨p, 1, none⟩ v') := by
  have hne : v'.ownBlock ≠ some p := fun e => by
    rcases hv p e with q | q
    · exact h.apart q
    · have := h.lt; omega
  have hc : w'.cell? ⟨p, 1, none⟩ = some v := by rw [hb.cell (p := ⟨p, 1, none⟩) h.lt h.apart]; exact h.cell
  refine ⟨⟨?_, World.cell?_setCell_same _ _ _ hc, ?_, h.base, ?_, ?_, hne⟩, ?_⟩
  · rw [World.cell?_setCell_other _ _ _ _ (by simp), hb.cell (p := ⟨p, 0, none⟩) h.lt h.apart]; exact h.room
  · rw [World.frozen?_setCell, hb.frozen (p := ⟨p, 1, none⟩) h.lt h.apart]; exact h.free
  · have := hb.size; have := h.lt; simp [World.setCell]; omega
  · refine ha.chg (A := fun k => k = p) (Chg.setCell (A := fun k => k = p) (p := ⟨p, 1, none⟩) (Chg.refl _ _) (.inl rfl) _) (fun g hg e => ?_)
    subst e
    exact hne hg
  · exact (hb.mono (fun k _ q => .inr q)).setCell (.inl (.inl rfl)) _
theorem Keeps.put {w : World} {B p g cap j : Nat} {m : Int} {es es' : List Pap} {u : Value} (h : Keeps w B p m (.slice (some ⟨g, 0, none⟩) es.length cap) es) (hl : es'.length = es.length) (hc : cel es' = (cel es).set j u) :
    Keeps (w.setCell ⟨g, j, none⟩ u) B p m (.slice (some ⟨g, 0, none⟩) es'.length cap) es' ∧ Chg (foot p (.slice (some ⟨g, 0, none⟩) es.length cap)) w (w.setCell ⟨g, j, none⟩ u) := by
  have hgp : g ≠ p := fun e => h.apart (by rw [e]; rfl)
  have hst := (World.ownsRow.stored h.arr j u).1
  rw [hl]
  refine ⟨⟨?_, ?_, ?_, h.base, ?_, ?_, h.apart⟩, ?_⟩
  · rw [World.cell?_setCell_other _ _ _ _ (by intro e; injection e; omega)]; exact h.room
  · rw [World.cell?_setCell_other _ _ _ _ (by intro e; injection e; omega)]; exact h.cell
  · rw [World.frozen?_setCell]; exact h.free
  · have := h.lt; simpa [World.setCell] using this
  · unfold Arr
    rw [hl, hc]
    exact hst
  · exact (Chg.refl _ _).setCell (.inl (.inr rfl)) _
/-- the number of sure bytes is stored -/
theorem Keeps.sure {w : World} {B p g cap : Nat} {m : Int} {es : List Pap} (h : Keeps w B p m (.slice (some ⟨g, 0, none⟩) es.length cap) es) {k : Nat} (hk : k < es.length) (n : Int) :
    Keeps (w.setCell ⟨g, k * 3 + 1, none⟩ (.int .i64 n)) B p m (.slice (some ⟨g, 0, none⟩) (es.set k { pa es k with sure := n }).length cap) (es.set k { pa es k with sure := n }) ∧ Chg (foot p (.slice (some ⟨g, 0, none⟩) es.length cap)) w (w.setCell ⟨g, k * 3 + 1, none⟩ (.int .i64 n)) :=
  h.put (List.length_set ..) (cel_set_sure es k n hk)
/-- a text is stored -/
theorem Keeps.text {w : World} {B p g cap : Nat} {m : Int} {es : List Pap} (h : Keeps w B p m (.slice (some ⟨g, 0, none⟩) es.length cap) es) {k : Nat} (hk : k < es.length) (s : ByteArray) :
    Keeps (w.setCell ⟨g, k * 3 + 2, none⟩ (.string s)) B p m (.slice (some ⟨g, 0, none⟩) (es.set k { pa es k with text := s }).length cap) (es.set k { pa es k with text := s }) ∧ Chg (foot p (.slice (some ⟨g, 0, none⟩) es.length cap)) w (w.setCell ⟨g, k * 3 + 2, none⟩ (.string s)) :=
  h.put (List.length_set ..) (cel_set_text es k s hk)
end Go.Proofs.Ytbejicpfhnfnfab.Dk
