/-
  Numbers in a row of one's own. No walk.
  Rows of papers in memory (two numbers and a text each), what the document's disk keeps, and which blocks a call may have written. No walk.
  Contract of slices.Insert (one paper) at rows of papers that are the program's own: the row, and which block was written.
  Contracts of the document's disk: Drawer.at with its closure and slices.IndexFunc, Drawer.Used, Drawer.Read.
  Contracts of the document's disk: Drawer.Cut, Drawer.List.
  Contract of the document's disk: Drawer.Append.
  Contract of the document's disk: Drawer.Append where the file is new.
-/
import Derived.Test.YtphhebdmfdjfeabGreatDoorJointBase0RowZPlainPlainNPlainRecPlainSPlainR2PapDPapLPapMPapGPapN
import Derived.Deep.AppendSrc
import Derived.Shelf.Spec.SlicesInsert
import Derived.Shelf.Spec.SlicesInsertGrow
namespace Go.Proofs.YtphhebdmfdjfeabGreatDoor.Dk
open Go.RowKit

/-- numbers in a row of one's own -/
def Nums (w : World) (B : Nat) (v : Value) (l : List Int) : Prop := w.ownsRow B 3 1 v l.length (l.map (Value.int .i64))
theorem infoI : (Tryz.prog.info? 3).map (fun i => (i.zero, i.size, i.bytes)) = some (some (.int .i64 0), 1, 8) := by kernel_rfl
theorem one_num (n : Int) : ∀ u ∈ [Value.int .i64 n], u.oneCell' = true := by
  intro u hu; simp at hu; subst hu; rfl
theorem nums_next {w0 wr w1 : World} {v v' : Value} {l : List Int} {n : Int} {o : Obj} (hown : Nums wr w0.heap.size v l) (hb : Below w0.heap.size w0 wr)
    (h1 : w1.ownsRow w0.heap.size 3 1 v' (l.length + 1) ((l.map (Value.int .i64)) ++ [.int .i64 n])) (hg : (wr.alloc o).grownBy w1 v.ownBlock) :
    Nums w1 w0.heap.size v' (l ++ [n]) ∧ Below w0.heap.size w0 w1 := by
  refine ⟨?_, ?_⟩
  · unfold Nums
    rw [List.map_append, List.map_cons, List.map_nil, List.length_append]
    exact h1
  · have hs := hb.size
    refine (hb.alloc (by omega) o).grown hg (by simp; omega) ?_
    intro j hj
    exact (World.ownsRow.lt hown j hj).1
theorem Nums.sl {w : World} {B : Nat} {v : Value} {l : List Int} (h : Nums w B v l) : ∃ a cap, v = .slice a l.length cap ∧ SlI w a l := by
  rcases h.2 with ⟨h1, h2⟩ | ⟨g, cap, cur, h1, h2, h3, h4, h5, h6, h7⟩
  · exact ⟨none, 0, by rw [h1, h2], fun k hk => by omega⟩
  · refine ⟨_, cap, h1, fun k hk => ⟨g, 0, rfl, (h.lt g (by rw [h1]; rfl)).2, ?_⟩⟩
    rw [Nat.zero_add]
    rw [h1] at h
    rw [World.ownsRow.cellAt h _ (by omega)]
    rw [List.getElem?_map, List.getElem?_eq_getElem hk]
    unfold nth
    rw [List.getElem?_eq_getElem hk]
    rfl
theorem Nums.below {w w' : World} {B : Nat} {v : Value} {l : List Int} (h : Nums w B v l) (hb : Below w.heap.size w w') : Nums w' B v l := by
  refine ⟨h.1, ?_⟩
  rcases h.2 with q | ⟨g, cap, cur, h1, h2, h3, r⟩
  · exact .inl q
  · refine .inr ⟨g, cap, cur, h1, h2, ?_, r⟩
    rw [hb.block g (World.ownsRow.lt h g (by rw [h1]; rfl)).2]
    exact h3
theorem Nums.chg {A : Nat → Prop} {w w' : World} {B : Nat} {v : Value} {l : List Int} (h : Nums w B v l) (hb : Chg A w w') (hn : ∀ g, B ≤ g → ¬ A g) : Nums w' B v l := by
  refine ⟨h.1, ?_⟩
  rcases h.2 with q | ⟨g, cap, cur, h1, h2, h3, r⟩
  · exact .inl q
  · refine .inr ⟨g, cap, cur, h1, h2, ?_, r⟩
    rw [hb.block g (World.ownsRow.lt h g (by rw [h1]; rfl)).2 (hn g h2)]
    exact h3
theorem Nums.shape {w : World} {B : Nat} {v : Value} {l : List Int} (h : Nums w B v l) : ∃ a cap, v = .slice a l.length cap ∧ l.length ≤ cap ∧ cap ≤ maxLen := by
  rcases h.2 with ⟨h1, h2⟩ | ⟨g, cap, cur, h1, h2, h3, h4, h5, h6⟩
  · exact ⟨none, 0, by rw [h1, h2], by omega, by unfold maxLen; omega⟩
  · exact ⟨_, cap, h1, h4, h5⟩
/-- one number more: where the new row lies -/
theorem append_num (w : World) (B : Nat) (ty : TypeId) (v : Value) (l : List Int) (n : Int) (ha : Nums w B v l) (a : Addr) (c : Nat) (hnews : w.cell? a = some (.int .i64 n)) (hl : l.length ≤ 200000) (hB : B ≤ w.heap.size) :
    ∃ v' w', (Builtin.append_ #[58, 58] ty #[v, .slice (some a) 1 c]).run Tryz.prog w = .ok v' w' ∧ Nums w' B v' (l ++ [n]) ∧ Chg (fun k => v.ownBlock = some k) w w' := by
  obtain ⟨i0, hi, hz0, hz1, hz2⟩ := info_parts infoI
  obtain ⟨v', w', hr, h2, h3, h4⟩ := run_append_own (P := Tryz.prog) w B 58 ty 3 i0 _ 1 8 Tryz.underlying58 hi hz0 hz1 hz2 rfl (by omega) v l.length (l.map (Value.int .i64)) ha a 1 c [.int .i64 n] rfl (fun j u hj => by
    match j, hj with
    | 0, hj =>
      rw [show a.add 0 = a from rfl, hnews]
      simpa using hj) (one_num n) (by unfold maxLen; omega) (by omega) hB
  refine ⟨v', w', hr, ?_, Chg.of_grown h3⟩
  unfold Nums
  rw [List.length_append, List.map_append]
  exact h2
end Go.Proofs.YtphhebdmfdjfeabGreatDoor.Dk

namespace Go.Proofs.YtphhebdmfdjfeabGreatDoor.Dk
open Go.RowKit

/-- the cells of a row of papers -/
def cel : List Pap → List Value
  | [] => []
  | e :: r => .int .i64 e.n :: .int .i64 e.sure :: .string e.text :: cel r
theorem cel_length : ∀ es : List Pap, (cel es).length = es.length * 3
  | [] => rfl
  | e :: r => by simp [cel, cel_length r]; omega
theorem cel_append : ∀ a b : List Pap, cel (a ++ b) = cel a ++ cel b
  | [], _ => rfl
  | e :: a, b => by simp [cel, cel_append a b]
theorem cel_take : ∀ (es : List Pap) (k : Nat), cel (es.take k) = (cel es).take (k * 3)
  | [], k => by simp [cel]
  | e :: r, 0 => by simp [cel]
  | e :: r, k + 1 => by rw [show (k + 1) * 3 = k * 3 + 1 + 1 + 1 by omega]; simp [cel, cel_take r k]
theorem cel_drop : ∀ (es : List Pap) (k : Nat), cel (es.drop k) = (cel es).drop (k * 3)
  | [], k => by simp [cel]
  | e :: r, 0 => by simp [cel]
  | e :: r, k + 1 => by rw [show (k + 1) * 3 = k * 3 + 1 + 1 + 1 by omega]; simp [cel, cel_drop r k]
theorem cel_n : ∀ (es : List Pap) (k : Nat), k < es.length → (cel es)[k * 3]? = some (.int .i64 (pa es k).n)
  | [], k, h => absurd h (Nat.not_lt_zero k)
  | e :: r, 0, _ => rfl
  | e :: r, k + 1, h => by
    rw [show (k + 1) * 3 = k * 3 + 1 + 1 + 1 by omega]
    simp only [cel, List.getElem?_cons_succ]
    exact cel_n r k (by simpa using h)
theorem cel_sure : ∀ (es : List Pap) (k : Nat), k < es.length → (cel es)[k * 3 + 1]? = some (.int .i64 (pa es k).sure)
  | [], k, h => absurd h (Nat.not_lt_zero k)
  | e :: r, 0, _ => rfl
  | e :: r, k + 1, h => by
    rw [show (k + 1) * 3 + 1 = k * 3 + 1 + 1 + 1 + 1 by omega]
    simp only [cel, List.getElem?_cons_succ]
    exact cel_sure r k (by simpa using h)
theorem cel_text : ∀ (es : List Pap) (k : Nat), k < es.length → (cel es)[k * 3 + 2]? = some (.string (pa es k).text)
  | [], k, h => absurd h (Nat.not_lt_zero k)
  | e :: r, 0, _ => rfl
  | e :: r, k + 1, h => by
    rw [show (k + 1) * 3 + 2 = k * 3 + 2 + 1 + 1 + 1 by omega]
    simp only [cel, List.getElem?_cons_succ]
    exact cel_text r k (by simpa using h)
theorem cel_one : ∀ (es : List Pap), ∀ v ∈ cel es, v.oneCell' = true
  | [], v, h => by simp [cel] at h
  | e :: r, v, h => by
    simp only [cel, List.mem_cons] at h
    rcases h with h | h | h | h
    · subst h; rfl
    · subst h; rfl
    · subst h; rfl
    · exact cel_one r v h
theorem cel_set_sure : ∀ (es : List Pap) (k : Nat) (n : Int), k < es.length → cel (es.set k { pa es k with sure := n }) = (cel es).set (k * 3 + 1) (.int .i64 n)
  | [], k, _, h => absurd h (Nat.not_lt_zero k)
  | e :: r, 0, n, _ => by simp [cel, pa_zero]
  | e :: r, k + 1, n, h => by
    rw [show (k + 1) * 3 + 1 = k * 3 + 1 + 1 + 1 + 1 by omega, pa_succ]
    simp only [List.set_cons_succ, cel]
    rw [cel_set_sure r k n (by simpa using h)]
theorem cel_set_text : ∀ (es : List Pap) (k : Nat) (s : ByteArray), k < es.length → cel (es.set k { pa es k with text := s }) = (cel es).set (k * 3 + 2) (.string s)
  | [], k, _, h => absurd h (Nat.not_lt_zero k)
  | e :: r, 0, n, _ => by simp [cel, pa_zero]
  | e :: r, k + 1, s, h => by
    rw [show (k + 1) * 3 + 2 = k * 3 + 2 + 1 + 1 + 1 by omega, pa_succ]
    simp only [List.set_cons_succ, cel]
    rw [cel_set_text r k s (by simpa using h)]

theorem infoE : (Tryz.prog.info? 52).map (fun i => (i.zero, i.size, i.bytes)) = some (some (.agg #[.int .i64 0, .int .i64 0, .string ByteArray.empty]), 3, 32) := by kernel_rfl
/-- a row of papers that is the program's own from block B on -/
def Arr (w : World) (B : Nat) (v : Value) (es : List Pap) : Prop := w.ownsRow B 52 3 v es.length (cel es)
theorem Arr.empty (w : World) (B : Nat) : Arr w B (.slice none 0 0) [] := World.ownsRow_nil w B _ 3
theorem Arr.shape {w : World} {B : Nat} {v : Value} {es : List Pap} (h : Arr w B v es) : ∃ a cap, v = .slice a es.length cap ∧ es.length ≤ cap ∧ cap ≤ maxLen ∧ ∀ g, v.ownBlock = some g → a = some ⟨g, 0, none⟩ ∧ B ≤ g ∧ g < w.heap.size := by
  rcases h.2 with ⟨h1, h2⟩ | ⟨g, cap, cur, h1, h2, h3, h4, h5, h6, h7⟩
  · exact ⟨none, 0, by rw [h1, h2], by omega, by simp [maxLen], fun g hg => by rw [h1] at hg; simp [Value.ownBlock] at hg⟩
  · exact ⟨_, cap, h1, h4, h5, fun k hk => by
      have := h.lt k hk
      rw [h1] at hk
      simp only [Value.ownBlock, Option.some.injEq] at hk
      subst hk
      exact ⟨rfl, this⟩⟩
theorem Arr.there {w : World} {B : Nat} {v : Value} {es : List Pap} (h : Arr w B v es) (hn : 0 < es.length) : ∃ g cap, v = .slice (some ⟨g, 0, none⟩) es.length cap ∧ es.length ≤ cap ∧ cap ≤ maxLen ∧ B ≤ g ∧ g < w.heap.size := by
  rcases h.2 with ⟨h1, h2⟩ | ⟨g, cap, cur, h1, h2, h3, h4, h5, h6, h7⟩
  · omega
  · exact ⟨g, cap, h1, h4, h5, h.lt g (by rw [h1]; rfl)⟩
theorem Arr.num {w : World} {B g cap : Nat} {es : List Pap} (h : Arr w B (.slice (some ⟨g, 0, none⟩) es.length cap) es) {k : Nat} (hk : k < es.length) : w.cell? ⟨g, k * 3, none⟩ = some (.int .i64 (pa es k).n) := by
  rw [World.ownsRow.cellAt h _ (by omega)]
  exact cel_n es k hk
theorem Arr.sure {w : World} {B g cap : Nat} {es : List Pap} (h : Arr w B (.slice (some ⟨g, 0, none⟩) es.length cap) es) {k : Nat} (hk : k < es.length) : w.cell? ⟨g, k * 3 + 1, none⟩ = some (.int .i64 (pa es k).sure) := by
  rw [World.ownsRow.cellAt h _ (by omega)]
  exact cel_sure es k hk
theorem Arr.text {w : World} {B g cap : Nat} {es : List Pap} (h : Arr w B (.slice (some ⟨g, 0, none⟩) es.length cap) es) {k : Nat} (hk : k < es.length) : w.cell? ⟨g, k * 3 + 2, none⟩ = some (.string (pa es k).text) := by
  rw [World.ownsRow.cellAt h _ (by omega)]
  exact cel_text es k hk
theorem Arr.cell {w : World} {B g cap : Nat} {es : List Pap} (h : Arr w B (.slice (some ⟨g, 0, none⟩) es.length cap) es) (j : Nat) (u : Value) (hj : (cel es)[j]? = some u) : w.cell? ⟨g, j, none⟩ = some u := by
  have hl : j < es.length * 3 := by
    rw [← cel_length]
    rcases Nat.lt_or_ge j (cel es).length with q | q
    · exact q
    · rw [List.getElem?_eq_none q] at hj; cases hj
  rw [World.ownsRow.cellAt h _ hl]
  exact hj
theorem Arr.below {w w' : World} {B : Nat} {v : Value} {es : List Pap} (h : Arr w B v es) (hb : Below w.heap.size w w') : Arr w' B v es := by
  refine ⟨h.1, ?_⟩
  rcases h.2 with q | ⟨g, cap, cur, h1, h2, h3, r⟩
  · exact .inl q
  · refine .inr ⟨g, cap, cur, h1, h2, ?_, r⟩
    rw [hb.block g (h.lt g (by rw [h1]; rfl)).2]
    exact h3

theorem Arr.chg {A : Nat → Prop} {w w' : World} {B : Nat} {v : Value} {es : List Pap} (h : Arr w B v es) (hb : Chg A w w') (hn : ∀ g, v.ownBlock = some g → ¬ A g) : Arr w' B v es := by
  refine ⟨h.1, ?_⟩
  rcases h.2 with q | ⟨g, cap, cur, h1, h2, h3, r⟩
  · exact .inl q
  · refine .inr ⟨g, cap, cur, h1, h2, ?_, r⟩
    rw [hb.block g (h.lt g (by rw [h1]; rfl)).2 (hn g (by rw [h1]; rfl))]
    exact h3


/-- the document's disk: a block p of two cells: how much room there is, and the slice v of the papers es -/
structure Keeps (w : World) (B p : Nat) (room : Int) (v : Value) (es : List Pap) : Prop where
  room : w.cell? ⟨p, 0, none⟩ = some (.int .i64 room)
  cell : w.cell? ⟨p, 1, none⟩ = some v
  free : w.frozen? ⟨p, 1, none⟩ = false
  base : B ≤ p
  lt : p < w.heap.size
  arr : Arr w B v es
  apart : v.ownBlock ≠ some p
def foot (p : Nat) (v : Value) (k : Nat) : Prop := k = p ∨ v.ownBlock = some k
theorem Keeps.below {w w' : World} {B p : Nat} {m : Int} {v : Value} {es : List Pap} (h : Keeps w B p m v es) (hb : Below w.heap.size w w') : Keeps w' B p m v es :=
  ⟨by rw [hb.cell (p := ⟨p, 0, none⟩) h.lt]; exact h.room, by rw [hb.cell (p := ⟨p, 1, none⟩) h.lt]; exact h.cell, by rw [hb.frozen (p := ⟨p, 1, none⟩) h.lt]; exact h.free, h.base, by have := hb.size; have := h.lt; omega, h.arr.below hb, h.apart⟩
theorem Keeps.chg {A : Nat → Prop} {w w' : World} {B p : Nat} {m : Int} {v : Value} {es : List Pap} (h : Keeps w B p m v es) (hb : Chg A w w') (hn : ∀ k, foot p v k → ¬ A k) : Keeps w' B p m v es :=
  ⟨by rw [hb.cell (p := ⟨p, 0, none⟩) h.lt (hn p (.inl rfl))]; exact h.room, by rw [hb.cell (p := ⟨p, 1, none⟩) h.lt (hn p (.inl rfl))]; exact h.cell, by rw [hb.frozen (p := ⟨p, 1, none⟩) h.lt (hn p (.inl rfl))]; exact h.free, h.base, by have := hb.size; have := h.lt; omega, h.arr.chg hb (fun g hg => hn g (.inr hg)), h.apart⟩
/-- the new slice is stored in the block -/
theorem Keeps.store {w w' : World} {B p : Nat} {m : Int} {v v' : Value} {es es' : List Pap} (h : Keeps w B p m v es) (hb : Chg (fun k => v.ownBlock = some k) w w') (ha : Arr w' B v' es') (hv : ∀ g, v'.ownBlock = some g → v.ownBlock = some g ∨ w.heap.size ≤ g) :
    Keeps (w'.setCell ⟨p, 1, none⟩ v') B p m v' es' ∧ Chg (foot p v) w (w'.setCell ⟨p, 1, none⟩ v') := by
  have hne : v'.ownBlock ≠ some p := fun e => by
    rcases hv p e with q | q
    · exact h.apart q
    · have := h.lt; omega
  have hc : w'.cell? ⟨p, 1, none⟩ = some v := by rw [hb.cell (p := ⟨p, 1, none⟩) h.lt h.apart]; exact h.cell
  refine ⟨⟨?_, World.cell?_setCell_same _ _ _ hc, ?_, h.base, ?_, ?_, hne⟩, ?_⟩
  · rw [World.cell?_setCell_other _ _ _ _ (by simp), hb.cell (p := ⟨p, 0, none⟩) h.lt h.apart]; exact h.room
  · rw [World.frozen?_setCell, hb.frozen (p := ⟨p, 1, none⟩) h.lt h.apart]; exact h.free
  · have := hb.size; have := h.lt; simp [World.setCell]; omega
  · refine ha.chg (A := fun k => k = p) (Chg.setCell (A := fun k => k = p) (p := ⟨p, 1, none⟩) (Chg.refl _ _) (.inl rfl) _) (fun g hg e => ?_)
    subst e
    exact hne hg
  · exact (hb.mono (fun k _ q => .inr q)).setCell (.inl (.inl rfl)) _
theorem Keeps.put {w : World} {B p g cap j : Nat} {m : Int} {es es' : List Pap} {u : Value} (h : Keeps w B p m (.slice (some ⟨g, 0, none⟩) es.length cap) es) (hl : es'.length = es.length) (hc : cel es' = (cel es).set j u) :
    Keeps (w.setCell ⟨g, j, none⟩ u) B p m (.slice (some ⟨g, 0, none⟩) es'.length cap) es' ∧ Chg (foot p (.slice (some ⟨g, 0, none⟩) es.length cap)) w (w.setCell ⟨g, j, none⟩ u) := by
  have hgp : g ≠ p := fun e => h.apart (by rw [e]; rfl)
  have hst := (World.ownsRow.stored h.arr j u).1
  rw [hl]
  refine ⟨⟨?_, ?_, ?_, h.base, ?_, ?_, h.apart⟩, ?_⟩
  · rw [World.cell?_setCell_other _ _ _ _ (by intro e; injection e; omega)]; exact h.room
  · rw [World.cell?_setCell_other _ _ _ _ (by intro e; injection e; omega)]; exact h.cell
  · rw [World.frozen?_setCell]; exact h.free
  · have := h.lt; simpa [World.setCell] using this
  · unfold Arr
    rw [hl, hc]
    exact hst
  · exact (Chg.refl _ _).setCell (.inl (.inr rfl)) _
/-- the number of sure bytes is stored -/
theorem Keeps.sure {w : World} {B p g cap : Nat} {m : Int} {es : List Pap} (h : Keeps w B p m (.slice (some ⟨g, 0, none⟩) es.length cap) es) {k : Nat} (hk : k < es.length) (n : Int) :
    Keeps (w.setCell ⟨g, k * 3 + 1, none⟩ (.int .i64 n)) B p m (.slice (some ⟨g, 0, none⟩) (es.set k { pa es k with sure := n }).length cap) (es.set k { pa es k with sure := n }) ∧ Chg (foot p (.slice (some ⟨g, 0, none⟩) es.length cap)) w (w.setCell ⟨g, k * 3 + 1, none⟩ (.int .i64 n)) :=
  h.put (List.length_set ..) (cel_set_sure es k n hk)
/-- a text is stored -/
theorem Keeps.text {w : World} {B p g cap : Nat} {m : Int} {es : List Pap} (h : Keeps w B p m (.slice (some ⟨g, 0, none⟩) es.length cap) es) {k : Nat} (hk : k < es.length) (s : ByteArray) :
    Keeps (w.setCell ⟨g, k * 3 + 2, none⟩ (.string s)) B p m (.slice (some ⟨g, 0, none⟩) (es.set k { pa es k with text := s }).length cap) (es.set k { pa es k with text := s }) ∧ Chg (foot p (.slice (some ⟨g, 0, none⟩) es.length cap)) w (w.setCell ⟨g, k * 3 + 2, none⟩ (.string s)) :=
  h.put (List.length_set ..) (cel_set_text es k s hk)
end Go.Proofs.YtphhebdmfdjfeabGreatDoor.Dk

namespace Go.Proofs.YtphhebdmfdjfeabGreatDoor.Dk
open Go.RowKit

/-- append onto a row of one's own: where the new row lies -/
theorem append_blk (w : World) (B : Nat) (ty : TypeId) (v : Value) (es fs : List Pap) (ha : Arr w B v es) (a : Addr) (c : Nat) (hnews : ∀ j u, (cel fs)[j]? = some u → w.cell? (a.add j) = some u) (hl : es.length + fs.length ≤ 10000) (hB : B ≤ w.heap.size) :
    ∃ v' w', (Builtin.append_ #[29, 29] ty #[v, .slice (some a) fs.length c]).run Tryz.prog w = .ok v' w' ∧ Arr w' B v' (es ++ fs) ∧ w.grownBy w' v.ownBlock ∧ (v'.ownBlock = v.ownBlock ∨ v'.ownBlock = some w.heap.size) := by
  obtain ⟨i0, hi, hz0, hz1, hz2⟩ := info_parts infoE
  have hlen : (cel fs).length = fs.length * 3 := cel_length fs
  obtain ⟨v', w', hr, h2, h3, h4⟩ := run_append_own (P := Tryz.prog) w B 29 ty 52 i0 _ 3 32 Tryz.underlying29 hi hz0 hz1 hz2 rfl (by omega) v es.length (cel es) ha a fs.length c (cel fs) hlen hnews (cel_one fs) (by unfold maxLen; omega) (by omega) hB
  refine ⟨v', w', hr, ?_, h3, ?_⟩
  · unfold Arr
    rw [List.length_append, cel_append]
    exact h2
  · rcases ha.2 with ⟨rfl, hn⟩ | ⟨g, cap, cur, rfl, hbg, hg, hnc, hcm, hcs, htake⟩
    · by_cases hm : fs.length = 0
      · left
        rw [h4.2 ⟨rfl, hm⟩]
      · right
        have hr2 := run_append_nil (P := Tryz.prog) w 29 ty 52 i0 _ Tryz.underlying29 hi hz0 a fs.length c (cel fs) (by rw [hz1]; exact hlen) hnews (by omega) (by omega) (by rw [hz2]; omega)
        rw [hr] at hr2
        cases hr2
        rfl
    · by_cases hroom : es.length + fs.length ≤ cap
      · left
        obtain ⟨w2, hr2, _, _⟩ := run_append_fits (P := Tryz.prog) w B 29 ty 52 i0 3 Tryz.underlying29 hi hz1 g es.length cap (cel es) ha a fs.length c (cel fs) hlen hnews (cel_one fs) hroom
        rw [hr] at hr2
        cases hr2
        rfl
      · right
        have hr2 := run_append_grow (P := Tryz.prog) w 29 ty 52 i0 _ Tryz.underlying29 hi hz0 ⟨g, 0, none⟩ es.length cap (cel es) (by rw [hz1]; exact ha.1) (World.ownsRow.cells ha (g := g) rfl) a fs.length c (cel fs) (by rw [hz1]; exact hlen) hnews (by omega) (by omega) (by rw [hz2]; exact growslice_fits (by omega) (by omega))
        rw [hr] at hr2
        cases hr2
        rfl

/-- what a run of stores makes of a row -/
theorem own_sets {B g cap n : Nat} {e : TypeId} {size : Nat} : ∀ (vs : List Value) (o : Nat) (w : World) (xs : List Value), w.ownsRow B e size (.slice (some ⟨g, 0, none⟩) n cap) n xs → o + vs.length ≤ xs.length → (w.setCells g o vs).ownsRow B e size (.slice (some ⟨g, 0, none⟩) n cap) n (xs.take o ++ vs ++ xs.drop (o + vs.length))
  | [], o, w, xs, h, _ => by simpa [World.setCells] using h
  | v :: r, o, w, xs, h, hl => by
    have h1 := (World.ownsRow.stored h o v).1
    have h2 := own_sets r (o + 1) _ _ h1 (by simp at hl ⊢; omega)
    rw [World.setCells]
    have e := list_seg_step xs o v r (by simpa using hl)
    rw [e] at h2
    exact h2
theorem chg_sets {g : Nat} : ∀ (vs : List Value) (o : Nat) (w : World), Chg (fun k => k = g) w (w.setCells g o vs)
  | [], o, w => Chg.refl _ _
  | v :: r, o, w => by
    rw [World.setCells]
    exact (Chg.setCell (A := fun k => k = g) (p := ⟨g, o, none⟩) (Chg.refl _ _) (.inl rfl) v).trans (chg_sets r (o + 1) _)

/-- copy at elements of two cells -/
theorem run_copy_three (w : World) (dT sT ty elem : TypeId) (b o dLen dCap : Nat) (a : Addr) (sLen sCap m : Nat) (cs : List Value)
    (hu : Tryz.prog.underlying dT = some (.slice elem)) (hs : (Tryz.prog.info? elem).map (·.size) = some 3) (hm : Nat.min sLen dLen = m) (hn : cs.length = m * 3)
    (hsrc : ∀ j v, cs[j]? = some v → w.cell? (a.add j) = some v) (hc : ∀ j, j < cs.length → (w.cell? ⟨b, o + j, none⟩).isSome = true) (hf : ∀ j, j < cs.length → w.frozen? ⟨b, o + j, none⟩ = false) (h1 : ∀ v ∈ cs, v.oneCell' = true) :
    (Builtin.copy_ #[dT, sT] ty #[.slice (some ⟨b, o, none⟩) dLen dCap, .slice (some a) sLen sCap]).run Tryz.prog w = .ok (goInt m) (w.setCells b o cs) := by
  have hl := run_loadCells_list (P := Tryz.prog) w a cs hsrc
  have hst := run_storeCells_cells (P := Tryz.prog) b o cs 0 w (by simpa using hc) (by simpa using hf) h1
  cases hq : Tryz.prog.info? elem with
  | none => simp [hq] at hs
  | some i =>
    have hi : i.size = 3 := by simpa [hq] using hs
    simp [Builtin.copy_, run_underlying hu, Builtin.lenOf, Builtin.firstCells, sizeOf, typeInfo, hq, hi, hm, ← hn, hl, hst]
theorem sizeE : (Tryz.prog.info? 52).map (·.size) = some 3 := by kernel_rfl

theorem one_row {w : World} {vb : Nat} {x : Pap} (h : w.heap[vb]? = some (.cells #[.int .i64 x.n, .int .i64 x.sure, .string x.text] 52 (0, 0))) : (∀ j u, (cel [x])[j]? = some u → w.cell? ⟨vb, j, none⟩ = some u) ∧ (∀ j, w.frozen? ⟨vb, j, none⟩ = false) ∧ w.shape? vb = some (52, 3) := by
  refine ⟨fun j u hj => ?_, fun j => frozen_of_row w vb j _ _ h, ?_⟩
  · rw [cell_of_row w vb j _ _ _ h]
    simpa [cel] using hj
  · simp [World.shape?, h]

set_option maxHeartbeats 4000000 in
set_option maxRecDepth 100000 in
theorem insert_end (B : Nat) (v : Value) (es : List Pap) (x : Pap) (vb : Nat) (w : World) (ha : Arr w B v es) (h100 : es.length ≤ 100) (hvb : w.heap[vb]? = some (.cells #[.int .i64 x.n, .int .i64 x.sure, .string x.text] 52 (0, 0))) (hB : B ≤ w.heap.size) :
    Calls Tryz.prog 87 #[v, .int .i64 es.length, .slice (some ⟨vb, 0, none⟩) 1 1] w fun e w' => ∃ v', e = .returned v' ∧ Arr w' B v' (es ++ [x]) ∧ Chg (fun k => v.ownBlock = some k) w w' ∧ ∀ g, v'.ownBlock = some g → v.ownBlock = some g ∨ w.heap.size ≤ g := by
  obtain ⟨v', w', hr, h1, h2, h3⟩ := append_blk w B 29 v es [x] ha ⟨vb, 0, none⟩ 1 (fun j u hj => by rw [Addr.add_lit, Nat.zero_add]; exact (one_row hvb).1 j u hj) (by simp; omega) hB
  obtain ⟨a, cap, rfl, c1, c2, c3⟩ := ha.shape
  unfold maxLen at c2
  have Hend : Hid (Arr w' B v' (es ++ [x]) ∧ Chg (fun k => (Value.slice a es.length cap).ownBlock = some k) w w' ∧ ∀ g, v'.ownBlock = some g → (Value.slice a es.length cap).ownBlock = some g ∨ w.heap.size ≤ g) :=
    hide ⟨h1, Chg.of_grown h2, fun g hg => by
      rcases h3 with q | q
      · exact .inl (by rw [← q]; exact hg)
      · rw [q] at hg; cases hg; exact .inr (Nat.le_refl _)⟩
  have Ha := hide ha
  clear h1 h2 h3 c3 ha hvb
  rcases a with _ | ⟨ab, ao, asp⟩
  · have hn : es.length = 0 := by
      rcases (unhide Ha).2 with ⟨_, q⟩ | ⟨g, cap, cur, q, _⟩
      · exact q
      · cases q
    have hcap : cap = 0 := by
      rcases (unhide Ha).2 with ⟨q, _⟩ | ⟨g, cap, cur, q, _⟩
      · exact (Value.slice.inj q).2.2
      · cases q
    subst hcap
    rw [hn] at hr Hend ⊢
    go_enter Tryz.func87, Tryz.ntmps87
    go_wp2_with (at_builtin; refine Lib.wpList_append_run _ rfl _ _ _ _ rfl _ _ rfl rfl _ _ hr ?_)
    go_ret
    exact ⟨v', rfl, unhide Hend⟩
  · go_enter Tryz.func87, Tryz.ntmps87
    go_wp2_with (at_builtin; refine Lib.wpList_append_run _ rfl _ _ _ _ rfl _ _ rfl rfl _ _ hr ?_)
    all_goals
      go_ret
      exact ⟨v', rfl, unhide Hend⟩

set_option maxHeartbeats 4000000 in
set_option maxRecDepth 100000 in
theorem insert_shift (B g n c i : Nat) (es : List Pap) (x : Pap) (vb : Nat) (w : World) (hn : es.length = n) (ha : Arr w B (.slice (some ⟨g, 0, none⟩) n c) es) (h100 : n ≤ 100) (hi : i < n) (hroom : n + 1 ≤ c)
    (hvb : w.heap[vb]? = some (.cells #[.int .i64 x.n, .int .i64 x.sure, .string x.text] 52 (0, 0))) (hne : vb ≠ g) :
    Calls Tryz.prog 87 #[.slice (some ⟨g, 0, none⟩) n c, .int .i64 i, .slice (some ⟨vb, 0, none⟩) 1 1] w fun e w' =>
      e = .returned (.slice (some ⟨g, 0, none⟩) (n + 1) c) ∧ w' = (w.drew.setCells g ((i + 1) * 3) ((cel es).drop (i * 3))).setCells g (i * 3) (cel [x]) := by
  obtain ⟨cur, hg, hcs, htake⟩ : ∃ cur, w.heap[g]? = some (.cells cur 52 (0, 0)) ∧ cur.size = c * 3 ∧ cur.toList.take (n * 3) = cel es := by
    rcases ha.2 with ⟨q, _⟩ | ⟨g', cap', cur, q, h2, h3, h4, h5, h6, h7⟩
    · cases q
    · simp only [Value.slice.injEq, Option.some.injEq, Addr.mk.injEq, and_true] at q
      obtain ⟨rfl, _, rfl⟩ := q
      exact ⟨cur, h3, h6, by rw [hn] at h7; exact h7⟩
  have hcs2 : ∀ j u, (cel es)[j]? = some u → w.cell? ⟨g, j, none⟩ = some u := by
    intro j u hj
    subst hn
    exact ha.cell j u hj
  have hsp : ∀ j, j < (n + 1) * 3 → (w.cell? ⟨g, j, none⟩).isSome = true := by
    intro j hj
    rw [cell_of_row w g j _ _ _ hg, Array.getElem?_eq_getElem (by omega)]
    rfl
  have hfz : ∀ j, w.frozen? ⟨g, j, none⟩ = false := fun j => frozen_of_row w g j _ _ hg
  have hsg : w.shape? g = some (52, c * 3) := by simp [World.shape?, hg, hcs]
  obtain ⟨hvs, hvf, hvsh⟩ := one_row hvb
  have hz2 : ¬ ((i : Int) = (n : Int)) := by omega
  have hov : ∀ lb cb, (callFunc 128 #[.slice (some ⟨vb, 0, none⟩) 1 1, .slice (some ⟨g, (i + 1) * 3, none⟩) lb cb]).run Tryz.prog w = .ok (.value (.bool false)) w := fun lb cb => by
    rw [run_callFunc_extern Tryz.func128 (by kernel_rfl) (by kernel_rfl) (by kernel_rfl) (e := Extern.SlicesOverlaps.overlaps #[29, 29] #[4]) (by kernel_rfl),
      Lib.run_overlaps_apart w 29 4 52 Tryz.underlying29 3 Tryz.sizeOf52 ⟨vb, 0, none⟩ ⟨g, (i + 1) * 3, none⟩ 1 1 lb cb hne _ _ 3 (c * 3) hvsh hsg (by omega) (hvf 0) (hvf 3)]
    rfl
  have hdl : ((cel es).drop (i * 3)).length = (n - i) * 3 := by rw [List.length_drop, cel_length, hn]; omega
  have hw1 : IntKind.i64.wrap ((i : Int) + 1) = (i : Int) + 1 := by rw [IntKind.wrap_i64]; omega
  have hb1 : (0 : Int) ≤ (i : Int) + 1 := by omega
  have hin : i ≤ n := by omega
  have htn : ((i : Int) + 1).toNat = i + 1 := by omega
  have hb2 : ¬ (c = i + 1) := by omega
  have hb3 : (i : Int) ≤ (n : Int) + 1 := by omega
  have hb4 : ¬ (c = i) := by omega
  have hcp1 : ∀ ty dc sc, (Builtin.copy_ #[29, 29] ty #[.slice (some ⟨g, (i + 1) * 3, none⟩) (n - i) dc, .slice (some ⟨g, i * 3, none⟩) (n + 1 - i) sc]).run Tryz.prog w.drew = .ok (goInt ((n - i : Nat) : Int)) (w.drew.setCells g ((i + 1) * 3) ((cel es).drop (i * 3))) := fun ty dc sc =>
    run_copy_three w.drew _ _ ty 52 g ((i + 1) * 3) (n - i) dc ⟨g, i * 3, none⟩ (n + 1 - i) sc (n - i) ((cel es).drop (i * 3)) Tryz.underlying29 sizeE (by simp only [Nat.min_def]; split <;> omega) hdl
      (fun j v hj => by rw [Addr.add_lit]; exact hcs2 (i * 3 + j) v (by rwa [List.getElem?_drop] at hj))
      (fun j hj => hsp _ (by omega)) (fun j _ => hfz _) (fun v hv => cel_one es v (List.mem_of_mem_drop hv))
  obtain ⟨W1, hW1⟩ : ∃ W1, W1 = w.drew.setCells g ((i + 1) * 3) ((cel es).drop (i * 3)) := ⟨_, rfl⟩
  have hsp1 : ∀ k, k < (n + 1) * 3 → (W1.cell? ⟨g, k, none⟩).isSome = true := fun k hk => by
    rw [hW1]
    exact isSome_setCells g ((cel es).drop (i * 3)) ((i + 1) * 3) w.drew (fun j hj => hsp ((i + 1) * 3 + j) (by rw [hdl] at hj; omega)) k (hsp k hk)
  have hcp2 : ∀ (W : World), (∀ x, W.cell? x = W1.cell? x) → (∀ x, W.frozen? x = W1.frozen? x) → ∀ ty dc, (Builtin.copy_ #[29, 29] ty #[.slice (some ⟨g, i * 3, none⟩) (n + 1 - i) dc, .slice (some ⟨vb, 0, none⟩) 1 1]).run Tryz.prog W = .ok (goInt 1) (W.setCells g (i * 3) (cel [x])) := fun W hWc hWf ty dc =>
    run_copy_three W _ _ ty 52 g (i * 3) (n + 1 - i) dc ⟨vb, 0, none⟩ 1 1 1 (cel [x]) Tryz.underlying29 sizeE (by simp only [Nat.min_def]; split <;> omega) rfl
      (fun j v hj => by
        rw [Addr.add_lit, hWc, hW1, World.cell?_setCells_out g _ _ _ _ (fun h _ => absurd h hne), Nat.zero_add]
        exact hvs j v hj)
      (fun j hj => by rw [hWc]; exact hsp1 _ (by simp [cel] at hj; omega)) (fun j hj => by rw [hWf, hW1, World.frozen?_setCells]; exact hfz _) (cel_one [x])
  rw [← hW1] at hcp1
  clear hcs2 hsp hfz hvs hvf hsp1 hg hvb ha htake
  go_enter Tryz.func87, Tryz.ntmps87
  go_wp2_with (simp only [hov])
  go_region_law (refine step_copy_runI rfl _ _ 29 29 rfl _ _ (by simp [Act.eval, Act.put]) (by simp [Act.eval, Act.put]) (hcp1 _ _ _) ?_)
  go_wp2_with (at_builtin; refine wpList_copy_runI _ rfl _ _ 29 29 rfl _ _ rfl rfl (hcp2 _ (fun _ => rfl) (fun _ => rfl) _ _) ?_)
  go_ret
  first | exact ⟨rfl, rfl⟩ | exact ⟨rfl, by rw [hW1]⟩
def zE : Value := .agg #[.int .i64 0, .int .i64 0, .string ByteArray.empty]
set_option maxHeartbeats 4000000 in
set_option maxRecDepth 100000 in
theorem insert_grow (B g n i : Nat) (es : List Pap) (x : Pap) (vb : Nat) (w : World) (hn : es.length = n) (ha : Arr w B (.slice (some ⟨g, 0, none⟩) n n) es) (h100 : n ≤ 100) (hi : i < n)
    (hvb : w.heap[vb]? = some (.cells #[.int .i64 x.n, .int .i64 x.sure, .string x.text] 52 (0, 0))) :
    Calls Tryz.prog 87 #[.slice (some ⟨g, 0, none⟩) n n, .int .i64 i, .slice (some ⟨vb, 0, none⟩) 1 1] w fun e w' =>
      e = .returned (.slice (some ⟨w.heap.size, 0, none⟩) (n + 1) (grownCap w (n + 1) n 52)) ∧
      w' = (((w.alloc (.cells (((cel es).take (i * 3)).toArray ++ Builtin.zeroCells zE.cells (n + 1 - i) ++ Builtin.zeroCells zE.cells (grownCap w (n + 1) n 52 - (n + 1))) 52)).drew.setCells w.heap.size (i * 3) (cel [x])).drew).setCells w.heap.size ((i + 1) * 3) ((cel es).drop (i * 3)) := by
  obtain ⟨i0, hi0, hz0, hzs, hzb⟩ := info_parts infoE
  have hcs2 : ∀ j u, (cel es)[j]? = some u → w.cell? ⟨g, j, none⟩ = some u := by
    intro j u hj
    subst hn
    exact ha.cell j u hj
  have hcl : (cel es).length = n * 3 := by rw [cel_length, hn]
  obtain ⟨hvs, hvf, hvsh⟩ := one_row hvb
  have hbw : g < w.heap.size := block_lt_of_cell (hcs2 0 _ (List.getElem?_eq_getElem (by omega)))
  have hvw : vb < w.heap.size := block_lt_of_cell (hvs 0 _ (List.getElem?_eq_getElem (by simp [cel])))
  have hz2 : ¬ ((i : Int) = (n : Int)) := by omega
  have hkk : (n : Int) + 1 - (i : Int) = ((n + 1 - i : Nat) : Int) := by omega
  have hik : i + (n + 1 - i) = n + 1 := by omega
  have hold : (Builtin.firstCells i0.size i (.slice (some ⟨g, 0, none⟩) i n)).run Tryz.prog w.drew = .ok ((cel es).take (i * 3)).toArray w.drew := by
    rw [hzs]
    exact run_firstCells_some w.drew 3 i ⟨g, 0, none⟩ i n ((cel es).take (i * 3)) (by rw [List.length_take]; omega) (fun j v hj => by
      rw [Addr.add_lit, Nat.zero_add]
      rw [List.getElem?_take] at hj
      split at hj
      · exact hcs2 j v hj
      · cases hj)
  have hrz : ∀ ty, (Builtin.append_ #[29, 3] ty #[.slice (some ⟨g, 0, none⟩) i n, .int .i64 ((n : Int) + 1 - (i : Int))]).run Tryz.prog w =
      .ok (.slice (some ⟨w.heap.size, 0, none⟩) (n + 1) (grownCap w (n + 1) n 52)) (w.drew.alloc (.cells (((cel es).take (i * 3)).toArray ++ Builtin.zeroCells zE.cells (n + 1 - i) ++ Builtin.zeroCells zE.cells (grownCap w (n + 1) n 52 - (n + 1))) 52)) := fun ty => by
    have h := Lib.run_append_grow_zeros (P := Tryz.prog) w 29 3 ty 52 i0 _ .i64 .i64 Tryz.underlying29 Tryz.underlying3 hi0 hz0 (some ⟨g, 0, none⟩) i n ((cel es).take (i * 3)) hold (n + 1 - i) (by omega) (by omega) (by omega) (by omega) (by rw [hzb]; omega) (by rw [hzb, hik]; exact growslice_fits (by omega) (by omega))
    rw [hik] at h
    rw [hkk]
    exact h
  obtain ⟨G, hG⟩ : ∃ G, G = grownCap w (n + 1) n 52 := ⟨_, rfl⟩
  obtain ⟨ROW, hROW⟩ : ∃ ROW : Array Value, ROW = ((cel es).take (i * 3)).toArray ++ Builtin.zeroCells zE.cells (n + 1 - i) ++ Builtin.zeroCells zE.cells (G - (n + 1)) := ⟨_, rfl⟩
  rw [← hG] at hrz ⊢
  rw [← hROW] at hrz ⊢
  have hRl : (n + 1) * 3 ≤ ROW.size := by
    rw [hROW]
    simp only [Array.size_append, List.size_toArray, size_zeroCells, List.length_take, hcl, zE, Value.cells]
    simp
    omega
  obtain ⟨W1, hW1⟩ : ∃ W1, W1 = w.drew.alloc (.cells ROW 52) := ⟨_, rfl⟩
  rw [← hW1] at hrz
  have hN : ∀ j, j < (n + 1) * 3 → (W1.cell? ⟨w.heap.size, j, none⟩).isSome = true := fun j hj => by
    rw [hW1, World.cell?_alloc_at (w := w.drew) ROW _ w.heap.size j rfl, Array.getElem?_eq_getElem (by omega)]; rfl
  have hNf : ∀ j, W1.frozen? ⟨w.heap.size, j, none⟩ = false := fun j => by rw [hW1]; exact World.frozen?_alloc_at (w := w.drew) ROW _ w.heap.size j rfl
  have hOb : ∀ j v, w.cell? ⟨g, j, none⟩ = some v → W1.cell? ⟨g, j, none⟩ = some v := fun j v h => by rw [hW1, World.cell?_alloc_past (w := w.drew) _ g j hbw]; exact h
  have hOv : ∀ j v, w.cell? ⟨vb, j, none⟩ = some v → W1.cell? ⟨vb, j, none⟩ = some v := fun j v h => by rw [hW1, World.cell?_alloc_past (w := w.drew) _ vb j hvw]; exact h
  have hcpA : ∀ (W : World), (∀ x, W.cell? x = W1.cell? x) → (∀ x, W.frozen? x = W1.frozen? x) → ∀ ty dc, (Builtin.copy_ #[29, 29] ty #[.slice (some ⟨w.heap.size, i * 3, none⟩) (n + 1 - i) dc, .slice (some ⟨vb, 0, none⟩) 1 1]).run Tryz.prog W = .ok (goInt 1) (W.setCells w.heap.size (i * 3) (cel [x])) := fun W hWc hWf ty dc =>
    run_copy_three W _ _ ty 52 w.heap.size (i * 3) (n + 1 - i) dc ⟨vb, 0, none⟩ 1 1 1 (cel [x]) Tryz.underlying29 sizeE (by simp only [Nat.min_def]; split <;> omega) rfl
      (fun j v hj => by rw [Addr.add_lit, Nat.zero_add, hWc]; exact hOv _ v (hvs j v hj))
      (fun j hj => by rw [hWc]; exact hN _ (by simp [cel] at hj; omega)) (fun j hj => by rw [hWf]; exact hNf _) (cel_one [x])
  have hGn : n + 1 ≤ G := by rw [hG]; exact grownCap_ge w _ _ _
  have hG63 : G ≤ 9223372036854775807 := by
    have := grownCap_le_maxLen w (n + 1) n 52 (by unfold maxLen; omega)
    rw [← hG] at this
    unfold maxLen at this
    omega
  have hGi : ¬ (G = i) := by omega
  have hGim : ¬ (G = i + 1) := by omega
  have hci : ¬ (n = i) := by omega
  have hbN : g ≠ w.heap.size := by omega
  have hdl : ((cel es).drop (i * 3)).length = (n - i) * 3 := by rw [List.length_drop, hcl]; omega
  have hcpB : ∀ (W : World), (∀ q, W.cell? q = (W1.setCells w.heap.size (i * 3) (cel [x])).cell? q) → (∀ q, W.frozen? q = (W1.setCells w.heap.size (i * 3) (cel [x])).frozen? q) → ∀ ty dc sc, (Builtin.copy_ #[29, 29] ty #[.slice (some ⟨w.heap.size, (i + 1) * 3, none⟩) (n - i) dc, .slice (some ⟨g, i * 3, none⟩) (n - i) sc]).run Tryz.prog W = .ok (goInt ((n - i : Nat) : Int)) (W.setCells w.heap.size ((i + 1) * 3) ((cel es).drop (i * 3))) := fun W hWc hWf ty dc sc =>
    run_copy_three W _ _ ty 52 w.heap.size ((i + 1) * 3) (n - i) dc ⟨g, i * 3, none⟩ (n - i) sc (n - i) ((cel es).drop (i * 3)) Tryz.underlying29 sizeE (by simp only [Nat.min_def]; split <;> omega) hdl
      (fun j v hj => by
        rw [Addr.add_lit, hWc, World.cell?_setCells_out _ _ _ _ _ (fun h _ => absurd h hbN)]
        exact hOb _ v (hcs2 (i * 3 + j) v (by rwa [List.getElem?_drop] at hj)))
      (fun j hj => by rw [hWc]; exact isSome_setCells _ (cel [x]) _ _ (fun t ht => hN _ (by simp [cel] at ht; omega)) _ (hN _ (by rw [hdl] at hj; omega)))
      (fun j hj => by rw [hWf, World.frozen?_setCells]; exact hNf _) (fun v hv => cel_one es v (List.mem_of_mem_drop hv))
  subst hW1
  have hE1 : ∀ q, ((w.alloc (.cells ROW 52)).drew).cell? q = (w.drew.alloc (.cells ROW 52)).cell? q := fun _ => rfl
  have hE2 : ∀ q, ((w.alloc (.cells ROW 52)).drew).frozen? q = (w.drew.alloc (.cells ROW 52)).frozen? q := fun _ => rfl
  have hF1 : ∀ q, (((w.alloc (.cells ROW 52)).drew.setCells w.heap.size (i * 3) (cel [x])).drew).cell? q = ((w.drew.alloc (.cells ROW 52)).setCells w.heap.size (i * 3) (cel [x])).cell? q := fun _ => rfl
  have hF2 : ∀ q, (((w.alloc (.cells ROW 52)).drew.setCells w.heap.size (i * 3) (cel [x])).drew).frozen? q = ((w.drew.alloc (.cells ROW 52)).setCells w.heap.size (i * 3) (cel [x])).frozen? q := fun _ => rfl
  have hw1 : IntKind.i64.wrap ((i : Int) + 1) = (i : Int) + 1 := by rw [IntKind.wrap_i64]; omega
  have hb1 : (0 : Int) ≤ (i : Int) + 1 := by omega
  have hin : i ≤ n := by omega
  have htn : ((i : Int) + 1).toNat = i + 1 := by omega
  have hb3 : (i : Int) ≤ (n : Int) := by omega
  clear hkk hik hold hROW hG hRl hvb ha hvs hvf hvsh hcs2 hcl hN hNf hOb hOv hz0 hzs hzb hi0
  go_enter Tryz.func87, Tryz.ntmps87
  go_wp2_with (first
    | (at_builtin; refine Lib.wpList_append_run _ rfl _ _ _ _ rfl _ _ rfl rfl _ _ (hrz _) ?_)
    | (at_builtin; refine wpList_copy_runI _ rfl _ _ 29 29 rfl _ _ rfl rfl (hcpA _ hE1 hE2 _ _) ?_))
  go_region_law (refine step_copy_runI rfl _ _ 29 29 rfl (.slice (some ⟨w.heap.size, (i + 1) * 3, none⟩) (n - i) (G - (i + 1))) (.slice (some ⟨g, i * 3, none⟩) (n - i) (n - i)) (by simp [Act.eval, Act.put]) (by simp [Act.eval, Act.put]) (hcpB _ hF1 hF2 3 (G - (i + 1)) (n - i)) ?_)
  go_wp2
  go_ret
  exact ⟨rfl, rfl⟩

theorem list_shift (xs : List Value) (es : List Pap) (x : Pap) (n i : Nat) (hn : es.length = n) (hi : i < n) (hx : xs.length = (n + 1) * 3) (ht : xs.take (i * 3) = (cel es).take (i * 3)) :
    (((xs.take ((i + 1) * 3) ++ (cel es).drop (i * 3) ++ xs.drop ((i + 1) * 3 + ((cel es).drop (i * 3)).length)).take (i * 3)) ++ cel [x] ++ (xs.take ((i + 1) * 3) ++ (cel es).drop (i * 3) ++ xs.drop ((i + 1) * 3 + ((cel es).drop (i * 3)).length)).drop (i * 3 + (cel [x]).length)) = cel (insL es i x) := by
  have hcl : (cel es).length = n * 3 := by rw [cel_length, hn]
  have hdl : ((cel es).drop (i * 3)).length = (n - i) * 3 := by rw [List.length_drop, hcl]; omega
  have h0 : xs.drop ((i + 1) * 3 + ((cel es).drop (i * 3)).length) = [] := List.drop_of_length_le (by rw [hdl]; omega)
  rw [h0, List.append_nil]
  have h1 : (xs.take ((i + 1) * 3)).length = (i + 1) * 3 := by rw [List.length_take]; omega
  rw [List.take_append_of_le_length (by omega), List.take_take, show min (i * 3) ((i + 1) * 3) = i * 3 by omega, ht]
  have h2 : i * 3 + (cel [x]).length = (i + 1) * 3 := by simp [cel]; omega
  rw [h2, List.drop_append, h1, Nat.sub_self, List.drop_zero, List.drop_of_length_le (by omega), List.nil_append]
  unfold insL
  rw [cel_append, show x :: es.drop i = [x] ++ es.drop i from rfl, cel_append, cel_take, cel_drop, List.append_assoc]
theorem list_grow (xs : List Value) (es : List Pap) (x : Pap) (n i : Nat) (hn : es.length = n) (hi : i < n) (hx : xs.length = (n + 1) * 3) (ht : xs.take (i * 3) = (cel es).take (i * 3)) :
    (((xs.take (i * 3) ++ cel [x] ++ xs.drop (i * 3 + (cel [x]).length)).take ((i + 1) * 3)) ++ (cel es).drop (i * 3) ++ (xs.take (i * 3) ++ cel [x] ++ xs.drop (i * 3 + (cel [x]).length)).drop ((i + 1) * 3 + ((cel es).drop (i * 3)).length)) = cel (insL es i x) := by
  have hcl : (cel es).length = n * 3 := by rw [cel_length, hn]
  have hdl : ((cel es).drop (i * 3)).length = (n - i) * 3 := by rw [List.length_drop, hcl]; omega
  have h2 : (cel [x]).length = 3 := rfl
  have h1 : (xs.take (i * 3) ++ cel [x]).length = (i + 1) * 3 := by rw [List.length_append, List.length_take, h2]; omega
  have h3 : (xs.take (i * 3) ++ cel [x] ++ xs.drop (i * 3 + (cel [x]).length)).length = (n + 1) * 3 := by rw [List.length_append, h1, List.length_drop, h2]; omega
  rw [List.drop_of_length_le (l := xs.take (i * 3) ++ cel [x] ++ xs.drop (i * 3 + (cel [x]).length)) (by rw [h3, hdl]; omega), List.append_nil, List.take_append_of_le_length (by omega), List.take_of_length_le (by omega), ht]
  unfold insL
  rw [cel_append, show x :: es.drop i = [x] ++ es.drop i from rfl, cel_append, cel_take, cel_drop, List.append_assoc]

theorem insert_any (B : Nat) (v : Value) (es : List Pap) (i : Nat) (x : Pap) (vb : Nat) (w : World) (ha : Arr w B v es) (hi : i ≤ es.length) (h100 : es.length ≤ 100) (hvb : w.heap[vb]? = some (.cells #[.int .i64 x.n, .int .i64 x.sure, .string x.text] 52 (0, 0))) (hne : v.ownBlock ≠ some vb) (hB : B ≤ w.heap.size) :
    Calls Tryz.prog 87 #[v, .int .i64 i, .slice (some ⟨vb, 0, none⟩) 1 1] w fun e w' => ∃ v', e = .returned v' ∧ Arr w' B v' (insL es i x) ∧ Chg (fun k => v.ownBlock = some k) w w' ∧ ∀ g, v'.ownBlock = some g → v.ownBlock = some g ∨ w.heap.size ≤ g := by
  rcases Nat.eq_or_lt_of_le hi with he | hlt
  · subst he
    have e : insL es es.length x = es ++ [x] := by simp [insL]
    rw [e]
    exact insert_end B v es x vb w ha h100 hvb hB
  · obtain ⟨g, cap, rfl, c1, c2, c3, c4⟩ := ha.there (by omega)
    obtain ⟨n, hn⟩ : ∃ n, es.length = n := ⟨_, rfl⟩
    rw [hn] at ha c1 h100 hlt hne ⊢
    have hil : (insL es i x).length = n + 1 := by rw [insL_length hi, hn]
    by_cases hroom : n + 1 ≤ cap
    · refine (insert_shift B g n cap i es x vb w hn ha h100 hlt hroom hvb (fun e => hne (by rw [e]; rfl))).mono ?_
      rintro e w' ⟨rfl, rfl⟩
      refine ⟨_, rfl, ?_, ?_, fun g' hg' => .inl hg'⟩
      · rcases ha.2 with ⟨q, _⟩ | ⟨g', cap', cur, q, h2, h3, h4, h5, h6, h7⟩
        · cases q
        · simp only [Value.slice.injEq, Option.some.injEq, Addr.mk.injEq, and_true] at q
          obtain ⟨rfl, _, rfl⟩ := q
          rw [hn] at h7
          have hcur : cur.toList.length = cap * 3 := by rw [Array.length_toList]; exact h6
          have hx : (cur.toList.take ((n + 1) * 3)).length = (n + 1) * 3 := by rw [List.length_take]; omega
          have o1 : w.drew.ownsRow B 52 3 (.slice (some ⟨g, 0, none⟩) (n + 1) cap) (n + 1) (cur.toList.take ((n + 1) * 3)) := ⟨hx, .inr ⟨g, cap, cur, rfl, h2, h3, hroom, h5, h6, rfl⟩⟩
          have hdl : ((cel es).drop (i * 3)).length = (n - i) * 3 := by rw [List.length_drop, cel_length, hn]; omega
          have o2 := own_sets ((cel es).drop (i * 3)) ((i + 1) * 3) _ _ o1 (by rw [hx, hdl]; omega)
          have o3 := own_sets (cel [x]) (i * 3) _ _ o2 (by
            rw [hdl, List.length_append, List.length_append, List.length_take, hx, hdl, show (cel [x]).length = 3 from rfl]
            omega)
          rw [list_shift _ es x n i hn hlt hx (by
            rw [List.take_take, show min (i * 3) ((n + 1) * 3) = i * 3 by omega, ← h7, List.take_take, show min (i * 3) (n * 3) = i * 3 by omega])] at o3
          unfold Arr
          rw [hil]
          exact o3
      · have c : Chg (fun k => k = g) w w.drew := ⟨rfl, rfl, rfl, Nat.le_refl _, fun _ _ _ => rfl⟩
        exact ((c.trans (chg_sets _ _ _)).trans (chg_sets _ _ _)).mono (fun k _ hk => by rw [hk]; rfl)
    · obtain rfl : cap = n := by omega
      refine (insert_grow B g cap i es x vb w hn ha h100 hlt hvb).mono ?_
      rintro e w' ⟨rfl, rfl⟩
      refine ⟨_, rfl, ?_, ?_, fun g' hg' => .inr (by cases hg'; exact Nat.le_refl _)⟩
      · obtain ⟨G, hG⟩ : ∃ G, G = grownCap w (cap + 1) cap 52 := ⟨_, rfl⟩
        have hGn : cap + 1 ≤ G := by rw [hG]; exact grownCap_ge w _ _ _
        have hGm : G ≤ maxLen := by rw [hG]; exact grownCap_le_maxLen w _ _ _ (by unfold maxLen; omega)
        rw [← hG]
        obtain ⟨ROW, hROW⟩ : ∃ ROW : Array Value, ROW = ((cel es).take (i * 3)).toArray ++ Builtin.zeroCells zE.cells (cap + 1 - i) ++ Builtin.zeroCells zE.cells (G - (cap + 1)) := ⟨_, rfl⟩
        rw [← hROW]
        have hcl : (cel es).length = cap * 3 := by rw [cel_length, hn]
        have hRs : ROW.size = G * 3 := by
          rw [hROW]
          simp only [Array.size_append, List.size_toArray, size_zeroCells, List.length_take, hcl, zE, Value.cells]
          simp
          omega
        have hx : (ROW.toList.take ((cap + 1) * 3)).length = (cap + 1) * 3 := by rw [List.length_take, Array.length_toList]; omega
        have o1 : (w.alloc (.cells ROW 52)).drew.ownsRow B 52 3 (.slice (some ⟨w.heap.size, 0, none⟩) (cap + 1) G) (cap + 1) (ROW.toList.take ((cap + 1) * 3)) := ⟨hx, .inr ⟨w.heap.size, G, ROW, rfl, hB, heap_alloc_new w _, hGn, hGm, hRs, rfl⟩⟩
        have hdl : ((cel es).drop (i * 3)).length = (cap - i) * 3 := by rw [List.length_drop, cel_length, hn]; omega
        have o2 := own_sets (cel [x]) (i * 3) _ _ o1 (by rw [hx]; simp [cel]; omega)
        have o2' : ((w.alloc (.cells ROW 52)).drew.setCells w.heap.size (i * 3) (cel [x])).drew.ownsRow B 52 3 (.slice (some ⟨w.heap.size, 0, none⟩) (cap + 1) G) (cap + 1) _ := o2
        have o3 := own_sets ((cel es).drop (i * 3)) ((i + 1) * 3) _ _ o2' (by
          rw [hdl, List.length_append, List.length_append, List.length_take, List.length_drop, hx, show (cel [x]).length = 3 from rfl]
          omega)
        rw [list_grow _ es x cap i hn hlt hx (by
          rw [List.take_take, show min (i * 3) ((cap + 1) * 3) = i * 3 by omega, hROW, Array.append_assoc, Array.toList_append, show ((cel es).take (i * 3)).toArray.toList = (cel es).take (i * 3) from rfl, List.take_append_of_le_length (by rw [List.length_take]; omega), List.take_take, Nat.min_self])] at o3
        unfold Arr
        rw [hil]
        exact o3
      · generalize ((cel es).take (i * 3)).toArray ++ Builtin.zeroCells zE.cells (cap + 1 - i) ++ Builtin.zeroCells zE.cells (grownCap w (cap + 1) cap 52 - (cap + 1)) = ROW
        have c1 : Chg (fun k => k = w.heap.size) w (w.alloc (.cells ROW 52)).drew := Chg.of_below ((Below.refl _ _).alloc (Nat.le_refl _) _).drew
        have c2 : Chg (fun k => k = w.heap.size) w ((w.alloc (.cells ROW 52)).drew.setCells w.heap.size (i * 3) (cel [x])) := c1.trans (chg_sets _ _ _)
        have c3 : Chg (fun k => k = w.heap.size) w (((w.alloc (.cells ROW 52)).drew.setCells w.heap.size (i * 3) (cel [x])).drew) := ⟨c2.os, c2.tape, c2.output, c2.size, c2.block⟩
        exact (c3.trans (chg_sets _ _ _)).mono (fun k hk q => by omega)
end Go.Proofs.YtphhebdmfdjfeabGreatDoor.Dk

namespace Go.Proofs.YtphhebdmfdjfeabGreatDoor.Dk
open Go.RowKit

/-- a row of papers as a slice -/
def Sl (w : World) (a : Option Addr) (es : List Pap) : Prop := ∀ k, k < es.length → ∃ g, a = some ⟨g, 0, none⟩ ∧ g < w.heap.size ∧ w.cell? ⟨g, k * 3, none⟩ = some (.int .i64 (pa es k).n) ∧ w.cell? ⟨g, k * 3 + 1, none⟩ = some (.int .i64 (pa es k).sure) ∧ w.cell? ⟨g, k * 3 + 2, none⟩ = some (.string (pa es k).text)
theorem Arr.sl {w : World} {B : Nat} {v : Value} {es : List Pap} (h : Arr w B v es) : ∃ a cap, v = .slice a es.length cap ∧ Sl w a es := by
  obtain ⟨a, cap, rfl, _, _, _⟩ := h.shape
  refine ⟨a, cap, rfl, fun k hk => ?_⟩
  obtain ⟨g, cap', e, _, _, _, hg⟩ := h.there (by omega)
  obtain ⟨rfl, _, rfl⟩ := Value.slice.inj e
  exact ⟨g, rfl, hg, h.num hk, h.sure hk, h.text hk⟩
theorem Sl.below {w w' : World} {a : Option Addr} {es : List Pap} (h : Sl w a es) (hb : Below w.heap.size w w') : Sl w' a es := by
  intro k hk
  obtain ⟨g, h1, h2, h3, h4, h5⟩ := h k hk
  exact ⟨g, h1, Nat.lt_of_lt_of_le h2 hb.size, by rw [hb.cell (p := ⟨g, k * 3, none⟩) h2]; exact h3, by rw [hb.cell (p := ⟨g, k * 3 + 1, none⟩) h2]; exact h4, by rw [hb.cell (p := ⟨g, k * 3 + 2, none⟩) h2]; exact h5⟩

set_option maxHeartbeats 400000 in
theorem at1_any (e : Pap) (n : Int) (b : Nat) (w : World) (hb : w.cell? ⟨b, 0, none⟩ = some (.int .i64 n)) (hl : b < w.heap.size) :
    Calls Tryz.prog 102 #[.agg #[.int .i64 e.n, .int .i64 e.sure, .string e.text], .pointer (some ⟨b, 0, none⟩)] w fun r w' => r = .returned (.bool (e.n == n)) ∧ Below w.heap.size w w' := by
  have h2 : ∀ o, (w.alloc o).cell? ⟨b, 0, none⟩ = some (.int .i64 n) := fun o => by rw [World.cell?_alloc_lt _ _ _ hl]; exact hb
  go_enter Tryz.func102, Tryz.ntmps102
  go_wp2_with fail
  go_ret
  exact ⟨rfl, (Below.refl _ _).alloc (Nat.le_refl _) _⟩
set_option maxHeartbeats 1000000 in
theorem indexf_any (a : Option Addr) (cap : Nat) (es : List Pap) (n : Int) (b : Nat) (w : World) (hsl : Sl w a es) (h100 : es.length ≤ 100) (hb : w.cell? ⟨b, 0, none⟩ = some (.int .i64 n)) (hl : b < w.heap.size) :
    Calls Tryz.prog 101 #[.slice a es.length cap, .func (.func 102) #[] #[.pointer (some ⟨b, 0, none⟩)]] w fun e w' => e = .returned (.int .i64 (atI es n)) ∧ Below w.heap.size w w' := by
  have Hb := hide hb
  clear hb
  go_enter Tryz.func101, Tryz.ntmps101
  go_wp2
  go_loopw [8] (fun iv wr => ∃ (i : Nat), iv = .int .i64 i ∧ i ≤ es.length ∧ Hid (∀ k, k < i → ((pa es k).n == n) = false) ∧ Hid (Sl wr a es) ∧ Below w.heap.size w wr) (fun iv _ => es.length - (intOf iv).toNat)
  case atStart => exact ⟨0, rfl, Nat.zero_le _, hide (fun k hk => absurd hk (Nat.not_lt_zero k)), hide hsl, Below.refl _ _⟩
  case round =>
    obtain ⟨i, rfl, hi, hlo, hsl2, hb⟩ := hrel
    by_cases hlt : i < es.length
    · obtain ⟨g, rfl, hg, hc1, hc2, hc3⟩ := unhide hsl2 i (by omega)
      have H := hide (at1_any (pa es i) n b wr (by rw [hb.cell (p := ⟨b, 0, none⟩) hl]; exact unhide Hb) (by have := hb.size; omega))
      cases he : ((pa es i).n == n) with
      | true =>
        have hp := ix_hit hlt (by simpa using he) (unhide hlo)
        have Hp := hide (show atI es n = (i : Int) by unfold atI; rw [hp, if_pos hlt])
        have He := hide he
        clear he hp
        go_wp2_with fail
        refine (unhide H).mono ?_
        rintro e w1 ⟨rfl, hb1⟩
        rw [unhide He]
        clear hc1 hc2 hc3
        go_wp2_with fail
        go_ret
        exact ⟨ret_eq (unhide Hp), bstep hb hb1⟩
      | false =>
        have He := hide he
        clear he
        go_wp2_with fail
        refine (unhide H).mono ?_
        rintro e w1 ⟨rfl, hb1⟩
        rw [unhide He]
        clear hc1 hc2 hc3
        go_wp2_with fail
        refine ⟨⟨i + 1, by go_num, by omega, hide (fun k hk => ?_), hide ((unhide hsl2).below hb1), bstep hb hb1⟩, ?_⟩
        · rcases Nat.lt_succ_iff_lt_or_eq.1 hk with q | q
          · exact unhide hlo k q
          · rw [q]; exact unhide He
        · simp [intOf]; omega
    · have Hp := hide (show atI es n = -1 by unfold atI; rw [ix_none (fun j hj => unhide hlo j (by omega)), if_neg (by omega)])
      go_wp2_with fail
      go_ret
      exact ⟨ret_eq (unhide Hp), hb⟩

set_option maxHeartbeats 400000 in
theorem at_any (B p : Nat) (m : Int) (v : Value) (es : List Pap) (n : Int) (w : World) (hk : Keeps w B p m v es) (h100 : es.length ≤ 100) :
    Calls Tryz.prog 61 #[.pointer (some ⟨p, 0, none⟩), .int .i64 n] w fun e w' => e = .returned (.int .i64 (atI es n)) ∧ Below w.heap.size w w' := by
  have hb0 : Below w.heap.size w (w.alloc (.cells #[.int .i64 n] 3)) := (Below.refl _ _).alloc (Nat.le_refl _) _
  have k1 := hk.below hb0
  obtain ⟨a, cap, rfl, hsl⟩ := k1.arr.sl
  have hc := k1.cell
  clear k1 hk
  go_enter Tryz.func61, Tryz.ntmps61
  go_wp2_with fail
  refine (indexf_any a cap es n w.heap.size _ hsl h100 (by simp) (by simp)).mono ?_
  rintro e w1 ⟨rfl, hb⟩
  go_wp2_with fail
  go_ret
  exact ⟨rfl, bstep hb0 hb⟩

set_option maxHeartbeats 400000 in
theorem used_any (B p : Nat) (m : Int) (v : Value) (es : List Pap) (w : World) (hk : Keeps w B p m v es) (h100 : es.length ≤ 100) (hu : used es ≤ 1000000000000000000) :
    Calls Tryz.prog 35 #[.pointer (some ⟨p, 0, none⟩)] w fun e w' => e = .returned (.int .i64 (used es : Int)) ∧ w' = w := by
  have hc := hk.cell
  have Hk := hide hk
  obtain ⟨a, cap, rfl, hsl⟩ := hk.arr.sl
  have Hs := hide hsl
  clear hsl hk
  go_enter Tryz.func35, Tryz.ntmps35
  go_wp2_with fail
  go_loop [3, 4] (fun c i => ∃ k : Nat, k ≤ es.length ∧ i = .int .i64 k ∧ c = .int .i64 ((used (es.take k) : Nat) : Int)) (fun _ i => es.length - (intOf i).toNat)
  case atStart => exact ⟨0, Nat.zero_le _, rfl, rfl⟩
  case round =>
    obtain ⟨k, hk, rfl, rfl⟩ := hrel
    have hl := used_le es k
    by_cases hlt : k < es.length
    · obtain ⟨g, rfl, hg, hc1, hc2, hc3⟩ := unhide Hs k hlt
      have hn := used_take hlt
      have hl2 := used_le es (k + 1)
      have Hn := hide hn
      have hb : (used (es.take k) : Int) + ((pa es k).text.size : Int) ≤ 1000000000000000000 := by omega
      clear hn hl2 hc1 hc2
      go_wp2_with fail
      go_round
      case rel => exact ⟨k + 1, by omega, by go_num, by rw [unhide Hn]; simp⟩
      case measure => simp [intOf]; omega
    · obtain rfl : k = es.length := by omega
      go_wp2_with fail
      go_ret
      exact ⟨ret_int (by first | rfl | (rw [List.take_length])), rfl⟩

set_option maxHeartbeats 400000 in
theorem read_any (B p : Nat) (m : Int) (v : Value) (es : List Pap) (n : Int) (w : World) (hk : Keeps w B p m v es) (h100 : es.length ≤ 100) :
    Calls Tryz.prog 49 #[.pointer (some ⟨p, 0, none⟩), .int .i64 n] w fun e w' => e = .returned (readV es n) ∧ Below w.heap.size w w' := by
  have Hk := hide hk
  clear hk
  by_cases hh : ix es n < es.length
  · have Ha := hide (atI_there hh)
    have HR : Hid (readV es n = .tuple #[.string (pa es (ix es n)).text, .int .i64 0]) := hide (by unfold readV; rw [if_pos hh])
    generalize ix es n = q at hh Ha HR
    obtain ⟨g, cap, rfl, c1, c2, c3, c4⟩ := (unhide Hk).arr.there (by omega)
    unfold maxLen at c2
    go_enter Tryz.func49, Tryz.ntmps49
    go_wp2_with fail
    refine (at_any B p m _ es n _ (unhide Hk) h100).mono ?_
    rintro e w1 ⟨rfl, hb1⟩
    rw [unhide Ha]
    have k1 := (unhide Hk).below hb1
    have d1 := k1.cell
    have d2 := k1.arr.text hh
    clear k1
    go_wp2_with fail
    go_ret2
    exact ⟨by rw [unhide HR]; rfl, hb1⟩
  · have Ha := hide (atI_none hh)
    have HR : Hid (readV es n = .tuple #[.string ⟨#[]⟩, .int .i64 4]) := hide (by unfold readV; rw [if_neg hh])
    clear hh
    go_enter Tryz.func49, Tryz.ntmps49
    go_wp2_with fail
    refine (at_any B p m _ es n _ (unhide Hk) h100).mono ?_
    rintro e w1 ⟨rfl, hb1⟩
    rw [unhide Ha]
    go_wp2_with fail
    go_ret2
    exact ⟨by rw [unhide HR]; rfl, hb1⟩

/-- what a call makes of the document's disk: the new papers, and which blocks were written -/
def Upd (w w' : World) (B p : Nat) (m : Int) (v : Value) (es' : List Pap) : Prop := ∃ v', Keeps w' B p m v' es' ∧ Chg (foot p v) w w' ∧ ∀ g, v'.ownBlock = some g → v.ownBlock = some g ∨ w.heap.size ≤ g
theorem Upd.same {w w' : World} {B p : Nat} {m : Int} {v : Value} {es : List Pap} (h : Keeps w B p m v es) (hb : Below w.heap.size w w') : Upd w w' B p m v es := ⟨v, h.below hb, Chg.of_below hb, fun _ h => .inl h⟩
theorem Upd.behind {w w1 w2 : World} {B p : Nat} {m : Int} {v : Value} {es' : List Pap} (hb : Below w.heap.size w w1) (h : Upd w1 w2 B p m v es') : Upd w w2 B p m v es' := by
  obtain ⟨v', h1, h2, h3⟩ := h
  exact ⟨v', h1, (Chg.of_below hb).trans h2, fun g hg => by
    rcases h3 g hg with q | q
    · exact .inl q
    · exact .inr (Nat.le_trans hb.size q)⟩

theorem Upd.drew {w w' : World} {B p : Nat} {m : Int} {v : Value} {es : List Pap} (h : Upd w w' B p m v es) : Upd w w'.drew B p m v es := by
  obtain ⟨v', h1, h2, h3⟩ := h
  exact ⟨v', h1.below (Below.refl _ _).drew, ⟨h2.os, h2.tape, h2.output, h2.size, h2.block⟩, h3⟩
set_option maxHeartbeats 400000 in
theorem sync_any (B p : Nat) (m : Int) (v : Value) (es : List Pap) (n : Int) (w : World) (hk : Keeps w B p m v es) (h100 : es.length ≤ 100) :
    Calls Tryz.prog 16 #[.pointer (some ⟨p, 0, none⟩), .int .i64 n] w fun e w' => e = .returned (.int .i64 (hasE es n)) ∧ Upd w w' B p m v (syncL es n) := by
  have Hk := hide hk
  clear hk
  by_cases hh : ix es n < es.length
  · have Ha := hide (atI_there hh)
    have HR : Hid (hasE es n = 0 ∧ syncL es n = es.set (ix es n) { pa es (ix es n) with sure := ((pa es (ix es n)).text.size : Int) }) := hide (by unfold hasE syncL; rw [if_pos hh, if_pos hh]; exact ⟨rfl, rfl⟩)
    generalize ix es n = q at hh Ha HR
    obtain ⟨g, cap, rfl, c1, c2, c3, c4⟩ := (unhide Hk).arr.there (by omega)
    unfold maxLen at c2
    go_enter Tryz.func16, Tryz.ntmps16
    go_wp2_with fail
    refine (at_any B p m _ es n _ (unhide Hk) h100).mono ?_
    rintro e w1 ⟨rfl, hb1⟩
    rw [unhide Ha]
    have k1 := (unhide Hk).below hb1
    have d1 := k1.cell
    have d2 := k1.arr.text hh
    have d3 := k1.arr.sure hh
    have d4 := World.ownsRow.frozenAt k1.arr (q * 3 + 1)
    have K1 := hide k1
    clear k1
    go_wp2_with fail
    go_region
    have HU := hide ((unhide K1).sure hh ((pa es q).text.size : Int))
    go_wp2_with fail
    go_ret
    refine ⟨ret_eq (unhide HR).1, ?_⟩
    rw [(unhide HR).2]
    exact Upd.behind hb1 (Upd.drew ⟨_, (unhide HU).1, (unhide HU).2, fun g' hg' => .inl hg'⟩)
  · have Ha := hide (atI_none hh)
    have HR : Hid (hasE es n = 4 ∧ syncL es n = es) := hide (by unfold hasE syncL; rw [if_neg hh, if_neg hh]; exact ⟨rfl, rfl⟩)
    clear hh
    go_enter Tryz.func16, Tryz.ntmps16
    go_wp2_with fail
    refine (at_any B p m _ es n _ (unhide Hk) h100).mono ?_
    rintro e w1 ⟨rfl, hb1⟩
    rw [unhide Ha]
    go_wp2_with fail
    go_ret
    refine ⟨ret_eq (unhide HR).1, ?_⟩
    rw [(unhide HR).2]
    exact Upd.same (unhide Hk) hb1
end Go.Proofs.YtphhebdmfdjfeabGreatDoor.Dk

namespace Go.Proofs.YtphhebdmfdjfeabGreatDoor.Dk
open Go.RowKit

set_option maxHeartbeats 400000 in
theorem in_any (n lo hi : Int) (w : World) :
    Calls Tryz.prog 9 #[.int .i64 n, .int .i64 lo, .int .i64 hi] w fun e w' => e = .returned (.bool (inI n lo hi)) ∧ w' = w := by
  by_cases h1 : lo ≤ n <;> by_cases h2 : n ≤ hi
  all_goals
    go_enter Tryz.func9, Tryz.ntmps9
    go_wp2
    go_ret
    exact ⟨by simp [inI, *], rfl⟩

theorem Keeps.cut {w : World} {B p g cap : Nat} {m : Int} {es : List Pap} (h : Keeps w B p m (.slice (some ⟨g, 0, none⟩) es.length cap) es) {q : Nat} (hq : q < es.length) (k : Nat) :
    Upd w ((w.setCell ⟨g, q * 3 + 2, none⟩ (.string ((pa es q).text.extract 0 k))).setCell ⟨g, q * 3 + 1, none⟩ (.int .i64 (k : Int))) B p m (.slice (some ⟨g, 0, none⟩) es.length cap) (es.set q (cutP (pa es q) k)) := by
  have h1 := h.text hq ((pa es q).text.extract 0 k)
  have hq2 : q < (es.set q { pa es q with text := (pa es q).text.extract 0 k }).length := by rw [List.length_set]; exact hq
  have h2 := h1.1.sure hq2 (k : Int)
  have e : (es.set q { pa es q with text := (pa es q).text.extract 0 k }).set q { pa (es.set q { pa es q with text := (pa es q).text.extract 0 k }) q with sure := (k : Int) } = es.set q (cutP (pa es q) k) := by
    rw [pa_get hq2, List.getElem_set_self, List.set_set]
    rfl
  rw [e] at h2
  refine ⟨_, h2.1, h1.2.trans (h2.2.mono (fun j _ hj => ?_)), fun g' hg' => .inl ?_⟩
  · rcases hj with q1 | q1
    · exact .inl q1
    · exact .inr q1
  · exact hg'

set_option maxHeartbeats 400000 in
theorem cut_any (B p : Nat) (m : Int) (v : Value) (es : List Pap) (n size : Int) (w : World) (hk : Keeps w B p m v es) (h100 : es.length ≤ 100) :
    Calls Tryz.prog 44 #[.pointer (some ⟨p, 0, none⟩), .int .i64 n, .int .i64 size] w fun e w' => e = .returned (.int .i64 (cutE es n size)) ∧ Upd w w' B p m v (cutL es n size) := by
  have Hk := hide hk
  clear hk
  by_cases hh : ix es n < es.length
  · have Ha := hide (atI_there hh)
    cases ho : cutOk es n size with
    | true =>
      have HR : Hid (cutE es n size = 0 ∧ cutL es n size = es.set (ix es n) (cutP (pa es (ix es n)) size.toNat)) := hide (by unfold cutE cutL; rw [if_pos hh, if_pos hh, if_pos ho, if_pos ho]; exact ⟨rfl, rfl⟩)
      unfold cutOk at ho
      generalize ix es n = q at hh Ha HR ho
      have hz : 0 ≤ size ∧ size ≤ ((pa es q).text.size : Int) := by simpa [inI] using ho
      obtain ⟨k, rfl⟩ := Int.eq_ofNat_of_zero_le hz.1
      have hz2 : (k : Int) ≤ ((pa es q).text.size : Int) := hz.2
      rw [show (k : Int).toNat = k from rfl] at HR
      have HO := hide ho
      clear ho hz
      obtain ⟨g, cap, rfl, c1, c2, c3, c4⟩ := (unhide Hk).arr.there (by omega)
      unfold maxLen at c2
      go_enter Tryz.func44, Tryz.ntmps44
      go_wp2_with fail
      refine (at_any B p m _ es n _ (unhide Hk) h100).mono ?_
      rintro e w1 ⟨rfl, hb1⟩
      rw [unhide Ha]
      have k1 := (unhide Hk).below hb1
      have d1 := k1.cell
      have d2 := k1.arr.text hh
      have d3 := k1.arr.sure hh
      have d4 := World.ownsRow.frozenAt k1.arr (q * 3 + 1)
      have d5 := World.ownsRow.frozenAt k1.arr (q * 3 + 2)
      have K1 := hide k1
      clear k1
      go_wp2_with fail
      refine (in_any _ _ _ _).mono ?_
      rintro e w2 ⟨rfl, rfl⟩
      rw [unhide HO]
      go_wp2_with fail
      go_region
      have HU := hide ((unhide K1).cut hh k)
      clear d1 d2 d3 d4 d5
      go_wp2_with fail
      go_ret
      refine ⟨ret_eq (unhide HR).1, ?_⟩
      rw [(unhide HR).2]
      exact Upd.behind hb1 (Upd.drew (unhide HU))
    | false =>
      have HR : Hid (cutE es n size = 1 ∧ cutL es n size = es) := hide (by unfold cutE cutL; rw [if_pos hh, if_pos hh, if_neg (by rw [ho]; decide), if_neg (by rw [ho]; decide)]; exact ⟨rfl, rfl⟩)
      unfold cutOk at ho
      generalize ix es n = q at hh Ha HR ho
      have HO := hide ho
      clear ho
      obtain ⟨g, cap, rfl, c1, c2, c3, c4⟩ := (unhide Hk).arr.there (by omega)
      unfold maxLen at c2
      go_enter Tryz.func44, Tryz.ntmps44
      go_wp2_with fail
      refine (at_any B p m _ es n _ (unhide Hk) h100).mono ?_
      rintro e w1 ⟨rfl, hb1⟩
      rw [unhide Ha]
      have k1 := (unhide Hk).below hb1
      have d1 := k1.cell
      have d2 := k1.arr.text hh
      clear k1
      go_wp2_with fail
      refine (in_any _ _ _ _).mono ?_
      rintro e w2 ⟨rfl, rfl⟩
      rw [unhide HO]
      go_wp2_with fail
      go_ret
      refine ⟨ret_eq (unhide HR).1, ?_⟩
      rw [(unhide HR).2]
      exact Upd.same (unhide Hk) hb1
  · have Ha := hide (atI_none hh)
    have HR : Hid (cutE es n size = 4 ∧ cutL es n size = es) := hide (by unfold cutE cutL; rw [if_neg hh, if_neg hh]; exact ⟨rfl, rfl⟩)
    clear hh
    go_enter Tryz.func44, Tryz.ntmps44
    go_wp2_with fail
    refine (at_any B p m _ es n _ (unhide Hk) h100).mono ?_
    rintro e w1 ⟨rfl, hb1⟩
    rw [unhide Ha]
    go_wp2_with fail
    go_ret
    refine ⟨ret_eq (unhide HR).1, ?_⟩
    rw [(unhide HR).2]
    exact Upd.same (unhide Hk) hb1

set_option maxRecDepth 100000 in
set_option maxHeartbeats 1000000 in
theorem list_any (B p : Nat) (m : Int) (v : Value) (es : List Pap) (w : World) (hk : Keeps w B p m v es) (h100 : es.length ≤ 100) :
    Calls Tryz.prog 24 #[.pointer (some ⟨p, 0, none⟩)] w fun e w' => ∃ v', e = .returned v' ∧ Nums w' w.heap.size v' (numL es) ∧ Below w.heap.size w w' := by
  obtain ⟨i0, hi, hz0, hz1, hz2⟩ := info_parts infoI
  have Hk := hide hk
  obtain ⟨a, cap, rfl, hsl⟩ := hk.arr.sl
  have Hs := hide hsl
  clear hsl hk
  go_enter Tryz.func24, Tryz.ntmps24
  go_wp2_with fail
  go_loopw [3, 4] (fun o i wr => ∃ (k : Nat), k ≤ es.length ∧ i = .int .i64 k ∧ Hid (Nums wr w.heap.size o (numL (es.take k)) ∧ Below w.heap.size w wr)) (fun _ i _ => es.length - (intOf i).toNat)
  case atStart => exact ⟨0, Nat.zero_le _, rfl, hide ⟨World.ownsRow_nil _ _ _ _, Below.refl _ _⟩⟩
  case round =>
    obtain ⟨k, hk, rfl, hr⟩ := hrel
    have d1 := ((unhide Hk).below (unhide hr).2).cell
    have hll := numL_len hk
    by_cases hlt : k < es.length
    · obtain ⟨g, rfl, hg, hc1, hc2, hc3⟩ := (unhide Hs).below (unhide hr).2 k hlt
      have hown2 : wr.ownsRow w.heap.size 3 1 u3 (numL (es.take k)).length ((numL (es.take k)).map (Value.int .i64)) := (unhide hr).1
      rw [hll] at hown2
      have hsz := (unhide hr).2.size
      have Hn := hide (numL_take hlt)
      clear hc2 hc3
      go_wp2_with (at_builtin; refine wpList_append_own _ rfl _ _ 58 rfl w.heap.size 3 i0 (.int .i64 0) 1 8 Tryz.underlying58 hi hz0 hz1 hz2 rfl (by decide) _ _ _ rfl (hown2.alloc _) ⟨wr.heap.size, 0, none⟩ 1 1 [.int .i64 (pa es k).n] rfl rfl (one_new _ _ _) (one_num _) (by unfold maxLen; omega) (by omega) (by simp; omega) ?_; intro v' w3 hown1 hgrow _)
      have R := nums_next (unhide hr).1 (unhide hr).2 (by rw [hll]; exact hown1) hgrow
      refine ⟨⟨k + 1, by omega, by go_num, hide ?_⟩, by simp [intOf]; omega⟩
      rw [unhide Hn]
      exact R
    · obtain rfl : k = es.length := by omega
      go_wp2_with fail
      go_ret
      refine ⟨_, rfl, ?_, (unhide hr).2⟩
      have := (unhide hr).1
      rw [List.take_length] at this
      exact this
end Go.Proofs.YtphhebdmfdjfeabGreatDoor.Dk

namespace Go.Proofs.YtphhebdmfdjfeabGreatDoor.Dk
open Go.RowKit

set_option maxRecDepth 100000 in
set_option maxHeartbeats 1000000 in
theorem append_seen (B p : Nat) (m : Int) (v : Value) (es : List Pap) (n : Int) (s : ByteArray) (w : World) (hk : Keeps w B p m v es) (h100 : es.length ≤ 20) (hu : used es ≤ 1000000) (hs : s.size ≤ 140737488355328) (hnew : inI n 0 1099511627776 = true → full es m n s = false → ix es n < es.length) :
    Calls Tryz.prog 42 #[.pointer (some ⟨p, 0, none⟩), .int .i64 n, .string s] w fun e w' => e = .returned (.int .i64 (appE es m n s)) ∧ Upd w w' B p m v (appL es m n s) := by
  have Hk := hide hk
  have d0 := hk.room
  clear hk
  cases hI : inI n 0 1099511627776 with
  | false =>
    have HI := hide hI
    have HR := hide (app_bad (es := es) (m := m) (s := s) hI)
    clear hI
    go_enter Tryz.func42, Tryz.ntmps42
    go_wp2_with fail
    refine (in_any _ _ _ _).mono ?_
    rintro e w1 ⟨rfl, rfl⟩
    rw [unhide HI]
    go_wp2_with fail
    go_ret
    refine ⟨ret_eq (unhide HR).1, ?_⟩
    rw [(unhide HR).2]
    exact Upd.same (unhide Hk) (Below.refl _ _)
  | true =>
    have HI := hide hI
    by_cases t1 : m < (s.size : Int) + (used es : Int)
    · have HR := hide (app_full (es := es) (m := m) (n := n) (s := s) hI (by unfold full; rw [decide_eq_true t1]; rfl))
      obtain ⟨i, hi⟩ : ∃ i, atI es n = i := ⟨_, rfl⟩
      have Hi := hide hi
      clear hi hI
      obtain ⟨a, cap, rfl, c1, c2, c3⟩ := (unhide Hk).arr.shape
      clear c3 c2
      go_enter Tryz.func42, Tryz.ntmps42
      go_wp2_with fail
      refine (in_any _ _ _ _).mono ?_
      rintro e w1 ⟨rfl, rfl⟩
      rw [unhide HI]
      go_wp2_with fail
      refine (at_any B p m _ es n _ (unhide Hk) (by omega)).mono ?_
      rintro e w2 ⟨rfl, hb2⟩
      rw [unhide Hi]
      have k2 := (unhide Hk).below hb2
      have K2 := hide k2
      have e0 := k2.room
      have e1 := k2.cell
      clear k2 d0
      go_wp2_with fail
      go_quiet ((go_at_call 35; exact Calls.quiet_of_same (used_any B p m _ es _ ((unhide K2).below (below_drewN (Below.refl _ _) _)) (by omega) (by omega))))
      go_wp2_with fail
      go_ret
      refine ⟨ret_eq (unhide HR).1, ?_⟩
      rw [(unhide HR).2]
      exact Upd.same (unhide Hk) (below_drewN hb2 _)
    · have t2 : decide (m < (s.size : Int) + (used es : Int)) = false := decide_eq_false t1
      by_cases hh : ix es n < es.length
      · have HR := hide (app_old (es := es) (m := m) (n := n) (s := s) hI (by unfold full; rw [decide_eq_false t1, decide_eq_true hh]; rfl) hh)
        have Hi := hide (atI_there hh)
        generalize ix es n = q at hh Hi HR
        have hut := used_take hh
        have hul := used_le es (q + 1)
        have hcat : ¬ 9223372036854775807 < (pa es q).text.size + s.size := by omega
        have q0 : decide ((q : Int) < 0) = false := decide_eq_false (by omega)
        clear hI hut hul
        obtain ⟨g, cap, rfl, c1, c2, c3, c4⟩ := (unhide Hk).arr.there (by omega)
        unfold maxLen at c2
        go_enter Tryz.func42, Tryz.ntmps42
        go_wp2_with fail
        refine (in_any _ _ _ _).mono ?_
        rintro e w1 ⟨rfl, rfl⟩
        rw [unhide HI]
        go_wp2_with fail
        refine (at_any B p m _ es n _ (unhide Hk) (by omega)).mono ?_
        rintro e w2 ⟨rfl, hb2⟩
        rw [unhide Hi]
        have k2 := (unhide Hk).below hb2
        have K2 := hide k2
        have e0 := k2.room
        have e1 := k2.cell
        clear k2 d0
        go_wp2_with fail
        go_quiet ((go_at_call 35; exact Calls.quiet_of_same (used_any B p m _ es _ ((unhide K2).below (below_drewN (Below.refl _ _) _)) (by omega) (by omega))))
        have K3 := hide ((unhide K2).below (below_drewN (Below.refl _ _) nq))
        have Hb3 := hide (below_drewN hb2 nq)
        clear K2 hb2 e0 e1
        generalize w2.drewN nq = w3 at K3 Hb3 ⊢
        have e1 := (unhide K3).cell
        have d2 := (unhide K3).arr.text hh
        have d5 := World.ownsRow.frozenAt (unhide K3).arr (q * 3 + 2)
        go_wp2_with fail
        have HU := hide ((unhide K3).text hh ((pa es q).text ++ s))
        clear e1 d2 d5
        go_ret
        refine ⟨ret_eq (unhide HR).1, ?_⟩
        rw [(unhide HR).2]
        exact Upd.behind (unhide Hb3) ⟨_, (unhide HU).1, (unhide HU).2, fun g' hg' => .inl hg'⟩
      · by_cases hl : es.length = 20
        · have HR := hide (app_full (es := es) (m := m) (n := n) (s := s) hI (by unfold full; rw [decide_eq_false t1, decide_eq_false hh, decide_eq_true hl]; rfl))
          have Hi := hide (atI_none hh)
          have hl2 : ((es.length : Int) == 20) = true := by rw [beq_iff_eq]; omega
          clear hI hh hl
          obtain ⟨a, cap, rfl, c1, c2, c3⟩ := (unhide Hk).arr.shape
          clear c3 c2
          go_enter Tryz.func42, Tryz.ntmps42
          go_wp2_with fail
          refine (in_any _ _ _ _).mono ?_
          rintro e w1 ⟨rfl, rfl⟩
          rw [unhide HI]
          go_wp2_with fail
          refine (at_any B p m _ es n _ (unhide Hk) (by omega)).mono ?_
          rintro e w2 ⟨rfl, hb2⟩
          rw [unhide Hi]
          have k2 := (unhide Hk).below hb2
          have K2 := hide k2
          have e0 := k2.room
          have e1 := k2.cell
          clear k2 d0
          go_wp2_with fail
          go_quiet ((go_at_call 35; exact Calls.quiet_of_same (used_any B p m _ es _ ((unhide K2).below (below_drewN (Below.refl _ _) _)) (by omega) (by omega))))
          go_wp2_with fail
          go_ret
          refine ⟨ret_eq (unhide HR).1, ?_⟩
          rw [(unhide HR).2]
          exact Upd.same (unhide Hk) (below_drewN hb2 _)
        · exact absurd (hnew hI (by unfold full; rw [decide_eq_false t1, decide_eq_false hl]; simp)) hh
end Go.Proofs.YtphhebdmfdjfeabGreatDoor.Dk

namespace Go.Proofs.YtphhebdmfdjfeabGreatDoor.Dk
open Go.RowKit

/-- the new slice is stored, and then a text in it -/
theorem Upd.fresh {w w7 : World} {B p g' cap' k : Nat} {m : Int} {v : Value} {es L : List Pap} (hK : Keeps w B p m v es) (i2 : Chg (fun k => v.ownBlock = some k) w w7) (i1 : Arr w7 B (.slice (some ⟨g', 0, none⟩) L.length cap') L) (i3 : ∀ g, (Value.slice (some ⟨g', 0, none⟩) L.length cap').ownBlock = some g → v.ownBlock = some g ∨ w.heap.size ≤ g) (hk : k < L.length) (t : ByteArray) :
    Upd w ((w7.setCell ⟨p, 1, none⟩ (.slice (some ⟨g', 0, none⟩) L.length cap')).setCell ⟨g', k * 3 + 2, none⟩ (.string t)) B p m v (L.set k { pa L k with text := t }) := by
  obtain ⟨a1, a2⟩ := hK.store i2 i1 i3
  obtain ⟨b1, b2⟩ := a1.text hk t
  refine ⟨_, b1, a2.more b2 ?_, fun g hg => i3 g hg⟩
  intro i hi q
  rcases q with q | q
  · exact .inl q
  · rcases i3 i q with r | r
    · exact .inr r
    · omega

set_option maxRecDepth 100000 in
set_option maxHeartbeats 1000000 in
theorem append_new (B p : Nat) (m : Int) (v : Value) (es : List Pap) (n : Int) (s : ByteArray) (w : World) (hk : Keeps w B p m v es) (h100 : es.length ≤ 20) (hu : used es ≤ 1000000) (hs : s.size ≤ 140737488355328) (hB : B ≤ w.heap.size) (hI : inI n 0 1099511627776 = true) (hf : full es m n s = false) (hh : ¬ ix es n < es.length) :
    Calls Tryz.prog 42 #[.pointer (some ⟨p, 0, none⟩), .int .i64 n, .string s] w fun e w' => e = .returned (.int .i64 (appE es m n s)) ∧ Upd w w' B p m v (appL es m n s) := by
  have Hk := hide hk
  have d0 := hk.room
  clear hk
  have HI := hide hI
  have HR := hide (app_new hI hf hh)
  obtain ⟨t1, hl⟩ := full_not hf hh
  have t2 : decide (m < (s.size : Int) + (used es : Int)) = false := decide_eq_false t1
  have Hi := hide (atI_none hh)
  have hl2 : ((es.length : Int) == 20) = false := by rw [beq_eq_false_iff_ne]; omega
  have hql := low_le es n
  have Hlt : Hid (∀ j, j < low es n → (pa es j).n < n) := hide (fun j hj => low_lt hj)
  have Hat : Hid (low es n < es.length → ¬ (pa es (low es n)).n < n) := hide (fun h => low_at h)
  generalize low es n = q at hql Hlt Hat HR
  clear hI hh hl hf t1
  obtain ⟨a, cap, rfl, c1, c2, c3⟩ := (unhide Hk).arr.shape
  clear c3 c2
  go_enter Tryz.func42, Tryz.ntmps42
  go_wp2_with fail
  refine (in_any _ _ _ _).mono ?_
  rintro e w1 ⟨rfl, rfl⟩
  rw [unhide HI]
  go_wp2_with fail
  refine (at_any B p m _ es n _ (unhide Hk) (by omega)).mono ?_
  rintro e w2 ⟨rfl, hb2⟩
  rw [unhide Hi]
  have k2 := (unhide Hk).below hb2
  have K2 := hide k2
  have e0 := k2.room
  have e1 := k2.cell
  clear k2 d0
  go_wp2_with fail
  go_quiet ((go_at_call 35; exact Calls.quiet_of_same (used_any B p m _ es _ ((unhide K2).below (below_drewN (Below.refl _ _) _)) (by omega) (by omega))))
  have K3 := hide ((unhide K2).below (below_drewN (Below.refl _ _) nq))
  have Hb3 := hide (below_drewN hb2 nq)
  clear K2 hb2 e0 e1
  generalize w2.drewN nq = w3 at K3 Hb3 ⊢
  go_wp2_with fail
  go_loopw [7] (fun kv wr => ∃ (k : Nat), kv = .int .i64 k ∧ k ≤ q ∧ Hid (Keeps wr B p m (.slice a es.length cap) es) ∧ Hid (Below w1.heap.size w1 wr)) (fun kv _ => es.length - (intOf kv).toNat)
  case atStart => exact ⟨0, rfl, Nat.zero_le _, K3, Hb3⟩
  case round =>
    clear K3 Hb3
    obtain ⟨k, rfl, hkq, K3, Hb3⟩ := hrel
    have d1 := (unhide K3).cell
    have hb4 : Below wr.heap.size wr (wr.alloc (.cells #[.int .i64 n, .int .i64 0, .string ByteArray.empty] 52)) := (Below.refl _ _).alloc (Nat.le_refl _) _
    by_cases hlt : k < es.length
    · obtain ⟨g, cap', e0, f1, f2, f3, f4⟩ := (unhide K3).arr.there (by omega)
      obtain ⟨rfl, _, rfl⟩ := Value.slice.inj e0
      clear e0
      have d2 := (unhide K3).arr.num hlt
      by_cases hel : (pa es k).n < n
      · have hne : k ≠ q := fun e => by
          subst e
          have := unhide Hat hlt
          omega
        have he2 : decide ((pa es k).n < n) = true := decide_eq_true hel
        clear hb4
        go_wp2_with fail
        refine ⟨⟨k + 1, by go_num, by omega, K3, Hb3⟩, ?_⟩
        simp [intOf]; omega
      · have he2 : decide ((pa es k).n < n) = false := decide_eq_false hel
        have hkq2 : k = q := by
          rcases Nat.lt_or_ge k q with x | x
          · exact absurd (unhide Hlt k x) hel
          · omega
        subst hkq2
        have K6 := hide ((unhide K3).below hb4)
        have Hb6 := hide (bstep (unhide Hb3) hb4)
        clear hb4
        go_wp2_with fail
        refine (insert_any B _ es k ⟨n, 0, ByteArray.empty⟩ wr.heap.size _ (unhide K6).arr (by omega) (by omega) (heap_alloc_new wr _) (fun e => by have := ((unhide K3).arr.lt _ e).2; omega) (by have := (unhide Hb6).size; omega)).mono ?_
        rintro e w7 ⟨v', rfl, i1, i2, i3⟩
        have hLl : (insL es k ⟨n, 0, ByteArray.empty⟩).length = es.length + 1 := insL_length hql
        have HL := hide (insL_at hql ⟨n, 0, ByteArray.empty⟩)
        have HS := hide (insL_set hql ⟨n, 0, ByteArray.empty⟩ ⟨n, 0, s⟩)
        generalize insL es k ⟨n, 0, ByteArray.empty⟩ = L at i1 hLl HL HS
        obtain ⟨g', cap', rfl, x1, x2, x3, x4⟩ := i1.there (by omega)
        unfold maxLen at x2
        have d4 : w7.cell? ⟨p, 1, none⟩ = some (.slice (some ⟨g, 0, none⟩) es.length cap) := by rw [i2.cell (p := ⟨p, 1, none⟩) (unhide K6).lt (unhide K6).apart]; exact (unhide K6).cell
        have d5 : w7.frozen? ⟨p, 1, none⟩ = false := by rw [i2.frozen (p := ⟨p, 1, none⟩) (unhide K6).lt (unhide K6).apart]; exact (unhide K6).free
        have hkL : k < L.length := by omega
        have hsz : (pa L k).text.size = 0 := by rw [unhide HL]; rfl
        have hcat : ¬ 9223372036854775807 < (pa L k).text.size + s.size := by omega
        have k8 := ((unhide K6).store i2 i1 i3).1
        have d6 := k8.cell
        have d7 := k8.arr.text hkL
        have d8 := World.ownsRow.frozenAt k8.arr (k * 3 + 2)
        have hgp : g' ≠ p := fun e => k8.apart (by rw [e]; rfl)
        have HU := hide (Upd.fresh (unhide K6) i2 i1 i3 hkL ((pa L k).text ++ s))
        have k0 : decide ((k : Int) < 0) = false := decide_eq_false (by omega)
        clear k8 i1 i2 i3 hLl d1 d2
        go_wp2_with fail
        go_ret
        refine ⟨ret_eq (unhide HR).1, ?_⟩
        rw [(unhide HR).2]
        refine Upd.behind (unhide Hb6) ?_
        rw [← unhide HS, ← new_text (unhide HL)]
        exact unhide HU
    · have hkq2 : k = q := by omega
      subst hkq2
      have K6 := hide ((unhide K3).below hb4)
      have Hb6 := hide (bstep (unhide Hb3) hb4)
      clear hb4
      go_wp2_with fail
      refine (insert_any B _ es k ⟨n, 0, ByteArray.empty⟩ wr.heap.size _ (unhide K6).arr (by omega) (by omega) (heap_alloc_new wr _) (fun e => by have := ((unhide K3).arr.lt _ e).2; omega) (by have := (unhide Hb6).size; omega)).mono ?_
      rintro e w7 ⟨v', rfl, i1, i2, i3⟩
      have hLl : (insL es k ⟨n, 0, ByteArray.empty⟩).length = es.length + 1 := insL_length hql
      have HL := hide (insL_at hql ⟨n, 0, ByteArray.empty⟩)
      have HS := hide (insL_set hql ⟨n, 0, ByteArray.empty⟩ ⟨n, 0, s⟩)
      generalize insL es k ⟨n, 0, ByteArray.empty⟩ = L at i1 hLl HL HS
      obtain ⟨g', cap', rfl, x1, x2, x3, x4⟩ := i1.there (by omega)
      unfold maxLen at x2
      have d4 : w7.cell? ⟨p, 1, none⟩ = some (.slice a es.length cap) := by rw [i2.cell (p := ⟨p, 1, none⟩) (unhide K6).lt (unhide K6).apart]; exact (unhide K6).cell
      have d5 : w7.frozen? ⟨p, 1, none⟩ = false := by rw [i2.frozen (p := ⟨p, 1, none⟩) (unhide K6).lt (unhide K6).apart]; exact (unhide K6).free
      have hkL : k < L.length := by omega
      have hsz : (pa L k).text.size = 0 := by rw [unhide HL]; rfl
      have hcat : ¬ 9223372036854775807 < (pa L k).text.size + s.size := by omega
      have k8 := ((unhide K6).store i2 i1 i3).1
      have d6 := k8.cell
      have d7 := k8.arr.text hkL
      have d8 := World.ownsRow.frozenAt k8.arr (k * 3 + 2)
      have hgp : g' ≠ p := fun e => k8.apart (by rw [e]; rfl)
      have HU := hide (Upd.fresh (unhide K6) i2 i1 i3 hkL ((pa L k).text ++ s))
      have k0 : decide ((k : Int) < 0) = false := decide_eq_false (by omega)
      clear k8 i1 i2 i3 hLl d1
      go_wp2_with fail
      go_ret
      refine ⟨ret_eq (unhide HR).1, ?_⟩
      rw [(unhide HR).2]
      refine Upd.behind (unhide Hb6) ?_
      rw [← unhide HS, ← new_text (unhide HL)]
      exact unhide HU

theorem append_any (B p : Nat) (m : Int) (v : Value) (es : List Pap) (n : Int) (s : ByteArray) (w : World) (hk : Keeps w B p m v es) (h100 : es.length ≤ 20) (hu : used es ≤ 1000000) (hs : s.size ≤ 140737488355328) (hB : B ≤ w.heap.size) :
    Calls Tryz.prog 42 #[.pointer (some ⟨p, 0, none⟩), .int .i64 n, .string s] w fun e w' => e = .returned (.int .i64 (appE es m n s)) ∧ Upd w w' B p m v (appL es m n s) := by
  by_cases h : inI n 0 1099511627776 = true ∧ full es m n s = false ∧ ¬ ix es n < es.length
  · exact append_new B p m v es n s w hk h100 hu hs hB h.1 h.2.1 h.2.2
  · exact append_seen B p m v es n s w hk h100 hu hs (fun a b => Decidable.byContradiction fun c => h ⟨a, b, c⟩)
end Go.Proofs.YtphhebdmfdjfeabGreatDoor.Dk
