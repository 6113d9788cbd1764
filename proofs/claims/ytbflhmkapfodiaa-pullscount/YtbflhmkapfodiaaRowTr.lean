/-
  Rows of three cells an element, in memory: a row of one's own, a slice that shows such elements, an append. No walk, and nothing of the program's own.
-/
import Derived.Test.YtbflhmkapfodiaaPapD
import Derived.Deep.AppendSrc
import Derived.Shelf.Spec.SlicesInsert
namespace Go.Proofs.Ytbflhmkapfodiaa.Dk
open Go.RowKit

structure Tri where
  a : Value
  b : Value
  c : Value
def OneT (x : Tri) : Prop := x.a.oneCell' = true ∧ x.b.oneCell' = true ∧ x.c.oneCell' = true
abbrev triV (x : Tri) : Value := .agg #[x.a, x.b, x.c]
def noT : Tri := ⟨.bool false, .bool false, .bool false⟩
def tr (l : List Tri) (k : Nat) : Tri := l[k]?.getD noT
theorem tr_get {l : List Tri} {k : Nat} (h : k < l.length) : tr l k = l[k] := by unfold tr; rw [List.getElem?_eq_getElem h]; rfl
theorem tr_mem {l : List Tri} {k : Nat} (h : k < l.length) : tr l k ∈ l := by rw [tr_get h]; exact List.getElem_mem _
def celT : List Tri → List Value
  | [] => []
  | x :: l => x.a :: x.b :: x.c :: celT l
theorem celT_length : ∀ l : List Tri, (celT l).length = l.length * 3
  | [] => rfl
  | x :: l => by simp [celT, celT_length l]; omega
theorem celT_append : ∀ a b : List Tri, celT (a ++ b) = celT a ++ celT b
  | [], _ => rfl
  | x :: a, b => by simp [celT, celT_append a b]
theorem celT_take : ∀ (l : List Tri) (k : Nat), celT (l.take k) = (celT l).take (k * 3)
  | [], k => by simp [celT]
  | x :: l, 0 => by simp [celT]
  | x :: l, k + 1 => by rw [show (k + 1) * 3 = k * 3 + 1 + 1 + 1 by omega]; simp [celT, celT_take l k]
theorem celT_drop : ∀ (l : List Tri) (k : Nat), celT (l.drop k) = (celT l).drop (k * 3)
  | [], k => by simp [celT]
  | x :: l, 0 => by simp [celT]
  | x :: l, k + 1 => by rw [show (k + 1) * 3 = k * 3 + 1 + 1 + 1 by omega]; simp [celT, celT_drop l k]
theorem celT_one : ∀ (l : List Tri), (∀ x ∈ l, OneT x) → ∀ v ∈ celT l, v.oneCell' = true
  | [], _, v, h => by simp [celT] at h
  | x :: l, o, v, h => by
    have ox := o x (by simp)
    simp only [celT, List.mem_cons] at h
    rcases h with h | h | h | h
    · subst h; exact ox.1
    · subst h; exact ox.2.1
    · subst h; exact ox.2.2
    · exact celT_one l (fun y hy => o y (by simp [hy])) v h
theorem celT_at : ∀ (l : List Tri) (k : Nat), k < l.length → (celT l)[k * 3]? = some (tr l k).a ∧ (celT l)[k * 3 + 1]? = some (tr l k).b ∧ (celT l)[k * 3 + 2]? = some (tr l k).c
  | [], k, h => absurd h (Nat.not_lt_zero k)
  | x :: l, 0, _ => ⟨rfl, rfl, rfl⟩
  | x :: l, k + 1, h => by
    rw [show (k + 1) * 3 = k * 3 + 1 + 1 + 1 by omega]
    have := celT_at l k (by simpa using h)
    have e : tr (x :: l) (k + 1) = tr l k := rfl
    rw [e]
    exact this
theorem celT_set (l : List Tri) (k : Nat) (x : Tri) (h : k < l.length) : (celT l).take (k * 3) ++ [x.a, x.b, x.c] ++ (celT l).drop (k * 3 + 3) = celT (l.set k x) := by
  have e : l.set k x = l.take k ++ x :: l.drop (k + 1) := by rw [List.set_eq_take_append_cons_drop, if_pos h]
  rw [e, celT_append, celT_take, show celT (x :: l.drop (k + 1)) = [x.a, x.b, x.c] ++ celT (l.drop (k + 1)) from rfl, celT_drop, show (k + 1) * 3 = k * 3 + 3 by omega, List.append_assoc]
/-- a row of one's own from block B on, its elements of type t -/
def ArrT (t : TypeId) (w : World) (B : Nat) (v : Value) (l : List Tri) : Prop := w.ownsRow B t 3 v l.length (celT l)
theorem ArrT.empty (t : TypeId) (w : World) (B : Nat) : ArrT t w B (.slice none 0 0) [] := World.ownsRow_nil w B _ 3
theorem ArrT.chg {t : TypeId} {A : Nat → Prop} {w w' : World} {B : Nat} {v : Value} {l : List Tri} (h : ArrT t w B v l) (hb : Chg A w w') (hn : ∀ g, v.ownBlock = some g → ¬ A g) : ArrT t w' B v l := by
  refine ⟨h.1, ?_⟩
  rcases h.2 with q | ⟨g, cap, cur, h1, h2, h3, r⟩
  · exact .inl q
  · refine .inr ⟨g, cap, cur, h1, h2, ?_, r⟩
    rw [hb.block g (h.lt g (by rw [h1]; rfl)).2 (hn g (by rw [h1]; rfl))]
    exact h3
theorem ArrT.below {t : TypeId} {w w' : World} {B : Nat} {v : Value} {l : List Tri} (h : ArrT t w B v l) (hb : Below w.heap.size w w') : ArrT t w' B v l := h.chg (A := fun _ => False) (Chg.of_below hb) (fun _ _ z => z)
theorem ArrT.low {t : TypeId} {w : World} {B B' : Nat} {v : Value} {l : List Tri} (h : ArrT t w B v l) (hB : B' ≤ B) : ArrT t w B' v l := by
  refine ⟨h.1, ?_⟩
  rcases h.2 with q | ⟨g, cap, cur, h1, h2, r⟩
  · exact .inl q
  · exact .inr ⟨g, cap, cur, h1, Nat.le_trans hB h2, r⟩
theorem ArrT.there {t : TypeId} {w : World} {B : Nat} {v : Value} {l : List Tri} (h : ArrT t w B v l) (hn : 0 < l.length) : ∃ g cap, v = .slice (some ⟨g, 0, none⟩) l.length cap ∧ l.length ≤ cap ∧ cap ≤ maxLen ∧ B ≤ g ∧ g < w.heap.size := by
  rcases h.2 with ⟨h1, h2⟩ | ⟨g, cap, cur, h1, h2, h3, h4, h5, h6, h7⟩
  · omega
  · exact ⟨g, cap, h1, h4, h5, h.lt g (by rw [h1]; rfl)⟩
theorem ArrT.cell {t : TypeId} {w : World} {B g cap n : Nat} {l : List Tri} (h : ArrT t w B (.slice (some ⟨g, 0, none⟩) n cap) l) (j : Nat) (u : Value) (hj : (celT l)[j]? = some u) : w.cell? ⟨g, j, none⟩ = some u := by
  have hl : j < l.length * 3 := by
    rw [← celT_length]
    rcases Nat.lt_or_ge j (celT l).length with q | q
    · exact q
    · rw [List.getElem?_eq_none q] at hj; cases hj
  have hn : n = l.length := by
    rcases h.2 with ⟨h1, h2⟩ | ⟨g', cap', cur, h1, _⟩
    · cases h1
    · injection h1
  subst hn
  rw [World.ownsRow.cellAt h _ hl]
  exact hj
/-- three cells of one element -/
structure TrC (w : World) (b o : Nat) (x : Tri) : Prop where
  lt : b < w.heap.size
  c0 : w.cell? ⟨b, o, none⟩ = some x.a
  c1 : w.cell? ⟨b, o + 1, none⟩ = some x.b
  c2 : w.cell? ⟨b, o + 2, none⟩ = some x.c
theorem TrC.chg {A : Nat → Prop} {w w' : World} {b o : Nat} {x : Tri} (h : TrC w b o x) (hc : Chg A w w') (hn : ¬ A b) : TrC w' b o x :=
  ⟨Nat.lt_of_lt_of_le h.lt hc.size, by rw [hc.cell (p := ⟨b, o, none⟩) h.lt hn]; exact h.c0, by rw [hc.cell (p := ⟨b, o + 1, none⟩) h.lt hn]; exact h.c1, by rw [hc.cell (p := ⟨b, o + 2, none⟩) h.lt hn]; exact h.c2⟩
/-- a slice that shows such elements, wherever it begins -/
def SlT (w : World) (a : Option Addr) (l : List Tri) : Prop := ∀ k, k < l.length → ∃ b o, a = some ⟨b, o, none⟩ ∧ TrC w b (o + k * 3) (tr l k)
theorem SlT.chg {A : Nat → Prop} {w w' : World} {a : Option Addr} {l : List Tri} (h : SlT w a l) (hc : Chg A w w') (hn : ∀ p, a = some p → ¬ A p.block) : SlT w' a l := fun k hk => by
  obtain ⟨b, o, h1, h2⟩ := h k hk
  exact ⟨b, o, h1, h2.chg hc (hn _ h1)⟩
theorem SlT.below {w w' : World} {a : Option Addr} {l : List Tri} (h : SlT w a l) (hb : Below w.heap.size w w') : SlT w' a l := h.chg (A := fun _ => False) (Chg.of_below hb) (fun _ _ z => z)
theorem ArrT.at {t : TypeId} {w : World} {B g cap n : Nat} {l : List Tri} (h : ArrT t w B (.slice (some ⟨g, 0, none⟩) n cap) l) {k : Nat} (hk : k < l.length) : TrC w g (k * 3) (tr l k) := by
  have hat := celT_at l k hk
  exact ⟨(h.lt g rfl).2, h.cell _ _ hat.1, h.cell _ _ hat.2.1, h.cell _ _ hat.2.2⟩
theorem ArrT.shape {t : TypeId} {w : World} {B : Nat} {v : Value} {l : List Tri} (h : ArrT t w B v l) : ∃ a cap, v = .slice a l.length cap ∧ l.length ≤ cap ∧ cap ≤ maxLen ∧ SlT w a l ∧ ∀ p, a = some p → v.ownBlock = some p.block := by
  rcases h.2 with ⟨h1, h2⟩ | ⟨g, cap, cur, h1, h2, h3, h4, h5, h6, h7⟩
  · exact ⟨none, 0, by rw [h1, h2], by omega, by simp [maxLen], fun k hk => by omega, fun p hp => by cases hp⟩
  · refine ⟨_, cap, h1, h4, h5, fun k hk => ⟨g, 0, rfl, ?_⟩, fun p hp => by cases hp; rw [h1]; rfl⟩
    rw [h1] at h
    rw [Nat.zero_add]
    exact ArrT.at h hk
theorem ArrT.free {t : TypeId} {w : World} {B g cap n : Nat} {l : List Tri} (h : ArrT t w B (.slice (some ⟨g, 0, none⟩) n cap) l) : (∀ j, w.frozen? ⟨g, j, none⟩ = false) ∧ ∀ j, j < cap * 3 → (w.cell? ⟨g, j, none⟩).isSome = true := by
  rcases h.2 with ⟨q, _⟩ | ⟨g', cap', cur, q, h2, h3, h4, h5, h6, h7⟩
  · cases q
  · simp only [Value.slice.injEq, Option.some.injEq, Addr.mk.injEq, and_true] at q
    obtain ⟨rfl, _, rfl⟩ := q
    refine ⟨fun j => frozen_of_row w g j _ _ h3, fun j hj => ?_⟩
    rw [cell_of_row w g j _ _ _ h3, Array.getElem?_eq_getElem (by omega)]
    rfl
/-- what a run of stores makes of a row -/
theorem ownT_sets {B g cap n : Nat} {e : TypeId} {size : Nat} : ∀ (vs : List Value) (o : Nat) (w : World) (xs : List Value), w.ownsRow B e size (.slice (some ⟨g, 0, none⟩) n cap) n xs → o + vs.length ≤ xs.length → (w.setCells g o vs).ownsRow B e size (.slice (some ⟨g, 0, none⟩) n cap) n (xs.take o ++ vs ++ xs.drop (o + vs.length))
  | [], o, w, xs, h, _ => by simpa [World.setCells] using h
  | v :: r, o, w, xs, h, hl => by
    have h1 := (World.ownsRow.stored h o v).1
    have h2 := ownT_sets r (o + 1) _ _ h1 (by simp at hl ⊢; omega)
    rw [World.setCells]
    have e := list_seg_step xs o v r (by simpa using hl)
    rw [e] at h2
    exact h2
theorem chgT_sets {g : Nat} : ∀ (vs : List Value) (o : Nat) (w : World), Chg (fun k => k = g) w (w.setCells g o vs)
  | [], o, w => Chg.refl _ _
  | v :: r, o, w => by
    rw [World.setCells]
    exact (Chg.setCell (A := fun k => k = g) (p := ⟨g, o, none⟩) (Chg.refl _ _) (.inl rfl) v).trans (chgT_sets r (o + 1) _)
theorem ownT_shorter {B g cap n k : Nat} {e : TypeId} {size : Nat} {w : World} {xs : List Value} (h : w.ownsRow B e size (.slice (some ⟨g, 0, none⟩) n cap) n xs) (hk : k ≤ n) : w.ownsRow B e size (.slice (some ⟨g, 0, none⟩) k cap) k (xs.take (k * size)) := by
  have hks : k * size ≤ n * size := Nat.mul_le_mul_right _ hk
  refine ⟨by rw [List.length_take, h.1]; omega, ?_⟩
  rcases h.2 with ⟨q, _⟩ | ⟨g', cap', cur, q, h2, h3, h4, h5, h6, h7⟩
  · cases q
  · simp only [Value.slice.injEq, Option.some.injEq, Addr.mk.injEq, and_true] at q
    obtain ⟨rfl, _, rfl⟩ := q
    exact .inr ⟨g, cap, cur, rfl, h2, h3, by omega, h5, h6, by rw [← h7, List.take_take, Nat.min_eq_left hks]⟩
/-- one element is stored -/
theorem ArrT.set {t : TypeId} {w : World} {B g cap : Nat} {l : List Tri} (h : ArrT t w B (.slice (some ⟨g, 0, none⟩) l.length cap) l) {k : Nat} (hk : k < l.length) (x : Tri) : ArrT t (w.setCells g (k * 3) [x.a, x.b, x.c]) B (.slice (some ⟨g, 0, none⟩) l.length cap) (l.set k x) := by
  have o := ownT_sets [x.a, x.b, x.c] (k * 3) w _ h (by rw [celT_length]; simp; omega)
  rw [show k * 3 + [x.a, x.b, x.c].length = k * 3 + 3 from rfl, celT_set l k x hk] at o
  unfold ArrT
  rw [List.length_set]
  exact o
/-- the row is cut, what is behind it is made naught -/
theorem ArrT.cut {t : TypeId} {w : World} {B g cap : Nat} {a r : List Tri} (h : ArrT t w B (.slice (some ⟨g, 0, none⟩) (a ++ r).length cap) (a ++ r)) (z : List Value) (hz : z.length = r.length * 3) : ArrT t (w.setCells g (a.length * 3) z) B (.slice (some ⟨g, 0, none⟩) a.length cap) a := by
  have o := ownT_sets z (a.length * 3) w _ h (by rw [celT_length, List.length_append, hz]; omega)
  have o2 := ownT_shorter (k := a.length) o (by rw [List.length_append]; omega)
  have e : ((celT (a ++ r)).take (a.length * 3) ++ z ++ (celT (a ++ r)).drop (a.length * 3 + z.length)).take (a.length * 3) = celT a := by
    have ha := celT_length a
    have e1 : (celT (a ++ r)).take (a.length * 3) = celT a := by rw [celT_append, List.take_append_of_le_length (by omega), List.take_of_length_le (by omega)]
    rw [e1, List.append_assoc, List.take_append_of_le_length (by omega), List.take_of_length_le (by omega)]
  rw [e] at o2
  exact o2
/-- an element in a block of its own -/
theorem tri_row (w : World) (x : Tri) (t : TypeId) : ∀ j u, (celT [x])[j]? = some u → (w.alloc (.cells #[x.a, x.b, x.c] t)).cell? ((⟨w.heap.size, 0, none⟩ : Addr).add j) = some u := by
  intro j u hj
  rw [Addr.add_lit, Nat.zero_add, cell_of_row _ w.heap.size j _ _ _ (heap_alloc_new w _)]
  simpa [celT] using hj
/-- append onto a row of one's own: where the new row lies -/
theorem append_tri {P : Program} (st t : TypeId) (z : Value) (by' : Nat) (hu : P.underlying st = some (.slice t)) (hinfo : (P.info? t).map (fun i => (i.zero, i.size, i.bytes)) = some (some z, 3, by')) (hzc : z.cells.size = 3) (hby : 0 < by' ∧ by' ≤ 24)
    (w : World) (B : Nat) (ty : TypeId) (v : Value) (l fs : List Tri) (ha : ArrT t w B v l) (a : Addr) (c : Nat) (hnews : ∀ j u, (celT fs)[j]? = some u → w.cell? (a.add j) = some u) (ho : ∀ x ∈ fs, OneT x) (hl : l.length + fs.length ≤ 1000000) (hB : B ≤ w.heap.size) :
    ∃ v' w', (Builtin.append_ #[st, st] ty #[v, .slice (some a) fs.length c]).run P w = .ok v' w' ∧ ArrT t w' B v' (l ++ fs) ∧ Chg (fun k => v.ownBlock = some k) w w' ∧ ∀ g, v'.ownBlock = some g → v.ownBlock = some g ∨ w.heap.size ≤ g := by
  obtain ⟨i0, hi, hz0, hz1, hz2⟩ := info_parts hinfo
  have hlen : (celT fs).length = fs.length * 3 := celT_length fs
  have hmul : (l.length + fs.length) * by' ≤ 1000000 * 24 := Nat.mul_le_mul hl hby.2
  have hmul2 : fs.length * by' ≤ 1000000 * 24 := Nat.mul_le_mul (by omega) hby.2
  obtain ⟨v', w', hr, h2, h3, h4⟩ := run_append_own (P := P) w B st ty t i0 _ 3 by' hu hi hz0 hz1 hz2 hzc (by omega) v l.length (celT l) ha a fs.length c (celT fs) hlen hnews (celT_one fs ho) (by unfold maxLen; omega) (by omega) hB
  refine ⟨v', w', hr, ?_, Chg.of_grown h3, fun k hk => ?_⟩
  · unfold ArrT
    rw [List.length_append, celT_append]
    exact h2
  · rcases ha.2 with ⟨rfl, hn⟩ | ⟨g, cap, cur, rfl, hbg, hg, hnc, hcm, hcs, htake⟩
    · by_cases hm : fs.length = 0
      · rw [h4.2 ⟨rfl, hm⟩] at hk; cases hk
      · right
        have hr2 := run_append_nil (P := P) w st ty t i0 _ hu hi hz0 a fs.length c (celT fs) (by rw [hz1]; exact hlen) hnews (by omega) (by omega) (by rw [hz2]; omega)
        rw [hr] at hr2
        cases hr2
        simp only [Value.ownBlock, Option.some.injEq] at hk
        omega
    · by_cases hroom : l.length + fs.length ≤ cap
      · left
        obtain ⟨w2, hr2, _, _⟩ := run_append_fits (P := P) w B st ty t i0 3 hu hi hz1 g l.length cap (celT l) ha a fs.length c (celT fs) hlen hnews (celT_one fs ho) hroom
        rw [hr] at hr2
        cases hr2
        exact hk
      · right
        have hr2 := run_append_grow (P := P) w st ty t i0 _ hu hi hz0 ⟨g, 0, none⟩ l.length cap (celT l) (by rw [hz1]; exact ha.1) (World.ownsRow.cells ha (g := g) rfl) a fs.length c (celT fs) (by rw [hz1]; exact hlen) hnews (by omega) (by omega) (by rw [hz2]; exact growslice_fits (by omega) (by omega))
        rw [hr] at hr2
        cases hr2
        simp only [Value.ownBlock, Option.some.injEq] at hk
        omega
/-- clear at a slice of elements of three cells -/
def zlT (z : Value) (n : Nat) : List Value := (Builtin.zeroCells z.cells n).toList
theorem zlT_length (z : Value) (n : Nat) (h : z.cells.size = 3) : (zlT z n).length = n * 3 := by
  unfold zlT
  rw [Array.length_toList, size_zeroCells, h]
theorem run_clear_tri {P : Program} (st t ty : TypeId) (z : Value) (hu : P.underlying st = some (.slice t)) (hv : ∀ w, (zeroValue t).run P w = .ok z w) (hz : z.cells.size = 3) (h1 : ∀ j, j < 3 → (z.cells[j]!).oneCell' = true) (w : World) (b o n c : Nat) (hn : 0 < n)
    (hc : ∀ j, j < n * 3 → (w.cell? ⟨b, o + j, none⟩).isSome = true) (hf : ∀ j, j < n * 3 → w.frozen? ⟨b, o + j, none⟩ = false) :
    (Builtin.clear_ #[st] ty #[.slice (some ⟨b, o, none⟩) n c]).run P w = .ok (.tuple #[]) (w.setCells b o (zlT z n)) := by
  have hl := zlT_length z n hz
  have hst := run_storeCells_cells (P := P) b o (zlT z n) 0 w (by rw [hl]; simpa using hc) (by rw [hl]; simpa using hf) (by
    intro v hv'
    unfold zlT Builtin.zeroCells at hv'
    rw [Array.mem_toList_iff, Array.mem_map] at hv'
    obtain ⟨i, hi, rfl⟩ := hv'
    rw [hz]
    exact h1 _ (Nat.mod_lt _ (by omega)))
  simp only [Nat.add_zero] at hst
  obtain ⟨m, rfl⟩ : ∃ m, n = m + 1 := ⟨n - 1, by omega⟩
  unfold zlT at hst ⊢
  simp [Builtin.clear_, run_underlying hu, hv, hst]

section
variable {α : Type}
/-- what a filter has kept of the first j -/
def keptQ (p : α → Bool) (l : List α) (j : Nat) : List α := (l.take j).filter (fun x => !p x)
/-- the row on its way: what is kept, and what lies behind it still -/
def midQ (p : α → Bool) (l : List α) (j : Nat) : List α := keptQ p l j ++ l.drop (keptQ p l j).length
theorem keptQ_le (p : α → Bool) (l : List α) (j : Nat) : (keptQ p l j).length ≤ j := by
  unfold keptQ
  exact Nat.le_trans (List.length_filter_le _ _) (by rw [List.length_take]; omega)
theorem keptQ_len (p : α → Bool) (l : List α) (j : Nat) : (keptQ p l j).length ≤ l.length := by
  unfold keptQ
  exact Nat.le_trans (List.length_filter_le _ _) (by rw [List.length_take]; omega)
theorem keptQ_skip {p : α → Bool} {l : List α} {j : Nat} (h : j < l.length) (hp : p l[j] = true) : keptQ p l (j + 1) = keptQ p l j := by
  unfold keptQ
  rw [List.take_succ_eq_append_getElem h, List.filter_append]
  simp [hp]
theorem keptQ_more {p : α → Bool} {l : List α} {j : Nat} (h : j < l.length) (hp : p l[j] = false) : keptQ p l (j + 1) = keptQ p l j ++ [l[j]] := by
  unfold keptQ
  rw [List.take_succ_eq_append_getElem h, List.filter_append]
  simp [hp]
theorem keptQ_all (p : α → Bool) (l : List α) : keptQ p l l.length = l.filter (fun x => !p x) := by
  unfold keptQ; rw [List.take_length]
theorem midQ_length (p : α → Bool) (l : List α) (j : Nat) : (midQ p l j).length = l.length := by
  have := keptQ_len p l j
  unfold midQ; rw [List.length_append, List.length_drop]; omega
theorem midQ_at {p : α → Bool} {l : List α} {j : Nat} (h : j < l.length) (h' : j < (midQ p l j).length) : (midQ p l j)[j] = l[j] := by
  have := keptQ_le p l j
  have e : (midQ p l j)[j]? = some l[j] := by
    unfold midQ
    rw [List.getElem?_append_right (by omega), List.getElem?_drop, show (keptQ p l j).length + (j - (keptQ p l j).length) = j by omega, List.getElem?_eq_getElem h]
  rw [List.getElem?_eq_getElem h'] at e
  exact Option.some.inj e
theorem midQ_skip {p : α → Bool} {l : List α} {j : Nat} (h : j < l.length) (hp : p l[j] = true) : midQ p l (j + 1) = midQ p l j := by
  unfold midQ; rw [keptQ_skip h hp]
theorem midQ_more {p : α → Bool} {l : List α} {j : Nat} (h : j < l.length) (hp : p l[j] = false) : midQ p l (j + 1) = (midQ p l j).set (keptQ p l j).length l[j] := by
  have := keptQ_le p l j
  unfold midQ
  rw [keptQ_more h hp, List.length_append, List.length_singleton, List.set_append_right _ _ (Nat.le_refl _), Nat.sub_self, List.append_assoc]
  congr 1
  rw [List.drop_eq_getElem_cons (show (keptQ p l j).length < l.length by omega)]
  rfl
theorem keptQ_start {p : α → Bool} {l : List α} {i : Nat} (h : i < l.length) (hlo : ∀ k (hk : k < l.length), k < i → p l[k] = false) (hp : p l[i] = true) : keptQ p l (i + 1) = l.take i := by
  rw [keptQ_skip h hp]
  unfold keptQ
  rw [List.filter_eq_self]
  intro x hx
  obtain ⟨k, hk, rfl⟩ := List.mem_iff_getElem.1 hx
  rw [List.length_take] at hk
  rw [List.getElem_take, hlo k (by omega) (by omega)]
  rfl
theorem midQ_start {p : α → Bool} {l : List α} {i : Nat} (h : i < l.length) (hlo : ∀ k (hk : k < l.length), k < i → p l[k] = false) (hp : p l[i] = true) : (keptQ p l (i + 1)).length = i ∧ midQ p l (i + 1) = l := by
  have e := keptQ_start h hlo hp
  have e2 : (keptQ p l (i + 1)).length = i := by rw [e, List.length_take]; omega
  refine ⟨e2, ?_⟩
  unfold midQ
  rw [e2, e, List.take_append_drop]
theorem filterQ_none {p : α → Bool} {l : List α} (h : ∀ k (hk : k < l.length), p l[k] = false) : l.filter (fun x => !p x) = l := by
  rw [List.filter_eq_self]
  intro x hx
  obtain ⟨k, hk, rfl⟩ := List.mem_iff_getElem.1 hx
  rw [h k hk]
  rfl
end
end Go.Proofs.Ytbflhmkapfodiaa.Dk
