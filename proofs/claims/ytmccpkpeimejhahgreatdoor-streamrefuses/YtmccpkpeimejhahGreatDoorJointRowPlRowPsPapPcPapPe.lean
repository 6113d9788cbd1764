/-
  A plan in memory: ten cells in a block. No walk.
  Texts that a slice shows; a plan that is looked at. No walk.
  A plan's text is read as it was, and what is read is printed as it stood. No program.
  Pure laws for the landed package plan: overlaps in its own order, its filters' error, its numbers' form.
-/
import Derived.Test.YtmccpkpeimejhahGreatDoorJointPlainKPapPbPapPnPapD
import Derived.Test.YtmccpkpeimejhahGreatDoorJointWalkSplitWalk2Plain2Plain5
import Derived.Lib.Atoi
import Derived.Lib.Join
import Derived.Lib.IndexAny
namespace Go.Proofs.YtmccpkpeimejhahGreatDoor
open Go.RowKit

/-- a plan as a value: its name, the slice of its filters, its eight numbers -/
abbrev planV (n : ByteArray) (a : Option Addr) (l c : Nat) (x0 x1 x2 x3 x4 x5 x6 x7 : Int) : Value := .agg #[.string n, .slice a l c, .int .i64 x0, .int .i64 x1, .int .i64 x2, .int .i64 x3, .int .i64 x4, .int .i64 x5, .int .i64 x6, .int .i64 x7]
/-- the cells of a plan in block b -/
structure PB (w : World) (b : Nat) (n : ByteArray) (a : Option Addr) (l c : Nat) (x0 x1 x2 x3 x4 x5 x6 x7 : Int) : Prop where
  lt : b < w.heap.size
  c0 : w.cell? ⟨b, 0, none⟩ = some (.string n)
  c1 : w.cell? ⟨b, 1, none⟩ = some (.slice a l c)
  c2 : w.cell? ⟨b, 2, none⟩ = some (.int .i64 x0)
  c3 : w.cell? ⟨b, 3, none⟩ = some (.int .i64 x1)
  c4 : w.cell? ⟨b, 4, none⟩ = some (.int .i64 x2)
  c5 : w.cell? ⟨b, 5, none⟩ = some (.int .i64 x3)
  c6 : w.cell? ⟨b, 6, none⟩ = some (.int .i64 x4)
  c7 : w.cell? ⟨b, 7, none⟩ = some (.int .i64 x5)
  c8 : w.cell? ⟨b, 8, none⟩ = some (.int .i64 x6)
  c9 : w.cell? ⟨b, 9, none⟩ = some (.int .i64 x7)
section
variable {w w' : World} {b : Nat} {n : ByteArray} {a : Option Addr} {l c : Nat} {x0 x1 x2 x3 x4 x5 x6 x7 : Int}
theorem PB.next (h : PB w b n a l c x0 x1 x2 x3 x4 x5 x6 x7) (hb : Below w.heap.size w w') : PB w' b n a l c x0 x1 x2 x3 x4 x5 x6 x7 :=
  ⟨Nat.lt_of_lt_of_le h.lt hb.size, by rw [hb.cell (p := ⟨b, 0, none⟩) h.lt]; exact h.c0, by rw [hb.cell (p := ⟨b, 1, none⟩) h.lt]; exact h.c1, by rw [hb.cell (p := ⟨b, 2, none⟩) h.lt]; exact h.c2, by rw [hb.cell (p := ⟨b, 3, none⟩) h.lt]; exact h.c3, by rw [hb.cell (p := ⟨b, 4, none⟩) h.lt]; exact h.c4, by rw [hb.cell (p := ⟨b, 5, none⟩) h.lt]; exact h.c5, by rw [hb.cell (p := ⟨b, 6, none⟩) h.lt]; exact h.c6, by rw [hb.cell (p := ⟨b, 7, none⟩) h.lt]; exact h.c7, by rw [hb.cell (p := ⟨b, 8, none⟩) h.lt]; exact h.c8, by rw [hb.cell (p := ⟨b, 9, none⟩) h.lt]; exact h.c9⟩
theorem PB.new (w : World) (n : ByteArray) (a : Option Addr) (l c : Nat) (x0 x1 x2 x3 x4 x5 x6 x7 : Int) (T : TypeId) : PB (w.alloc (.cells #[.string n, .slice a l c, .int .i64 x0, .int .i64 x1, .int .i64 x2, .int .i64 x3, .int .i64 x4, .int .i64 x5, .int .i64 x6, .int .i64 x7] T)) w.heap.size n a l c x0 x1 x2 x3 x4 x5 x6 x7 :=
  ⟨by simp, by simp, by simp, by simp, by simp, by simp, by simp, by simp, by simp, by simp, by simp⟩
end
/-- eight numbers in a block of their own -/
theorem eight_row (w : World) (x0 x1 x2 x3 x4 x5 x6 x7 : Int) (T : TypeId) : Dk.SlI (w.alloc (.cells #[.int .i64 x0, .int .i64 x1, .int .i64 x2, .int .i64 x3, .int .i64 x4, .int .i64 x5, .int .i64 x6, .int .i64 x7] T)) (some ⟨w.heap.size, 0, none⟩) [x0, x1, x2, x3, x4, x5, x6, x7] := fun k hk => by
  refine ⟨w.heap.size, 0, rfl, by simp, ?_⟩
  rw [cell_of_row _ w.heap.size (0 + k) _ _ _ (heap_alloc_new w _), Nat.zero_add]
  have : k < 8 := by simpa using hk
  rcases k with _ | _ | _ | _ | _ | _ | _ | _ | k
  all_goals first
    | rfl
    | omega
theorem nums_next {w w' : World} {a : Option Addr} {l : List Int} (h : Dk.SlI w a l) (hb : Below w.heap.size w w') : Dk.SlI w' a l := fun k hk => by
  obtain ⟨b, o, h1, h2, h3⟩ := h k hk
  exact ⟨b, o, h1, Nat.lt_of_lt_of_le h2 hb.size, by rw [hb.cell (p := ⟨b, o + k, none⟩) h2]; exact h3⟩
end Go.Proofs.YtmccpkpeimejhahGreatDoor

namespace Go.Proofs.YtmccpkpeimejhahGreatDoor
open Go.RowKit

/-- the texts that a slice shows -/
def SlS (w : World) (a : Option Addr) (l : List ByteArray) : Prop := ∀ k, k < l.length → ∃ b o, a = some ⟨b, o, none⟩ ∧ b < w.heap.size ∧ w.cell? ⟨b, o + k, none⟩ = some (.string (tk l k))
theorem SlS.next {w w' : World} {a : Option Addr} {l : List ByteArray} (h : SlS w a l) (hb : Below w.heap.size w w') : SlS w' a l := fun k hk => by
  obtain ⟨b, o, h1, h2, h3⟩ := h k hk
  exact ⟨b, o, h1, Nat.lt_of_lt_of_le h2 hb.size, by rw [hb.cell (p := ⟨b, o + k, none⟩) h2]; exact h3⟩
theorem SlS.from {B : Nat} {w w' : World} {a : Option Addr} {l : List ByteArray} (h : SlS w a l) (hb : Below B w w') (hB : w.heap.size ≤ B) : SlS w' a l := fun k hk => by
  obtain ⟨b, o, h1, h2, h3⟩ := h k hk
  exact ⟨b, o, h1, Nat.lt_of_lt_of_le h2 hb.size, by rw [hb.cell (p := ⟨b, o + k, none⟩) (Nat.lt_of_lt_of_le h2 hB)]; exact h3⟩
namespace Pn
theorem filtE_drop {l : List ByteArray} {i : Nat} (h : i < l.length) : filtE (l.drop i) = if errS true (tk l i) = 0 then filtE (l.drop (i + 1)) else errS true (tk l i) := by rw [drop_tk h]; rfl
theorem laps_drop {l : List ByteArray} {i : Nat} (h : i < l.length) : laps (l.drop i) = ((l.drop (i + 1)).any (fun g => meetL (Pl.toks (tk l i)) (Pl.toks g)) || laps (l.drop (i + 1))) := by rw [drop_tk h]; rfl
theorem any_drop {l : List ByteArray} {i : Nat} (h : i < l.length) (f : ByteArray → Bool) : (l.drop i).any f = (f (tk l i) || (l.drop (i + 1)).any f) := by rw [drop_tk h]; rfl
theorem inAll_drop {v : List Int} {i : Nat} (h : i < v.length) (h8 : v.length = 8) : inAll (v.drop i) (most8.drop i) = ((decide (0 ≤ Dk.nth v i) && decide (Dk.nth v i ≤ Dk.nth most8 i)) && inAll (v.drop (i + 1)) (most8.drop (i + 1))) := by
  have h2 : i < most8.length := by rw [h8] at h; exact h
  rw [List.drop_eq_getElem_cons h, List.drop_eq_getElem_cons h2, inAll, Dk.nth, Dk.nth, List.getElem?_eq_getElem h, List.getElem?_eq_getElem h2]
  rfl
section
variable {p : Pln}
theorem planE_name (h : namedB p.n = false) : planE p = 3 := by unfold planE; rw [if_pos h]
theorem planE_many (h : namedB p.n = true) (h2 : 4 < p.f.length) : planE p = 2 := by unfold planE; rw [if_neg (by rw [h]; simp), if_pos h2]
theorem planE_none (h : namedB p.n = true) (h2 : p.f.length = 0) : planE p = 1 := by unfold planE; rw [if_neg (by rw [h]; simp), if_neg (by omega), if_pos h2]
theorem planE_filt (h : namedB p.n = true) (h2 : ¬ 4 < p.f.length) (h3 : p.f.length ≠ 0) (h4 : filtE p.f ≠ 0) : planE p = filtE p.f := by unfold planE; rw [if_neg (by rw [h]; simp), if_neg h2, if_neg h3, if_pos h4]
theorem planE_laps (h : namedB p.n = true) (h2 : ¬ 4 < p.f.length) (h3 : p.f.length ≠ 0) (h4 : filtE p.f = 0) (h5 : laps p.f = true) : planE p = 10 := by unfold planE; rw [if_neg (by rw [h]; simp), if_neg h2, if_neg h3, if_neg (by rw [h4]; simp), if_pos h5]
theorem planE_nums (h : namedB p.n = true) (h2 : ¬ 4 < p.f.length) (h3 : p.f.length ≠ 0) (h4 : filtE p.f = 0) (h5 : laps p.f = false) : planE p = if inAll p.v most8 = true then 0 else 1 := by unfold planE; rw [if_neg (by rw [h]; simp), if_neg h2, if_neg h3, if_neg (by rw [h4]; simp), if_neg (by rw [h5]; simp)]
end
end Pn

/-- a plan that is looked at: its block, its filters -/
def Pst (w wr : World) (b : Nat) (n : ByteArray) (a : Option Addr) (l : List ByteArray) (c : Nat) (x0 x1 x2 x3 x4 x5 x6 x7 : Int) : Prop := PB wr b n a l.length c x0 x1 x2 x3 x4 x5 x6 x7 ∧ SlS wr a l ∧ Below w.heap.size w wr
theorem Pst.next {w wr w' : World} {b : Nat} {n : ByteArray} {a : Option Addr} {l : List ByteArray} {c : Nat} {x0 x1 x2 x3 x4 x5 x6 x7 : Int} (h : Pst w wr b n a l c x0 x1 x2 x3 x4 x5 x6 x7) (hb : Below wr.heap.size wr w') : Pst w w' b n a l c x0 x1 x2 x3 x4 x5 x6 x7 := ⟨h.1.next hb, h.2.1.next hb, bstep h.2.2 hb⟩
/-- a plan's values and what they may be, in rows -/
def Vst (w wr : World) (g1 g2 : Nat) (v : List Int) : Prop := Dk.SlI wr (some ⟨g1, 0, none⟩) v ∧ Dk.SlI wr (some ⟨g2, 0, none⟩) Pn.most8 ∧ Below w.heap.size w wr
theorem Vst.next {w wr w' : World} {g1 g2 : Nat} {v : List Int} (h : Vst w wr g1 g2 v) (hb : Below wr.heap.size wr w') : Vst w w' g1 g2 v := ⟨nums_next h.1 hb, nums_next h.2.1 hb, bstep h.2.2 hb⟩
abbrev Two3 (g1 g2 i : Nat) (x y : Int) (w : World) : Prop := w.cell? ⟨g1, i, none⟩ = some (.int .i64 x) ∧ w.cell? ⟨g2, i, none⟩ = some (.int .i64 y)
theorem Vst.two {w wr : World} {g1 g2 : Nat} {v : List Int} (h : Vst w wr g1 g2 v) (h8 : v.length = 8) {i : Nat} (hi : i < 8) : Two3 g1 g2 i (Dk.nth v i) (Dk.nth Pn.most8 i) wr := by
  obtain ⟨b1, o1, e1, _, h1⟩ := h.1 i (by omega)
  obtain ⟨b2, o2, e2, _, h2⟩ := h.2.1 i hi
  cases e1
  cases e2
  rw [Nat.zero_add] at h1 h2
  exact ⟨h1, h2⟩
/-- two texts of a row and the slice that shows it -/
abbrev Two2 (b : Nat) (a : Option Addr) (l c ba o i k : Nat) (f g : ByteArray) (w : World) : Prop := w.cell? ⟨b, 1, none⟩ = some (.slice a l c) ∧ w.cell? ⟨ba, o + i, none⟩ = some (.string f) ∧ w.cell? ⟨ba, o + k, none⟩ = some (.string g)
theorem Pst.two {w wr : World} {b ba o : Nat} {n : ByteArray} {l : List ByteArray} {c : Nat} {x0 x1 x2 x3 x4 x5 x6 x7 : Int} (h : Pst w wr b n (some ⟨ba, o, none⟩) l c x0 x1 x2 x3 x4 x5 x6 x7) {i k : Nat} (hi : i < l.length) (hk : k < l.length) : Two2 b (some ⟨ba, o, none⟩) l.length c ba o i k (tk l i) (tk l k) wr := by
  obtain ⟨b1, o1, e1, _, h1⟩ := h.2.1 i hi
  obtain ⟨b2, o2, e2, _, h2⟩ := h.2.1 k hk
  cases e1
  cases e2
  exact ⟨h.1.c1, h1, h2⟩
end Go.Proofs.YtmccpkpeimejhahGreatDoor

namespace Go.Proofs.YtmccpkpeimejhahGreatDoor.Pn
open Go

theorem bs_list (s : ByteArray) : bs s.data.toList = s := by unfold bs; apply ByteArray.ext; simp
theorem list_bs (l : List UInt8) : (bs l).data.toList = l := by unfold bs; simp
theorem inAll_in : ∀ {v ms : List Int}, inAll v ms = true → v.length = ms.length ∧ ∀ x ∈ v, 0 ≤ x ∧ ∃ m ∈ ms, x ≤ m
  | [], [], _ => ⟨rfl, fun x hx => by cases hx⟩
  | [], _ :: _, h => by simp [inAll] at h
  | _ :: _, [], h => by simp [inAll] at h
  | x :: v, m :: ms, h => by
    unfold inAll at h
    simp only [Bool.and_eq_true, decide_eq_true_eq] at h
    obtain ⟨h1, h2⟩ := inAll_in h.2
    refine ⟨by simp [h1], fun y hy => ?_⟩
    rcases List.mem_cons.1 hy with z | z
    · rw [z]; exact ⟨h.1.1, m, List.mem_cons_self .., h.1.2⟩
    · obtain ⟨q, k, hk, hl⟩ := h2 y z
      exact ⟨q, k, List.mem_cons_of_mem _ hk, hl⟩
theorem most_le : ∀ m ∈ most8, m ≤ 100000 := by decide
/-- the bytes of a right filter -/
theorem piece_ok {t : List UInt8} {last : Bool} (h : Pl.tokOk true last t = true) : t.length ≤ 16 ∧ ∀ c ∈ t, 33 ≤ c.toNat := by
  unfold Pl.tokOk at h
  rcases Bool.or_eq_true_iff.1 h with y | y
  · unfold Pl.plainB at y
    simp only [Bool.and_eq_true, decide_eq_true_eq, List.all_eq_true] at y
    refine ⟨y.2.1, fun c hc => ?_⟩
    have := y.2.2 c hc
    unfold Pl.tokB at this
    simp only [Bool.and_eq_true, decide_eq_true_eq] at this
    exact this.1
  · simp only [Bool.true_and, Bool.or_eq_true, beq_iff_eq, Bool.and_eq_true] at y
    rcases y with y | y
    · rw [y]; exact ⟨by decide, by decide⟩
    · rw [y.1]; exact ⟨by decide, by decide⟩
theorem filt_bytes {f : ByteArray} (h : errS true f = 0) : f.size ≤ 136 ∧ ∀ c ∈ f.data.toList, 33 ≤ c.toNat := by
  obtain ⟨h1, h2⟩ := good_of h
  have hp : ∀ t ∈ Pl.pcs f.data.toList, t.length ≤ 16 ∧ ∀ c ∈ t, 33 ≤ c.toNat := fun t ht => by
    obtain ⟨k, hk, rfl⟩ := List.mem_iff_getElem.1 ht
    unfold Pl.goodTo at h2
    rw [List.all_eq_true] at h2
    have := h2 k (List.mem_range.2 hk)
    rw [List.getElem?_eq_getElem hk] at this
    exact piece_ok this
  have hg := glue_cut 46 f.data.toList
  rw [cut_dot] at hg
  constructor
  · have := glue_len 46 16 _ (fun t ht => (hp t ht).1)
    rw [hg] at this
    have e : f.data.toList.length = f.size := by simp
    omega
  · intro c hc
    rw [← hg] at hc
    rcases glue_mem 46 _ c hc with y | ⟨t, ht, hct⟩
    · rw [y]; decide
    · exact (hp t ht).2 c hct
theorem name_bytes {s : ByteArray} (h : namedB s = true) : s.size ≤ 16 ∧ ∀ c ∈ s.data.toList, 33 ≤ c.toNat := by
  unfold namedB at h
  simp only [Bool.and_eq_true, decide_eq_true_eq, List.all_eq_true] at h
  refine ⟨h.2.2, fun c hc => ?_⟩
  have := h.1 c hc
  unfold nameB at this
  simp only [Bool.or_eq_true, Bool.and_eq_true, decide_eq_true_eq] at this
  omega
theorem dig_bytes {u : Nat} : ∀ c ∈ Lib.decDigits u, 33 ≤ c.toNat := fun c hc => by
  have := dec_dig u c hc
  unfold isDig at this
  simp at this
  omega
theorem itoa_low {x : Int} (h : 0 ≤ x ∧ x ≤ 100000) : (Lib.itoa x).length ≤ 6 ∧ ∀ c ∈ Lib.itoa x, 33 ≤ c.toNat := by
  have e : Lib.itoa x = Lib.decDigits x.toNat := by unfold Lib.itoa; rw [if_neg (by omega)]
  rw [e]
  exact ⟨dec_len 5 _ (by simp; omega), dig_bytes⟩
theorem wordsT_bytes : ∀ (ws : List (List UInt8)) (v : List Int), (∀ w ∈ ws, w.length ≤ 7 ∧ ∀ c ∈ w, 33 ≤ c.toNat) → (∀ x ∈ v, 0 ≤ x ∧ x ≤ 100000) → (wordsT ws v).length ≤ ws.length ∧ ∀ t ∈ wordsT ws v, t.length ≤ 14 ∧ ∀ c ∈ t, 33 ≤ c.toNat
  | [], v, _, _ => by simp [wordsT]
  | w :: ws, [], _, _ => by simp [wordsT]
  | w :: ws, x :: v, hw, hx => by
    obtain ⟨h1, h2⟩ := wordsT_bytes ws v (fun u hu => hw u (List.mem_cons_of_mem _ hu)) (fun y hy => hx y (List.mem_cons_of_mem _ hy))
    by_cases e : x = 0
    · rw [wordsT, if_pos e]
      exact ⟨by simp; omega, h2⟩
    · rw [wordsT, if_neg e]
      refine ⟨by simp; omega, fun t ht => ?_⟩
      rcases List.mem_cons.1 ht with y | y
      · obtain ⟨i1, i2⟩ := itoa_low (hx x (List.mem_cons_self ..))
        obtain ⟨w1, w2⟩ := hw w (List.mem_cons_self ..)
        rw [y]
        refine ⟨by rw [List.length_append, List.length_cons]; omega, fun c hc => ?_⟩
        rcases List.mem_append.1 hc with z | z
        · exact w2 c z
        · rcases List.mem_cons.1 z with q | q
          · rw [q]; decide
          · exact i2 c q
      · exact h2 t y
theorem words8_ok : ∀ w ∈ words8, w.length ≤ 7 ∧ ∀ c ∈ w, 33 ≤ c.toNat := by decide
theorem words8_no : ∀ w ∈ words8, (61 : UInt8) ∉ w := by decide
theorem words8_nodup : words8.Nodup := by decide
/-- a right plan's text: its bytes, its size -/
theorem text_ok {p : Pln} (h : planE p = 0) : (∀ t ∈ textL p, (32 : UInt8) ∉ t) ∧ (planT p).size ≤ 1024 := by
  obtain ⟨h1, h2, h3, h4, h5, h6⟩ := plan_ok h
  obtain ⟨n1, n2⟩ := name_bytes h1
  have hf := filtE_all h4
  have hv : ∀ x ∈ p.v, 0 ≤ x ∧ x ≤ 100000 := fun x hx => by
    obtain ⟨q, m, hm, hl⟩ := (inAll_in h6).2 x hx
    have := most_le m hm
    omega
  obtain ⟨w1, w2⟩ := wordsT_bytes words8 p.v words8_ok hv
  have hj : ∀ c ∈ glue 44 (p.f.map (·.data.toList)), 33 ≤ c.toNat := fun c hc => by
    rcases glue_mem 44 _ c hc with y | ⟨t, ht, hct⟩
    · rw [y]; decide
    · obtain ⟨f, hff, rfl⟩ := List.mem_map.1 ht
      exact (filt_bytes (hf f hff)).2 c hct
  have no : ∀ {t : List UInt8}, (∀ c ∈ t, 33 ≤ c.toNat) → (32 : UInt8) ∉ t := fun ht z => by
    have := ht _ z
    simp at this
  constructor
  · intro t ht
    unfold textL at ht
    rcases List.mem_cons.1 ht with y | y
    · rw [y]; exact no n2
    · rcases List.mem_cons.1 y with z | z
      · rw [z]; exact no hj
      · exact no (w2 t z).2
  · have hjl : (glue 44 (p.f.map (·.data.toList))).length ≤ 548 := by
      have := glue_len 44 136 (p.f.map (·.data.toList)) (fun t ht => by
        obtain ⟨f, hff, rfl⟩ := List.mem_map.1 ht
        have := (filt_bytes (hf f hff)).1
        simpa using this)
      rw [List.length_map] at this
      omega
    have hw := glue_len 32 14 _ (fun t ht => (w2 t ht).1)
    have hl8 : words8.length = 8 := rfl
    have hstep : ∀ (t : List UInt8) (ts : List (List UInt8)), (glue 32 (t :: ts)).length ≤ t.length + 1 + (glue 32 ts).length := fun t ts => by
      cases ts with
      | nil => simp [glue]
      | cons u us => rw [glue_cons 32 t (by simp), List.length_append, List.length_cons]; omega
    have s1 := hstep p.n.data.toList (glue 44 (p.f.map (·.data.toList)) :: wordsT words8 p.v)
    have s2 := hstep (glue 44 (p.f.map (·.data.toList))) (wordsT words8 p.v)
    have e : (planT p).size = (glue 32 (textL p)).length := by
      show (glue 32 (textL p)).toArray.size = _
      simp
    have en : p.n.data.toList.length = p.n.size := by simp
    rw [e]
    unfold textL
    omega
/-- what is printed is read as it was -/
theorem read_print {p : Pln} (h : planE p = 0) (hc : commas p = false) : readP (planT p) = (p, 0) := by
  obtain ⟨h1, h2, h3, h4, h5, h6⟩ := plan_ok h
  obtain ⟨t1, t2⟩ := text_ok h
  have hcut : cut 32 (planT p).data.toList = textL p := by
    have e : (planT p).data.toList = glue 32 (textL p) := by simp [planT]
    rw [e]
    exact cut_glue 32 _ (by unfold textL; simp) t1
  have hfc : cut 44 (glue 44 (p.f.map (·.data.toList))) = p.f.map (·.data.toList) := by
    refine cut_glue 44 _ (fun z => h3 (by simpa using congrArg List.length z)) (fun t ht => ?_)
    obtain ⟨f, hf, rfl⟩ := List.mem_map.1 ht
    unfold commas at hc
    rw [List.any_eq_false] at hc
    have := hc f hf
    simpa using this
  have hfm : (cut 44 (glue 44 (p.f.map (·.data.toList)))).map bs = p.f := by
    rw [hfc, List.map_map]
    conv => rhs; rw [← List.map_id p.f]
    exact List.map_congr_left (fun f _ => bs_list f)
  have hv : ∀ x ∈ p.v, 0 ≤ x ∧ x < 1000000000 := fun x hx => by
    obtain ⟨q, m, hm, hl⟩ := (inAll_in h6).2 x hx
    have := most_le m hm
    omega
  have hr := rdN_back words8 p.v words8_nodup words8_no ((inAll_in h6).1) hv
  unfold readP
  rw [if_neg (by omega), hcut]
  unfold textL
  simp only [hr, hfm, bs_list]
  rw [if_pos h]
/-- what is read is printed as it stood -/
theorem print_read {s : ByteArray} {x : Pln} (h : readP s = (x, 0)) : planE x = 0 ∧ commas x = false ∧ planT x = s := by
  unfold readP at h
  split at h
  · cases h
  · cases hc : cut 32 s.data.toList with
    | nil => exact absurd hc (cut_ne 32 _)
    | cons n r =>
      rw [hc] at h
      cases r with
      | nil => cases h
      | cons f ts =>
        simp only at h
        cases hr : rdN words8 ts with
        | none => rw [hr] at h; cases h
        | some v =>
          rw [hr] at h
          simp only at h
          by_cases he : planE ⟨bs n, (cut 44 f).map bs, v⟩ = 0
          · rw [if_pos he] at h
            have hx := (Prod.mk.inj h).1
            subst hx
            refine ⟨he, ?_, ?_⟩
            · unfold commas
              rw [List.any_eq_false]
              intro g hg
              obtain ⟨t, ht, rfl⟩ := List.mem_map.1 hg
              rw [list_bs]
              simpa using cut_free 44 f t ht
            · have e1 : ((cut 44 f).map bs).map (·.data.toList) = cut 44 f := by
                rw [List.map_map]
                conv => rhs; rw [← List.map_id (cut 44 f)]
                exact List.map_congr_left (fun t _ => list_bs t)
              have e2 : textL ⟨bs n, (cut 44 f).map bs, v⟩ = cut 32 s.data.toList := by
                unfold textL
                simp only [e1, glue_cut, list_bs, (rdN_one words8 ts hr).1, hc]
              unfold planT
              rw [e2, glue_cut]
          · rw [if_neg he] at h
            exact absurd (Prod.mk.inj h).2 he
theorem read_bad {s : ByteArray} (h : (readP s).2 ≠ 0) : (readP s).1 = zeroP := by
  unfold readP at h ⊢
  split
  · rfl
  · rename_i hs
    rw [if_neg hs] at h
    cases hc : cut 32 s.data.toList with
    | nil => rfl
    | cons n r =>
      rw [hc] at h
      cases r with
      | nil => rfl
      | cons f ts =>
        simp only at h ⊢
        cases hr : rdN words8 ts with
        | none => rfl
        | some v =>
          rw [hr] at h
          simp only at h ⊢
          by_cases he : planE ⟨bs n, (cut 44 f).map bs, v⟩ = 0
          · rw [if_pos he] at h; exact absurd rfl h
          · rw [if_neg he]
/-- the law's one plan -/
def onePlan : Pln := ⟨⟨#[115]⟩, [⟨#[97, 46, 62]⟩, ⟨#[98]⟩], [0, 0, 0, 3, 0, 0, 0, 0]⟩
theorem one_ok : planE onePlan = 0 ∧ commas onePlan = false := by decide +kernel
theorem one_text : planT onePlan = ⟨#[115, 32, 97, 46, 62, 44, 98, 32, 112, 101, 114, 61, 51]⟩ := by decide +kernel
end Go.Proofs.YtmccpkpeimejhahGreatDoor.Pn

namespace Go.Proofs.YtmccpkpeimejhahGreatDoor.Pn
open Go

theorem tk_cons_zero (f : ByteArray) (r : List ByteArray) : tk (f :: r) 0 = f := rfl
theorem tk_cons_succ (f : ByteArray) (r : List ByteArray) (k : Nat) : tk (f :: r) (k + 1) = tk r k := rfl
theorem tk_at {l : List ByteArray} {k : Nat} (h : k < l.length) : tk l k = l[k] := by
  unfold tk
  rw [List.getElem?_eq_getElem h]
  rfl
theorem tk_in {l : List ByteArray} {k : Nat} (h : k < l.length) : tk l k ∈ l := by
  rw [tk_at h]
  exact List.getElem_mem h
/-- two of them overlap: a later one and one ahead of it -/
theorem laps_iff : ∀ l : List ByteArray, laps l = true ↔ ∃ i j, j < i ∧ i < l.length ∧ meetL (Pl.toks (tk l i)) (Pl.toks (tk l j)) = true
  | [] => by
    constructor
    · intro h; cases h
    · rintro ⟨i, j, _, h, _⟩; simp at h
  | f :: r => by
    have ih := laps_iff r
    rw [laps, Bool.or_eq_true, ih, List.any_eq_true]
    constructor
    · rintro (⟨g, hg, hm⟩ | ⟨i, j, h1, h2, h3⟩)
      · obtain ⟨k, hk, rfl⟩ := List.mem_iff_getElem.1 hg
        refine ⟨k + 1, 0, by omega, by simpa using hk, ?_⟩
        rw [tk_cons_succ, tk_cons_zero, tk_at hk, meetL_comm]
        exact hm
      · exact ⟨i + 1, j + 1, by omega, by simpa using h2, h3⟩
    · rintro ⟨i, j, h1, h2, h3⟩
      obtain ⟨i, rfl⟩ : ∃ k, i = k + 1 := ⟨i - 1, by omega⟩
      have hi : i < r.length := by simpa using h2
      cases j with
      | zero =>
        left
        refine ⟨tk r i, tk_in hi, ?_⟩
        rw [meetL_comm]
        exact h3
      | succ j => exact Or.inr ⟨i, j, by omega, hi, h3⟩
/-- what the filters' error is -/
def filtersE (l : List ByteArray) : Int := if 4 < l.length then 2 else if l.length = 0 then 1 else if filtE l ≠ 0 then filtE l else if laps l = true then 10 else 0
theorem plan_filters {p : Pln} (h : namedB p.n = true) : planE p = if filtersE p.f ≠ 0 then filtersE p.f else if inAll p.v most8 = true then 0 else 1 := by
  unfold planE filtersE
  rw [if_neg (by rw [h]; simp)]
  by_cases h2 : 4 < p.f.length
  · rw [if_pos h2, if_pos h2]; rfl
  · rw [if_neg h2, if_neg h2]
    by_cases h3 : p.f.length = 0
    · rw [if_pos h3, if_pos h3]; rfl
    · rw [if_neg h3, if_neg h3]
      by_cases h4 : filtE p.f ≠ 0
      · rw [if_pos h4, if_pos h4, if_pos h4]
      · rw [if_neg h4, if_neg h4]
        by_cases h5 : laps p.f = true
        · rw [if_pos h5, if_pos h5]; rfl
        · rw [if_neg h5, if_neg h5, if_neg (show ¬ (0 : Int) ≠ 0 by decide)]
theorem filters_ok {l : List ByteArray} (h : filtersE l = 0) : l.length ≤ 4 ∧ l.length ≠ 0 ∧ filtE l = 0 ∧ laps l = false := by
  unfold filtersE at h
  by_cases h2 : 4 < l.length
  · rw [if_pos h2] at h; cases h
  · rw [if_neg h2] at h
    by_cases h3 : l.length = 0
    · rw [if_pos h3] at h; cases h
    · rw [if_neg h3] at h
      by_cases h4 : filtE l ≠ 0
      · rw [if_pos h4] at h; exact absurd h h4
      · rw [if_neg h4] at h
        by_cases h5 : laps l = true
        · rw [if_pos h5] at h; cases h
        · exact ⟨by omega, h3, Classical.not_not.1 h4, by simpa using h5⟩
/-- the form of a number in a text -/
def numB (l : List UInt8) : Bool := l.all isDig && (decide (1 ≤ l.length) && (decide (l.length ≤ 9) && decide (l.head? ≠ some 48)))
theorem numB_yes {l : List UInt8} (h : numB l = true) : 1 ≤ digV l ∧ digV l = (val10 l : Int) ∧ l.length ≤ 9 ∧ l ≠ [] ∧ ∀ c ∈ l, isDig c = true := by
  unfold numB at h
  simp only [Bool.and_eq_true, decide_eq_true_eq, List.all_eq_true] at h
  obtain ⟨h1, h2, h3, h4⟩ := h
  have hne : l ≠ [] := by intro e; rw [e] at h2; simp at h2
  have e : digV l = (val10 l : Int) := by
    unfold digV
    rw [if_pos ⟨by rw [List.take_of_length_le (by omega), List.all_eq_true]; exact h1, h2, h3, fun q => h4 q.1⟩]
  refine ⟨?_, e, h3, hne, h1⟩
  rw [e]
  have := val_pos h1 hne h4
  omega
theorem numB_no {l : List UInt8} (h : numB l = false) : digV l < 1 := by
  unfold digV
  by_cases q : (l.take 10).all isDig = true ∧ 1 ≤ l.length ∧ l.length ≤ 9 ∧ ¬ (l.head? = some 48 ∧ l ≠ [48])
  · obtain ⟨q1, q2, q3, q4⟩ := q
    rw [if_pos ⟨q1, q2, q3, q4⟩]
    rw [List.take_of_length_le (by omega)] at q1
    unfold numB at h
    rw [q1, decide_eq_true q2, decide_eq_true q3] at h
    have hh : l.head? = some 48 := by simpa using h
    have hl : l = [48] := Classical.byContradiction (fun x => q4 ⟨hh, x⟩)
    rw [hl]
    decide
  · rw [if_neg q]; decide
theorem decFrom_dig : ∀ (l : List UInt8) (a : Nat), (∀ c ∈ l, isDig c = true) → Lib.decFrom a l = some (l.foldl (fun n c => n * 10 + (c.toNat - 48)) a)
  | [], a, _ => rfl
  | c :: r, a, h => by
    have hc := h c (by simp)
    unfold isDig at hc
    simp only [Bool.and_eq_true, decide_eq_true_eq] at hc
    rw [Lib.decFrom, Lib.digitVal, if_pos ⟨hc.1, hc.2⟩]
    exact decFrom_dig r _ (fun x hx => h x (by simp [hx]))
theorem atoi_dig {l : List UInt8} (hne : l ≠ []) (h : ∀ c ∈ l, isDig c = true) : Lib.atoi l = some (val10 l : Int) := by
  cases l with
  | nil => exact absurd rfl hne
  | cons c r =>
    have hc := h c (by simp)
    unfold isDig at hc
    simp only [Bool.and_eq_true, decide_eq_true_eq] at hc
    have n45 : ¬ (c == 45) = true := by
      intro e
      rw [beq_iff_eq] at e
      subst e
      simp at hc
    have n43 : ¬ (c == 43) = true := by
      intro e
      rw [beq_iff_eq] at e
      subst e
      simp at hc
    rw [Lib.atoi, if_neg n45, if_neg n43, Lib.decNat, if_neg (by simp), decFrom_dig _ _ h]
    rfl
theorem numB_atoi {l : List UInt8} (h : numB l = true) : Lib.atoi l = some (digV l) := by
  obtain ⟨_, e, _, hne, hd⟩ := numB_yes h
  rw [e, atoi_dig hne hd]
theorem glue_join (b : UInt8) : ∀ ts : List (List UInt8), Lib.join ts [b] = glue b ts
  | [] => rfl
  | [t] => by simp [Lib.join, List.intercalate, glue]
  | t :: u :: r => by
    have ih := glue_join b (u :: r)
    rw [glue_cons b t (by simp), ← ih]
    simp [Lib.join, List.intercalate]
theorem contains_at (f : ByteArray) : decide (0 ≤ Lib.indexByte f.data.toList 44) = f.data.toList.contains 44 := (Lib.contains_iff_indexByte _ _).symm
end Go.Proofs.YtmccpkpeimejhahGreatDoor.Pn
