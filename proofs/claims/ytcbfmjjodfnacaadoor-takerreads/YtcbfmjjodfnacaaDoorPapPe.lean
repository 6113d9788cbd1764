/-
  Pure laws for the landed package plan: overlaps in its own order, its filters' error, its numbers' form.
-/
import Derived.Test.YtcbfmjjodfnacaaDoorJointRowPlRowPs
import Derived.Test.YtcbfmjjodfnacaaDoorJointPapPbPapPc
import Derived.Lib.Atoi
import Derived.Lib.Join
import Derived.Lib.IndexAny
namespace Go.Proofs.YtcbfmjjodfnacaaDoor.Pn
open Go

theorem tk_cons_zero (f : ByteArray) (r : List ByteArray) : tk (f :: r) 0 = f := rfl
theorem tk_cons_succ (f : ByteArray) (r : List ByteArray) (k : Nat) : tk (f :: r) (k + 1) = tk r k := rfl
theorem tk_at {l : List ByteArray} {k : Nat} (h : k < l.length) : tk l k = l[k] := by
  unfold tk
  rw [List.getElem?_eq_getElem h]
  rfl
theorem tk_in {l : List ByteArray} {k : Nat} (h : k < l.length) : tk l k ∈ l := by
  rw [tk_at h]
  exact List.getElem_mem h
/-- two of them overlap: a later one and one ahead of it -/
theorem laps_iff : ∀ l : List ByteArray, laps l = true ↔ ∃ i j, j < i ∧ i < l.length ∧ meetL (Pl.toks (tk l i)) (Pl.toks (tk l j)) = true
  | [] => by
    constructor
    · intro h; cases h
    · rintro ⟨i, j, _, h, _⟩; simp at h
  | f :: r => by
    have ih := laps_iff r
    rw [laps, Bool.or_eq_true, ih, List.any_eq_true]
    constructor
    · rintro (⟨g, hg, hm⟩ | ⟨i, j, h1, h2, h3⟩)
      · obtain ⟨k, hk, rfl⟩ := List.mem_iff_getElem.1 hg
        refine ⟨k + 1, 0, by omega, by simpa using hk, ?_⟩
        rw [tk_cons_succ, tk_cons_zero, tk_at hk, meetL_comm]
        exact hm
      · exact ⟨i + 1, j + 1, by omega, by simpa using h2, h3⟩
    · rintro ⟨i, j, h1, h2, h3⟩
      obtain ⟨i, rfl⟩ : ∃ k, i = k + 1 := ⟨i - 1, by omega⟩
      have hi : i < r.length := by simpa using h2
      cases j with
      | zero =>
        left
        refine ⟨tk r i, tk_in hi, ?_⟩
        rw [meetL_comm]
        exact h3
      | succ j => exact Or.inr ⟨i, j, by omega, hi, h3⟩
/-- what the filters' error is -/
def filtersE (l : List ByteArray) : Int := if 4 < l.length then 2 else if l.length = 0 then 1 else if filtE l ≠ 0 then filtE l else if laps l = true then 10 else 0
theorem plan_filters {p : Pln} (h : namedB p.n = true) : planE p = if filtersE p.f ≠ 0 then filtersE p.f else if inAll p.v most8 = true then 0 else 1 := by
  unfold planE filtersE
  rw [if_neg (by rw [h]; simp)]
  by_cases h2 : 4 < p.f.length
  · rw [if_pos h2, if_pos h2]; rfl
  · rw [if_neg h2, if_neg h2]
    by_cases h3 : p.f.length = 0
    · rw [if_pos h3, if_pos h3]; rfl
    · rw [if_neg h3, if_neg h3]
      by_cases h4 : filtE p.f ≠ 0
      · rw [if_pos h4, if_pos h4, if_pos h4]
      · rw [if_neg h4, if_neg h4]
        by_cases h5 : laps p.f = true
        · rw [if_pos h5, if_pos h5]; rfl
        · rw [if_neg h5, if_neg h5, if_neg (show ¬ (0 : Int) ≠ 0 by decide)]
theorem filters_ok {l : List ByteArray} (h : filtersE l = 0) : l.length ≤ 4 ∧ l.length ≠ 0 ∧ filtE l = 0 ∧ laps l = false := by
  unfold filtersE at h
  by_cases h2 : 4 < l.length
  · rw [if_pos h2] at h; cases h
  · rw [if_neg h2] at h
    by_cases h3 : l.length = 0
    · rw [if_pos h3] at h; cases h
    · rw [if_neg h3] at h
      by_cases h4 : filtE l ≠ 0
      · rw [if_pos h4] at h; exact absurd h h4
      · rw [if_neg h4] at h
        by_cases h5 : laps l = true
        · rw [if_pos h5] at h; cases h
        · exact ⟨by omega, h3, Classical.not_not.1 h4, by simpa using h5⟩
/-- the form of a number in a text -/
def numB (l : List UInt8) : Bool := l.all isDig && (decide (1 ≤ l.length) && (decide (l.length ≤ 9) && decide (l.head? ≠ some 48)))
theorem numB_yes {l : List UInt8} (h : numB l = true) : 1 ≤ digV l ∧ digV l = (val10 l : Int) ∧ l.length ≤ 9 ∧ l ≠ [] ∧ ∀ c ∈ l, isDig c = true := by
  unfold numB at h
  simp only [Bool.and_eq_true, decide_eq_true_eq, List.all_eq_true] at h
  obtain ⟨h1, h2, h3, h4⟩ := h
  have hne : l ≠ [] := by intro e; rw [e] at h2; simp at h2
  have e : digV l = (val10 l : Int) := by
    unfold digV
    rw [if_pos ⟨by rw [List.take_of_length_le (by omega), List.all_eq_true]; exact h1, h2, h3, fun q => h4 q.1⟩]
  refine ⟨?_, e, h3, hne, h1⟩
  rw [e]
  have := val_pos h1 hne h4
  omega
theorem numB_no {l : List UInt8} (h : numB l = false) : digV l < 1 := by
  unfold digV
  by_cases q : (l.take 10).all isDig = true ∧ 1 ≤ l.length ∧ l.length ≤ 9 ∧ ¬ (l.head? = some 48 ∧ l ≠ [48])
  · obtain ⟨q1, q2, q3, q4⟩ := q
    rw [if_pos ⟨q1, q2, q3, q4⟩]
    rw [List.take_of_length_le (by omega)] at q1
    unfold numB at h
    rw [q1, decide_eq_true q2, decide_eq_true q3] at h
    have hh : l.head? = some 48 := by simpa using h
    have hl : l = [48] := Classical.byContradiction (fun x => q4 ⟨hh, x⟩)
    rw [hl]
    decide
  · rw [if_neg q]; decide
theorem decFrom_dig : ∀ (l : List UInt8) (a : Nat), (∀ c ∈ l, isDig c = true) → Lib.decFrom a l = some (l.foldl (fun n c => n * 10 + (c.toNat - 48)) a)
  | [], a, _ => rfl
  | c :: r, a, h => by
    have hc := h c (by simp)
    unfold isDig at hc
    simp only [Bool.and_eq_true, decide_eq_true_eq] at hc
    rw [Lib.decFrom, Lib.digitVal, if_pos ⟨hc.1, hc.2⟩]
    exact decFrom_dig r _ (fun x hx => h x (by simp [hx]))
theorem atoi_dig {l : List UInt8} (hne : l ≠ []) (h : ∀ c ∈ l, isDig c = true) : Lib.atoi l = some (val10 l : Int) := by
  cases l with
  | nil => exact absurd rfl hne
  | cons c r =>
    have hc := h c (by simp)
    unfold isDig at hc
    simp only [Bool.and_eq_true, decide_eq_true_eq] at hc
    have n45 : ¬ (c == 45) = true := by
      intro e
      rw [beq_iff_eq] at e
      subst e
      simp at hc
    have n43 : ¬ (c == 43) = true := by
      intro e
      rw [beq_iff_eq] at e
      subst e
      simp at hc
    rw [Lib.atoi, if_neg n45, if_neg n43, Lib.decNat, if_neg (by simp), decFrom_dig _ _ h]
    rfl
theorem numB_atoi {l : List UInt8} (h : numB l = true) : Lib.atoi l = some (digV l) := by
  obtain ⟨_, e, _, hne, hd⟩ := numB_yes h
  rw [e, atoi_dig hne hd]
theorem glue_join (b : UInt8) : ∀ ts : List (List UInt8), Lib.join ts [b] = glue b ts
  | [] => rfl
  | [t] => by simp [Lib.join, List.intercalate, glue]
  | t :: u :: r => by
    have ih := glue_join b (u :: r)
    rw [glue_cons b t (by simp), ← ih]
    simp [Lib.join, List.intercalate]
theorem contains_at (f : ByteArray) : decide (0 ≤ Lib.indexByte f.data.toList 44) = f.data.toList.contains 44 := (Lib.contains_iff_indexByte _ _).symm
end Go.Proofs.YtcbfmjjodfnacaaDoor.Pn
