/-
  The document's disk as a map from numbers to files, and what every call keeps of it. No walk.
-/
import Derived.Test.YtbejicpfhnfnfabPapD
namespace Go.Proofs.Ytbejicpfhnfnfab.Dk
open Go.RowKit

/-- the file of a number -/
def fnd (es : List Pap) (n : Int) : Option Pap := es.find? (fun p => p.n == n)
theorem fnd_nil (n : Int) : fnd [] n = none := rfl
theorem fnd_cons (e : Pap) (r : List Pap) (n : Int) : fnd (e :: r) n = if e.n = n then some e else fnd r n := by
  unfold fnd
  rw [List.find?_cons]
  by_cases h : e.n = n
  · rw [if_pos h, beq_iff_eq.2 h]
  · rw [if_neg h, beq_eq_false_iff_ne.2 h]
theorem fnd_append (a b : List Pap) (n : Int) : fnd (a ++ b) n = (fnd a n).or (fnd b n) := List.find?_append
theorem fnd_none {l : List Pap} {n : Int} (h : ∀ e ∈ l, e.n ≠ n) : fnd l n = none := by
  unfold fnd
  rw [List.find?_eq_none]
  intro e he
  rw [beq_iff_eq]
  exact h e he
theorem fnd_mid {A B : List Pap} {x : Pap} (hA : ∀ e ∈ A, e.n ≠ x.n) (k : Int) : fnd (A ++ x :: B) k = if k = x.n then some x else fnd (A ++ B) k := by
  rw [fnd_append, fnd_append, fnd_cons]
  by_cases h : k = x.n
  · rw [if_pos h, if_pos h.symm, h, fnd_none hA]; rfl
  · rw [if_neg h, if_neg (fun q => h q.symm)]
theorem ix_cons (e : Pap) (r : List Pap) (n : Int) : ix (e :: r) n = if e.n = n then 0 else ix r n + 1 := by
  unfold ix
  rw [List.findIdx_cons]
  by_cases h : e.n = n
  · rw [if_pos h, beq_iff_eq.2 h]; rfl
  · rw [if_neg h, beq_eq_false_iff_ne.2 h]; rfl
theorem fnd_ix : ∀ (es : List Pap) (n : Int), fnd es n = if ix es n < es.length then some (pa es (ix es n)) else none
  | [], n => rfl
  | e :: r, n => by
    rw [fnd_cons, ix_cons]
    by_cases h : e.n = n
    · rw [if_pos h, if_pos h, if_pos (by simp)]; rfl
    · rw [if_neg h, if_neg h, fnd_ix r n, pa_succ]
      simp
theorem fnd_some {es : List Pap} {n : Int} (h : ix es n < es.length) : fnd es n = some (pa es (ix es n)) := by rw [fnd_ix, if_pos h]
theorem fnd_not {es : List Pap} {n : Int} (h : ¬ ix es n < es.length) : fnd es n = none := by rw [fnd_ix, if_neg h]
theorem fnd_is {es : List Pap} {n : Int} : ix es n < es.length ↔ (fnd es n).isSome = true := by
  rw [fnd_ix]
  by_cases h : ix es n < es.length
  · rw [if_pos h]; simp [h]
  · rw [if_neg h]; simp [h]
theorem fnd_mem {es : List Pap} {n : Int} {e : Pap} (h : fnd es n = some e) : e ∈ es ∧ e.n = n := ⟨List.mem_of_find?_eq_some h, by have := List.find?_some h; simpa using this⟩
theorem not_there {es : List Pap} {n : Int} (h : ¬ ix es n < es.length) : ∀ e ∈ es, e.n ≠ n := by
  have q := fnd_not h
  unfold fnd at q
  rw [List.find?_eq_none] at q
  intro e he
  have := q e he
  simpa using this
/-- the numbers rise -/
def Rise (es : List Pap) : Prop := es.Pairwise (fun a b => a.n < b.n)
theorem rise_num (es : List Pap) : Rise es ↔ (numL es).Pairwise (· < ·) := by unfold Rise numL; rw [List.pairwise_map]
theorem split_pa {es : List Pap} {i : Nat} (h : i < es.length) : es = es.take i ++ pa es i :: es.drop (i + 1) := by
  rw [pa_get h, ← List.drop_eq_getElem_cons h, List.take_append_drop]
theorem set_split {es : List Pap} {i : Nat} (h : i < es.length) (x : Pap) : es.set i x = es.take i ++ x :: es.drop (i + 1) := by
  rw [List.set_eq_take_append_cons_drop, if_pos h]
theorem rise_ahead {A B : List Pap} {y : Pap} (h : Rise (A ++ y :: B)) : ∀ e ∈ A, e.n ≠ y.n := by
  intro e he
  have := (List.pairwise_append.1 h).2.2 e he y (by simp)
  omega
theorem rise_behind {A B : List Pap} {y : Pap} (h : Rise (A ++ y :: B)) : ∀ e ∈ B, e.n ≠ y.n := by
  intro e he
  have := List.rel_of_pairwise_cons (List.pairwise_append.1 h).2.1 he
  omega
theorem numL_set {es : List Pap} {i : Nat} (h : i < es.length) {x : Pap} (hx : x.n = (pa es i).n) : numL (es.set i x) = numL es := by
  rw [set_split h]
  conv => rhs; rw [split_pa h]
  simp [numL, hx]
theorem used_cons (e : Pap) (r : List Pap) : used (e :: r) = used r + e.text.size := by simp [used]; omega
theorem used_set {es : List Pap} {i : Nat} (h : i < es.length) (x : Pap) : used (es.set i x) + (pa es i).text.size = used es + x.text.size := by
  rw [set_split h]
  conv => rhs; rw [split_pa h]
  rw [used_append, used_append, used_cons, used_cons]
  omega
theorem fnd_set {es : List Pap} {i : Nat} (hr : Rise es) (h : i < es.length) {x : Pap} (hx : x.n = (pa es i).n) (k : Int) : fnd (es.set i x) k = if k = x.n then some x else fnd es k := by
  have e := split_pa h
  have hA : ∀ e ∈ es.take i, e.n ≠ (pa es i).n := rise_ahead (by rw [← e]; exact hr)
  rw [set_split h, fnd_mid (fun e he => by rw [hx]; exact hA e he)]
  by_cases hk : k = x.n
  · rw [if_pos hk, if_pos hk]
  · rw [if_neg hk, if_neg hk]
    conv => rhs; rw [e]
    rw [fnd_mid hA, if_neg (by rw [← hx]; exact hk)]
theorem mem_take_pa {es : List Pap} {q : Nat} {e : Pap} (h : e ∈ es.take q) : ∃ j, j < q ∧ j < es.length ∧ e = pa es j := by
  obtain ⟨j, hj, rfl⟩ := List.getElem_of_mem h
  rw [List.length_take] at hj
  refine ⟨j, by omega, by omega, ?_⟩
  rw [List.getElem_take, pa_get (by omega)]
theorem mem_drop_pa {es : List Pap} {q : Nat} {e : Pap} (h : e ∈ es.drop q) : ∃ j, q ≤ j ∧ j < es.length ∧ e = pa es j := by
  obtain ⟨j, hj, rfl⟩ := List.getElem_of_mem h
  rw [List.length_drop] at hj
  refine ⟨q + j, by omega, by omega, ?_⟩
  rw [List.getElem_drop, pa_get (by omega)]
theorem rise_pa {es : List Pap} (h : Rise es) {i j : Nat} (hij : i < j) (hj : j < es.length) : (pa es i).n < (pa es j).n := by
  rw [pa_get (by omega), pa_get hj]
  exact List.pairwise_iff_getElem.1 h i j (by omega) hj hij
theorem rise_ins {es : List Pap} (h : Rise es) {x : Pap} (hn : ∀ e ∈ es, e.n ≠ x.n) : Rise (insL es (low es x.n) x) := by
  unfold insL Rise
  have hA : ∀ e ∈ es.take (low es x.n), e.n < x.n := fun e he => by
    obtain ⟨j, h1, h2, rfl⟩ := mem_take_pa he
    exact low_lt h1
  have hB : ∀ e ∈ es.drop (low es x.n), x.n < e.n := fun e he => by
    obtain ⟨j, h1, h2, rfl⟩ := mem_drop_pa he
    have q1 := low_at (es := es) (n := x.n) (by omega)
    have q2 := hn _ (pa_mem (l := es) (k := low es x.n) (by omega))
    rcases Nat.eq_or_lt_of_le h1 with z | z
    · rw [← z]; omega
    · have := rise_pa h z h2; omega
  have hp : (es.take (low es x.n) ++ es.drop (low es x.n)).Pairwise (fun a b => a.n < b.n) := by rw [List.take_append_drop]; exact h
  rw [List.pairwise_append] at hp ⊢
  refine ⟨hp.1, List.pairwise_cons.2 ⟨hB, hp.2.1⟩, fun a ha b hb => ?_⟩
  rcases List.mem_cons.1 hb with rfl | hb
  · exact hA a ha
  · exact hp.2.2 a ha b hb
theorem fnd_ins {es : List Pap} (q : Nat) {x : Pap} (hn : ∀ e ∈ es, e.n ≠ x.n) (k : Int) : fnd (insL es q x) k = if k = x.n then some x else fnd es k := by
  unfold insL
  rw [fnd_mid (fun e he => hn e (List.mem_of_mem_take he)), List.take_append_drop]
theorem used_ins {es : List Pap} (q : Nat) (x : Pap) : used (insL es q x) = used es + x.text.size := by
  unfold insL
  conv => rhs; rw [← List.take_append_drop q es]
  rw [used_append, used_append, used_cons]
  omega
theorem mem_ins {es : List Pap} {q : Nat} {x e : Pap} (h : e ∈ insL es q x) : e = x ∨ e ∈ es := by
  unfold insL at h
  rw [List.mem_append, List.mem_cons] at h
  rcases h with h | h | h
  · exact .inr (List.mem_of_mem_take h)
  · exact .inl h
  · exact .inr (List.mem_of_mem_drop h)
theorem fnd_del {es : List Pap} {i : Nat} (hr : Rise es) (h : i < es.length) (k : Int) : fnd (es.take i ++ es.drop (i + 1)) k = if k = (pa es i).n then none else fnd es k := by
  have e := split_pa h
  have hr' : Rise (es.take i ++ pa es i :: es.drop (i + 1)) := by rw [← e]; exact hr
  by_cases hk : k = (pa es i).n
  · rw [if_pos hk]
    refine fnd_none (fun e he => ?_)
    rw [hk]
    rcases List.mem_append.1 he with q | q
    · exact rise_ahead hr' e q
    · exact rise_behind hr' e q
  · rw [if_neg hk]
    conv => rhs; rw [e]
    rw [fnd_mid (rise_ahead hr'), if_neg hk]
theorem used_del {es : List Pap} {i : Nat} (h : i < es.length) : used (es.take i ++ es.drop (i + 1)) + (pa es i).text.size = used es := by
  conv => rhs; rw [split_pa h]
  rw [used_append, used_append, used_cons]
  omega
theorem sub_del (es : List Pap) (i : Nat) : (es.take i ++ es.drop (i + 1)).Sublist es := by
  conv => rhs; rw [← List.take_append_drop i es]
  refine List.Sublist.append (List.Sublist.refl _) ?_
  rw [← List.drop_drop]
  exact List.drop_sublist 1 _
theorem fnd_map (es : List Pap) (f : Pap → Pap) (hf : ∀ e, (f e).n = e.n) (k : Int) : fnd (es.map f) k = (fnd es k).map f := by
  induction es with
  | nil => rfl
  | cons e r ih =>
    rw [List.map_cons, fnd_cons, fnd_cons, hf, ih]
    by_cases h : e.n = k
    · rw [if_pos h, if_pos h]; rfl
    · rw [if_neg h, if_neg h]
end Go.Proofs.Ytbejicpfhnfnfab.Dk
