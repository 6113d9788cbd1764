/-
  Plain facts on subjects and filters as lists of bytes: pieces between dots, what a token is, the errors. No program.
-/
import Derived.Lib.SplitLaws
namespace Go.Proofs.YtcbfmjjodfnacaaDoor.Pl
open Go

/-- a byte that a token may have -/
def tokB (c : UInt8) : Bool := decide (33 ≤ c.toNat) && (decide (c.toNat ≤ 126) && (decide (c.toNat ≠ 46) && (decide (c.toNat ≠ 42) && decide (c.toNat ≠ 62))))
def plainB (t : List UInt8) : Bool := decide (1 ≤ t.length) && (decide (t.length ≤ 16) && t.all tokB)
/-- the pieces of a text between dots -/
def pcs : List UInt8 → List (List UInt8)
  | [] => [[]]
  | c :: r => if c = 46 then [] :: pcs r else (pcs r).modifyHead (fun p => c :: p)
def tokOk (wild last : Bool) (t : List UInt8) : Bool := plainB t || (wild && (t == [42] || (t == [62] && last)))
def goodTo (wild : Bool) (ps : List (List UInt8)) (k : Nat) : Bool := (List.range k).all fun i => tokOk wild (decide (i + 1 = ps.length)) (ps[i]?.getD [])
def errOf (wild : Bool) (ps : List (List UInt8)) : Int := if 8 < ps.length then 2 else if goodTo wild ps ps.length then 0 else 3

theorem goodTo_succ (wild : Bool) (ps : List (List UInt8)) (k : Nat) : goodTo wild ps (k + 1) = (goodTo wild ps k && tokOk wild (decide (k + 1 = ps.length)) (ps[k]?.getD [])) := by
  simp [goodTo, List.range_succ, List.all_append]
theorem goodTo_zero (wild : Bool) (ps : List (List UInt8)) : goodTo wild ps 0 = true := rfl
theorem goodTo_le {wild : Bool} {ps : List (List UInt8)} {k n : Nat} (h : k ≤ n) (g : goodTo wild ps n = true) : goodTo wild ps k = true := by
  simp only [goodTo, List.all_eq_true, List.mem_range] at *
  exact fun i hi => g i (by omega)
theorem goodTo_bad {wild : Bool} {ps : List (List UInt8)} {k n : Nat} (h : k < n) (g : tokOk wild (decide (k + 1 = ps.length)) (ps[k]?.getD []) = false) : goodTo wild ps n = false := by
  cases e : goodTo wild ps n with
  | false => rfl
  | true =>
    have := goodTo_le (Nat.succ_le_of_lt h) e
    rw [Nat.succ_eq_add_one, goodTo_succ, g] at this
    simp at this
theorem errOf_large {wild : Bool} {ps : List (List UInt8)} (h : 8 < ps.length) : errOf wild ps = 2 := by simp [errOf, h]
theorem errOf_good {wild : Bool} {ps : List (List UInt8)} (h : ¬ 8 < ps.length) (g : goodTo wild ps ps.length = true) : errOf wild ps = 0 := by simp [errOf, h, g]
theorem errOf_bad {wild : Bool} {ps : List (List UInt8)} {k : Nat} (h : ¬ 8 < ps.length) (hk : k < ps.length) (g : tokOk wild (decide (k + 1 = ps.length)) (ps[k]?.getD []) = false) : errOf wild ps = 3 := by
  simp [errOf, h, goodTo_bad hk g]

theorem pcs_ne : ∀ l : List UInt8, pcs l ≠ []
  | [] => by simp [pcs]
  | c :: r => by
    unfold pcs
    split
    · simp
    · have := pcs_ne r
      cases e : pcs r with
      | nil => exact absurd e this
      | cons a b => simp
theorem pcs_length : ∀ l : List UInt8, (pcs l).length = l.count 46 + 1
  | [] => rfl
  | c :: r => by
    unfold pcs
    by_cases h : c = 46
    · subst h; simp [pcs_length r]
    · rw [if_neg h, List.length_modifyHead, pcs_length r, List.count_cons_of_ne h]
theorem pcs_none : ∀ {l : List UInt8}, l.count 46 = 0 → pcs l = [l]
  | [], _ => rfl
  | c :: r, h => by
    by_cases e : c = 46
    · subst e; simp at h
    · rw [List.count_cons_of_ne e] at h
      unfold pcs
      rw [if_neg e, pcs_none h]; rfl
theorem pcs_hit : ∀ (a : List UInt8) (b : List UInt8), a.count 46 = 0 → pcs (a ++ 46 :: b) = a :: pcs b
  | [], b, _ => by simp [pcs]
  | c :: r, b, h => by
    by_cases e : c = 46
    · subst e; simp at h
    · rw [List.count_cons_of_ne e] at h
      rw [List.cons_append, pcs, if_neg e, pcs_hit r b h]; rfl
theorem pcs_free : ∀ (l : List UInt8) (p : List UInt8), p ∈ pcs l → p.count 46 = 0
  | [], p, h => by simp [pcs] at h; subst h; rfl
  | c :: r, p, h => by
    unfold pcs at h
    by_cases e : c = 46
    · rw [if_pos e] at h
      rcases List.mem_cons.1 h with h | h
      · subst h; rfl
      · exact pcs_free r p h
    · rw [if_neg e] at h
      have ih := pcs_free r
      cases q : pcs r with
      | nil => rw [q] at h; simp at h
      | cons x y =>
        rw [q] at h ih
        simp only [List.modifyHead_cons, List.mem_cons] at h
        rcases h with h | h
        · subst h
          rw [List.count_cons_of_ne e]
          exact ih x (by simp)
        · exact ih p (by simp [h])

theorem pcs_short : ∀ (l : List UInt8) (p : List UInt8), p ∈ pcs l → p.length ≤ l.length
  | [], p, h => by simp [pcs] at h; subst h; simp
  | c :: r, p, h => by
    have ih := pcs_short r
    unfold pcs at h
    by_cases e : c = 46
    · rw [if_pos e] at h
      rcases List.mem_cons.1 h with h | h
      · subst h; simp
      · have := ih p h; simp; omega
    · rw [if_neg e] at h
      cases q : pcs r with
      | nil => rw [q] at h; simp at h
      | cons x y =>
        rw [q] at h ih
        simp only [List.modifyHead_cons, List.mem_cons] at h
        rcases h with h | h
        · subst h
          have := ih x (by simp)
          simp; omega
        · have := ih p (by simp [h])
          simp; omega
/-- the pieces grow at the end: a dot opens a new one -/
theorem pcs_snoc_dot : ∀ l : List UInt8, pcs (l ++ [46]) = pcs l ++ [[]]
  | [] => rfl
  | c :: r => by
    rw [List.cons_append]
    unfold pcs
    by_cases e : c = 46
    · rw [if_pos e, if_pos e, pcs_snoc_dot r]; rfl
    · rw [if_neg e, if_neg e, pcs_snoc_dot r]
      have := pcs_ne r
      cases q : pcs r with
      | nil => exact absurd q this
      | cons x y => rfl
/-- another byte joins the last one -/
theorem pcs_snoc : ∀ (l : List UInt8) (c : UInt8), c ≠ 46 → ∀ (i : List (List UInt8)) (t : List UInt8), pcs l = i ++ [t] → pcs (l ++ [c]) = i ++ [t ++ [c]]
  | [], c, h, i, t, e => by
    simp only [pcs] at e
    cases i with
    | nil => simp at e; subst e; simp [pcs, h]
    | cons a b => simp at e
  | d :: r, c, h, i, t, e => by
    rw [List.cons_append]
    unfold pcs at e ⊢
    by_cases q : d = 46
    · rw [if_pos q] at e ⊢
      cases i with
      | nil =>
        simp at e
        exact absurd e.2 (pcs_ne r)
      | cons a b =>
        simp only [List.cons_append, List.cons.injEq] at e ⊢
        exact ⟨e.1, pcs_snoc r c h b t e.2⟩
    · rw [if_neg q] at e ⊢
      have hr := pcs_ne r
      cases g : pcs r with
      | nil => exact absurd g hr
      | cons x y =>
        rw [g] at e
        simp only [List.modifyHead_cons] at e
        cases i with
        | nil =>
          simp only [List.nil_append, List.cons.injEq] at e
          obtain ⟨e1, e2⟩ := e
          subst e2
          rw [pcs_snoc r c h [] x (by rw [g]; rfl)]
          subst e1
          rfl
        | cons a b =>
          simp only [List.cons_append, List.cons.injEq] at e
          obtain ⟨e1, e2⟩ := e
          rw [pcs_snoc r c h (x :: b) t (by rw [g, e2]; rfl)]
          subst e1
          rfl

theorem index_one_none {l : List UInt8} (h : Lib.index l [46] = -1) : l.count 46 = 0 := by
  have := Lib.count_miss h
  rwa [Lib.count_one] at this
theorem index_one_hit {l : List UInt8} {i : Nat} (h : Lib.index l [46] = i) : (l.take i).count 46 = 0 ∧ l = l.take i ++ 46 :: l.drop (i + 1) := by
  rcases Lib.index_spec l [46] with ⟨e, _⟩ | ⟨j, e, hj, ho, hn⟩
  · omega
  · obtain rfl : i = j := by omega
    have hd : l[i]? = some 46 := Lib.occAt_head rfl ho
    have hl : i < l.length := by
      rcases Nat.lt_or_ge i l.length with h | h
      · exact h
      · rw [List.getElem?_eq_none h] at hd; cases hd
    refine ⟨?_, ?_⟩
    · rw [List.count_eq_zero]
      intro hm
      obtain ⟨k, hk, hk2⟩ := List.mem_iff_getElem.1 hm
      rw [List.length_take] at hk
      rw [List.getElem_take] at hk2
      have hf := hn k (by omega)
      have ht : Lib.occAt l [46] k = true := by
        unfold Lib.occAt
        rw [List.drop_eq_getElem_cons (by omega), hk2]
        simp [List.isPrefixOf]
      rw [ht] at hf
      cases hf
    · have : l[i] = 46 := by rw [List.getElem?_eq_getElem hl] at hd; exact Option.some.inj hd
      rw [← this, ← List.drop_eq_getElem_cons hl, List.take_append_drop]
theorem splitK_pcs : ∀ (k : Nat) (l : List UInt8), l.count 46 = k → Lib.splitK [46] 0 k l = pcs l
  | 0, l, h => by rw [pcs_none h]; rfl
  | k + 1, l, h => by
    unfold Lib.splitK
    split
    · rename_i e
      have := index_one_none (beq_iff_eq.1 e)
      omega
    · rename_i e
      have hge := Lib.index_ge l [46]
      have hne : Lib.index l [46] ≠ -1 := fun x => e (beq_iff_eq.2 x)
      obtain ⟨i, hi⟩ : ∃ i : Nat, Lib.index l [46] = i := ⟨(Lib.index l [46]).toNat, by omega⟩
      obtain ⟨h1, h2⟩ := index_one_hit hi
      have e1 : (Lib.index l [46]).toNat = i := by omega
      rw [e1]
      have hc : (l.drop (i + 1)).count 46 = k := by
        have := congrArg (List.count 46) h2
        rw [List.count_append, h1, List.count_cons_self] at this
        omega
      rw [show i + 0 = i from rfl, show ([46] : List UInt8).length = 1 from rfl, splitK_pcs k _ hc, ← pcs_hit _ _ h1, ← h2]

/-- the tokens, as the program cuts them -/
def toks (s : ByteArray) : List ByteArray := Lib.splitB ⟨#[46]⟩ 0 (Lib.countB s ⟨#[46]⟩) s
theorem toks_data (s : ByteArray) : (toks s).map (·.data.toList) = pcs s.data.toList := by
  unfold toks
  rw [Lib.splitB_data]
  show Lib.splitK [46] 0 (Lib.count s.data.toList [46]) s.data.toList = _
  rw [Lib.count_one]
  exact splitK_pcs _ _ rfl
theorem toks_length (s : ByteArray) : (toks s).length = (pcs s.data.toList).length := by rw [← toks_data, List.length_map]
theorem countB_dots (s : ByteArray) : Lib.countB s ⟨#[46]⟩ + 1 = (pcs s.data.toList).length := by
  rw [pcs_length]
  show Lib.count s.data.toList [46] + 1 = _
  rw [Lib.count_one]
theorem toks_at (s : ByteArray) (i : Nat) : ((pcs s.data.toList)[i]?).getD [] = ((toks s)[i]?.getD ByteArray.empty).data.toList := by
  rw [← toks_data, List.getElem?_map]
  cases (toks s)[i]? <;> rfl
end Go.Proofs.YtcbfmjjodfnacaaDoor.Pl
