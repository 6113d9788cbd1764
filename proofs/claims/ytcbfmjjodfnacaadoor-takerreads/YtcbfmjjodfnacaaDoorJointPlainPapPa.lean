/-
  Plain facts on subjects and filters as lists of bytes: pieces between dots, what a token is, the errors. No program.
  Texts that are cut at a byte, and glued; numbers in decimal and back. No program.
-/
import Derived.Lib.SplitLaws
import Derived.Lib.ItoaNum
namespace Go.Proofs.YtcbfmjjodfnacaaDoor.Pl
open Go

/-- a byte that a token may have -/
def tokB (c : UInt8) : Bool := decide (33 ≤ c.toNat) && (decide (c.toNat ≤ 126) && (decide (c.toNat ≠ 46) && (decide (c.toNat ≠ 42) && decide (c.toNat ≠ 62))))
def plainB (t : List UInt8) : Bool := decide (1 ≤ t.length) && (decide (t.length ≤ 16) && t.all tokB)
/-- the pieces of a text between dots -/
def pcs : List UInt8 → List (List UInt8)
  | [] => [[]]
  | c :: r => if c = 46 then [] :: pcs r else (pcs r).modifyHead (fun p => c :: p)
def tokOk (wild last : Bool) (t : List UInt8) : Bool := plainB t || (wild && (t == [42] || (t == [62] && last)))
def goodTo (wild : Bool) (ps : List (List UInt8)) (k : Nat) : Bool := (List.range k).all fun i => tokOk wild (decide (i + 1 = ps.length)) (ps[i]?.getD [])
def errOf (wild : Bool) (ps : List (List UInt8)) : Int := if 8 < ps.length then 2 else if goodTo wild ps ps.length then 0 else 3

theorem goodTo_succ (wild : Bool) (ps : List (List UInt8)) (k : Nat) : goodTo wild ps (k + 1) = (goodTo wild ps k && tokOk wild (decide (k + 1 = ps.length)) (ps[k]?.getD [])) := by
  simp [goodTo, List.range_succ, List.all_append]
theorem goodTo_zero (wild : Bool) (ps : List (List UInt8)) : goodTo wild ps 0 = true := rfl
theorem goodTo_le {wild : Bool} {ps : List (List UInt8)} {k n : Nat} (h : k ≤ n) (g : goodTo wild ps n = true) : goodTo wild ps k = true := by
  simp only [goodTo, List.all_eq_true, List.mem_range] at *
  exact fun i hi => g i (by omega)
theorem goodTo_bad {wild : Bool} {ps : List (List UInt8)} {k n : Nat} (h : k < n) (g : tokOk wild (decide (k + 1 = ps.length)) (ps[k]?.getD []) = false) : goodTo wild ps n = false := by
  cases e : goodTo wild ps n with
  | false => rfl
  | true =>
    have := goodTo_le (Nat.succ_le_of_lt h) e
    rw [Nat.succ_eq_add_one, goodTo_succ, g] at this
    simp at this
theorem errOf_large {wild : Bool} {ps : List (List UInt8)} (h : 8 < ps.length) : errOf wild ps = 2 := by simp [errOf, h]
theorem errOf_good {wild : Bool} {ps : List (List UInt8)} (h : ¬ 8 < ps.length) (g : goodTo wild ps ps.length = true) : errOf wild ps = 0 := by simp [errOf, h, g]
theorem errOf_bad {wild : Bool} {ps : List (List UInt8)} {k : Nat} (h : ¬ 8 < ps.length) (hk : k < ps.length) (g : tokOk wild (decide (k + 1 = ps.length)) (ps[k]?.getD []) = false) : errOf wild ps = 3 := by
  simp [errOf, h, goodTo_bad hk g]

theorem pcs_ne : ∀ l : List UInt8, pcs l ≠ []
  | [] => by simp [pcs]
  | c :: r => by
    unfold pcs
    split
    · simp
    · have := pcs_ne r
      cases e : pcs r with
      | nil => exact absurd e this
      | cons a b => simp
theorem pcs_length : ∀ l : List UInt8, (pcs l).length = l.count 46 + 1
  | [] => rfl
  | c :: r => by
    unfold pcs
    by_cases h : c = 46
    · subst h; simp [pcs_length r]
    · rw [if_neg h, List.length_modifyHead, pcs_length r, List.count_cons_of_ne h]
theorem pcs_none : ∀ {l : List UInt8}, l.count 46 = 0 → pcs l = [l]
  | [], _ => rfl
  | c :: r, h => by
    by_cases e : c = 46
    · subst e; simp at h
    · rw [List.count_cons_of_ne e] at h
      unfold pcs
      rw [if_neg e, pcs_none h]; rfl
theorem pcs_hit : ∀ (a : List UInt8) (b : List UInt8), a.count 46 = 0 → pcs (a ++ 46 :: b) = a :: pcs b
  | [], b, _ => by simp [pcs]
  | c :: r, b, h => by
    by_cases e : c = 46
    · subst e; simp at h
    · rw [List.count_cons_of_ne e] at h
      rw [List.cons_append, pcs, if_neg e, pcs_hit r b h]; rfl
theorem pcs_free : ∀ (l : List UInt8) (p : List UInt8), p ∈ pcs l → p.count 46 = 0
  | [], p, h => by simp [pcs] at h; subst h; rfl
  | c :: r, p, h => by
    unfold pcs at h
    by_cases e : c = 46
    · rw [if_pos e] at h
      rcases List.mem_cons.1 h with h | h
      · subst h; rfl
      · exact pcs_free r p h
    · rw [if_neg e] at h
      have ih := pcs_free r
      cases q : pcs r with
      | nil => rw [q] at h; simp at h
      | cons x y =>
        rw [q] at h ih
        simp only [List.modifyHead_cons, List.mem_cons] at h
        rcases h with h | h
        · subst h
          rw [List.count_cons_of_ne e]
          exact ih x (by simp)
        · exact ih p (by simp [h])

theorem pcs_short : ∀ (l : List UInt8) (p : List UInt8), p ∈ pcs l → p.length ≤ l.length
  | [], p, h => by simp [pcs] at h; subst h; simp
  | c :: r, p, h => by
    have ih := pcs_short r
    unfold pcs at h
    by_cases e : c = 46
    · rw [if_pos e] at h
      rcases List.mem_cons.1 h with h | h
      · subst h; simp
      · have := ih p h; simp; omega
    · rw [if_neg e] at h
      cases q : pcs r with
      | nil => rw [q] at h; simp at h
      | cons x y =>
        rw [q] at h ih
        simp only [List.modifyHead_cons, List.mem_cons] at h
        rcases h with h | h
        · subst h
          have := ih x (by simp)
          simp; omega
        · have := ih p (by simp [h])
          simp; omega
/-- the pieces grow at the end: a dot opens a new one -/
theorem pcs_snoc_dot : ∀ l : List UInt8, pcs (l ++ [46]) = pcs l ++ [[]]
  | [] => rfl
  | c :: r => by
    rw [List.cons_append]
    unfold pcs
    by_cases e : c = 46
    · rw [if_pos e, if_pos e, pcs_snoc_dot r]; rfl
    · rw [if_neg e, if_neg e, pcs_snoc_dot r]
      have := pcs_ne r
      cases q : pcs r with
      | nil => exact absurd q this
      | cons x y => rfl
/-- another byte joins the last one -/
theorem pcs_snoc : ∀ (l : List UInt8) (c : UInt8), c ≠ 46 → ∀ (i : List (List UInt8)) (t : List UInt8), pcs l = i ++ [t] → pcs (l ++ [c]) = i ++ [t ++ [c]]
  | [], c, h, i, t, e => by
    simp only [pcs] at e
    cases i with
    | nil => simp at e; subst e; simp [pcs, h]
    | cons a b => simp at e
  | d :: r, c, h, i, t, e => by
    rw [List.cons_append]
    unfold pcs at e ⊢
    by_cases q : d = 46
    · rw [if_pos q] at e ⊢
      cases i with
      | nil =>
        simp at e
        exact absurd e.2 (pcs_ne r)
      | cons a b =>
        simp only [List.cons_append, List.cons.injEq] at e ⊢
        exact ⟨e.1, pcs_snoc r c h b t e.2⟩
    · rw [if_neg q] at e ⊢
      have hr := pcs_ne r
      cases g : pcs r with
      | nil => exact absurd g hr
      | cons x y =>
        rw [g] at e
        simp only [List.modifyHead_cons] at e
        cases i with
        | nil =>
          simp only [List.nil_append, List.cons.injEq] at e
          obtain ⟨e1, e2⟩ := e
          subst e2
          rw [pcs_snoc r c h [] x (by rw [g]; rfl)]
          subst e1
          rfl
        | cons a b =>
          simp only [List.cons_append, List.cons.injEq] at e
          obtain ⟨e1, e2⟩ := e
          rw [pcs_snoc r c h (x :: b) t (by rw [g, e2]; rfl)]
          subst e1
          rfl

theorem index_one_none {l : List UInt8} (h : Lib.index l [46] = -1) : l.count 46 = 0 := by
  have := Lib.count_miss h
  rwa [Lib.count_one] at this
theorem index_one_hit {l : List UInt8} {i : Nat} (h : Lib.index l [46] = i) : (l.take i).count 46 = 0 ∧ l = l.take i ++ 46 :: l.drop (i + 1) := by
  rcases Lib.index_spec l [46] with ⟨e, _⟩ | ⟨j, e, hj, ho, hn⟩
  · omega
  · obtain rfl : i = j := by omega
    have hd : l[i]? = some 46 := Lib.occAt_head rfl ho
    have hl : i < l.length := by
      rcases Nat.lt_or_ge i l.length with h | h
      · exact h
      · rw [List.getElem?_eq_none h] at hd; cases hd
    refine ⟨?_, ?_⟩
    · rw [List.count_eq_zero]
      intro hm
      obtain ⟨k, hk, hk2⟩ := List.mem_iff_getElem.1 hm
      rw [List.length_take] at hk
      rw [List.getElem_take] at hk2
      have hf := hn k (by omega)
      have ht : Lib.occAt l [46] k = true := by
        unfold Lib.occAt
        rw [List.drop_eq_getElem_cons (by omega), hk2]
        simp [List.isPrefixOf]
      rw [ht] at hf
      cases hf
    · have : l[i] = 46 := by rw [List.getElem?_eq_getElem hl] at hd; exact Option.some.inj hd
      rw [← this, ← List.drop_eq_getElem_cons hl, List.take_append_drop]
theorem splitK_pcs : ∀ (k : Nat) (l : List UInt8), l.count 46 = k → Lib.splitK [46] 0 k l = pcs l
  | 0, l, h => by rw [pcs_none h]; rfl
  | k + 1, l, h => by
    unfold Lib.splitK
    split
    · rename_i e
      have := index_one_none (beq_iff_eq.1 e)
      omega
    · rename_i e
      have hge := Lib.index_ge l [46]
      have hne : Lib.index l [46] ≠ -1 := fun x => e (beq_iff_eq.2 x)
      obtain ⟨i, hi⟩ : ∃ i : Nat, Lib.index l [46] = i := ⟨(Lib.index l [46]).toNat, by omega⟩
      obtain ⟨h1, h2⟩ := index_one_hit hi
      have e1 : (Lib.index l [46]).toNat = i := by omega
      rw [e1]
      have hc : (l.drop (i + 1)).count 46 = k := by
        have := congrArg (List.count 46) h2
        rw [List.count_append, h1, List.count_cons_self] at this
        omega
      rw [show i + 0 = i from rfl, show ([46] : List UInt8).length = 1 from rfl, splitK_pcs k _ hc, ← pcs_hit _ _ h1, ← h2]

/-- the tokens, as the program cuts them -/
def toks (s : ByteArray) : List ByteArray := Lib.splitB ⟨#[46]⟩ 0 (Lib.countB s ⟨#[46]⟩) s
theorem toks_data (s : ByteArray) : (toks s).map (·.data.toList) = pcs s.data.toList := by
  unfold toks
  rw [Lib.splitB_data]
  show Lib.splitK [46] 0 (Lib.count s.data.toList [46]) s.data.toList = _
  rw [Lib.count_one]
  exact splitK_pcs _ _ rfl
theorem toks_length (s : ByteArray) : (toks s).length = (pcs s.data.toList).length := by rw [← toks_data, List.length_map]
theorem countB_dots (s : ByteArray) : Lib.countB s ⟨#[46]⟩ + 1 = (pcs s.data.toList).length := by
  rw [pcs_length]
  show Lib.count s.data.toList [46] + 1 = _
  rw [Lib.count_one]
theorem toks_at (s : ByteArray) (i : Nat) : ((pcs s.data.toList)[i]?).getD [] = ((toks s)[i]?.getD ByteArray.empty).data.toList := by
  rw [← toks_data, List.getElem?_map]
  cases (toks s)[i]? <;> rfl
end Go.Proofs.YtcbfmjjodfnacaaDoor.Pl

namespace Go.Proofs.YtcbfmjjodfnacaaDoor.Pn
open Go

/-- the pieces of a text between bytes b -/
def cut (b : UInt8) : List UInt8 → List (List UInt8)
  | [] => [[]]
  | c :: r => if c = b then [] :: cut b r else (cut b r).modifyHead (fun p => c :: p)
theorem cut_dot : ∀ l : List UInt8, cut 46 l = Pl.pcs l
  | [] => rfl
  | c :: r => by unfold cut Pl.pcs; rw [cut_dot r]
theorem cut_ne (b : UInt8) : ∀ l : List UInt8, cut b l ≠ []
  | [] => by simp [cut]
  | c :: r => by
    unfold cut
    split
    · simp
    · have := cut_ne b r
      cases e : cut b r with
      | nil => exact absurd e this
      | cons x y => simp
theorem cut_free (b : UInt8) : ∀ (l : List UInt8) (p : List UInt8), p ∈ cut b l → b ∉ p
  | [], p, h => by
    simp [cut] at h
    rw [h]; simp
  | c :: r, p, h => by
    unfold cut at h
    by_cases e : c = b
    · rw [if_pos e] at h
      rcases List.mem_cons.1 h with y | y
      · rw [y]; simp
      · exact cut_free b r p y
    · rw [if_neg e] at h
      cases hc : cut b r with
      | nil => exact absurd hc (cut_ne b r)
      | cons x xs =>
        rw [hc] at h
        simp only [List.modifyHead_cons] at h
        rcases List.mem_cons.1 h with y | y
        · rw [y]
          have hx := cut_free b r x (by rw [hc]; exact List.mem_cons_self ..)
          intro z
          rcases List.mem_cons.1 z with q | q
          · exact e q.symm
          · exact hx q
        · exact cut_free b r p (by rw [hc]; exact List.mem_cons_of_mem _ y)
/-- texts with b between -/
def glue (b : UInt8) : List (List UInt8) → List UInt8
  | [] => []
  | [t] => t
  | t :: u :: ts => t ++ b :: glue b (u :: ts)
theorem glue_cons (b : UInt8) (t : List UInt8) {ts : List (List UInt8)} (h : ts ≠ []) : glue b (t :: ts) = t ++ b :: glue b ts := by
  cases ts with
  | nil => exact absurd rfl h
  | cons u us => rfl
theorem glue_snoc (b : UInt8) : ∀ (ts : List (List UInt8)) (t : List UInt8), ts ≠ [] → glue b (ts ++ [t]) = glue b ts ++ b :: t
  | [], _, h => absurd rfl h
  | [x], t, _ => rfl
  | x :: y :: ts, t, _ => by
    have h1 := glue_snoc b (y :: ts) t (by simp)
    rw [List.cons_append, glue_cons b x (by simp), h1, glue_cons b x (by simp), List.append_assoc]
    rfl
theorem glue_cut (b : UInt8) : ∀ l : List UInt8, glue b (cut b l) = l
  | [] => rfl
  | c :: r => by
    have ih := glue_cut b r
    unfold cut
    by_cases e : c = b
    · rw [if_pos e, glue_cons b [] (cut_ne b r), ih, e]; rfl
    · rw [if_neg e]
      cases hc : cut b r with
      | nil => exact absurd hc (cut_ne b r)
      | cons x xs =>
        rw [hc] at ih
        rw [List.modifyHead_cons]
        cases xs with
        | nil => rw [← ih]; rfl
        | cons y ys =>
          rw [glue_cons b (c :: x) (List.cons_ne_nil y ys), ← ih, glue_cons b x (List.cons_ne_nil y ys)]
          rfl
theorem cut_front (b : UInt8) : ∀ (a l : List UInt8), b ∉ a → cut b (a ++ b :: l) = a :: cut b l
  | [], l, _ => by rw [List.nil_append, cut, if_pos rfl]
  | c :: a, l, h => by
    have hc : ¬ c = b := fun e => h (by rw [e]; exact List.mem_cons_self ..)
    rw [List.cons_append, cut, if_neg hc, cut_front b a l (fun z => h (List.mem_cons_of_mem _ z)), List.modifyHead_cons]
theorem cut_none (b : UInt8) : ∀ (a : List UInt8), b ∉ a → cut b a = [a]
  | [], _ => rfl
  | c :: a, h => by
    have hc : ¬ c = b := fun e => h (by rw [e]; exact List.mem_cons_self ..)
    rw [cut, if_neg hc, cut_none b a (fun z => h (List.mem_cons_of_mem _ z)), List.modifyHead_cons]
theorem cut_glue (b : UInt8) : ∀ (ts : List (List UInt8)), ts ≠ [] → (∀ t ∈ ts, b ∉ t) → cut b (glue b ts) = ts
  | [], h, _ => absurd rfl h
  | [t], _, h => cut_none b t (h t (List.mem_cons_self ..))
  | t :: u :: ts, _, h => by
    rw [glue_cons b t (by simp), cut_front b t _ (h t (List.mem_cons_self ..)), cut_glue b (u :: ts) (by simp) (fun x hx => h x (List.mem_cons_of_mem _ hx))]
theorem glue_len (b : UInt8) (M : Nat) : ∀ (ts : List (List UInt8)), (∀ t ∈ ts, t.length ≤ M) → (glue b ts).length ≤ ts.length * (M + 1)
  | [], _ => by simp [glue]
  | [t], h => by have := h t (List.mem_cons_self ..); simp [glue]; omega
  | t :: u :: ts, h => by
    have h1 := glue_len b M (u :: ts) (fun x hx => h x (List.mem_cons_of_mem _ hx))
    have h2 := h t (List.mem_cons_self ..)
    rw [glue_cons b t (by simp), List.length_append, List.length_cons]
    rw [List.length_cons (a := t), Nat.add_mul]
    omega
theorem glue_mem (b : UInt8) : ∀ (ts : List (List UInt8)) (c : UInt8), c ∈ glue b ts → c = b ∨ ∃ t ∈ ts, c ∈ t
  | [], c, h => by cases h
  | [t], c, h => .inr ⟨t, List.mem_cons_self .., h⟩
  | t :: u :: ts, c, h => by
    rw [glue_cons b t (by simp)] at h
    rcases List.mem_append.1 h with y | y
    · exact .inr ⟨t, List.mem_cons_self .., y⟩
    · rcases List.mem_cons.1 y with z | z
      · exact .inl z
      · rcases glue_mem b (u :: ts) c z with q | ⟨x, hx, hc⟩
        · exact .inl q
        · exact .inr ⟨x, List.mem_cons_of_mem _ hx, hc⟩

/-- a digit; a number of digits -/
def isDig (c : UInt8) : Bool := decide (48 ≤ c.toNat) && decide (c.toNat ≤ 57)
def val10 (l : List UInt8) : Nat := l.foldl (fun n c => n * 10 + (c.toNat - 48)) 0
theorem val10_snoc (l : List UInt8) (c : UInt8) : val10 (l ++ [c]) = val10 l * 10 + (c.toNat - 48) := by unfold val10; rw [List.foldl_append]; rfl
theorem dig_at {d : Nat} (h : d < 10) : (UInt8.ofNat (48 + d)).toNat = 48 + d := by rw [UInt8.toNat_ofNat']; omega
theorem isDig_at {d : Nat} (h : d < 10) : isDig (UInt8.ofNat (48 + d)) = true := by unfold isDig; rw [dig_at h]; simp; omega
theorem dec_ne (u : Nat) : Lib.decDigits u ≠ [] := by rw [Lib.decDigits]; split <;> simp
theorem dec_dig (u : Nat) : ∀ c ∈ Lib.decDigits u, isDig c = true := by
  induction u using Nat.strongRecOn with
  | _ u ih =>
    intro c hc
    rw [Lib.decDigits] at hc
    split at hc
    · rename_i h
      rw [List.mem_singleton.1 hc]; exact isDig_at h
    · rename_i h
      rcases List.mem_append.1 hc with y | y
      · exact ih (u / 10) (by omega) c y
      · rw [List.mem_singleton.1 y]; exact isDig_at (by omega)
theorem dec_val (u : Nat) : val10 (Lib.decDigits u) = u := by
  induction u using Nat.strongRecOn with
  | _ u ih =>
    rw [Lib.decDigits]
    split
    · rename_i h
      have := val10_snoc [] (UInt8.ofNat (48 + u))
      rw [List.nil_append, dig_at h] at this
      rw [this]; simp [val10]
    · rename_i h
      rw [val10_snoc, ih (u / 10) (by omega), dig_at (by omega)]; omega
theorem dec_head (u : Nat) (hu : 1 ≤ u) : (Lib.decDigits u).head? ≠ some 48 := by
  induction u using Nat.strongRecOn with
  | _ u ih =>
    rw [Lib.decDigits]
    split
    · rename_i h
      intro z
      simp only [List.head?_cons, Option.some.injEq] at z
      have := congrArg UInt8.toNat z
      rw [dig_at h] at this
      simp at this
      omega
    · rename_i h
      have hr := ih (u / 10) (by omega) (by omega)
      cases hd : Lib.decDigits (u / 10) with
      | nil => exact absurd hd (dec_ne _)
      | cons x xs =>
        rw [hd] at hr
        simpa using hr
theorem dec_len : ∀ (k u : Nat), u < 10 ^ (k + 1) → (Lib.decDigits u).length ≤ k + 1
  | 0, u, h => by
    have h' : u < 10 := by simpa using h
    rw [Lib.decDigits, dif_pos h']; simp
  | k + 1, u, h => by
    rw [Lib.decDigits]
    split
    · simp
    · have : u / 10 < 10 ^ (k + 1) := by rw [Nat.pow_succ] at h; omega
      have := dec_len k (u / 10) this
      rw [List.length_append]
      simp
      omega
theorem snoc_rec {P : List UInt8 → Prop} (h0 : P []) (h1 : ∀ a d, P a → P (a ++ [d])) (l : List UInt8) : P l := by
  have key : ∀ (n : Nat) (l : List UInt8), l.length = n → P l := by
    intro n
    induction n with
    | zero => intro l hl; rw [List.eq_nil_of_length_eq_zero hl]; exact h0
    | succ n ih =>
      intro l hl
      have hne : l ≠ [] := by intro z; rw [z] at hl; simp at hl
      rw [← List.dropLast_concat_getLast hne]
      exact h1 _ _ (ih _ (by simp [hl]))
  exact key _ l rfl
theorem val_pos : ∀ {l : List UInt8}, (∀ c ∈ l, isDig c = true) → l ≠ [] → l.head? ≠ some 48 → 1 ≤ val10 l := by
  refine fun {l} => snoc_rec (P := fun l => (∀ c ∈ l, isDig c = true) → l ≠ [] → l.head? ≠ some 48 → 1 ≤ val10 l) ?_ ?_ l
  · intro _ h; exact absurd rfl h
  · intro a d ih hd _ hh
    rw [val10_snoc]
    cases a with
    | nil =>
      simp only [List.nil_append, List.head?_cons, ne_eq, Option.some.injEq] at hh
      have h1 := hd d (by simp)
      unfold isDig at h1
      simp at h1
      have : d.toNat ≠ 48 := fun z => hh (UInt8.toNat_inj.1 (by simpa using z))
      omega
    | cons x xs =>
      have := ih (fun c hc => hd c (List.mem_append_left _ hc)) (by simp) (by simpa using hh)
      omega
theorem val_dec : ∀ {l : List UInt8}, (∀ c ∈ l, isDig c = true) → l ≠ [] → l.head? ≠ some 48 → Lib.decDigits (val10 l) = l := by
  refine fun {l} => snoc_rec (P := fun l => (∀ c ∈ l, isDig c = true) → l ≠ [] → l.head? ≠ some 48 → Lib.decDigits (val10 l) = l) ?_ ?_ l
  · intro _ h; exact absurd rfl h
  · intro a d ih hd _ hh
    have h1 := hd d (by simp)
    unfold isDig at h1
    simp at h1
    have hdd : ∀ n, n = d.toNat - 48 → UInt8.ofNat (48 + n) = d := fun n hn => UInt8.toNat_inj.1 (by rw [UInt8.toNat_ofNat', hn]; omega)
    rw [val10_snoc]
    cases a with
    | nil =>
      have e : val10 [] * 10 + (d.toNat - 48) = d.toNat - 48 := by simp [val10]
      rw [e, Lib.decDigits, dif_pos (by omega), hdd _ rfl]; rfl
    | cons x xs =>
      have ha : ∀ c ∈ x :: xs, isDig c = true := fun c hc => hd c (List.mem_append_left _ hc)
      have hh' : (x :: xs).head? ≠ some 48 := by simpa using hh
      have hp := val_pos ha (by simp) hh'
      rw [Lib.decDigits, dif_neg (by omega), show (val10 (x :: xs) * 10 + (d.toNat - 48)) / 10 = val10 (x :: xs) by omega, ih ha (by simp) hh', hdd _ (by omega)]
/-- Digits: a number without noughts ahead, of one to nine digits; -1: none -/
def digV (l : List UInt8) : Int := if (l.take 10).all isDig = true ∧ 1 ≤ l.length ∧ l.length ≤ 9 ∧ ¬ (l.head? = some 48 ∧ l ≠ [48]) then (val10 l : Int) else -1
theorem digV_dec {u : Nat} (h : 1 ≤ u) (h9 : u < 1000000000) : digV (Lib.decDigits u) = (u : Int) := by
  have hl := dec_len 8 u (by simpa using h9)
  have hn := dec_ne u
  unfold digV
  rw [if_pos, dec_val]
  refine ⟨?_, ?_, hl, fun z => dec_head u h z.1⟩
  · rw [List.all_eq_true]
    exact fun c hc => dec_dig u c (List.mem_of_mem_take hc)
  · cases hd : Lib.decDigits u with
    | nil => exact absurd hd hn
    | cons x xs => simp
theorem digV_back {l : List UInt8} (h : 1 ≤ digV l) : Lib.itoa (digV l) = l ∧ digV l < 1000000000 := by
  unfold digV at h ⊢
  split
  · rename_i hc
    rw [if_pos hc] at h
    obtain ⟨h1, h2, h3, h4⟩ := hc
    have hall : ∀ c ∈ l, isDig c = true := by
      rw [List.take_of_length_le (by omega), List.all_eq_true] at h1
      exact h1
    have hne : l ≠ [] := by intro z; rw [z] at h2; simp at h2
    have hh : l.head? ≠ some 48 := fun z => by
      have : l = [48] := Classical.byContradiction (fun y => h4 ⟨z, y⟩)
      rw [this] at h
      simp [val10] at h
    have hd := val_dec hall hne hh
    refine ⟨?_, ?_⟩
    · unfold Lib.itoa
      rw [if_neg (by omega)]
      simpa using hd
    · apply Classical.byContradiction
      intro z
      have hlen : ∀ (k v : Nat), 10 ^ k ≤ v → k + 1 ≤ (Lib.decDigits v).length := by
        intro k
        induction k with
        | zero => intro v _; cases hd : Lib.decDigits v with
          | nil => exact absurd hd (dec_ne v)
          | cons x xs => simp
        | succ k ih =>
          intro v hv
          rw [Nat.pow_succ] at hv
          have hp : 1 ≤ 10 ^ k := Nat.one_le_pow _ _ (by decide)
          rw [Lib.decDigits, dif_neg (by omega), List.length_append]
          have := ih (v / 10) (by omega)
          simp; omega
      have := hlen 9 (val10 l) (by simp; omega)
      rw [hd] at this
      omega
  · rename_i hc
    rw [if_neg hc] at h
    omega
end Go.Proofs.YtcbfmjjodfnacaaDoor.Pn
