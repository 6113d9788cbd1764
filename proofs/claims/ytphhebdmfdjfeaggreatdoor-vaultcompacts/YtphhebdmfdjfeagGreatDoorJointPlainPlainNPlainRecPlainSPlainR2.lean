/-
  Plain facts on subjects and filters as lists of bytes: pieces between dots, what a token is, the errors. No program.
  Plain mathematics of numbers in groups of seven bits, of texts behind their length, and of the sum (CRC-32): a number is read as it was written, what is read is written so, a burst of at most 32 bits is told. No program.
  Plain mathematics of records as bytes: a body out of its parts and the parts out of a body, a sum as four bytes. No program.
  Plain mathematics of a burst: bits of a text that are turned one by one, and PETERSON, BROWN for them. No program.
  Plain mathematics of records: what is wrong with a record, its bytes, the record at the front of bytes; what is written is read as it was, a front of it asks for more, what is read is written as just those bytes, one turned bit is told. No program.
-/
import Derived.Lib.SplitLaws
namespace Go.Proofs.YtphhebdmfdjfeagGreatDoor.Pl
open Go

/-- a byte that a token may have -/
def tokB (c : UInt8) : Bool := decide (33 ≤ c.toNat) && (decide (c.toNat ≤ 126) && (decide (c.toNat ≠ 46) && (decide (c.toNat ≠ 42) && decide (c.toNat ≠ 62))))
def plainB (t : List UInt8) : Bool := decide (1 ≤ t.length) && (decide (t.length ≤ 16) && t.all tokB)
/-- the pieces of a text between dots -/
def pcs : List UInt8 → List (List UInt8)
  | [] => [[]]
  | c :: r => if c = 46 then [] :: pcs r else (pcs r).modifyHead (fun p => c :: p)
def tokOk (wild last : Bool) (t : List UInt8) : Bool := plainB t || (wild && (t == [42] || (t == [62] && last)))
def goodTo (wild : Bool) (ps : List (List UInt8)) (k : Nat) : Bool := (List.range k).all fun i => tokOk wild (decide (i + 1 = ps.length)) (ps[i]?.getD [])
def errOf (wild : Bool) (ps : List (List UInt8)) : Int := if 8 < ps.length then 2 else if goodTo wild ps ps.length then 0 else 3

theorem goodTo_succ (wild : Bool) (ps : List (List UInt8)) (k : Nat) : goodTo wild ps (k + 1) = (goodTo wild ps k && tokOk wild (decide (k + 1 = ps.length)) (ps[k]?.getD [])) := by
  simp [goodTo, List.range_succ, List.all_append]
theorem goodTo_zero (wild : Bool) (ps : List (List UInt8)) : goodTo wild ps 0 = true := rfl
theorem goodTo_le {wild : Bool} {ps : List (List UInt8)} {k n : Nat} (h : k ≤ n) (g : goodTo wild ps n = true) : goodTo wild ps k = true := by
  simp only [goodTo, List.all_eq_true, List.mem_range] at *
  exact fun i hi => g i (by omega)
theorem goodTo_bad {wild : Bool} {ps : List (List UInt8)} {k n : Nat} (h : k < n) (g : tokOk wild (decide (k + 1 = ps.length)) (ps[k]?.getD []) = false) : goodTo wild ps n = false := by
  cases e : goodTo wild ps n with
  | false => rfl
  | true =>
    have := goodTo_le (Nat.succ_le_of_lt h) e
    rw [Nat.succ_eq_add_one, goodTo_succ, g] at this
    simp at this
theorem errOf_large {wild : Bool} {ps : List (List UInt8)} (h : 8 < ps.length) : errOf wild ps = 2 := by simp [errOf, h]
theorem errOf_good {wild : Bool} {ps : List (List UInt8)} (h : ¬ 8 < ps.length) (g : goodTo wild ps ps.length = true) : errOf wild ps = 0 := by simp [errOf, h, g]
theorem errOf_bad {wild : Bool} {ps : List (List UInt8)} {k : Nat} (h : ¬ 8 < ps.length) (hk : k < ps.length) (g : tokOk wild (decide (k + 1 = ps.length)) (ps[k]?.getD []) = false) : errOf wild ps = 3 := by
  simp [errOf, h, goodTo_bad hk g]

theorem pcs_ne : ∀ l : List UInt8, pcs l ≠ []
  | [] => by simp [pcs]
  | c :: r => by
    unfold pcs
    split
    · simp
    · have := pcs_ne r
      cases e : pcs r with
      | nil => exact absurd e this
      | cons a b => simp
theorem pcs_length : ∀ l : List UInt8, (pcs l).length = l.count 46 + 1
  | [] => rfl
  | c :: r => by
    unfold pcs
    by_cases h : c = 46
    · subst h; simp [pcs_length r]
    · rw [if_neg h, List.length_modifyHead, pcs_length r, List.count_cons_of_ne h]
theorem pcs_none : ∀ {l : List UInt8}, l.count 46 = 0 → pcs l = [l]
  | [], _ => rfl
  | c :: r, h => by
    by_cases e : c = 46
    · subst e; simp at h
    · rw [List.count_cons_of_ne e] at h
      unfold pcs
      rw [if_neg e, pcs_none h]; rfl
theorem pcs_hit : ∀ (a : List UInt8) (b : List UInt8), a.count 46 = 0 → pcs (a ++ 46 :: b) = a :: pcs b
  | [], b, _ => by simp [pcs]
  | c :: r, b, h => by
    by_cases e : c = 46
    · subst e; simp at h
    · rw [List.count_cons_of_ne e] at h
      rw [List.cons_append, pcs, if_neg e, pcs_hit r b h]; rfl
theorem pcs_free : ∀ (l : List UInt8) (p : List UInt8), p ∈ pcs l → p.count 46 = 0
  | [], p, h => by simp [pcs] at h; subst h; rfl
  | c :: r, p, h => by
    unfold pcs at h
    by_cases e : c = 46
    · rw [if_pos e] at h
      rcases List.mem_cons.1 h with h | h
      · subst h; rfl
      · exact pcs_free r p h
    · rw [if_neg e] at h
      have ih := pcs_free r
      cases q : pcs r with
      | nil => rw [q] at h; simp at h
      | cons x y =>
        rw [q] at h ih
        simp only [List.modifyHead_cons, List.mem_cons] at h
        rcases h with h | h
        · subst h
          rw [List.count_cons_of_ne e]
          exact ih x (by simp)
        · exact ih p (by simp [h])

theorem pcs_short : ∀ (l : List UInt8) (p : List UInt8), p ∈ pcs l → p.length ≤ l.length
  | [], p, h => by simp [pcs] at h; subst h; simp
  | c :: r, p, h => by
    have ih := pcs_short r
    unfold pcs at h
    by_cases e : c = 46
    · rw [if_pos e] at h
      rcases List.mem_cons.1 h with h | h
      · subst h; simp
      · have := ih p h; simp; omega
    · rw [if_neg e] at h
      cases q : pcs r with
      | nil => rw [q] at h; simp at h
      | cons x y =>
        rw [q] at h ih
        simp only [List.modifyHead_cons, List.mem_cons] at h
        rcases h with h | h
        · subst h
          have := ih x (by simp)
          simp; omega
        · have := ih p (by simp [h])
          simp; omega
/-- the pieces grow at the end: a dot opens a new one -/
theorem pcs_snoc_dot : ∀ l : List UInt8, pcs (l ++ [46]) = pcs l ++ [[]]
  | [] => rfl
  | c :: r => by
    rw [List.cons_append]
    unfold pcs
    by_cases e : c = 46
    · rw [if_pos e, if_pos e, pcs_snoc_dot r]; rfl
    · rw [if_neg e, if_neg e, pcs_snoc_dot r]
      have := pcs_ne r
      cases q : pcs r with
      | nil => exact absurd q this
      | cons x y => rfl
/-- another byte joins the last one -/
theorem pcs_snoc : ∀ (l : List UInt8) (c : UInt8), c ≠ 46 → ∀ (i : List (List UInt8)) (t : List UInt8), pcs l = i ++ [t] → pcs (l ++ [c]) = i ++ [t ++ [c]]
  | [], c, h, i, t, e => by
    simp only [pcs] at e
    cases i with
    | nil => simp at e; subst e; simp [pcs, h]
    | cons a b => simp at e
  | d :: r, c, h, i, t, e => by
    rw [List.cons_append]
    unfold pcs at e ⊢
    by_cases q : d = 46
    · rw [if_pos q] at e ⊢
      cases i with
      | nil =>
        simp at e
        exact absurd e.2 (pcs_ne r)
      | cons a b =>
        simp only [List.cons_append, List.cons.injEq] at e ⊢
        exact ⟨e.1, pcs_snoc r c h b t e.2⟩
    · rw [if_neg q] at e ⊢
      have hr := pcs_ne r
      cases g : pcs r with
      | nil => exact absurd g hr
      | cons x y =>
        rw [g] at e
        simp only [List.modifyHead_cons] at e
        cases i with
        | nil =>
          simp only [List.nil_append, List.cons.injEq] at e
          obtain ⟨e1, e2⟩ := e
          subst e2
          rw [pcs_snoc r c h [] x (by rw [g]; rfl)]
          subst e1
          rfl
        | cons a b =>
          simp only [List.cons_append, List.cons.injEq] at e
          obtain ⟨e1, e2⟩ := e
          rw [pcs_snoc r c h (x :: b) t (by rw [g, e2]; rfl)]
          subst e1
          rfl

theorem index_one_none {l : List UInt8} (h : Lib.index l [46] = -1) : l.count 46 = 0 := by
  have := Lib.count_miss h
  rwa [Lib.count_one] at this
theorem index_one_hit {l : List UInt8} {i : Nat} (h : Lib.index l [46] = i) : (l.take i).count 46 = 0 ∧ l = l.take i ++ 46 :: l.drop (i + 1) := by
  rcases Lib.index_spec l [46] with ⟨e, _⟩ | ⟨j, e, hj, ho, hn⟩
  · omega
  · obtain rfl : i = j := by omega
    have hd : l[i]? = some 46 := Lib.occAt_head rfl ho
    have hl : i < l.length := by
      rcases Nat.lt_or_ge i l.length with h | h
      · exact h
      · rw [List.getElem?_eq_none h] at hd; cases hd
    refine ⟨?_, ?_⟩
    · rw [List.count_eq_zero]
      intro hm
      obtain ⟨k, hk, hk2⟩ := List.mem_iff_getElem.1 hm
      rw [List.length_take] at hk
      rw [List.getElem_take] at hk2
      have hf := hn k (by omega)
      have ht : Lib.occAt l [46] k = true := by
        unfold Lib.occAt
        rw [List.drop_eq_getElem_cons (by omega), hk2]
        simp [List.isPrefixOf]
      rw [ht] at hf
      cases hf
    · have : l[i] = 46 := by rw [List.getElem?_eq_getElem hl] at hd; exact Option.some.inj hd
      rw [← this, ← List.drop_eq_getElem_cons hl, List.take_append_drop]
theorem splitK_pcs : ∀ (k : Nat) (l : List UInt8), l.count 46 = k → Lib.splitK [46] 0 k l = pcs l
  | 0, l, h => by rw [pcs_none h]; rfl
  | k + 1, l, h => by
    unfold Lib.splitK
    split
    · rename_i e
      have := index_one_none (beq_iff_eq.1 e)
      omega
    · rename_i e
      have hge := Lib.index_ge l [46]
      have hne : Lib.index l [46] ≠ -1 := fun x => e (beq_iff_eq.2 x)
      obtain ⟨i, hi⟩ : ∃ i : Nat, Lib.index l [46] = i := ⟨(Lib.index l [46]).toNat, by omega⟩
      obtain ⟨h1, h2⟩ := index_one_hit hi
      have e1 : (Lib.index l [46]).toNat = i := by omega
      rw [e1]
      have hc : (l.drop (i + 1)).count 46 = k := by
        have := congrArg (List.count 46) h2
        rw [List.count_append, h1, List.count_cons_self] at this
        omega
      rw [show i + 0 = i from rfl, show ([46] : List UInt8).length = 1 from rfl, splitK_pcs k _ hc, ← pcs_hit _ _ h1, ← h2]

/-- the tokens, as the program cuts them -/
def toks (s : ByteArray) : List ByteArray := Lib.splitB ⟨#[46]⟩ 0 (Lib.countB s ⟨#[46]⟩) s
theorem toks_data (s : ByteArray) : (toks s).map (·.data.toList) = pcs s.data.toList := by
  unfold toks
  rw [Lib.splitB_data]
  show Lib.splitK [46] 0 (Lib.count s.data.toList [46]) s.data.toList = _
  rw [Lib.count_one]
  exact splitK_pcs _ _ rfl
theorem toks_length (s : ByteArray) : (toks s).length = (pcs s.data.toList).length := by rw [← toks_data, List.length_map]
theorem countB_dots (s : ByteArray) : Lib.countB s ⟨#[46]⟩ + 1 = (pcs s.data.toList).length := by
  rw [pcs_length]
  show Lib.count s.data.toList [46] + 1 = _
  rw [Lib.count_one]
theorem toks_at (s : ByteArray) (i : Nat) : ((pcs s.data.toList)[i]?).getD [] = ((toks s)[i]?.getD ByteArray.empty).data.toList := by
  rw [← toks_data, List.getElem?_map]
  cases (toks s)[i]? <;> rfl
end Go.Proofs.YtphhebdmfdjfeagGreatDoor.Pl

namespace Go.Proofs.YtphhebdmfdjfeagGreatDoor.Pk

/-- the byte at a place, 0 behind the end -/
def at' (l : List UInt8) (k : Nat) : Nat := (l[k]?.getD 0).toNat
theorem at_lt (l : List UInt8) (k : Nat) : at' l k < 256 := UInt8.toNat_lt _
theorem at_zero (c : UInt8) (l : List UInt8) : at' (c :: l) 0 = c.toNat := rfl
theorem at_succ (c : UInt8) (l : List UInt8) (k : Nat) : at' (c :: l) (k + 1) = at' l k := rfl
theorem at_append_left {l m : List UInt8} {k : Nat} (h : k < l.length) : at' (l ++ m) k = at' l k := by
  unfold at'; rw [List.getElem?_append_left h]
theorem at_get {l : List UInt8} {k : Nat} (h : k < l.length) : at' l k = (l[k]).toNat := by
  unfold at'; rw [List.getElem?_eq_getElem h]; rfl
theorem at_take {l : List UInt8} {k i : Nat} (h : k < i) : at' (l.take i) k = at' l k := by
  unfold at'; rw [List.getElem?_take_of_lt h]

/-- a number's bytes -/
def enc (n : Nat) : List UInt8 := if n < 128 then [UInt8.ofNat n] else UInt8.ofNat (128 + n % 128) :: enc (n / 128)
theorem enc_small {n : Nat} (h : n < 128) : enc n = [UInt8.ofNat n] := by rw [enc, if_pos h]
theorem enc_large {n : Nat} (h : ¬ n < 128) : enc n = UInt8.ofNat (128 + n % 128) :: enc (n / 128) := by rw [enc, if_neg h]
theorem u8_of {n : Nat} (h : n < 256) : (UInt8.ofNat n).toNat = n := by simp; omega
theorem enc_pos (n : Nat) : 1 ≤ (enc n).length := by
  by_cases h : n < 128
  · rw [enc_small h]; simp
  · rw [enc_large h]; simp
theorem enc_short : ∀ (m : Nat) {n : Nat}, n < 128 ^ (m + 1) → (enc n).length ≤ m + 1
  | 0, n, h => by rw [enc_small (by simpa using h)]; simp
  | m + 1, n, h => by
    by_cases hs : n < 128
    · rw [enc_small hs]; simp
    · rw [enc_large hs, List.length_cons]
      have : n / 128 < 128 ^ (m + 1) := by rw [Nat.div_lt_iff_lt_mul (by decide)]; rw [Nat.pow_succ] at h; exact h
      have := enc_short m this
      omega
theorem enc_nine {n : Nat} (h : n < 9223372036854775808) : (enc n).length ≤ 9 := enc_short 8 (by simpa using h)

/-- how many bytes at the front go on, at most m -/
def lead : List UInt8 → Nat → Nat
  | [], _ => 0
  | _ :: _, 0 => 0
  | c :: r, m + 1 => if c.toNat < 128 then 0 else lead r m + 1
theorem lead_eq : ∀ {l : List UInt8} {m k : Nat}, k ≤ m → k ≤ l.length → (∀ j, j < k → 128 ≤ at' l j) → (k = m ∨ k = l.length ∨ at' l k < 128) → lead l m = k
  | [], m, k, _, h2, _, _ => by simp at h2; subst h2; simp [lead]
  | c :: r, 0, k, h1, _, _, _ => by simp at h1; subst h1; simp [lead]
  | c :: r, m + 1, 0, _, _, _, h => by
    rcases h with h | h | h
    · cases h
    · simp at h
    · rw [at_zero] at h; simp [lead, h]
  | c :: r, m + 1, k + 1, h1, h2, h3, h4 => by
    have h0 := h3 0 (by omega)
    rw [at_zero] at h0
    have e := lead_eq (l := r) (m := m) (k := k) (by omega) (by simpa using h2) (fun j hj => by have := h3 (j + 1) (by omega); rwa [at_succ] at this) (by
      rcases h4 with h | h | h
      · exact .inl (by omega)
      · exact .inr (.inl (by simpa using h))
      · exact .inr (.inr (by rwa [at_succ] at h)))
    simp [lead, e]; omega
theorem lead_le : ∀ (l : List UInt8) (m : Nat), lead l m ≤ m ∧ lead l m ≤ l.length
  | [], m => by simp [lead]
  | _ :: _, 0 => by simp [lead]
  | c :: r, m + 1 => by
    have := lead_le r m
    unfold lead; split <;> simp <;> omega
theorem lead_big : ∀ {l : List UInt8} {m j : Nat}, j < lead l m → 128 ≤ at' l j
  | [], m, j, h => by simp [lead] at h
  | _ :: _, 0, j, h => by simp [lead] at h
  | c :: r, m + 1, j, h => by
    unfold lead at h
    split at h
    · omega
    · cases j with
      | zero => rw [at_zero]; omega
      | succ j => rw [at_succ]; exact lead_big (m := m) (by omega)
theorem lead_stop : ∀ {l : List UInt8} {m : Nat}, lead l m < m → lead l m < l.length → at' l (lead l m) < 128
  | [], m, _, h => by simp [lead] at h
  | _ :: _, 0, h, _ => by simp [lead] at h
  | c :: r, m + 1, h1, h2 => by
    unfold lead at h1 h2 ⊢
    split
    · rw [at_zero]; assumption
    · rw [at_succ]
      rename_i hc
      rw [if_neg hc] at h1 h2
      exact lead_stop (by omega) (by simpa using h2)

/-- the value of m groups from place i on -/
def val (l : List UInt8) (i : Nat) : Nat → Nat
  | 0 => 0
  | m + 1 => at' l i % 128 + 128 * val l (i + 1) m
theorem val_succ (l : List UInt8) (i m : Nat) : val l i (m + 1) = at' l i % 128 + 128 * val l (i + 1) m := rfl
theorem val_shift (c : UInt8) (l : List UInt8) : ∀ (m i : Nat), val (c :: l) (i + 1) m = val l i m
  | 0, _ => rfl
  | m + 1, i => by rw [val_succ, val_succ, at_succ, val_shift c l m (i + 1)]
theorem val_last (l : List UInt8) : ∀ (m i : Nat), val l i (m + 1) = val l i m + 128 ^ m * (at' l (i + m) % 128)
  | 0, i => by simp [val]
  | m + 1, i => by
    rw [val_succ, val_last l m (i + 1), val_succ, Nat.pow_succ, Nat.mul_add, ← Nat.add_assoc]
    rw [show i + 1 + m = i + (m + 1) from by omega, Nat.mul_comm (128 ^ m) 128, Nat.mul_assoc]
theorem val_lt (l : List UInt8) : ∀ (m i : Nat), val l i m < 128 ^ m
  | 0, _ => by simp [val]
  | m + 1, i => by
    have := val_lt l m (i + 1)
    rw [val_succ, Nat.pow_succ]
    have := Nat.mod_lt (at' l i) (show 0 < 128 by decide)
    omega

/-- ReadNumber: the number, how many bytes, the error -/
def rd (l : List UInt8) : Nat × Nat × Nat :=
  if lead l 9 = 9 then (0, 0, 7) else if lead l 9 = l.length then (0, 0, 6) else if 0 < lead l 9 ∧ at' l (lead l 9) = 0 then (0, 0, 7)
  else (val l 0 (lead l 9 + 1), lead l 9 + 1, 0)

theorem lead_enc (more : List UInt8) (n : Nat) : ∀ m, (enc n).length ≤ m → lead (enc n ++ more) m = (enc n).length - 1 := by
  induction n using Nat.strongRecOn with
  | _ n ih =>
    intro m hm
    by_cases hs : n < 128
    · rw [enc_small hs] at hm ⊢
      obtain ⟨m, rfl⟩ : ∃ k, m = k + 1 := ⟨m - 1, by simp at hm; omega⟩
      simp [lead]; omega
    · rw [enc_large hs] at hm ⊢
      obtain ⟨m, rfl⟩ : ∃ k, m = k + 1 := ⟨m - 1, by simp at hm; omega⟩
      have e := ih (n / 128) (by omega) m (by simpa using hm)
      have p := enc_pos (n / 128)
      rw [List.cons_append, lead, u8_of (by omega), if_neg (by omega), e, List.length_cons]
      omega
theorem val_enc (more : List UInt8) (n : Nat) : val (enc n ++ more) 0 (enc n).length = n := by
  induction n using Nat.strongRecOn with
  | _ n ih =>
    by_cases hs : n < 128
    · rw [enc_small hs]
      simp [val, at']; omega
    · have e := ih (n / 128) (by omega)
      rw [enc_large hs, List.cons_append, List.length_cons, val_succ, val_shift, e, at_zero, u8_of (by omega)]
      omega
theorem last_enc (more : List UInt8) (n : Nat) : 0 < n → at' (enc n ++ more) ((enc n).length - 1) ≠ 0 := by
  induction n using Nat.strongRecOn with
  | _ n ih =>
    intro h0
    by_cases hs : n < 128
    · rw [enc_small hs]
      simp [at']; omega
    · have e := ih (n / 128) (by omega) (by omega)
      have p := enc_pos (n / 128)
      rw [enc_large hs, List.cons_append, List.length_cons]
      rw [show (enc (n / 128)).length + 1 - 1 = ((enc (n / 128)).length - 1) + 1 from by omega, at_succ]
      exact e
theorem rd_enc {n : Nat} (h : n < 9223372036854775808) (more : List UInt8) : rd (enc n ++ more) = (n, (enc n).length, 0) := by
  have h9 := enc_nine h
  have p := enc_pos n
  have e := lead_enc more n 9 h9
  unfold rd
  rw [e, if_neg (by omega), if_neg (by simp; omega), if_neg]
  · rw [show (enc n).length - 1 + 1 = (enc n).length from by omega, val_enc]
  · rintro ⟨h1, h2⟩
    by_cases hn : 0 < n
    · exact last_enc more n hn h2
    · rw [enc_small (by omega)] at h1
      simp at h1
theorem rd_front {n i : Nat} (h : n < 9223372036854775808) (hi : i < (enc n).length) (more : List UInt8) : rd ((enc n ++ more).take i) = (0, 0, 6) := by
  have h9 := enc_nine h
  have e0 := lead_enc more n 9 h9
  have hl : ((enc n ++ more).take i).length = i := by simp; omega
  have e : lead ((enc n ++ more).take i) 9 = i := lead_eq (by omega) (by omega) (fun j hj => by rw [at_take hj]; exact lead_big (m := 9) (by omega)) (.inr (.inl hl.symm))
  unfold rd
  rw [e, hl, if_neg (by omega), if_pos rfl]
theorem enc_val : ∀ (k : Nat) {l : List UInt8}, k < l.length → (∀ j, j < k → 128 ≤ at' l j) → at' l k < 128 → (k = 0 ∨ at' l k ≠ 0) → enc (val l 0 (k + 1)) = l.take (k + 1)
  | k, [], h, _, _, _ => by simp at h
  | 0, c :: r, _, _, h2, _ => by
    rw [at_zero] at h2
    rw [val_succ, at_zero, val, enc_small (by omega)]
    simp [Nat.mod_eq_of_lt h2]
  | k + 1, c :: r, h0, h1, h2, h3 => by
    rw [at_succ] at h2 h3
    have hne : at' r k ≠ 0 := by omega
    have e := enc_val k (l := r) (by simpa using h0) (fun j hj => by have := h1 (j + 1) (by omega); rwa [at_succ] at this) h2 (.inr hne)
    have hc := h1 0 (by omega)
    rw [at_zero] at hc
    have hcl := UInt8.toNat_lt c
    have hp : 0 < val r 0 (k + 1) := by
      rw [val_last, Nat.zero_add, Nat.mod_eq_of_lt h2]
      have := Nat.mul_pos (show 0 < 128 ^ k from Nat.pow_pos (by decide)) (show 0 < at' r k by omega)
      omega
    rw [val_succ, val_shift, at_zero, enc_large (by omega)]
    rw [show (c.toNat % 128 + 128 * val r 0 (k + 1)) / 128 = val r 0 (k + 1) from by omega, e]
    rw [show 128 + (c.toNat % 128 + 128 * val r 0 (k + 1)) % 128 = c.toNat from by omega]
    simp
theorem rd_bad {l : List UInt8} (h : (rd l).2.2 ≠ 0) : (rd l).1 = 0 ∧ (rd l).2.1 = 0 := by
  unfold rd at h ⊢
  split
  · exact ⟨rfl, rfl⟩
  split
  · exact ⟨rfl, rfl⟩
  split
  · exact ⟨rfl, rfl⟩
  · rename_i h1 h2 h3
    rw [if_neg h1, if_neg h2, if_neg h3] at h
    exact absurd rfl h
theorem rd_good {l : List UInt8} (h : (rd l).2.2 = 0) : enc (rd l).1 = l.take (rd l).2.1 ∧ (rd l).2.1 ≤ l.length ∧ (rd l).1 < 9223372036854775808 ∧ 1 ≤ (rd l).2.1 ∧ (rd l).2.1 ≤ 9 := by
  have hl := lead_le l 9
  unfold rd at h ⊢
  split
  · rename_i h1; rw [if_pos h1] at h; cases h
  rename_i h1
  rw [if_neg h1] at h
  split
  · rename_i h2; rw [if_pos h2] at h; cases h
  rename_i h2
  rw [if_neg h2] at h
  split
  · rename_i h3; rw [if_pos h3] at h; cases h
  rename_i h3
  refine ⟨enc_val _ (by omega) (fun j hj => lead_big hj) (lead_stop (by omega) (by omega)) (by omega), by show lead l 9 + 1 ≤ _; omega, ?_, by show 1 ≤ lead l 9 + 1; omega, by show lead l 9 + 1 ≤ 9; omega⟩
  refine Nat.lt_of_lt_of_le (val_lt l _ 0) ?_
  exact Nat.le_trans (Nat.pow_le_pow_right (by decide) (show lead l 9 + 1 ≤ 9 by omega)) (by decide)

/-- ReadText: the text, how many bytes, the error -/
def rt (l : List UInt8) (most : Int) : List UInt8 × Nat × Nat :=
  if (rd l).2.2 ≠ 0 then ([], 0, (rd l).2.2) else if most < (rd l).1 then ([], 0, 7) else if l.length < (rd l).2.1 + (rd l).1 then ([], 0, 6)
  else ((l.drop (rd l).2.1).take (rd l).1, (rd l).2.1 + (rd l).1, 0)
def txt (t : List UInt8) : List UInt8 := enc t.length ++ t
theorem rt_txt {t : List UInt8} (h : t.length < 9223372036854775808) (more : List UInt8) : rt (txt t ++ more) t.length = (t, (txt t).length, 0) := by
  unfold rt txt
  rw [List.append_assoc, rd_enc h]
  simp only []
  rw [if_neg (by simp), if_neg (by omega), if_neg (by simp)]
  simp
theorem rt_front {t : List UInt8} {i : Nat} (h : t.length < 9223372036854775808) (hi : i < (txt t).length) : (rt ((txt t).take i) t.length).2.2 = 6 := by
  unfold rt
  by_cases hl : i < (enc t.length).length
  · unfold txt
    rw [rd_front h hl]
    rfl
  · have e : (txt t).take i = enc t.length ++ t.take (i - (enc t.length).length) := by
      unfold txt
      rw [List.take_append, List.take_of_length_le (by omega)]
    have hi' := hi
    unfold txt at hi'
    rw [List.length_append] at hi'
    rw [e, rd_enc h]
    simp only []
    rw [if_neg (by simp), if_neg (by omega), if_pos (by simp; omega)]

/-! sums -/
def Z (r : Nat) : Nat := (r / 2) ^^^ (if r % 2 = 1 then 3988292384 else 0)
theorem Z_lt {r : Nat} (h : r < 4294967296) : Z r < 4294967296 := by
  unfold Z
  exact Nat.xor_lt_two_pow (n := 32) (by omega) (by split <;> decide)
theorem xor_half (a b : Nat) : (a ^^^ b) / 2 = a / 2 ^^^ b / 2 := by
  apply Nat.eq_of_testBit_eq
  intro i
  simp [Nat.testBit_div_two]
theorem xor_odd (a b : Nat) : (a ^^^ b) % 2 = (a % 2 + b % 2) % 2 := by
  have := Nat.testBit_xor a b 0
  simp only [Nat.testBit_zero] at this
  have ha : a % 2 = 0 ∨ a % 2 = 1 := by omega
  have hb : b % 2 = 0 ∨ b % 2 = 1 := by omega
  have hc : (a ^^^ b) % 2 = 0 ∨ (a ^^^ b) % 2 = 1 := by omega
  rcases ha with ha | ha <;> rcases hb with hb | hb <;> rcases hc with hc | hc <;> simp [ha, hb, hc] at this ⊢
theorem Z_xor (a b : Nat) : Z (a ^^^ b) = Z a ^^^ Z b := by
  unfold Z
  rw [xor_half, xor_odd]
  have ha : a % 2 = 0 ∨ a % 2 = 1 := by omega
  have hb : b % 2 = 0 ∨ b % 2 = 1 := by omega
  rcases ha with ha | ha <;> rcases hb with hb | hb <;> simp only [ha, hb]
  · simp
  · simp [Nat.xor_assoc]
  · simp only [Nat.zero_ne_one, ↓reduceIte, Nat.xor_zero]
    ac_rfl
  · simp only [Nat.reduceAdd, Nat.reduceMod, Nat.zero_ne_one, ↓reduceIte, Nat.xor_zero]
    rw [show a / 2 ^^^ 3988292384 ^^^ (b / 2 ^^^ 3988292384) = (a / 2 ^^^ b / 2) ^^^ (3988292384 ^^^ 3988292384) from by ac_rfl, Nat.xor_self, Nat.xor_zero]
theorem Z_zero {r : Nat} (hr : r < 4294967296) (h : Z r = 0) : r = 0 := by
  unfold Z at h
  by_cases ho : r % 2 = 1
  · rw [if_pos ho] at h
    have hb := congrArg (fun n => n.testBit 31) h
    simp only [Nat.testBit_xor, Nat.zero_testBit] at hb
    rw [Nat.testBit_lt_two_pow (show r / 2 < 2 ^ 31 by omega)] at hb
    exact absurd hb (by decide)
  · rw [if_neg ho, Nat.xor_zero] at h
    omega
/-- the register behind n bits -/
def reg (f : Nat → Nat) : Nat → Nat
  | 0 => 4294967295
  | n + 1 => Z (reg f n ^^^ f n)
def bitAt (l : List UInt8) (j : Nat) : Nat := at' l (j / 8) / 2 ^ (j % 8) % 2
theorem bitAt_lt (l : List UInt8) (j : Nat) : bitAt l j < 2 := Nat.mod_lt _ (by decide)
theorem reg_lt {f : Nat → Nat} (hf : ∀ j, f j < 2) : ∀ n, reg f n < 4294967296
  | 0 => by show 4294967295 < 4294967296; decide
  | n + 1 => Z_lt (Nat.xor_lt_two_pow (n := 32) (reg_lt hf n) (by have := hf n; omega))
def crc (l : List UInt8) : Nat := 4294967295 - reg (bitAt l) (8 * l.length)

theorem xor_eq_zero {a b : Nat} (h : a ^^^ b = 0) : a = b := by
  have := congrArg (· ^^^ b) h
  simpa [Nat.xor_assoc] using this
theorem diff_step {f g : Nat → Nat} (n : Nat) : reg f (n + 1) ^^^ reg g (n + 1) = Z ((reg f n ^^^ reg g n) ^^^ (f n ^^^ g n)) := by
  show Z (reg f n ^^^ f n) ^^^ Z (reg g n ^^^ g n) = _
  rw [← Z_xor]
  congr 1
  ac_rfl
def Zs : Nat → Nat → Nat
  | 0, r => r
  | n + 1, r => Z (Zs n r)
theorem Zs_lt {r : Nat} (h : r < 4294967296) : ∀ n, Zs n r < 4294967296
  | 0 => h
  | n + 1 => Z_lt (Zs_lt h n)
theorem Zs_ne {r : Nat} (h : r < 4294967296) (h0 : r ≠ 0) : ∀ n, Zs n r ≠ 0
  | 0 => h0
  | n + 1 => fun e => Zs_ne h h0 n (Z_zero (Zs_lt h n) e)
/-- PETERSON, BROWN: a burst of at most 32 bits is told -/
theorem burst {f g : Nat → Nat} (hf : ∀ j, f j < 2) (hg : ∀ j, g j < 2) {k turn : Nat} (ht : turn < 4294967296) (h0 : turn ≠ 0)
    (h : ∀ j, f j ^^^ g j = if k ≤ j ∧ j < k + 32 then turn / 2 ^ (j - k) % 2 else 0) {N : Nat} (hN : k + 32 ≤ N) : reg f N ≠ reg g N := by
  have hpre : ∀ n, n ≤ k → reg f n ^^^ reg g n = 0 := by
    intro n
    induction n with
    | zero => intro _; simp [reg]
    | succ n ih =>
      intro hn
      rw [diff_step, ih (by omega), h, if_neg (by omega)]
      rfl
  have hmid : ∀ i, i ≤ 32 → (reg f (k + i) ^^^ reg g (k + i)) ^^^ (turn / 2 ^ i) = Zs i turn := by
    intro i
    induction i with
    | zero => intro _; rw [Nat.add_zero, hpre k (Nat.le_refl _)]; simp [Zs]
    | succ i ih =>
      intro hi
      have e := ih (by omega)
      rw [← Nat.add_assoc, diff_step, h, if_pos (by omega), show k + i - k = i from by omega, Zs, ← e]
      have hd : turn / 2 ^ (i + 1) = turn / 2 ^ i / 2 := by rw [Nat.pow_succ, Nat.div_div_eq_div_mul]
      have hz : ∀ x, Z x = Z (x % 2) ^^^ (x / 2) := by
        intro x
        unfold Z
        have : x % 2 / 2 = 0 := by omega
        rw [this, Nat.zero_xor, Nat.mod_mod, Nat.xor_comm]
      rw [Z_xor, Z_xor (reg f (k + i) ^^^ reg g (k + i)), hd, hz (turn / 2 ^ i)]
      ac_rfl
  have hend : ∀ n, reg f (k + 32 + n) ^^^ reg g (k + 32 + n) ≠ 0 := by
    intro n
    induction n with
    | zero =>
      have e := hmid 32 (Nat.le_refl _)
      rw [Nat.div_eq_of_lt (show turn < 2 ^ 32 by omega), Nat.xor_zero] at e
      rw [Nat.add_zero, e]
      exact Zs_ne ht h0 32
    | succ n ih =>
      intro e
      rw [← Nat.add_assoc, diff_step, h, if_neg (by omega), Nat.xor_zero] at e
      exact ih (Z_zero (Nat.xor_lt_two_pow (n := 32) (reg_lt hf _) (reg_lt hg _)) e)
  intro e
  have := hend (N - (k + 32))
  rw [show k + 32 + (N - (k + 32)) = N from by omega, e, Nat.xor_self] at this
  exact this rfl
end Go.Proofs.YtphhebdmfdjfeagGreatDoor.Pk

namespace Go.Proofs.YtphhebdmfdjfeagGreatDoor.Pk

/-! records -/
theorem rt_one {l x : List UInt8} {most : Int} {n : Nat} (h : rt l most = (x, n, 0)) : txt x = l.take n ∧ n ≤ l.length ∧ (x.length : Int) ≤ most := by
  unfold rt at h
  split at h
  · rename_i he; injection h with _ h; injection h with _ h; exact absurd h he
  rename_i he
  have he0 : (rd l).2.2 = 0 := Classical.byContradiction fun q => he q
  obtain ⟨g1, g2, g3, g4, g5⟩ := rd_good he0
  split at h
  · injection h with _ h; injection h with _ h; exact absurd h (by decide)
  rename_i hm
  split at h
  · injection h with _ h; injection h with _ h; exact absurd h (by decide)
  rename_i hl
  injection h with h1 h2
  injection h2 with h2 _
  have hx : x.length = (rd l).1 := by rw [← h1]; simp; omega
  refine ⟨?_, by omega, by omega⟩
  unfold txt
  rw [hx, g1, ← h1, ← h2, List.take_add]
/-- a record's body -/
def body (k q t : Nat) (s h d : List UInt8) : List UInt8 := UInt8.ofNat k :: (enc q ++ (enc t ++ (txt s ++ (txt h ++ txt d))))
def le4 (n : Nat) : List UInt8 := [UInt8.ofNat (n % 256), UInt8.ofNat (n / 256 % 256), UInt8.ofNat (n / 65536 % 256), UInt8.ofNat (n / 16777216 % 256)]
def num4 (l : List UInt8) : Nat := at' l 0 + 256 * at' l 1 + 65536 * at' l 2 + 16777216 * at' l 3
theorem num4_le4 {n : Nat} (h : n < 4294967296) (more : List UInt8) : num4 (le4 n ++ more) = n := by
  unfold num4 le4
  simp only [List.cons_append, at_zero, at_succ, List.nil_append]
  rw [u8_of (by omega), u8_of (by omega), u8_of (by omega), u8_of (by omega)]
  omega
theorem le4_num4 {l : List UInt8} (h : 4 ≤ l.length) : le4 (num4 l) = l.take 4 := by
  match l, h with
  | a :: b :: c :: d :: r, _ =>
    unfold num4 le4
    simp only [at_zero, at_succ]
    have ha := UInt8.toNat_lt a
    have hb := UInt8.toNat_lt b
    have hc := UInt8.toNat_lt c
    have hd := UInt8.toNat_lt d
    rw [show (a.toNat + 256 * b.toNat + 65536 * c.toNat + 16777216 * d.toNat) % 256 = a.toNat from by omega,
      show (a.toNat + 256 * b.toNat + 65536 * c.toNat + 16777216 * d.toNat) / 256 % 256 = b.toNat from by omega,
      show (a.toNat + 256 * b.toNat + 65536 * c.toNat + 16777216 * d.toNat) / 65536 % 256 = c.toNat from by omega,
      show (a.toNat + 256 * b.toNat + 65536 * c.toNat + 16777216 * d.toNat) / 16777216 % 256 = d.toNat from by omega]
    simp
/-- what stands behind a number, behind a text -/
def aftN (l : List UInt8) : List UInt8 := l.drop (rd l).2.1
def aftT (l : List UInt8) : List UInt8 := l.drop (rt l 1024).2.1
theorem split_N {l : List UInt8} (h : (rd l).2.2 = 0) : enc (rd l).1 ++ aftN l = l := by
  rw [(rd_good h).1]; exact List.take_append_drop _ _
theorem split_T {l : List UInt8} (h : (rt l 1024).2.2 = 0) : txt (rt l 1024).1 ++ aftT l = l ∧ (rt l 1024).1.length ≤ 1024 := by
  have := rt_one (l := l) (most := 1024) (x := (rt l 1024).1) (n := (rt l 1024).2.1) (by rw [← h])
  refine ⟨?_, by omega⟩
  rw [this.1]
  exact List.take_append_drop _ _
/-- are a body's parts right, and is nothing left behind them? -/
def partsOk (r0 : List UInt8) : Prop := (rd r0).2.2 = 0 ∧ (rd (aftN r0)).2.2 = 0 ∧ (rt (aftN (aftN r0)) 1024).2.2 = 0 ∧ (rt (aftT (aftN (aftN r0))) 1024).2.2 = 0 ∧ (rt (aftT (aftT (aftN (aftN r0)))) 1024).2.2 = 0 ∧ aftT (aftT (aftT (aftN (aftN r0)))) = []
theorem aftN_enc {n : Nat} (h : n < 9223372036854775808) (more : List UInt8) : aftN (enc n ++ more) = more := by
  unfold aftN; rw [rd_enc h]; simp
theorem rt_at {t : List UInt8} (h : t.length ≤ 1024) (more : List UInt8) : rt (txt t ++ more) 1024 = (t, (txt t).length, 0) := by
  have h0 : t.length < 9223372036854775808 := by omega
  unfold rt txt
  rw [List.append_assoc, rd_enc h0]
  simp only []
  rw [if_neg (by simp), if_neg (by omega), if_neg (by simp)]
  simp
theorem aftT_txt {x : List UInt8} (h : x.length ≤ 1024) (more : List UInt8) : aftT (txt x ++ more) = more := by
  unfold aftT; rw [rt_at h]; simp
theorem parts_body {q t : Nat} {s h d : List UInt8} (hq : q < 9223372036854775808) (ht : t < 9223372036854775808) (hs : s.length ≤ 1024) (hh : h.length ≤ 1024) (hd : d.length ≤ 1024) :
    partsOk (enc q ++ (enc t ++ (txt s ++ (txt h ++ txt d)))) := by
  have e5 : rt (txt d) 1024 = (d, (txt d).length, 0) := by have := rt_at hd []; rwa [List.append_nil] at this
  have e6 : aftT (txt d) = [] := by have := aftT_txt hd []; rwa [List.append_nil] at this
  unfold partsOk
  rw [aftN_enc hq, aftN_enc ht, aftT_txt hs, aftT_txt hh, rd_enc hq, rd_enc ht, rt_at hs, rt_at hh, e5, e6]
  exact ⟨rfl, rfl, rfl, rfl, rfl, rfl⟩
theorem parts_one {r0 : List UInt8} (h : partsOk r0) :
    enc (rd r0).1 ++ (enc (rd (aftN r0)).1 ++ (txt (rt (aftN (aftN r0)) 1024).1 ++ (txt (rt (aftT (aftN (aftN r0))) 1024).1 ++ txt (rt (aftT (aftT (aftN (aftN r0)))) 1024).1))) = r0 := by
  obtain ⟨h1, h2, h3, h4, h5, h6⟩ := h
  have s5 := (split_T h5).1
  rw [h6, List.append_nil] at s5
  rw [s5, (split_T h4).1, (split_T h3).1, split_N h2, split_N h1]
end Go.Proofs.YtphhebdmfdjfeagGreatDoor.Pk

namespace Go.Proofs.YtphhebdmfdjfeagGreatDoor.Pk

theorem xor_01 {a b : Nat} (ha : a < 2) (hb : b < 2) : a ^^^ b = (a + b) % 2 := by
  have h1 : a = 0 ∨ a = 1 := by omega
  have h2 : b = 0 ∨ b = 1 := by omega
  rcases h1 with rfl | rfl <;> rcases h2 with rfl | rfl <;> rfl
theorem bit_xor (a b q : Nat) : (a ^^^ b) / 2 ^ q % 2 = (a / 2 ^ q % 2 + b / 2 ^ q % 2) % 2 := by
  rw [← Nat.shiftRight_eq_div_pow, Nat.shiftRight_xor_distrib, xor_odd, Nat.shiftRight_eq_div_pow, Nat.shiftRight_eq_div_pow]
theorem bit_pow {p q : Nat} (hp : p < 8) (hq : q < 8) : 2 ^ p / 2 ^ q % 2 = if p = q then 1 else 0 := by
  have : ∀ p : Fin 8, ∀ q : Fin 8, 2 ^ p.val / 2 ^ q.val % 2 = if p.val = q.val then 1 else 0 := by decide
  exact this ⟨p, hp⟩ ⟨q, hq⟩
/-- a text of which one bit is turned -/
def flip (l : List UInt8) (j : Nat) : List UInt8 := l.set (j / 8) (UInt8.ofNat (at' l (j / 8) ^^^ 2 ^ (j % 8)))
theorem flip_byte (l : List UInt8) (j : Nat) : at' l (j / 8) ^^^ 2 ^ (j % 8) < 256 :=
  Nat.xor_lt_two_pow (n := 8) (at_lt l _) (Nat.lt_of_le_of_lt (Nat.pow_le_pow_right (by decide) (show j % 8 ≤ 7 by omega)) (by decide))
theorem flip_len (l : List UInt8) (j : Nat) : (flip l j).length = l.length := by simp [flip]
theorem flip_at {l : List UInt8} {j : Nat} (h : j / 8 < l.length) (k : Nat) : at' (flip l j) k = if k = j / 8 then at' l (j / 8) ^^^ 2 ^ (j % 8) else at' l k := by
  unfold flip
  by_cases hk : k = j / 8
  · subst hk
    rw [if_pos rfl]
    show ((l.set (j / 8) _)[j / 8]?.getD 0).toNat = _
    rw [List.getElem?_set_self h]
    exact u8_of (flip_byte l j)
  · rw [if_neg hk]
    unfold at'
    rw [List.getElem?_set_ne (by omega)]
theorem flip_bit {l : List UInt8} {j : Nat} (h : j / 8 < l.length) (i : Nat) : bitAt (flip l j) i = (bitAt l i + if i = j then 1 else 0) % 2 := by
  unfold bitAt
  rw [flip_at h]
  by_cases hk : i / 8 = j / 8
  · rw [if_pos hk, bit_xor, bit_pow (by omega) (by omega), hk]
    by_cases hp : j % 8 = i % 8
    · rw [if_pos hp, if_pos (by omega)]
    · rw [if_neg hp, if_neg (by omega)]
  · rw [if_neg hk, if_neg (by intro e; subst e; exact hk rfl)]
    omega
/-- the first i bits of the burst are turned -/
def Turned (l0 : List UInt8) (k turn i : Nat) (l : List UInt8) : Prop :=
  l.length = l0.length ∧ ∀ j, bitAt l0 j ^^^ bitAt l j = if k ≤ j ∧ j < k + i then turn / 2 ^ (j - k) % 2 else 0
theorem turned_none (l : List UInt8) (k turn : Nat) : Turned l k turn 0 l := ⟨rfl, fun j => by rw [Nat.xor_self, if_neg (by omega)]⟩
theorem turned_stay {l0 l : List UInt8} {k turn i : Nat} (h : Turned l0 k turn i l) (hb : turn / 2 ^ i % 2 = 0) : Turned l0 k turn (i + 1) l := by
  refine ⟨h.1, fun j => ?_⟩
  rw [h.2]
  by_cases h1 : k ≤ j ∧ j < k + i
  · rw [if_pos h1, if_pos (by omega)]
  · rw [if_neg h1]
    by_cases h2 : k ≤ j ∧ j < k + (i + 1)
    · rw [if_pos h2, show j - k = i from by omega, hb]
    · rw [if_neg h2]
theorem turned_flip {l0 l : List UInt8} {k turn i : Nat} (h : Turned l0 k turn i l) (hb : turn / 2 ^ i % 2 = 1) (hj : (k + i) / 8 < l.length) : Turned l0 k turn (i + 1) (flip l (k + i)) := by
  refine ⟨by rw [flip_len]; exact h.1, fun j => ?_⟩
  have e := h.2 j
  have b0 := bitAt_lt l0 j
  have b1 := bitAt_lt l j
  have b2 := bitAt_lt (flip l (k + i)) j
  rw [xor_01 b0 b1] at e
  rw [xor_01 b0 b2, flip_bit hj]
  by_cases h1 : j = k + i
  · subst h1
    rw [if_neg (by omega)] at e
    rw [if_pos rfl, if_pos (by omega), show k + i - k = i from by omega, hb]
    omega
  · rw [if_neg h1]
    by_cases h2 : k ≤ j ∧ j < k + i
    · rw [if_pos h2] at e
      rw [if_pos (by omega)]
      omega
    · rw [if_neg h2] at e
      rw [if_neg (by omega)]
      omega
theorem turned_sums {l0 l : List UInt8} {k turn : Nat} (h : Turned l0 k turn 32 l) (ht : turn < 4294967296) (h0 : turn ≠ 0) (hk : k + 32 ≤ 8 * l0.length) : crc l ≠ crc l0 := by
  have := burst (bitAt_lt l0) (bitAt_lt l) ht h0 h.2 hk
  have r0 := reg_lt (bitAt_lt l0) (8 * l0.length)
  have r1 := reg_lt (bitAt_lt l) (8 * l0.length)
  unfold crc
  rw [h.1]
  omega
theorem crc_check : crc [49, 50, 51, 52, 53, 54, 55, 56, 57] = 3421780262 := by decide +kernel
end Go.Proofs.YtphhebdmfdjfeagGreatDoor.Pk

namespace Go.Proofs.YtphhebdmfdjfeagGreatDoor.Pk

/-! how long a subject or a filter can be -/
theorem pcs_sum : ∀ l : List UInt8, ((Pl.pcs l).map fun p => p.length + 1).sum = l.length + 1
  | [] => rfl
  | c :: r => by
    have ih := pcs_sum r
    unfold Pl.pcs
    split
    · simp only [List.map_cons, List.sum_cons, ih, List.length_nil, List.length_cons]; omega
    · cases q : Pl.pcs r with
      | nil => exact absurd q (Pl.pcs_ne r)
      | cons a b =>
        rw [q] at ih
        simp only [List.map_cons, List.sum_cons] at ih
        simp only [List.modifyHead_cons, List.map_cons, List.sum_cons, List.length_cons]
        omega
theorem sum_le : ∀ ps : List (List UInt8), (∀ p ∈ ps, p.length ≤ 16) → (ps.map fun p => p.length + 1).sum ≤ 17 * ps.length
  | [], _ => by simp
  | a :: b, h => by
    have ih := sum_le b (fun p hp => h p (List.mem_cons_of_mem _ hp))
    have := h a (List.mem_cons_self ..)
    simp only [List.map_cons, List.sum_cons, List.length_cons]
    omega
theorem tok_len {wild last : Bool} {t : List UInt8} (h : Pl.tokOk wild last t = true) : t.length ≤ 16 := by
  unfold Pl.tokOk Pl.plainB at h
  simp only [Bool.or_eq_true, Bool.and_eq_true, decide_eq_true_eq, beq_iff_eq] at h
  rcases h with ⟨_, h, _⟩ | ⟨_, h | ⟨h, _⟩⟩
  · exact h
  · rw [h]; decide
  · rw [h]; decide
theorem name_len {wild : Bool} {l : List UInt8} (h : Pl.errOf wild (Pl.pcs l) = 0) : l.length ≤ 135 := by
  unfold Pl.errOf at h
  split at h
  · exact absurd h (by decide)
  rename_i h8
  split at h
  · rename_i hg
    have hs := pcs_sum l
    have := sum_le (Pl.pcs l) (fun p hp => by
      obtain ⟨i, hi, rfl⟩ := List.mem_iff_getElem.1 hp
      simp only [Pl.goodTo, List.all_eq_true, List.mem_range] at hg
      have := hg i hi
      rw [List.getElem?_eq_getElem hi] at this
      exact tok_len this)
    omega
  · exact absurd h (by decide)

/-! records -/
structure Rec where
  k : Int
  q : Int
  t : Int
  s : List UInt8
  h : List UInt8
  d : List UInt8
def none' : Rec := ⟨0, 0, 0, [], [], []⟩
/-- are kind, number and time in their bounds? -/
def inB (k q t : Int) : Bool := decide (1 ≤ k) && (decide (k ≤ 4) && (decide (1 ≤ q) && (decide (q ≤ 1099511627776) && (decide (0 ≤ t) && decide (t ≤ 1099511627776)))))
/-- what is wrong with a record -/
def chk (r : Rec) : Int :=
  if inB r.k r.q r.t = false then 1
  else if r.k = 1 then (if Pl.errOf false (Pl.pcs r.s) ≠ 0 then Pl.errOf false (Pl.pcs r.s) else if 256 < r.h.length + r.d.length then 2 else 0)
  else if r.k = 3 then (if Pl.errOf true (Pl.pcs r.s) ≠ 0 then Pl.errOf true (Pl.pcs r.s) else if r.h.length + r.d.length = 0 then 0 else 1)
  else if r.s.length + (r.h.length + r.d.length) = 0 then 0 else 1
theorem inB_iff {k q t : Int} : inB k q t = true ↔ 1 ≤ k ∧ k ≤ 4 ∧ 1 ≤ q ∧ q ≤ 1099511627776 ∧ 0 ≤ t ∧ t ≤ 1099511627776 := by
  unfold inB
  simp only [Bool.and_eq_true, decide_eq_true_eq]
theorem chk_len {r : Rec} (h : chk r = 0) : 1 ≤ r.k ∧ r.k ≤ 4 ∧ 1 ≤ r.q ∧ r.q ≤ 1099511627776 ∧ 0 ≤ r.t ∧ r.t ≤ 1099511627776 ∧ r.s.length ≤ 135 ∧ r.h.length + r.d.length ≤ 256 := by
  unfold chk at h
  split at h
  · exact absurd h (by decide)
  rename_i hb
  have hb2 := inB_iff.1 (by simpa using hb)
  refine ⟨hb2.1, hb2.2.1, hb2.2.2.1, hb2.2.2.2.1, hb2.2.2.2.2.1, hb2.2.2.2.2.2, ?_⟩
  split at h
  · split at h
    · rename_i hn; exact absurd h hn
    rename_i hn
    split at h
    · exact absurd h (by decide)
    exact ⟨name_len (Classical.byContradiction hn), by omega⟩
  split at h
  · split at h
    · rename_i hn; exact absurd h hn
    rename_i hn
    split at h
    · exact ⟨name_len (Classical.byContradiction hn), by omega⟩
    · exact absurd h (by decide)
  split at h
  · omega
  · exact absurd h (by decide)
/-- a record's body, a record's bytes -/
def bod (r : Rec) : List UInt8 := body r.k.toNat r.q.toNat r.t.toNat r.s r.h r.d
def cod (r : Rec) : List UInt8 := txt (bod r) ++ le4 (crc (bod r))
theorem le4_len (n : Nat) : (le4 n).length = 4 := rfl
theorem enc_few {n : Nat} (h : n ≤ 1099511627776) : (enc n).length ≤ 9 := enc_nine (by omega)
theorem bod_len {r : Rec} (h : chk r = 0) : 6 ≤ (bod r).length ∧ (bod r).length ≤ 1024 := by
  obtain ⟨_, _, _, h1, _, h2, h3, h4⟩ := chk_len h
  unfold bod body txt
  simp only [List.length_cons, List.length_append]
  have a1 := enc_pos r.q.toNat
  have a2 := enc_pos r.t.toNat
  have a3 := enc_pos r.s.length
  have a4 := enc_pos r.h.length
  have a5 := enc_pos r.d.length
  have b1 := enc_few (n := r.q.toNat) (by omega)
  have b2 := enc_few (n := r.t.toNat) (by omega)
  have b3 := enc_few (n := r.s.length) (by omega)
  have b4 := enc_few (n := r.h.length) (by omega)
  have b5 := enc_few (n := r.d.length) (by omega)
  omega
theorem crc_lt (l : List UInt8) : crc l < 4294967296 := by unfold crc; omega

/-- the parts of a body behind its first byte -/
def p1 (r0 : List UInt8) : List UInt8 := aftN r0
def p2 (r0 : List UInt8) : List UInt8 := aftN (aftN r0)
def p3 (r0 : List UInt8) : List UInt8 := aftT (aftN (aftN r0))
def p4 (r0 : List UInt8) : List UInt8 := aftT (aftT (aftN (aftN r0)))
def p5 (r0 : List UInt8) : List UInt8 := aftT (aftT (aftT (aftN (aftN r0))))
def okB (r0 : List UInt8) : Bool := decide ((rd r0).2.2 = 0) && (decide ((rd (p1 r0)).2.2 = 0) && (decide ((rt (p2 r0) 1024).2.2 = 0) && (decide ((rt (p3 r0) 1024).2.2 = 0) && (decide ((rt (p4 r0) 1024).2.2 = 0) && decide ((p5 r0).length = 0)))))
theorem okB_iff {r0 : List UInt8} : okB r0 = true ↔ partsOk r0 := by
  unfold okB partsOk p1 p2 p3 p4 p5
  simp only [Bool.and_eq_true, decide_eq_true_eq, List.length_eq_zero_iff]
def recOf (c : Nat) (r0 : List UInt8) : Rec := ⟨c, (rd r0).1, (rd (p1 r0)).1, (rt (p2 r0) 1024).1, (rt (p3 r0) 1024).1, (rt (p4 r0) 1024).1⟩
/-- the record at the front -/
def dec (l : List UInt8) : Rec × Nat × Int :=
  if (rt l 1024).2.2 ≠ 0 then (none', 0, (rt l 1024).2.2)
  else if l.length < (rt l 1024).2.1 + 4 then (none', 0, 6)
  else if (l.drop (rt l 1024).2.1).take 4 ≠ le4 (crc (rt l 1024).1) then (none', 0, 7)
  else if (rt l 1024).1.length = 0 then (none', 0, 7)
  else if okB ((rt l 1024).1.drop 1) = false then (none', 0, 7)
  else if chk (recOf (at' (rt l 1024).1 0) ((rt l 1024).1.drop 1)) ≠ 0 then (none', 0, 7)
  else (recOf (at' (rt l 1024).1 0) ((rt l 1024).1.drop 1), (rt l 1024).2.1 + 4, 0)

theorem recOf_bod {r : Rec} (h : chk r = 0) : recOf (at' (bod r) 0) ((bod r).drop 1) = r ∧ okB ((bod r).drop 1) = true := by
  obtain ⟨h1, h2, h3, h4, h5, h6, h7, h8⟩ := chk_len h
  have hq : r.q.toNat < 9223372036854775808 := by omega
  have ht : r.t.toNat < 9223372036854775808 := by omega
  have hs : r.s.length ≤ 1024 := by omega
  have hh : r.h.length ≤ 1024 := by omega
  have hd : r.d.length ≤ 1024 := by omega
  have e5 : rt (txt r.d) 1024 = (r.d, (txt r.d).length, 0) := by have := rt_at hd []; rwa [List.append_nil] at this
  have e : (bod r).drop 1 = enc r.q.toNat ++ (enc r.t.toNat ++ (txt r.s ++ (txt r.h ++ txt r.d))) := rfl
  have e0 : at' (bod r) 0 = r.k.toNat := by show (UInt8.ofNat r.k.toNat).toNat = _; exact u8_of (by omega)
  refine ⟨?_, by rw [okB_iff, e]; exact parts_body hq ht hs hh hd⟩
  rw [e, e0]
  unfold recOf p1 p2 p3 p4
  rw [aftN_enc hq, aftN_enc ht, aftT_txt hs, aftT_txt hh, rd_enc hq, rd_enc ht, rt_at hs, rt_at hh, e5]
  show Rec.mk ((r.k.toNat : Nat) : Int) ((r.q.toNat : Nat) : Int) ((r.t.toNat : Nat) : Int) r.s r.h r.d = r
  rw [Int.toNat_of_nonneg (by omega), Int.toNat_of_nonneg (by omega), Int.toNat_of_nonneg (by omega)]
theorem cod_len (r : Rec) : (cod r).length = (txt (bod r)).length + 4 := by unfold cod; rw [List.length_append, le4_len]
theorem dec_cod {r : Rec} (h : chk r = 0) (more : List UInt8) : dec (cod r ++ more) = (r, (cod r).length, 0) := by
  have hb := bod_len h
  have e : rt (cod r ++ more) 1024 = (bod r, (txt (bod r)).length, 0) := by unfold cod; rw [List.append_assoc]; exact rt_at hb.2 _
  have e2 : ((cod r ++ more).drop (txt (bod r)).length).take 4 = le4 (crc (bod r)) := by
    unfold cod; rw [List.append_assoc, List.drop_left]; rfl
  obtain ⟨g1, g2⟩ := recOf_bod h
  unfold dec
  rw [e]
  simp only []
  rw [if_neg (by simp), if_neg (by rw [List.length_append, cod_len]; omega), if_neg (by rw [e2]; simp), if_neg (by omega), g1, g2, if_neg (by simp), if_neg (by rw [h]; simp), cod_len]
theorem rt_front' {t : List UInt8} {i : Nat} (h : t.length ≤ 1024) (hi : i < (txt t).length) : (rt ((txt t).take i) 1024).2.2 = 6 := by
  have h0 : t.length < 9223372036854775808 := by omega
  unfold rt
  by_cases hl : i < (enc t.length).length
  · unfold txt
    rw [rd_front h0 hl]
    rfl
  · have e : (txt t).take i = enc t.length ++ t.take (i - (enc t.length).length) := by
      unfold txt
      rw [List.take_append, List.take_of_length_le (by omega)]
    have hi' := hi
    unfold txt at hi'
    rw [List.length_append] at hi'
    rw [e, rd_enc h0]
    simp only []
    rw [if_neg (by simp), if_neg (by omega), if_pos (by simp; omega)]
theorem dec_front {r : Rec} {i : Nat} (h : chk r = 0) (hi : i < (cod r).length) : (dec ((cod r).take i)).2.2 = 6 := by
  have hb := bod_len h
  by_cases hl : i < (txt (bod r)).length
  · have e : (cod r).take i = (txt (bod r)).take i := by
      unfold cod
      rw [List.take_append_of_le_length (by omega)]
    have e6 := rt_front' hb.2 hl
    unfold dec
    rw [e, e6, if_pos (by decide)]
    rfl
  · have e : (cod r).take i = txt (bod r) ++ (le4 (crc (bod r))).take (i - (txt (bod r)).length) := by
      unfold cod
      rw [List.take_append, List.take_of_length_le (by omega)]
    have hi' := hi
    rw [cod_len] at hi'
    unfold dec
    rw [e, rt_at hb.2]
    simp only []
    rw [if_neg (by simp), if_pos (by rw [← e, List.length_take]; omega)]
theorem dec_bad {l : List UInt8} (h : (dec l).2.2 ≠ 0) : (dec l).1 = none' ∧ (dec l).2.1 = 0 := by
  unfold dec at h ⊢
  split
  · exact ⟨rfl, rfl⟩
  rename_i h1
  rw [if_neg h1] at h
  split
  · exact ⟨rfl, rfl⟩
  rename_i h2
  rw [if_neg h2] at h
  split
  · exact ⟨rfl, rfl⟩
  rename_i h3
  rw [if_neg h3] at h
  split
  · exact ⟨rfl, rfl⟩
  rename_i h4
  rw [if_neg h4] at h
  split
  · exact ⟨rfl, rfl⟩
  rename_i h5
  rw [if_neg h5] at h
  split
  · exact ⟨rfl, rfl⟩
  rename_i h6
  rw [if_neg h6] at h
  exact absurd rfl h
theorem dec_one {l : List UInt8} (h : (dec l).2.2 = 0) : chk (dec l).1 = 0 ∧ cod (dec l).1 = l.take (dec l).2.1 ∧ (dec l).2.1 ≤ l.length := by
  unfold dec at h ⊢
  split
  · rename_i h1; rw [if_pos h1] at h; exact absurd (by simpa using h) h1
  rename_i h1
  rw [if_neg h1] at h
  split
  · rename_i h2; rw [if_pos h2] at h; exact absurd h (by decide)
  rename_i h2
  rw [if_neg h2] at h
  split
  · rename_i h3; rw [if_pos h3] at h; exact absurd h (by decide)
  rename_i h3
  rw [if_neg h3] at h
  split
  · rename_i h4; rw [if_pos h4] at h; exact absurd h (by decide)
  rename_i h4
  rw [if_neg h4] at h
  split
  · rename_i h5; rw [if_pos h5] at h; exact absurd h (by decide)
  rename_i h5
  rw [if_neg h5] at h
  split
  · rename_i h6; rw [if_pos h6] at h; exact absurd h (by decide)
  rename_i h6
  have hc := Classical.byContradiction h6
  refine ⟨hc, ?_, by show (rt l 1024).2.1 + 4 ≤ _; omega⟩
  have h10 : (rt l 1024).2.2 = 0 := Classical.byContradiction h1
  have ho := rt_one (l := l) (most := 1024) (x := (rt l 1024).1) (n := (rt l 1024).2.1) (by rw [← h10])
  have hp := parts_one (okB_iff.1 (Bool.not_eq_false _ |>.mp h5))
  have hbod : bod (recOf (at' (rt l 1024).1 0) ((rt l 1024).1.drop 1)) = (rt l 1024).1 := by
    obtain ⟨B, hB⟩ : ∃ B, (rt l 1024).1 = B := ⟨_, rfl⟩
    rw [hB] at hp h4 ⊢
    match B, h4 with
    | [], h4 => exact absurd rfl h4
    | c :: r, _ =>
      rw [show (c :: r).drop 1 = r from rfl] at hp
      rw [show (c :: r).drop 1 = r from rfl]
      unfold bod body recOf p1 p2 p3 p4
      simp only [Int.toNat_natCast, at_zero, UInt8.ofNat_toNat]
      rw [hp]
  show cod _ = l.take ((rt l 1024).2.1 + 4)
  unfold cod
  rw [hbod, ho.1, ← Classical.byContradiction h3, List.take_add]

/-! one turned bit -/
theorem one_bit {f g : Nat → Nat} (hf : ∀ j, f j < 2) (hg : ∀ j, g j < 2) {j : Nat} (h : ∀ i, f i ^^^ g i = if i = j then 1 else 0) {N : Nat} (hN : j < N) : reg f N ≠ reg g N := by
  have hpre : ∀ n, n ≤ j → reg f n ^^^ reg g n = 0 := by
    intro n
    induction n with
    | zero => intro _; simp [reg]
    | succ n ih =>
      intro hn
      rw [diff_step, ih (by omega), h, if_neg (by omega)]
      rfl
  have hend : ∀ n, reg f (j + 1 + n) ^^^ reg g (j + 1 + n) ≠ 0 := by
    intro n
    induction n with
    | zero =>
      rw [Nat.add_zero, diff_step, hpre j (Nat.le_refl _), h, if_pos rfl]
      decide
    | succ n ih =>
      intro e
      rw [← Nat.add_assoc, diff_step, h, if_neg (by omega), Nat.xor_zero] at e
      exact ih (Z_zero (Nat.xor_lt_two_pow (n := 32) (reg_lt hf _) (reg_lt hg _)) e)
  intro e
  have := hend (N - (j + 1))
  rw [show j + 1 + (N - (j + 1)) = N from by omega, e, Nat.xor_self] at this
  exact this rfl
theorem flip_sum {l : List UInt8} {j : Nat} (h : j < 8 * l.length) : crc (flip l j) ≠ crc l := by
  have := one_bit (f := bitAt l) (g := bitAt (flip l j)) (bitAt_lt l) (bitAt_lt _) (j := j) (fun i => by
    have b0 := bitAt_lt l i
    rw [xor_01 b0 (bitAt_lt _ _), flip_bit (by omega)]
    by_cases e : i = j
    · rw [if_pos e]; omega
    · rw [if_neg e]; omega) h
  have r0 := reg_lt (bitAt_lt l) (8 * l.length)
  have r1 := reg_lt (bitAt_lt (flip l j)) (8 * l.length)
  unfold crc
  rw [flip_len]
  omega
theorem flip_ne {l : List UInt8} {j : Nat} (h : j < 8 * l.length) : flip l j ≠ l := fun e => flip_sum h (by rw [e])
theorem flip_right {a b : List UInt8} {j : Nat} : flip (a ++ b) (8 * a.length + j) = a ++ flip b j := by
  unfold flip
  rw [show (8 * a.length + j) / 8 = a.length + j / 8 from by omega, show (8 * a.length + j) % 8 = j % 8 from by omega]
  have e : at' (a ++ b) (a.length + j / 8) = at' b (j / 8) := by
    unfold at'
    rw [List.getElem?_append_right (by omega), show a.length + j / 8 - a.length = j / 8 from by omega]
  rw [e, List.set_append_right _ _ (by omega), show a.length + j / 8 - a.length = j / 8 from by omega]
theorem flip_left {a b : List UInt8} {j : Nat} (h : j < 8 * a.length) : flip (a ++ b) j = flip a j ++ b := by
  unfold flip
  rw [at_append_left (by omega), List.set_append_left _ _ (by omega)]
theorem dec_sum {B S : List UInt8} (hb : B.length ≤ 1024) (hs : S.length = 4) (hne : S ≠ le4 (crc B)) : (dec (txt B ++ S)).2.2 = 7 := by
  unfold dec
  rw [rt_at hb]
  simp only []
  rw [if_neg (by simp), if_neg (by rw [List.length_append, hs]; omega), if_pos (by rw [List.drop_left, List.take_of_length_le (by omega)]; exact hne)]
theorem le4_inj {a b : Nat} (ha : a < 4294967296) (hb : b < 4294967296) (h : le4 a = le4 b) : a = b := by
  have h1 := num4_le4 ha []
  have h2 := num4_le4 hb []
  rw [h] at h1
  exact h1.symm.trans h2
theorem rd_cod {r : Rec} (h : chk r = 0) : rd (cod r) = ((bod r).length, (enc (bod r).length).length, 0) := by
  have hb := bod_len h
  unfold cod txt
  rw [List.append_assoc]
  exact rd_enc (by omega) _
theorem dec_turned {r : Rec} {i : Nat} (h : chk r = 0) (hi : i < 8 * ((cod r).length - (enc (bod r).length).length)) : (dec (flip (cod r) (8 * (enc (bod r).length).length + i))).2.2 = 7 := by
  have hb := bod_len h
  rw [cod_len] at hi
  have e : cod r = enc (bod r).length ++ (bod r ++ le4 (crc (bod r))) := by unfold cod txt; rw [List.append_assoc]
  have hl : (txt (bod r)).length = (enc (bod r).length).length + (bod r).length := by unfold txt; rw [List.length_append]
  rw [e, flip_right]
  by_cases hj : i < 8 * (bod r).length
  · rw [flip_left hj]
    have e2 : enc (bod r).length ++ (flip (bod r) i ++ le4 (crc (bod r))) = txt (flip (bod r) i) ++ le4 (crc (bod r)) := by
      unfold txt; rw [flip_len, List.append_assoc]
    rw [e2]
    refine dec_sum (by rw [flip_len]; exact hb.2) rfl (fun q => ?_)
    exact flip_sum hj (le4_inj (crc_lt _) (crc_lt _) q).symm
  · obtain ⟨m, rfl⟩ : ∃ m, i = 8 * (bod r).length + m := ⟨i - 8 * (bod r).length, by omega⟩
    rw [flip_right]
    have e2 : enc (bod r).length ++ (bod r ++ flip (le4 (crc (bod r))) m) = txt (bod r) ++ flip (le4 (crc (bod r))) m := by
      unfold txt; rw [List.append_assoc]
    rw [e2]
    exact dec_sum hb.2 (by rw [flip_len]; rfl) (flip_ne (by rw [le4_len]; omega))
end Go.Proofs.YtphhebdmfdjfeagGreatDoor.Pk
