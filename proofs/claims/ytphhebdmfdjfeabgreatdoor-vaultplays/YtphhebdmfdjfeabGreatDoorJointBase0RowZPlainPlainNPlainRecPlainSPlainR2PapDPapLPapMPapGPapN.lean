/-
  Small words of every walk: what is kept from the walk's sight, and equal answers.
  A text out of bytes; a place in a block. No walk.
  Plain facts on subjects and filters as lists of bytes: pieces between dots, what a token is, the errors. No program.
  Plain mathematics of numbers in groups of seven bits, of texts behind their length, and of the sum (CRC-32): a number is read as it was written, what is read is written so, a burst of at most 32 bits is told. No program.
  Plain mathematics of records as bytes: a body out of its parts and the parts out of a body, a sum as four bytes. No program.
  Plain mathematics of a burst: bits of a text that are turned one by one, and PETERSON, BROWN for them. No program.
  Plain mathematics of records: what is wrong with a record, its bytes, the record at the front of bytes; what is written is read as it was, a front of it asks for more, what is read is written as just those bytes, one turned bit is told. No program.
  The document's disk: what it is and what every call makes of it; which blocks a call may have written. No walk, and nothing of the program's own.
  The document's disk as a map from numbers to files, and what every call keeps of it. No walk.
  What every call of the document's disk keeps, and what it does to the map from numbers to files. No walk.
  The document's log: what is read of a disk's files, what an append and a rewriting make of them. No walk, and nothing of the program's own.
  Records whose texts can be; how long a record's bytes are. No walk.
-/
import Derived.WalkKit
import Derived.Deep.OwnRows
import Derived.Lib.SplitLaws
import Derived.Test.YtphhebdmfdjfeabGreatDoorRows
import Derived.WalkSpells
import Derived.WalkLawsBesides
import Derived.Deep.QuietTactic
import Derived.BigQuiet
import Derived.Laws.IdiomCopy
import Derived.Lib.Overlaps
import Derived.Lib.AppendZerosOnto
import Derived.Laws.NewBlocks
namespace Go.Proofs.YtphhebdmfdjfeabGreatDoor
open Go.RowKit

theorem hide {p : Prop} (h : p) : Hid p := h
theorem unhide {p : Prop} (h : Hid p) : p := h
theorem ret_bool {a b : Bool} (h : (a = true) ↔ (b = true)) : Ending.returned (.bool a) = .returned (.bool b) := by
  rw [Bool.eq_iff_iff.2 h]
theorem ret_is {b c : Bool} (h : c = b) : Ending.returned (.bool b) = .returned (.bool c) := by rw [h]
theorem ret_int {k : IntKind} {a b : Int} (h : a = b) : Ending.returned (.int k a) = .returned (.int k b) := by rw [h]
theorem own_some {W : World} {base : Nat} {e : TypeId} {size : Nat} {v : Value} {k : Nat} {xs : List Value} (h : W.ownsRow base e size v (k + 1) xs) : ∃ g cap, v = .slice (some ⟨g, 0, none⟩) (k + 1) cap := by
  rcases h.2 with ⟨_, h⟩ | ⟨g, cap, cur, h, _⟩
  · omega
  · exact ⟨g, cap, h⟩
theorem one_new (w : World) (v : Value) (t : TypeId) : ∀ (j : Nat) u, [v][j]? = some u → (w.alloc (.cells #[v] t)).cell? ((⟨w.heap.size, 0, none⟩ : Addr).add j) = some u := by
  intro j u hj
  match j, hj with
  | 0, hj => simp at hj; subst hj; simp [Addr.add]
theorem bstep {w a b : World} (h : Below w.heap.size w a) (h2 : Below a.heap.size a b) : Below w.heap.size w b := h.trans (h2.mono h.size)
end Go.Proofs.YtphhebdmfdjfeabGreatDoor

namespace Go.Proofs.YtphhebdmfdjfeabGreatDoor
open Go.RowKit

/-- a text out of bytes -/
def bs (l : List UInt8) : ByteArray := ⟨l.toArray⟩
theorem bs_list (l : List UInt8) : (bs l).data.toList = l := by simp [bs]
theorem bs_size (l : List UInt8) : (bs l).size = l.length := by simp [bs, ByteArray.size]
theorem addp (b o i : Nat) : (⟨b, o, none⟩ : Addr).add i = ⟨b, o + i, none⟩ := by unfold Addr.add; split <;> simp_all
end Go.Proofs.YtphhebdmfdjfeabGreatDoor

namespace Go.Proofs.YtphhebdmfdjfeabGreatDoor.Pl
open Go

/-- a byte that a token may have -/
def tokB (c : UInt8) : Bool := decide (33 ≤ c.toNat) && (decide (c.toNat ≤ 126) && (decide (c.toNat ≠ 46) && (decide (c.toNat ≠ 42) && decide (c.toNat ≠ 62))))
def plainB (t : List UInt8) : Bool := decide (1 ≤ t.length) && (decide (t.length ≤ 16) && t.all tokB)
/-- the pieces of a text between dots -/
def pcs : List UInt8 → List (List UInt8)
  | [] => [[]]
  | c :: r => if c = 46 then [] :: pcs r else (pcs r).modifyHead (fun p => c :: p)
def tokOk (wild last : Bool) (t : List UInt8) : Bool := plainB t || (wild && (t == [42] || (t == [62] && last)))
def goodTo (wild : Bool) (ps : List (List UInt8)) (k : Nat) : Bool := (List.range k).all fun i => tokOk wild (decide (i + 1 = ps.length)) (ps[i]?.getD [])
def errOf (wild : Bool) (ps : List (List UInt8)) : Int := if 8 < ps.length then 2 else if goodTo wild ps ps.length then 0 else 3

theorem goodTo_succ (wild : Bool) (ps : List (List UInt8)) (k : Nat) : goodTo wild ps (k + 1) = (goodTo wild ps k && tokOk wild (decide (k + 1 = ps.length)) (ps[k]?.getD [])) := by
  simp [goodTo, List.range_succ, List.all_append]
theorem goodTo_zero (wild : Bool) (ps : List (List UInt8)) : goodTo wild ps 0 = true := rfl
theorem goodTo_le {wild : Bool} {ps : List (List UInt8)} {k n : Nat} (h : k ≤ n) (g : goodTo wild ps n = true) : goodTo wild ps k = true := by
  simp only [goodTo, List.all_eq_true, List.mem_range] at *
  exact fun i hi => g i (by omega)
theorem goodTo_bad {wild : Bool} {ps : List (List UInt8)} {k n : Nat} (h : k < n) (g : tokOk wild (decide (k + 1 = ps.length)) (ps[k]?.getD []) = false) : goodTo wild ps n = false := by
  cases e : goodTo wild ps n with
  | false => rfl
  | true =>
    have := goodTo_le (Nat.succ_le_of_lt h) e
    rw [Nat.succ_eq_add_one, goodTo_succ, g] at this
    simp at this
theorem errOf_large {wild : Bool} {ps : List (List UInt8)} (h : 8 < ps.length) : errOf wild ps = 2 := by simp [errOf, h]
theorem errOf_good {wild : Bool} {ps : List (List UInt8)} (h : ¬ 8 < ps.length) (g : goodTo wild ps ps.length = true) : errOf wild ps = 0 := by simp [errOf, h, g]
theorem errOf_bad {wild : Bool} {ps : List (List UInt8)} {k : Nat} (h : ¬ 8 < ps.length) (hk : k < ps.length) (g : tokOk wild (decide (k + 1 = ps.length)) (ps[k]?.getD []) = false) : errOf wild ps = 3 := by
  simp [errOf, h, goodTo_bad hk g]

theorem pcs_ne : ∀ l : List UInt8, pcs l ≠ []
  | [] => by simp [pcs]
  | c :: r => by
    unfold pcs
    split
    · simp
    · have := pcs_ne r
      cases e : pcs r with
      | nil => exact absurd e this
      | cons a b => simp
theorem pcs_length : ∀ l : List UInt8, (pcs l).length = l.count 46 + 1
  | [] => rfl
  | c :: r => by
    unfold pcs
    by_cases h : c = 46
    · subst h; simp [pcs_length r]
    · rw [if_neg h, List.length_modifyHead, pcs_length r, List.count_cons_of_ne h]
theorem pcs_none : ∀ {l : List UInt8}, l.count 46 = 0 → pcs l = [l]
  | [], _ => rfl
  | c :: r, h => by
    by_cases e : c = 46
    · subst e; simp at h
    · rw [List.count_cons_of_ne e] at h
      unfold pcs
      rw [if_neg e, pcs_none h]; rfl
theorem pcs_hit : ∀ (a : List UInt8) (b : List UInt8), a.count 46 = 0 → pcs (a ++ 46 :: b) = a :: pcs b
  | [], b, _ => by simp [pcs]
  | c :: r, b, h => by
    by_cases e : c = 46
    · subst e; simp at h
    · rw [List.count_cons_of_ne e] at h
      rw [List.cons_append, pcs, if_neg e, pcs_hit r b h]; rfl
theorem pcs_free : ∀ (l : List UInt8) (p : List UInt8), p ∈ pcs l → p.count 46 = 0
  | [], p, h => by simp [pcs] at h; subst h; rfl
  | c :: r, p, h => by
    unfold pcs at h
    by_cases e : c = 46
    · rw [if_pos e] at h
      rcases List.mem_cons.1 h with h | h
      · subst h; rfl
      · exact pcs_free r p h
    · rw [if_neg e] at h
      have ih := pcs_free r
      cases q : pcs r with
      | nil => rw [q] at h; simp at h
      | cons x y =>
        rw [q] at h ih
        simp only [List.modifyHead_cons, List.mem_cons] at h
        rcases h with h | h
        · subst h
          rw [List.count_cons_of_ne e]
          exact ih x (by simp)
        · exact ih p (by simp [h])

theorem pcs_short : ∀ (l : List UInt8) (p : List UInt8), p ∈ pcs l → p.length ≤ l.length
  | [], p, h => by simp [pcs] at h; subst h; simp
  | c :: r, p, h => by
    have ih := pcs_short r
    unfold pcs at h
    by_cases e : c = 46
    · rw [if_pos e] at h
      rcases List.mem_cons.1 h with h | h
      · subst h; simp
      · have := ih p h; simp; omega
    · rw [if_neg e] at h
      cases q : pcs r with
      | nil => rw [q] at h; simp at h
      | cons x y =>
        rw [q] at h ih
        simp only [List.modifyHead_cons, List.mem_cons] at h
        rcases h with h | h
        · subst h
          have := ih x (by simp)
          simp; omega
        · have := ih p (by simp [h])
          simp; omega
/-- the pieces grow at the end: a dot opens a new one -/
theorem pcs_snoc_dot : ∀ l : List UInt8, pcs (l ++ [46]) = pcs l ++ [[]]
  | [] => rfl
  | c :: r => by
    rw [List.cons_append]
    unfold pcs
    by_cases e : c = 46
    · rw [if_pos e, if_pos e, pcs_snoc_dot r]; rfl
    · rw [if_neg e, if_neg e, pcs_snoc_dot r]
      have := pcs_ne r
      cases q : pcs r with
      | nil => exact absurd q this
      | cons x y => rfl
/-- another byte joins the last one -/
theorem pcs_snoc : ∀ (l : List UInt8) (c : UInt8), c ≠ 46 → ∀ (i : List (List UInt8)) (t : List UInt8), pcs l = i ++ [t] → pcs (l ++ [c]) = i ++ [t ++ [c]]
  | [], c, h, i, t, e => by
    simp only [pcs] at e
    cases i with
    | nil => simp at e; subst e; simp [pcs, h]
    | cons a b => simp at e
  | d :: r, c, h, i, t, e => by
    rw [List.cons_append]
    unfold pcs at e ⊢
    by_cases q : d = 46
    · rw [if_pos q] at e ⊢
      cases i with
      | nil =>
        simp at e
        exact absurd e.2 (pcs_ne r)
      | cons a b =>
        simp only [List.cons_append, List.cons.injEq] at e ⊢
        exact ⟨e.1, pcs_snoc r c h b t e.2⟩
    · rw [if_neg q] at e ⊢
      have hr := pcs_ne r
      cases g : pcs r with
      | nil => exact absurd g hr
      | cons x y =>
        rw [g] at e
        simp only [List.modifyHead_cons] at e
        cases i with
        | nil =>
          simp only [List.nil_append, List.cons.injEq] at e
          obtain ⟨e1, e2⟩ := e
          subst e2
          rw [pcs_snoc r c h [] x (by rw [g]; rfl)]
          subst e1
          rfl
        | cons a b =>
          simp only [List.cons_append, List.cons.injEq] at e
          obtain ⟨e1, e2⟩ := e
          rw [pcs_snoc r c h (x :: b) t (by rw [g, e2]; rfl)]
          subst e1
          rfl

theorem index_one_none {l : List UInt8} (h : Lib.index l [46] = -1) : l.count 46 = 0 := by
  have := Lib.count_miss h
  rwa [Lib.count_one] at this
theorem index_one_hit {l : List UInt8} {i : Nat} (h : Lib.index l [46] = i) : (l.take i).count 46 = 0 ∧ l = l.take i ++ 46 :: l.drop (i + 1) := by
  rcases Lib.index_spec l [46] with ⟨e, _⟩ | ⟨j, e, hj, ho, hn⟩
  · omega
  · obtain rfl : i = j := by omega
    have hd : l[i]? = some 46 := Lib.occAt_head rfl ho
    have hl : i < l.length := by
      rcases Nat.lt_or_ge i l.length with h | h
      · exact h
      · rw [List.getElem?_eq_none h] at hd; cases hd
    refine ⟨?_, ?_⟩
    · rw [List.count_eq_zero]
      intro hm
      obtain ⟨k, hk, hk2⟩ := List.mem_iff_getElem.1 hm
      rw [List.length_take] at hk
      rw [List.getElem_take] at hk2
      have hf := hn k (by omega)
      have ht : Lib.occAt l [46] k = true := by
        unfold Lib.occAt
        rw [List.drop_eq_getElem_cons (by omega), hk2]
        simp [List.isPrefixOf]
      rw [ht] at hf
      cases hf
    · have : l[i] = 46 := by rw [List.getElem?_eq_getElem hl] at hd; exact Option.some.inj hd
      rw [← this, ← List.drop_eq_getElem_cons hl, List.take_append_drop]
theorem splitK_pcs : ∀ (k : Nat) (l : List UInt8), l.count 46 = k → Lib.splitK [46] 0 k l = pcs l
  | 0, l, h => by rw [pcs_none h]; rfl
  | k + 1, l, h => by
    unfold Lib.splitK
    split
    · rename_i e
      have := index_one_none (beq_iff_eq.1 e)
      omega
    · rename_i e
      have hge := Lib.index_ge l [46]
      have hne : Lib.index l [46] ≠ -1 := fun x => e (beq_iff_eq.2 x)
      obtain ⟨i, hi⟩ : ∃ i : Nat, Lib.index l [46] = i := ⟨(Lib.index l [46]).toNat, by omega⟩
      obtain ⟨h1, h2⟩ := index_one_hit hi
      have e1 : (Lib.index l [46]).toNat = i := by omega
      rw [e1]
      have hc : (l.drop (i + 1)).count 46 = k := by
        have := congrArg (List.count 46) h2
        rw [List.count_append, h1, List.count_cons_self] at this
        omega
      rw [show i + 0 = i from rfl, show ([46] : List UInt8).length = 1 from rfl, splitK_pcs k _ hc, ← pcs_hit _ _ h1, ← h2]

/-- the tokens, as the program cuts them -/
def toks (s : ByteArray) : List ByteArray := Lib.splitB ⟨#[46]⟩ 0 (Lib.countB s ⟨#[46]⟩) s
theorem toks_data (s : ByteArray) : (toks s).map (·.data.toList) = pcs s.data.toList := by
  unfold toks
  rw [Lib.splitB_data]
  show Lib.splitK [46] 0 (Lib.count s.data.toList [46]) s.data.toList = _
  rw [Lib.count_one]
  exact splitK_pcs _ _ rfl
theorem toks_length (s : ByteArray) : (toks s).length = (pcs s.data.toList).length := by rw [← toks_data, List.length_map]
theorem countB_dots (s : ByteArray) : Lib.countB s ⟨#[46]⟩ + 1 = (pcs s.data.toList).length := by
  rw [pcs_length]
  show Lib.count s.data.toList [46] + 1 = _
  rw [Lib.count_one]
theorem toks_at (s : ByteArray) (i : Nat) : ((pcs s.data.toList)[i]?).getD [] = ((toks s)[i]?.getD ByteArray.empty).data.toList := by
  rw [← toks_data, List.getElem?_map]
  cases (toks s)[i]? <;> rfl
end Go.Proofs.YtphhebdmfdjfeabGreatDoor.Pl

namespace Go.Proofs.YtphhebdmfdjfeabGreatDoor.Pk

/-- the byte at a place, 0 behind the end -/
def at' (l : List UInt8) (k : Nat) : Nat := (l[k]?.getD 0).toNat
theorem at_lt (l : List UInt8) (k : Nat) : at' l k < 256 := UInt8.toNat_lt _
theorem at_zero (c : UInt8) (l : List UInt8) : at' (c :: l) 0 = c.toNat := rfl
theorem at_succ (c : UInt8) (l : List UInt8) (k : Nat) : at' (c :: l) (k + 1) = at' l k := rfl
theorem at_append_left {l m : List UInt8} {k : Nat} (h : k < l.length) : at' (l ++ m) k = at' l k := by
  unfold at'; rw [List.getElem?_append_left h]
theorem at_get {l : List UInt8} {k : Nat} (h : k < l.length) : at' l k = (l[k]).toNat := by
  unfold at'; rw [List.getElem?_eq_getElem h]; rfl
theorem at_take {l : List UInt8} {k i : Nat} (h : k < i) : at' (l.take i) k = at' l k := by
  unfold at'; rw [List.getElem?_take_of_lt h]

/-- a number's bytes -/
def enc (n : Nat) : List UInt8 := if n < 128 then [UInt8.ofNat n] else UInt8.ofNat (128 + n % 128) :: enc (n / 128)
theorem enc_small {n : Nat} (h : n < 128) : enc n = [UInt8.ofNat n] := by rw [enc, if_pos h]
theorem enc_large {n : Nat} (h : ¬ n < 128) : enc n = UInt8.ofNat (128 + n % 128) :: enc (n / 128) := by rw [enc, if_neg h]
theorem u8_of {n : Nat} (h : n < 256) : (UInt8.ofNat n).toNat = n := by simp; omega
theorem enc_pos (n : Nat) : 1 ≤ (enc n).length := by
  by_cases h : n < 128
  · rw [enc_small h]; simp
  · rw [enc_large h]; simp
theorem enc_short : ∀ (m : Nat) {n : Nat}, n < 128 ^ (m + 1) → (enc n).length ≤ m + 1
  | 0, n, h => by rw [enc_small (by simpa using h)]; simp
  | m + 1, n, h => by
    by_cases hs : n < 128
    · rw [enc_small hs]; simp
    · rw [enc_large hs, List.length_cons]
      have : n / 128 < 128 ^ (m + 1) := by rw [Nat.div_lt_iff_lt_mul (by decide)]; rw [Nat.pow_succ] at h; exact h
      have := enc_short m this
      omega
theorem enc_nine {n : Nat} (h : n < 9223372036854775808) : (enc n).length ≤ 9 := enc_short 8 (by simpa using h)

/-- how many bytes at the front go on, at most m -/
def lead : List UInt8 → Nat → Nat
  | [], _ => 0
  | _ :: _, 0 => 0
  | c :: r, m + 1 => if c.toNat < 128 then 0 else lead r m + 1
theorem lead_eq : ∀ {l : List UInt8} {m k : Nat}, k ≤ m → k ≤ l.length → (∀ j, j < k → 128 ≤ at' l j) → (k = m ∨ k = l.length ∨ at' l k < 128) → lead l m = k
  | [], m, k, _, h2, _, _ => by simp at h2; subst h2; simp [lead]
  | c :: r, 0, k, h1, _, _, _ => by simp at h1; subst h1; simp [lead]
  | c :: r, m + 1, 0, _, _, _, h => by
    rcases h with h | h | h
    · cases h
    · simp at h
    · rw [at_zero] at h; simp [lead, h]
  | c :: r, m + 1, k + 1, h1, h2, h3, h4 => by
    have h0 := h3 0 (by omega)
    rw [at_zero] at h0
    have e := lead_eq (l := r) (m := m) (k := k) (by omega) (by simpa using h2) (fun j hj => by have := h3 (j + 1) (by omega); rwa [at_succ] at this) (by
      rcases h4 with h | h | h
      · exact .inl (by omega)
      · exact .inr (.inl (by simpa using h))
      · exact .inr (.inr (by rwa [at_succ] at h)))
    simp [lead, e]; omega
theorem lead_le : ∀ (l : List UInt8) (m : Nat), lead l m ≤ m ∧ lead l m ≤ l.length
  | [], m => by simp [lead]
  | _ :: _, 0 => by simp [lead]
  | c :: r, m + 1 => by
    have := lead_le r m
    unfold lead; split <;> simp <;> omega
theorem lead_big : ∀ {l : List UInt8} {m j : Nat}, j < lead l m → 128 ≤ at' l j
  | [], m, j, h => by simp [lead] at h
  | _ :: _, 0, j, h => by simp [lead] at h
  | c :: r, m + 1, j, h => by
    unfold lead at h
    split at h
    · omega
    · cases j with
      | zero => rw [at_zero]; omega
      | succ j => rw [at_succ]; exact lead_big (m := m) (by omega)
theorem lead_stop : ∀ {l : List UInt8} {m : Nat}, lead l m < m → lead l m < l.length → at' l (lead l m) < 128
  | [], m, _, h => by simp [lead] at h
  | _ :: _, 0, h, _ => by simp [lead] at h
  | c :: r, m + 1, h1, h2 => by
    unfold lead at h1 h2 ⊢
    split
    · rw [at_zero]; assumption
    · rw [at_succ]
      rename_i hc
      rw [if_neg hc] at h1 h2
      exact lead_stop (by omega) (by simpa using h2)

/-- the value of m groups from place i on -/
def val (l : List UInt8) (i : Nat) : Nat → Nat
  | 0 => 0
  | m + 1 => at' l i % 128 + 128 * val l (i + 1) m
theorem val_succ (l : List UInt8) (i m : Nat) : val l i (m + 1) = at' l i % 128 + 128 * val l (i + 1) m := rfl
theorem val_shift (c : UInt8) (l : List UInt8) : ∀ (m i : Nat), val (c :: l) (i + 1) m = val l i m
  | 0, _ => rfl
  | m + 1, i => by rw [val_succ, val_succ, at_succ, val_shift c l m (i + 1)]
theorem val_last (l : List UInt8) : ∀ (m i : Nat), val l i (m + 1) = val l i m + 128 ^ m * (at' l (i + m) % 128)
  | 0, i => by simp [val]
  | m + 1, i => by
    rw [val_succ, val_last l m (i + 1), val_succ, Nat.pow_succ, Nat.mul_add, ← Nat.add_assoc]
    rw [show i + 1 + m = i + (m + 1) from by omega, Nat.mul_comm (128 ^ m) 128, Nat.mul_assoc]
theorem val_lt (l : List UInt8) : ∀ (m i : Nat), val l i m < 128 ^ m
  | 0, _ => by simp [val]
  | m + 1, i => by
    have := val_lt l m (i + 1)
    rw [val_succ, Nat.pow_succ]
    have := Nat.mod_lt (at' l i) (show 0 < 128 by decide)
    omega

/-- ReadNumber: the number, how many bytes, the error -/
def rd (l : List UInt8) : Nat × Nat × Nat :=
  if lead l 9 = 9 then (0, 0, 7) else if lead l 9 = l.length then (0, 0, 6) else if 0 < lead l 9 ∧ at' l (lead l 9) = 0 then (0, 0, 7)
  else (val l 0 (lead l 9 + 1), lead l 9 + 1, 0)

theorem lead_enc (more : List UInt8) (n : Nat) : ∀ m, (enc n).length ≤ m → lead (enc n ++ more) m = (enc n).length - 1 := by
  induction n using Nat.strongRecOn with
  | _ n ih =>
    intro m hm
    by_cases hs : n < 128
    · rw [enc_small hs] at hm ⊢
      obtain ⟨m, rfl⟩ : ∃ k, m = k + 1 := ⟨m - 1, by simp at hm; omega⟩
      simp [lead]; omega
    · rw [enc_large hs] at hm ⊢
      obtain ⟨m, rfl⟩ : ∃ k, m = k + 1 := ⟨m - 1, by simp at hm; omega⟩
      have e := ih (n / 128) (by omega) m (by simpa using hm)
      have p := enc_pos (n / 128)
      rw [List.cons_append, lead, u8_of (by omega), if_neg (by omega), e, List.length_cons]
      omega
theorem val_enc (more : List UInt8) (n : Nat) : val (enc n ++ more) 0 (enc n).length = n := by
  induction n using Nat.strongRecOn with
  | _ n ih =>
    by_cases hs : n < 128
    · rw [enc_small hs]
      simp [val, at']; omega
    · have e := ih (n / 128) (by omega)
      rw [enc_large hs, List.cons_append, List.length_cons, val_succ, val_shift, e, at_zero, u8_of (by omega)]
      omega
theorem last_enc (more : List UInt8) (n : Nat) : 0 < n → at' (enc n ++ more) ((enc n).length - 1) ≠ 0 := by
  induction n using Nat.strongRecOn with
  | _ n ih =>
    intro h0
    by_cases hs : n < 128
    · rw [enc_small hs]
      simp [at']; omega
    · have e := ih (n / 128) (by omega) (by omega)
      have p := enc_pos (n / 128)
      rw [enc_large hs, List.cons_append, List.length_cons]
      rw [show (enc (n / 128)).length + 1 - 1 = ((enc (n / 128)).length - 1) + 1 from by omega, at_succ]
      exact e
theorem rd_enc {n : Nat} (h : n < 9223372036854775808) (more : List UInt8) : rd (enc n ++ more) = (n, (enc n).length, 0) := by
  have h9 := enc_nine h
  have p := enc_pos n
  have e := lead_enc more n 9 h9
  unfold rd
  rw [e, if_neg (by omega), if_neg (by simp; omega), if_neg]
  · rw [show (enc n).length - 1 + 1 = (enc n).length from by omega, val_enc]
  · rintro ⟨h1, h2⟩
    by_cases hn : 0 < n
    · exact last_enc more n hn h2
    · rw [enc_small (by omega)] at h1
      simp at h1
theorem rd_front {n i : Nat} (h : n < 9223372036854775808) (hi : i < (enc n).length) (more : List UInt8) : rd ((enc n ++ more).take i) = (0, 0, 6) := by
  have h9 := enc_nine h
  have e0 := lead_enc more n 9 h9
  have hl : ((enc n ++ more).take i).length = i := by simp; omega
  have e : lead ((enc n ++ more).take i) 9 = i := lead_eq (by omega) (by omega) (fun j hj => by rw [at_take hj]; exact lead_big (m := 9) (by omega)) (.inr (.inl hl.symm))
  unfold rd
  rw [e, hl, if_neg (by omega), if_pos rfl]
theorem enc_val : ∀ (k : Nat) {l : List UInt8}, k < l.length → (∀ j, j < k → 128 ≤ at' l j) → at' l k < 128 → (k = 0 ∨ at' l k ≠ 0) → enc (val l 0 (k + 1)) = l.take (k + 1)
  | k, [], h, _, _, _ => by simp at h
  | 0, c :: r, _, _, h2, _ => by
    rw [at_zero] at h2
    rw [val_succ, at_zero, val, enc_small (by omega)]
    simp [Nat.mod_eq_of_lt h2]
  | k + 1, c :: r, h0, h1, h2, h3 => by
    rw [at_succ] at h2 h3
    have hne : at' r k ≠ 0 := by omega
    have e := enc_val k (l := r) (by simpa using h0) (fun j hj => by have := h1 (j + 1) (by omega); rwa [at_succ] at this) h2 (.inr hne)
    have hc := h1 0 (by omega)
    rw [at_zero] at hc
    have hcl := UInt8.toNat_lt c
    have hp : 0 < val r 0 (k + 1) := by
      rw [val_last, Nat.zero_add, Nat.mod_eq_of_lt h2]
      have := Nat.mul_pos (show 0 < 128 ^ k from Nat.pow_pos (by decide)) (show 0 < at' r k by omega)
      omega
    rw [val_succ, val_shift, at_zero, enc_large (by omega)]
    rw [show (c.toNat % 128 + 128 * val r 0 (k + 1)) / 128 = val r 0 (k + 1) from by omega, e]
    rw [show 128 + (c.toNat % 128 + 128 * val r 0 (k + 1)) % 128 = c.toNat from by omega]
    simp
theorem rd_bad {l : List UInt8} (h : (rd l).2.2 ≠ 0) : (rd l).1 = 0 ∧ (rd l).2.1 = 0 := by
  unfold rd at h ⊢
  split
  · exact ⟨rfl, rfl⟩
  split
  · exact ⟨rfl, rfl⟩
  split
  · exact ⟨rfl, rfl⟩
  · rename_i h1 h2 h3
    rw [if_neg h1, if_neg h2, if_neg h3] at h
    exact absurd rfl h
theorem rd_good {l : List UInt8} (h : (rd l).2.2 = 0) : enc (rd l).1 = l.take (rd l).2.1 ∧ (rd l).2.1 ≤ l.length ∧ (rd l).1 < 9223372036854775808 ∧ 1 ≤ (rd l).2.1 ∧ (rd l).2.1 ≤ 9 := by
  have hl := lead_le l 9
  unfold rd at h ⊢
  split
  · rename_i h1; rw [if_pos h1] at h; cases h
  rename_i h1
  rw [if_neg h1] at h
  split
  · rename_i h2; rw [if_pos h2] at h; cases h
  rename_i h2
  rw [if_neg h2] at h
  split
  · rename_i h3; rw [if_pos h3] at h; cases h
  rename_i h3
  refine ⟨enc_val _ (by omega) (fun j hj => lead_big hj) (lead_stop (by omega) (by omega)) (by omega), by show lead l 9 + 1 ≤ _; omega, ?_, by show 1 ≤ lead l 9 + 1; omega, by show lead l 9 + 1 ≤ 9; omega⟩
  refine Nat.lt_of_lt_of_le (val_lt l _ 0) ?_
  exact Nat.le_trans (Nat.pow_le_pow_right (by decide) (show lead l 9 + 1 ≤ 9 by omega)) (by decide)

/-- ReadText: the text, how many bytes, the error -/
def rt (l : List UInt8) (most : Int) : List UInt8 × Nat × Nat :=
  if (rd l).2.2 ≠ 0 then ([], 0, (rd l).2.2) else if most < (rd l).1 then ([], 0, 7) else if l.length < (rd l).2.1 + (rd l).1 then ([], 0, 6)
  else ((l.drop (rd l).2.1).take (rd l).1, (rd l).2.1 + (rd l).1, 0)
def txt (t : List UInt8) : List UInt8 := enc t.length ++ t
theorem rt_txt {t : List UInt8} (h : t.length < 9223372036854775808) (more : List UInt8) : rt (txt t ++ more) t.length = (t, (txt t).length, 0) := by
  unfold rt txt
  rw [List.append_assoc, rd_enc h]
  simp only []
  rw [if_neg (by simp), if_neg (by omega), if_neg (by simp)]
  simp
theorem rt_front {t : List UInt8} {i : Nat} (h : t.length < 9223372036854775808) (hi : i < (txt t).length) : (rt ((txt t).take i) t.length).2.2 = 6 := by
  unfold rt
  by_cases hl : i < (enc t.length).length
  · unfold txt
    rw [rd_front h hl]
    rfl
  · have e : (txt t).take i = enc t.length ++ t.take (i - (enc t.length).length) := by
      unfold txt
      rw [List.take_append, List.take_of_length_le (by omega)]
    have hi' := hi
    unfold txt at hi'
    rw [List.length_append] at hi'
    rw [e, rd_enc h]
    simp only []
    rw [if_neg (by simp), if_neg (by omega), if_pos (by simp; omega)]

/-! sums -/
def Z (r : Nat) : Nat := (r / 2) ^^^ (if r % 2 = 1 then 3988292384 else 0)
theorem Z_lt {r : Nat} (h : r < 4294967296) : Z r < 4294967296 := by
  unfold Z
  exact Nat.xor_lt_two_pow (n := 32) (by omega) (by split <;> decide)
theorem xor_half (a b : Nat) : (a ^^^ b) / 2 = a / 2 ^^^ b / 2 := by
  apply Nat.eq_of_testBit_eq
  intro i
  simp [Nat.testBit_div_two]
theorem xor_odd (a b : Nat) : (a ^^^ b) % 2 = (a % 2 + b % 2) % 2 := by
  have := Nat.testBit_xor a b 0
  simp only [Nat.testBit_zero] at this
  have ha : a % 2 = 0 ∨ a % 2 = 1 := by omega
  have hb : b % 2 = 0 ∨ b % 2 = 1 := by omega
  have hc : (a ^^^ b) % 2 = 0 ∨ (a ^^^ b) % 2 = 1 := by omega
  rcases ha with ha | ha <;> rcases hb with hb | hb <;> rcases hc with hc | hc <;> simp [ha, hb, hc] at this ⊢
theorem Z_xor (a b : Nat) : Z (a ^^^ b) = Z a ^^^ Z b := by
  unfold Z
  rw [xor_half, xor_odd]
  have ha : a % 2 = 0 ∨ a % 2 = 1 := by omega
  have hb : b % 2 = 0 ∨ b % 2 = 1 := by omega
  rcases ha with ha | ha <;> rcases hb with hb | hb <;> simp only [ha, hb]
  · simp
  · simp [Nat.xor_assoc]
  · simp only [Nat.zero_ne_one, ↓reduceIte, Nat.xor_zero]
    ac_rfl
  · simp only [Nat.reduceAdd, Nat.reduceMod, Nat.zero_ne_one, ↓reduceIte, Nat.xor_zero]
    rw [show a / 2 ^^^ 3988292384 ^^^ (b / 2 ^^^ 3988292384) = (a / 2 ^^^ b / 2) ^^^ (3988292384 ^^^ 3988292384) from by ac_rfl, Nat.xor_self, Nat.xor_zero]
theorem Z_zero {r : Nat} (hr : r < 4294967296) (h : Z r = 0) : r = 0 := by
  unfold Z at h
  by_cases ho : r % 2 = 1
  · rw [if_pos ho] at h
    have hb := congrArg (fun n => n.testBit 31) h
    simp only [Nat.testBit_xor, Nat.zero_testBit] at hb
    rw [Nat.testBit_lt_two_pow (show r / 2 < 2 ^ 31 by omega)] at hb
    exact absurd hb (by decide)
  · rw [if_neg ho, Nat.xor_zero] at h
    omega
/-- the register behind n bits -/
def reg (f : Nat → Nat) : Nat → Nat
  | 0 => 4294967295
  | n + 1 => Z (reg f n ^^^ f n)
def bitAt (l : List UInt8) (j : Nat) : Nat := at' l (j / 8) / 2 ^ (j % 8) % 2
theorem bitAt_lt (l : List UInt8) (j : Nat) : bitAt l j < 2 := Nat.mod_lt _ (by decide)
theorem reg_lt {f : Nat → Nat} (hf : ∀ j, f j < 2) : ∀ n, reg f n < 4294967296
  | 0 => by show 4294967295 < 4294967296; decide
  | n + 1 => Z_lt (Nat.xor_lt_two_pow (n := 32) (reg_lt hf n) (by have := hf n; omega))
def crc (l : List UInt8) : Nat := 4294967295 - reg (bitAt l) (8 * l.length)

theorem xor_eq_zero {a b : Nat} (h : a ^^^ b = 0) : a = b := by
  have := congrArg (· ^^^ b) h
  simpa [Nat.xor_assoc] using this
theorem diff_step {f g : Nat → Nat} (n : Nat) : reg f (n + 1) ^^^ reg g (n + 1) = Z ((reg f n ^^^ reg g n) ^^^ (f n ^^^ g n)) := by
  show Z (reg f n ^^^ f n) ^^^ Z (reg g n ^^^ g n) = _
  rw [← Z_xor]
  congr 1
  ac_rfl
def Zs : Nat → Nat → Nat
  | 0, r => r
  | n + 1, r => Z (Zs n r)
theorem Zs_lt {r : Nat} (h : r < 4294967296) : ∀ n, Zs n r < 4294967296
  | 0 => h
  | n + 1 => Z_lt (Zs_lt h n)
theorem Zs_ne {r : Nat} (h : r < 4294967296) (h0 : r ≠ 0) : ∀ n, Zs n r ≠ 0
  | 0 => h0
  | n + 1 => fun e => Zs_ne h h0 n (Z_zero (Zs_lt h n) e)
/-- PETERSON, BROWN: a burst of at most 32 bits is told -/
theorem burst {f g : Nat → Nat} (hf : ∀ j, f j < 2) (hg : ∀ j, g j < 2) {k turn : Nat} (ht : turn < 4294967296) (h0 : turn ≠ 0)
    (h : ∀ j, f j ^^^ g j = if k ≤ j ∧ j < k + 32 then turn / 2 ^ (j - k) % 2 else 0) {N : Nat} (hN : k + 32 ≤ N) : reg f N ≠ reg g N := by
  have hpre : ∀ n, n ≤ k → reg f n ^^^ reg g n = 0 := by
    intro n
    induction n with
    | zero => intro _; simp [reg]
    | succ n ih =>
      intro hn
      rw [diff_step, ih (by omega), h, if_neg (by omega)]
      rfl
  have hmid : ∀ i, i ≤ 32 → (reg f (k + i) ^^^ reg g (k + i)) ^^^ (turn / 2 ^ i) = Zs i turn := by
    intro i
    induction i with
    | zero => intro _; rw [Nat.add_zero, hpre k (Nat.le_refl _)]; simp [Zs]
    | succ i ih =>
      intro hi
      have e := ih (by omega)
      rw [← Nat.add_assoc, diff_step, h, if_pos (by omega), show k + i - k = i from by omega, Zs, ← e]
      have hd : turn / 2 ^ (i + 1) = turn / 2 ^ i / 2 := by rw [Nat.pow_succ, Nat.div_div_eq_div_mul]
      have hz : ∀ x, Z x = Z (x % 2) ^^^ (x / 2) := by
        intro x
        unfold Z
        have : x % 2 / 2 = 0 := by omega
        rw [this, Nat.zero_xor, Nat.mod_mod, Nat.xor_comm]
      rw [Z_xor, Z_xor (reg f (k + i) ^^^ reg g (k + i)), hd, hz (turn / 2 ^ i)]
      ac_rfl
  have hend : ∀ n, reg f (k + 32 + n) ^^^ reg g (k + 32 + n) ≠ 0 := by
    intro n
    induction n with
    | zero =>
      have e := hmid 32 (Nat.le_refl _)
      rw [Nat.div_eq_of_lt (show turn < 2 ^ 32 by omega), Nat.xor_zero] at e
      rw [Nat.add_zero, e]
      exact Zs_ne ht h0 32
    | succ n ih =>
      intro e
      rw [← Nat.add_assoc, diff_step, h, if_neg (by omega), Nat.xor_zero] at e
      exact ih (Z_zero (Nat.xor_lt_two_pow (n := 32) (reg_lt hf _) (reg_lt hg _)) e)
  intro e
  have := hend (N - (k + 32))
  rw [show k + 32 + (N - (k + 32)) = N from by omega, e, Nat.xor_self] at this
  exact this rfl
end Go.Proofs.YtphhebdmfdjfeabGreatDoor.Pk

namespace Go.Proofs.YtphhebdmfdjfeabGreatDoor.Pk

/-! records -/
theorem rt_one {l x : List UInt8} {most : Int} {n : Nat} (h : rt l most = (x, n, 0)) : txt x = l.take n ∧ n ≤ l.length ∧ (x.length : Int) ≤ most := by
  unfold rt at h
  split at h
  · rename_i he; injection h with _ h; injection h with _ h; exact absurd h he
  rename_i he
  have he0 : (rd l).2.2 = 0 := Classical.byContradiction fun q => he q
  obtain ⟨g1, g2, g3, g4, g5⟩ := rd_good he0
  split at h
  · injection h with _ h; injection h with _ h; exact absurd h (by decide)
  rename_i hm
  split at h
  · injection h with _ h; injection h with _ h; exact absurd h (by decide)
  rename_i hl
  injection h with h1 h2
  injection h2 with h2 _
  have hx : x.length = (rd l).1 := by rw [← h1]; simp; omega
  refine ⟨?_, by omega, by omega⟩
  unfold txt
  rw [hx, g1, ← h1, ← h2, List.take_add]
/-- a record's body -/
def body (k q t : Nat) (s h d : List UInt8) : List UInt8 := UInt8.ofNat k :: (enc q ++ (enc t ++ (txt s ++ (txt h ++ txt d))))
def le4 (n : Nat) : List UInt8 := [UInt8.ofNat (n % 256), UInt8.ofNat (n / 256 % 256), UInt8.ofNat (n / 65536 % 256), UInt8.ofNat (n / 16777216 % 256)]
def num4 (l : List UInt8) : Nat := at' l 0 + 256 * at' l 1 + 65536 * at' l 2 + 16777216 * at' l 3
theorem num4_le4 {n : Nat} (h : n < 4294967296) (more : List UInt8) : num4 (le4 n ++ more) = n := by
  unfold num4 le4
  simp only [List.cons_append, at_zero, at_succ, List.nil_append]
  rw [u8_of (by omega), u8_of (by omega), u8_of (by omega), u8_of (by omega)]
  omega
theorem le4_num4 {l : List UInt8} (h : 4 ≤ l.length) : le4 (num4 l) = l.take 4 := by
  match l, h with
  | a :: b :: c :: d :: r, _ =>
    unfold num4 le4
    simp only [at_zero, at_succ]
    have ha := UInt8.toNat_lt a
    have hb := UInt8.toNat_lt b
    have hc := UInt8.toNat_lt c
    have hd := UInt8.toNat_lt d
    rw [show (a.toNat + 256 * b.toNat + 65536 * c.toNat + 16777216 * d.toNat) % 256 = a.toNat from by omega,
      show (a.toNat + 256 * b.toNat + 65536 * c.toNat + 16777216 * d.toNat) / 256 % 256 = b.toNat from by omega,
      show (a.toNat + 256 * b.toNat + 65536 * c.toNat + 16777216 * d.toNat) / 65536 % 256 = c.toNat from by omega,
      show (a.toNat + 256 * b.toNat + 65536 * c.toNat + 16777216 * d.toNat) / 16777216 % 256 = d.toNat from by omega]
    simp
/-- what stands behind a number, behind a text -/
def aftN (l : List UInt8) : List UInt8 := l.drop (rd l).2.1
def aftT (l : List UInt8) : List UInt8 := l.drop (rt l 1024).2.1
theorem split_N {l : List UInt8} (h : (rd l).2.2 = 0) : enc (rd l).1 ++ aftN l = l := by
  rw [(rd_good h).1]; exact List.take_append_drop _ _
theorem split_T {l : List UInt8} (h : (rt l 1024).2.2 = 0) : txt (rt l 1024).1 ++ aftT l = l ∧ (rt l 1024).1.length ≤ 1024 := by
  have := rt_one (l := l) (most := 1024) (x := (rt l 1024).1) (n := (rt l 1024).2.1) (by rw [← h])
  refine ⟨?_, by omega⟩
  rw [this.1]
  exact List.take_append_drop _ _
/-- are a body's parts right, and is nothing left behind them? -/
def partsOk (r0 : List UInt8) : Prop := (rd r0).2.2 = 0 ∧ (rd (aftN r0)).2.2 = 0 ∧ (rt (aftN (aftN r0)) 1024).2.2 = 0 ∧ (rt (aftT (aftN (aftN r0))) 1024).2.2 = 0 ∧ (rt (aftT (aftT (aftN (aftN r0)))) 1024).2.2 = 0 ∧ aftT (aftT (aftT (aftN (aftN r0)))) = []
theorem aftN_enc {n : Nat} (h : n < 9223372036854775808) (more : List UInt8) : aftN (enc n ++ more) = more := by
  unfold aftN; rw [rd_enc h]; simp
theorem rt_at {t : List UInt8} (h : t.length ≤ 1024) (more : List UInt8) : rt (txt t ++ more) 1024 = (t, (txt t).length, 0) := by
  have h0 : t.length < 9223372036854775808 := by omega
  unfold rt txt
  rw [List.append_assoc, rd_enc h0]
  simp only []
  rw [if_neg (by simp), if_neg (by omega), if_neg (by simp)]
  simp
theorem aftT_txt {x : List UInt8} (h : x.length ≤ 1024) (more : List UInt8) : aftT (txt x ++ more) = more := by
  unfold aftT; rw [rt_at h]; simp
theorem parts_body {q t : Nat} {s h d : List UInt8} (hq : q < 9223372036854775808) (ht : t < 9223372036854775808) (hs : s.length ≤ 1024) (hh : h.length ≤ 1024) (hd : d.length ≤ 1024) :
    partsOk (enc q ++ (enc t ++ (txt s ++ (txt h ++ txt d)))) := by
  have e5 : rt (txt d) 1024 = (d, (txt d).length, 0) := by have := rt_at hd []; rwa [List.append_nil] at this
  have e6 : aftT (txt d) = [] := by have := aftT_txt hd []; rwa [List.append_nil] at this
  unfold partsOk
  rw [aftN_enc hq, aftN_enc ht, aftT_txt hs, aftT_txt hh, rd_enc hq, rd_enc ht, rt_at hs, rt_at hh, e5, e6]
  exact ⟨rfl, rfl, rfl, rfl, rfl, rfl⟩
theorem parts_one {r0 : List UInt8} (h : partsOk r0) :
    enc (rd r0).1 ++ (enc (rd (aftN r0)).1 ++ (txt (rt (aftN (aftN r0)) 1024).1 ++ (txt (rt (aftT (aftN (aftN r0))) 1024).1 ++ txt (rt (aftT (aftT (aftN (aftN r0)))) 1024).1))) = r0 := by
  obtain ⟨h1, h2, h3, h4, h5, h6⟩ := h
  have s5 := (split_T h5).1
  rw [h6, List.append_nil] at s5
  rw [s5, (split_T h4).1, (split_T h3).1, split_N h2, split_N h1]
end Go.Proofs.YtphhebdmfdjfeabGreatDoor.Pk

namespace Go.Proofs.YtphhebdmfdjfeabGreatDoor.Pk

theorem xor_01 {a b : Nat} (ha : a < 2) (hb : b < 2) : a ^^^ b = (a + b) % 2 := by
  have h1 : a = 0 ∨ a = 1 := by omega
  have h2 : b = 0 ∨ b = 1 := by omega
  rcases h1 with rfl | rfl <;> rcases h2 with rfl | rfl <;> rfl
theorem bit_xor (a b q : Nat) : (a ^^^ b) / 2 ^ q % 2 = (a / 2 ^ q % 2 + b / 2 ^ q % 2) % 2 := by
  rw [← Nat.shiftRight_eq_div_pow, Nat.shiftRight_xor_distrib, xor_odd, Nat.shiftRight_eq_div_pow, Nat.shiftRight_eq_div_pow]
theorem bit_pow {p q : Nat} (hp : p < 8) (hq : q < 8) : 2 ^ p / 2 ^ q % 2 = if p = q then 1 else 0 := by
  have : ∀ p : Fin 8, ∀ q : Fin 8, 2 ^ p.val / 2 ^ q.val % 2 = if p.val = q.val then 1 else 0 := by decide
  exact this ⟨p, hp⟩ ⟨q, hq⟩
/-- a text of which one bit is turned -/
def flip (l : List UInt8) (j : Nat) : List UInt8 := l.set (j / 8) (UInt8.ofNat (at' l (j / 8) ^^^ 2 ^ (j % 8)))
theorem flip_byte (l : List UInt8) (j : Nat) : at' l (j / 8) ^^^ 2 ^ (j % 8) < 256 :=
  Nat.xor_lt_two_pow (n := 8) (at_lt l _) (Nat.lt_of_le_of_lt (Nat.pow_le_pow_right (by decide) (show j % 8 ≤ 7 by omega)) (by decide))
theorem flip_len (l : List UInt8) (j : Nat) : (flip l j).length = l.length := by simp [flip]
theorem flip_at {l : List UInt8} {j : Nat} (h : j / 8 < l.length) (k : Nat) : at' (flip l j) k = if k = j / 8 then at' l (j / 8) ^^^ 2 ^ (j % 8) else at' l k := by
  unfold flip
  by_cases hk : k = j / 8
  · subst hk
    rw [if_pos rfl]
    show ((l.set (j / 8) _)[j / 8]?.getD 0).toNat = _
    rw [List.getElem?_set_self h]
    exact u8_of (flip_byte l j)
  · rw [if_neg hk]
    unfold at'
    rw [List.getElem?_set_ne (by omega)]
theorem flip_bit {l : List UInt8} {j : Nat} (h : j / 8 < l.length) (i : Nat) : bitAt (flip l j) i = (bitAt l i + if i = j then 1 else 0) % 2 := by
  unfold bitAt
  rw [flip_at h]
  by_cases hk : i / 8 = j / 8
  · rw [if_pos hk, bit_xor, bit_pow (by omega) (by omega), hk]
    by_cases hp : j % 8 = i % 8
    · rw [if_pos hp, if_pos (by omega)]
    · rw [if_neg hp, if_neg (by omega)]
  · rw [if_neg hk, if_neg (by intro e; subst e; exact hk rfl)]
    omega
/-- the first i bits of the burst are turned -/
def Turned (l0 : List UInt8) (k turn i : Nat) (l : List UInt8) : Prop :=
  l.length = l0.length ∧ ∀ j, bitAt l0 j ^^^ bitAt l j = if k ≤ j ∧ j < k + i then turn / 2 ^ (j - k) % 2 else 0
theorem turned_none (l : List UInt8) (k turn : Nat) : Turned l k turn 0 l := ⟨rfl, fun j => by rw [Nat.xor_self, if_neg (by omega)]⟩
theorem turned_stay {l0 l : List UInt8} {k turn i : Nat} (h : Turned l0 k turn i l) (hb : turn / 2 ^ i % 2 = 0) : Turned l0 k turn (i + 1) l := by
  refine ⟨h.1, fun j => ?_⟩
  rw [h.2]
  by_cases h1 : k ≤ j ∧ j < k + i
  · rw [if_pos h1, if_pos (by omega)]
  · rw [if_neg h1]
    by_cases h2 : k ≤ j ∧ j < k + (i + 1)
    · rw [if_pos h2, show j - k = i from by omega, hb]
    · rw [if_neg h2]
theorem turned_flip {l0 l : List UInt8} {k turn i : Nat} (h : Turned l0 k turn i l) (hb : turn / 2 ^ i % 2 = 1) (hj : (k + i) / 8 < l.length) : Turned l0 k turn (i + 1) (flip l (k + i)) := by
  refine ⟨by rw [flip_len]; exact h.1, fun j => ?_⟩
  have e := h.2 j
  have b0 := bitAt_lt l0 j
  have b1 := bitAt_lt l j
  have b2 := bitAt_lt (flip l (k + i)) j
  rw [xor_01 b0 b1] at e
  rw [xor_01 b0 b2, flip_bit hj]
  by_cases h1 : j = k + i
  · subst h1
    rw [if_neg (by omega)] at e
    rw [if_pos rfl, if_pos (by omega), show k + i - k = i from by omega, hb]
    omega
  · rw [if_neg h1]
    by_cases h2 : k ≤ j ∧ j < k + i
    · rw [if_pos h2] at e
      rw [if_pos (by omega)]
      omega
    · rw [if_neg h2] at e
      rw [if_neg (by omega)]
      omega
theorem turned_sums {l0 l : List UInt8} {k turn : Nat} (h : Turned l0 k turn 32 l) (ht : turn < 4294967296) (h0 : turn ≠ 0) (hk : k + 32 ≤ 8 * l0.length) : crc l ≠ crc l0 := by
  have := burst (bitAt_lt l0) (bitAt_lt l) ht h0 h.2 hk
  have r0 := reg_lt (bitAt_lt l0) (8 * l0.length)
  have r1 := reg_lt (bitAt_lt l) (8 * l0.length)
  unfold crc
  rw [h.1]
  omega
theorem crc_check : crc [49, 50, 51, 52, 53, 54, 55, 56, 57] = 3421780262 := by decide +kernel
end Go.Proofs.YtphhebdmfdjfeabGreatDoor.Pk

namespace Go.Proofs.YtphhebdmfdjfeabGreatDoor.Pk

/-! how long a subject or a filter can be -/
theorem pcs_sum : ∀ l : List UInt8, ((Pl.pcs l).map fun p => p.length + 1).sum = l.length + 1
  | [] => rfl
  | c :: r => by
    have ih := pcs_sum r
    unfold Pl.pcs
    split
    · simp only [List.map_cons, List.sum_cons, ih, List.length_nil, List.length_cons]; omega
    · cases q : Pl.pcs r with
      | nil => exact absurd q (Pl.pcs_ne r)
      | cons a b =>
        rw [q] at ih
        simp only [List.map_cons, List.sum_cons] at ih
        simp only [List.modifyHead_cons, List.map_cons, List.sum_cons, List.length_cons]
        omega
theorem sum_le : ∀ ps : List (List UInt8), (∀ p ∈ ps, p.length ≤ 16) → (ps.map fun p => p.length + 1).sum ≤ 17 * ps.length
  | [], _ => by simp
  | a :: b, h => by
    have ih := sum_le b (fun p hp => h p (List.mem_cons_of_mem _ hp))
    have := h a (List.mem_cons_self ..)
    simp only [List.map_cons, List.sum_cons, List.length_cons]
    omega
theorem tok_len {wild last : Bool} {t : List UInt8} (h : Pl.tokOk wild last t = true) : t.length ≤ 16 := by
  unfold Pl.tokOk Pl.plainB at h
  simp only [Bool.or_eq_true, Bool.and_eq_true, decide_eq_true_eq, beq_iff_eq] at h
  rcases h with ⟨_, h, _⟩ | ⟨_, h | ⟨h, _⟩⟩
  · exact h
  · rw [h]; decide
  · rw [h]; decide
theorem name_len {wild : Bool} {l : List UInt8} (h : Pl.errOf wild (Pl.pcs l) = 0) : l.length ≤ 135 := by
  unfold Pl.errOf at h
  split at h
  · exact absurd h (by decide)
  rename_i h8
  split at h
  · rename_i hg
    have hs := pcs_sum l
    have := sum_le (Pl.pcs l) (fun p hp => by
      obtain ⟨i, hi, rfl⟩ := List.mem_iff_getElem.1 hp
      simp only [Pl.goodTo, List.all_eq_true, List.mem_range] at hg
      have := hg i hi
      rw [List.getElem?_eq_getElem hi] at this
      exact tok_len this)
    omega
  · exact absurd h (by decide)

/-! records -/
structure Rec where
  k : Int
  q : Int
  t : Int
  s : List UInt8
  h : List UInt8
  d : List UInt8
def none' : Rec := ⟨0, 0, 0, [], [], []⟩
/-- are kind, number and time in their bounds? -/
def inB (k q t : Int) : Bool := decide (1 ≤ k) && (decide (k ≤ 4) && (decide (1 ≤ q) && (decide (q ≤ 1099511627776) && (decide (0 ≤ t) && decide (t ≤ 1099511627776)))))
/-- what is wrong with a record -/
def chk (r : Rec) : Int :=
  if inB r.k r.q r.t = false then 1
  else if r.k = 1 then (if Pl.errOf false (Pl.pcs r.s) ≠ 0 then Pl.errOf false (Pl.pcs r.s) else if 256 < r.h.length + r.d.length then 2 else 0)
  else if r.k = 3 then (if Pl.errOf true (Pl.pcs r.s) ≠ 0 then Pl.errOf true (Pl.pcs r.s) else if r.h.length + r.d.length = 0 then 0 else 1)
  else if r.s.length + (r.h.length + r.d.length) = 0 then 0 else 1
theorem inB_iff {k q t : Int} : inB k q t = true ↔ 1 ≤ k ∧ k ≤ 4 ∧ 1 ≤ q ∧ q ≤ 1099511627776 ∧ 0 ≤ t ∧ t ≤ 1099511627776 := by
  unfold inB
  simp only [Bool.and_eq_true, decide_eq_true_eq]
theorem chk_len {r : Rec} (h : chk r = 0) : 1 ≤ r.k ∧ r.k ≤ 4 ∧ 1 ≤ r.q ∧ r.q ≤ 1099511627776 ∧ 0 ≤ r.t ∧ r.t ≤ 1099511627776 ∧ r.s.length ≤ 135 ∧ r.h.length + r.d.length ≤ 256 := by
  unfold chk at h
  split at h
  · exact absurd h (by decide)
  rename_i hb
  have hb2 := inB_iff.1 (by simpa using hb)
  refine ⟨hb2.1, hb2.2.1, hb2.2.2.1, hb2.2.2.2.1, hb2.2.2.2.2.1, hb2.2.2.2.2.2, ?_⟩
  split at h
  · split at h
    · rename_i hn; exact absurd h hn
    rename_i hn
    split at h
    · exact absurd h (by decide)
    exact ⟨name_len (Classical.byContradiction hn), by omega⟩
  split at h
  · split at h
    · rename_i hn; exact absurd h hn
    rename_i hn
    split at h
    · exact ⟨name_len (Classical.byContradiction hn), by omega⟩
    · exact absurd h (by decide)
  split at h
  · omega
  · exact absurd h (by decide)
/-- a record's body, a record's bytes -/
def bod (r : Rec) : List UInt8 := body r.k.toNat r.q.toNat r.t.toNat r.s r.h r.d
def cod (r : Rec) : List UInt8 := txt (bod r) ++ le4 (crc (bod r))
theorem le4_len (n : Nat) : (le4 n).length = 4 := rfl
theorem enc_few {n : Nat} (h : n ≤ 1099511627776) : (enc n).length ≤ 9 := enc_nine (by omega)
theorem bod_len {r : Rec} (h : chk r = 0) : 6 ≤ (bod r).length ∧ (bod r).length ≤ 1024 := by
  obtain ⟨_, _, _, h1, _, h2, h3, h4⟩ := chk_len h
  unfold bod body txt
  simp only [List.length_cons, List.length_append]
  have a1 := enc_pos r.q.toNat
  have a2 := enc_pos r.t.toNat
  have a3 := enc_pos r.s.length
  have a4 := enc_pos r.h.length
  have a5 := enc_pos r.d.length
  have b1 := enc_few (n := r.q.toNat) (by omega)
  have b2 := enc_few (n := r.t.toNat) (by omega)
  have b3 := enc_few (n := r.s.length) (by omega)
  have b4 := enc_few (n := r.h.length) (by omega)
  have b5 := enc_few (n := r.d.length) (by omega)
  omega
theorem crc_lt (l : List UInt8) : crc l < 4294967296 := by unfold crc; omega

/-- the parts of a body behind its first byte -/
def p1 (r0 : List UInt8) : List UInt8 := aftN r0
def p2 (r0 : List UInt8) : List UInt8 := aftN (aftN r0)
def p3 (r0 : List UInt8) : List UInt8 := aftT (aftN (aftN r0))
def p4 (r0 : List UInt8) : List UInt8 := aftT (aftT (aftN (aftN r0)))
def p5 (r0 : List UInt8) : List UInt8 := aftT (aftT (aftT (aftN (aftN r0))))
def okB (r0 : List UInt8) : Bool := decide ((rd r0).2.2 = 0) && (decide ((rd (p1 r0)).2.2 = 0) && (decide ((rt (p2 r0) 1024).2.2 = 0) && (decide ((rt (p3 r0) 1024).2.2 = 0) && (decide ((rt (p4 r0) 1024).2.2 = 0) && decide ((p5 r0).length = 0)))))
theorem okB_iff {r0 : List UInt8} : okB r0 = true ↔ partsOk r0 := by
  unfold okB partsOk p1 p2 p3 p4 p5
  simp only [Bool.and_eq_true, decide_eq_true_eq, List.length_eq_zero_iff]
def recOf (c : Nat) (r0 : List UInt8) : Rec := ⟨c, (rd r0).1, (rd (p1 r0)).1, (rt (p2 r0) 1024).1, (rt (p3 r0) 1024).1, (rt (p4 r0) 1024).1⟩
/-- the record at the front -/
def dec (l : List UInt8) : Rec × Nat × Int :=
  if (rt l 1024).2.2 ≠ 0 then (none', 0, (rt l 1024).2.2)
  else if l.length < (rt l 1024).2.1 + 4 then (none', 0, 6)
  else if (l.drop (rt l 1024).2.1).take 4 ≠ le4 (crc (rt l 1024).1) then (none', 0, 7)
  else if (rt l 1024).1.length = 0 then (none', 0, 7)
  else if okB ((rt l 1024).1.drop 1) = false then (none', 0, 7)
  else if chk (recOf (at' (rt l 1024).1 0) ((rt l 1024).1.drop 1)) ≠ 0 then (none', 0, 7)
  else (recOf (at' (rt l 1024).1 0) ((rt l 1024).1.drop 1), (rt l 1024).2.1 + 4, 0)

theorem recOf_bod {r : Rec} (h : chk r = 0) : recOf (at' (bod r) 0) ((bod r).drop 1) = r ∧ okB ((bod r).drop 1) = true := by
  obtain ⟨h1, h2, h3, h4, h5, h6, h7, h8⟩ := chk_len h
  have hq : r.q.toNat < 9223372036854775808 := by omega
  have ht : r.t.toNat < 9223372036854775808 := by omega
  have hs : r.s.length ≤ 1024 := by omega
  have hh : r.h.length ≤ 1024 := by omega
  have hd : r.d.length ≤ 1024 := by omega
  have e5 : rt (txt r.d) 1024 = (r.d, (txt r.d).length, 0) := by have := rt_at hd []; rwa [List.append_nil] at this
  have e : (bod r).drop 1 = enc r.q.toNat ++ (enc r.t.toNat ++ (txt r.s ++ (txt r.h ++ txt r.d))) := rfl
  have e0 : at' (bod r) 0 = r.k.toNat := by show (UInt8.ofNat r.k.toNat).toNat = _; exact u8_of (by omega)
  refine ⟨?_, by rw [okB_iff, e]; exact parts_body hq ht hs hh hd⟩
  rw [e, e0]
  unfold recOf p1 p2 p3 p4
  rw [aftN_enc hq, aftN_enc ht, aftT_txt hs, aftT_txt hh, rd_enc hq, rd_enc ht, rt_at hs, rt_at hh, e5]
  show Rec.mk ((r.k.toNat : Nat) : Int) ((r.q.toNat : Nat) : Int) ((r.t.toNat : Nat) : Int) r.s r.h r.d = r
  rw [Int.toNat_of_nonneg (by omega), Int.toNat_of_nonneg (by omega), Int.toNat_of_nonneg (by omega)]
theorem cod_len (r : Rec) : (cod r).length = (txt (bod r)).length + 4 := by unfold cod; rw [List.length_append, le4_len]
theorem dec_cod {r : Rec} (h : chk r = 0) (more : List UInt8) : dec (cod r ++ more) = (r, (cod r).length, 0) := by
  have hb := bod_len h
  have e : rt (cod r ++ more) 1024 = (bod r, (txt (bod r)).length, 0) := by unfold cod; rw [List.append_assoc]; exact rt_at hb.2 _
  have e2 : ((cod r ++ more).drop (txt (bod r)).length).take 4 = le4 (crc (bod r)) := by
    unfold cod; rw [List.append_assoc, List.drop_left]; rfl
  obtain ⟨g1, g2⟩ := recOf_bod h
  unfold dec
  rw [e]
  simp only []
  rw [if_neg (by simp), if_neg (by rw [List.length_append, cod_len]; omega), if_neg (by rw [e2]; simp), if_neg (by omega), g1, g2, if_neg (by simp), if_neg (by rw [h]; simp), cod_len]
theorem rt_front' {t : List UInt8} {i : Nat} (h : t.length ≤ 1024) (hi : i < (txt t).length) : (rt ((txt t).take i) 1024).2.2 = 6 := by
  have h0 : t.length < 9223372036854775808 := by omega
  unfold rt
  by_cases hl : i < (enc t.length).length
  · unfold txt
    rw [rd_front h0 hl]
    rfl
  · have e : (txt t).take i = enc t.length ++ t.take (i - (enc t.length).length) := by
      unfold txt
      rw [List.take_append, List.take_of_length_le (by omega)]
    have hi' := hi
    unfold txt at hi'
    rw [List.length_append] at hi'
    rw [e, rd_enc h0]
    simp only []
    rw [if_neg (by simp), if_neg (by omega), if_pos (by simp; omega)]
theorem dec_front {r : Rec} {i : Nat} (h : chk r = 0) (hi : i < (cod r).length) : (dec ((cod r).take i)).2.2 = 6 := by
  have hb := bod_len h
  by_cases hl : i < (txt (bod r)).length
  · have e : (cod r).take i = (txt (bod r)).take i := by
      unfold cod
      rw [List.take_append_of_le_length (by omega)]
    have e6 := rt_front' hb.2 hl
    unfold dec
    rw [e, e6, if_pos (by decide)]
    rfl
  · have e : (cod r).take i = txt (bod r) ++ (le4 (crc (bod r))).take (i - (txt (bod r)).length) := by
      unfold cod
      rw [List.take_append, List.take_of_length_le (by omega)]
    have hi' := hi
    rw [cod_len] at hi'
    unfold dec
    rw [e, rt_at hb.2]
    simp only []
    rw [if_neg (by simp), if_pos (by rw [← e, List.length_take]; omega)]
theorem dec_bad {l : List UInt8} (h : (dec l).2.2 ≠ 0) : (dec l).1 = none' ∧ (dec l).2.1 = 0 := by
  unfold dec at h ⊢
  split
  · exact ⟨rfl, rfl⟩
  rename_i h1
  rw [if_neg h1] at h
  split
  · exact ⟨rfl, rfl⟩
  rename_i h2
  rw [if_neg h2] at h
  split
  · exact ⟨rfl, rfl⟩
  rename_i h3
  rw [if_neg h3] at h
  split
  · exact ⟨rfl, rfl⟩
  rename_i h4
  rw [if_neg h4] at h
  split
  · exact ⟨rfl, rfl⟩
  rename_i h5
  rw [if_neg h5] at h
  split
  · exact ⟨rfl, rfl⟩
  rename_i h6
  rw [if_neg h6] at h
  exact absurd rfl h
theorem dec_one {l : List UInt8} (h : (dec l).2.2 = 0) : chk (dec l).1 = 0 ∧ cod (dec l).1 = l.take (dec l).2.1 ∧ (dec l).2.1 ≤ l.length := by
  unfold dec at h ⊢
  split
  · rename_i h1; rw [if_pos h1] at h; exact absurd (by simpa using h) h1
  rename_i h1
  rw [if_neg h1] at h
  split
  · rename_i h2; rw [if_pos h2] at h; exact absurd h (by decide)
  rename_i h2
  rw [if_neg h2] at h
  split
  · rename_i h3; rw [if_pos h3] at h; exact absurd h (by decide)
  rename_i h3
  rw [if_neg h3] at h
  split
  · rename_i h4; rw [if_pos h4] at h; exact absurd h (by decide)
  rename_i h4
  rw [if_neg h4] at h
  split
  · rename_i h5; rw [if_pos h5] at h; exact absurd h (by decide)
  rename_i h5
  rw [if_neg h5] at h
  split
  · rename_i h6; rw [if_pos h6] at h; exact absurd h (by decide)
  rename_i h6
  have hc := Classical.byContradiction h6
  refine ⟨hc, ?_, by show (rt l 1024).2.1 + 4 ≤ _; omega⟩
  have h10 : (rt l 1024).2.2 = 0 := Classical.byContradiction h1
  have ho := rt_one (l := l) (most := 1024) (x := (rt l 1024).1) (n := (rt l 1024).2.1) (by rw [← h10])
  have hp := parts_one (okB_iff.1 (Bool.not_eq_false _ |>.mp h5))
  have hbod : bod (recOf (at' (rt l 1024).1 0) ((rt l 1024).1.drop 1)) = (rt l 1024).1 := by
    obtain ⟨B, hB⟩ : ∃ B, (rt l 1024).1 = B := ⟨_, rfl⟩
    rw [hB] at hp h4 ⊢
    match B, h4 with
    | [], h4 => exact absurd rfl h4
    | c :: r, _ =>
      rw [show (c :: r).drop 1 = r from rfl] at hp
      rw [show (c :: r).drop 1 = r from rfl]
      unfold bod body recOf p1 p2 p3 p4
      simp only [Int.toNat_natCast, at_zero, UInt8.ofNat_toNat]
      rw [hp]
  show cod _ = l.take ((rt l 1024).2.1 + 4)
  unfold cod
  rw [hbod, ho.1, ← Classical.byContradiction h3, List.take_add]

/-! one turned bit -/
theorem one_bit {f g : Nat → Nat} (hf : ∀ j, f j < 2) (hg : ∀ j, g j < 2) {j : Nat} (h : ∀ i, f i ^^^ g i = if i = j then 1 else 0) {N : Nat} (hN : j < N) : reg f N ≠ reg g N := by
  have hpre : ∀ n, n ≤ j → reg f n ^^^ reg g n = 0 := by
    intro n
    induction n with
    | zero => intro _; simp [reg]
    | succ n ih =>
      intro hn
      rw [diff_step, ih (by omega), h, if_neg (by omega)]
      rfl
  have hend : ∀ n, reg f (j + 1 + n) ^^^ reg g (j + 1 + n) ≠ 0 := by
    intro n
    induction n with
    | zero =>
      rw [Nat.add_zero, diff_step, hpre j (Nat.le_refl _), h, if_pos rfl]
      decide
    | succ n ih =>
      intro e
      rw [← Nat.add_assoc, diff_step, h, if_neg (by omega), Nat.xor_zero] at e
      exact ih (Z_zero (Nat.xor_lt_two_pow (n := 32) (reg_lt hf _) (reg_lt hg _)) e)
  intro e
  have := hend (N - (j + 1))
  rw [show j + 1 + (N - (j + 1)) = N from by omega, e, Nat.xor_self] at this
  exact this rfl
theorem flip_sum {l : List UInt8} {j : Nat} (h : j < 8 * l.length) : crc (flip l j) ≠ crc l := by
  have := one_bit (f := bitAt l) (g := bitAt (flip l j)) (bitAt_lt l) (bitAt_lt _) (j := j) (fun i => by
    have b0 := bitAt_lt l i
    rw [xor_01 b0 (bitAt_lt _ _), flip_bit (by omega)]
    by_cases e : i = j
    · rw [if_pos e]; omega
    · rw [if_neg e]; omega) h
  have r0 := reg_lt (bitAt_lt l) (8 * l.length)
  have r1 := reg_lt (bitAt_lt (flip l j)) (8 * l.length)
  unfold crc
  rw [flip_len]
  omega
theorem flip_ne {l : List UInt8} {j : Nat} (h : j < 8 * l.length) : flip l j ≠ l := fun e => flip_sum h (by rw [e])
theorem flip_right {a b : List UInt8} {j : Nat} : flip (a ++ b) (8 * a.length + j) = a ++ flip b j := by
  unfold flip
  rw [show (8 * a.length + j) / 8 = a.length + j / 8 from by omega, show (8 * a.length + j) % 8 = j % 8 from by omega]
  have e : at' (a ++ b) (a.length + j / 8) = at' b (j / 8) := by
    unfold at'
    rw [List.getElem?_append_right (by omega), show a.length + j / 8 - a.length = j / 8 from by omega]
  rw [e, List.set_append_right _ _ (by omega), show a.length + j / 8 - a.length = j / 8 from by omega]
theorem flip_left {a b : List UInt8} {j : Nat} (h : j < 8 * a.length) : flip (a ++ b) j = flip a j ++ b := by
  unfold flip
  rw [at_append_left (by omega), List.set_append_left _ _ (by omega)]
theorem dec_sum {B S : List UInt8} (hb : B.length ≤ 1024) (hs : S.length = 4) (hne : S ≠ le4 (crc B)) : (dec (txt B ++ S)).2.2 = 7 := by
  unfold dec
  rw [rt_at hb]
  simp only []
  rw [if_neg (by simp), if_neg (by rw [List.length_append, hs]; omega), if_pos (by rw [List.drop_left, List.take_of_length_le (by omega)]; exact hne)]
theorem le4_inj {a b : Nat} (ha : a < 4294967296) (hb : b < 4294967296) (h : le4 a = le4 b) : a = b := by
  have h1 := num4_le4 ha []
  have h2 := num4_le4 hb []
  rw [h] at h1
  exact h1.symm.trans h2
theorem rd_cod {r : Rec} (h : chk r = 0) : rd (cod r) = ((bod r).length, (enc (bod r).length).length, 0) := by
  have hb := bod_len h
  unfold cod txt
  rw [List.append_assoc]
  exact rd_enc (by omega) _
theorem dec_turned {r : Rec} {i : Nat} (h : chk r = 0) (hi : i < 8 * ((cod r).length - (enc (bod r).length).length)) : (dec (flip (cod r) (8 * (enc (bod r).length).length + i))).2.2 = 7 := by
  have hb := bod_len h
  rw [cod_len] at hi
  have e : cod r = enc (bod r).length ++ (bod r ++ le4 (crc (bod r))) := by unfold cod txt; rw [List.append_assoc]
  have hl : (txt (bod r)).length = (enc (bod r).length).length + (bod r).length := by unfold txt; rw [List.length_append]
  rw [e, flip_right]
  by_cases hj : i < 8 * (bod r).length
  · rw [flip_left hj]
    have e2 : enc (bod r).length ++ (flip (bod r) i ++ le4 (crc (bod r))) = txt (flip (bod r) i) ++ le4 (crc (bod r)) := by
      unfold txt; rw [flip_len, List.append_assoc]
    rw [e2]
    refine dec_sum (by rw [flip_len]; exact hb.2) rfl (fun q => ?_)
    exact flip_sum hj (le4_inj (crc_lt _) (crc_lt _) q).symm
  · obtain ⟨m, rfl⟩ : ∃ m, i = 8 * (bod r).length + m := ⟨i - 8 * (bod r).length, by omega⟩
    rw [flip_right]
    have e2 : enc (bod r).length ++ (bod r ++ flip (le4 (crc (bod r))) m) = txt (bod r) ++ flip (le4 (crc (bod r))) m := by
      unfold txt; rw [List.append_assoc]
    rw [e2]
    exact dec_sum hb.2 (by rw [flip_len]; rfl) (flip_ne (by rw [le4_len]; omega))
end Go.Proofs.YtphhebdmfdjfeabGreatDoor.Pk

namespace Go.Proofs.YtphhebdmfdjfeabGreatDoor.Dk
open Go.RowKit

/-- a file of the document's disk -/
structure Pap where
  n : Int
  sure : Int
  text : ByteArray
def pa (l : List Pap) (k : Nat) : Pap := l[k]?.getD ⟨0, 0, ByteArray.empty⟩
theorem pa_get {l : List Pap} {k : Nat} (h : k < l.length) : pa l k = l[k] := by unfold pa; rw [List.getElem?_eq_getElem h]; rfl
theorem pa_mem {l : List Pap} {k : Nat} (h : k < l.length) : pa l k ∈ l := by rw [pa_get h]; exact List.getElem_mem h
theorem pa_zero (e : Pap) (r : List Pap) : pa (e :: r) 0 = e := rfl
theorem pa_succ (e : Pap) (r : List Pap) (k : Nat) : pa (e :: r) (k + 1) = pa r k := rfl
/-- which blocks may have been written; new ones may be there -/
structure Chg (A : Nat → Prop) (w w' : World) : Prop where
  os : w'.os = w.os
  tape : w'.tape = w.tape
  output : w'.output = w.output
  size : w.heap.size ≤ w'.heap.size
  block : ∀ k, k < w.heap.size → ¬ A k → w'.heap[k]? = w.heap[k]?
theorem Chg.refl (A : Nat → Prop) (w : World) : Chg A w w := ⟨rfl, rfl, rfl, Nat.le_refl _, fun _ _ _ => rfl⟩
theorem Chg.trans {A : Nat → Prop} {a b c : World} (h : Chg A a b) (k : Chg A b c) : Chg A a c :=
  ⟨k.os.trans h.os, k.tape.trans h.tape, k.output.trans h.output, Nat.le_trans h.size k.size, fun i hi hn => (k.block i (by have := h.size; omega) hn).trans (h.block i hi hn)⟩
theorem Chg.mono {A A' : Nat → Prop} {a b : World} (h : Chg A a b) (hA : ∀ k, k < a.heap.size → A k → A' k) : Chg A' a b :=
  ⟨h.os, h.tape, h.output, h.size, fun k hk hn => h.block k hk (fun q => hn (hA k hk q))⟩
theorem Chg.of_below {A : Nat → Prop} {w w' : World} (h : Below w.heap.size w w') : Chg A w w' := ⟨h.os, h.tape, h.output, h.size, fun k hk _ => h.block k hk⟩
theorem Chg.of_grown {w w' : World} {row : Option Nat} (h : w.grownBy w' row) : Chg (fun k => row = some k) w w' := ⟨h.os, h.tape, h.output, h.size, fun k hk hn => h.block k hk (fun e => hn e.symm)⟩
theorem Chg.setCell {A : Nat → Prop} {a w : World} (h : Chg A a w) {p : Addr} (hp : A p.block ∨ a.heap.size ≤ p.block) (u : Value) : Chg A a (w.setCell p u) := by
  refine ⟨h.os, h.tape, h.output, by simpa [World.setCell] using h.size, fun k hk hn => ?_⟩
  rw [Below.heap_setCell _ _ _ _ (fun e => by subst e; rcases hp with q | q; exact hn q; omega)]
  exact h.block k hk hn
theorem Chg.below {A : Nat → Prop} {B : Nat} {w w' : World} (h : Chg A w w') (hB : B ≤ w.heap.size) (hA : ∀ k, k < B → ¬ A k) : Below B w w' := ⟨h.os, h.tape, h.output, h.size, fun k hk => h.block k (by omega) (hA k hk)⟩
theorem Chg.cell {A : Nat → Prop} {w w' : World} (h : Chg A w w') {p : Addr} (hp : p.block < w.heap.size) (hn : ¬ A p.block) : w'.cell? p = w.cell? p := World.cell?_of_block (w := w) (h.block p.block hp hn)
theorem Chg.frozen {A : Nat → Prop} {w w' : World} (h : Chg A w w') {p : Addr} (hp : p.block < w.heap.size) (hn : ¬ A p.block) : w'.frozen? p = w.frozen? p := World.frozen?_of_block (w := w) (h.block p.block hp hn)
def insL (es : List Pap) (i : Nat) (x : Pap) : List Pap := es.take i ++ x :: es.drop i
theorem insL_length {es : List Pap} {i : Nat} {x : Pap} (h : i ≤ es.length) : (insL es i x).length = es.length + 1 := by
  unfold insL; rw [List.length_append, List.length_cons, List.length_take, List.length_drop]; omega
/-- where a file is: behind all, if it isn't -/
def ix (es : List Pap) (n : Int) : Nat := es.findIdx (fun p => p.n == n)
theorem ix_le (es : List Pap) (n : Int) : ix es n ≤ es.length := List.findIdx_le_length
theorem ix_hit {es : List Pap} {n : Int} {i : Nat} (h : i < es.length) (hi : (pa es i).n = n) (hlo : ∀ k, k < i → ((pa es k).n == n) = false) : ix es n = i := by
  unfold ix
  rw [List.findIdx_eq h]
  refine ⟨by rw [← pa_get h]; simp [hi], fun j hj => ?_⟩
  have := hlo j hj
  rw [pa_get (by omega)] at this
  exact this
theorem ix_none {es : List Pap} {n : Int} (h : ∀ k, k < es.length → ((pa es k).n == n) = false) : ix es n = es.length := by
  unfold ix
  rw [List.findIdx_eq_length]
  intro x hx
  obtain ⟨k, hk, rfl⟩ := List.mem_iff_getElem.1 hx
  have := h k hk
  rw [pa_get hk] at this
  exact this
theorem ix_at {es : List Pap} {n : Int} (h : ix es n < es.length) : (pa es (ix es n)).n = n := by
  rw [pa_get h]
  have := List.findIdx_getElem (w := h)
  exact eq_of_beq this
def atI (es : List Pap) (n : Int) : Int := if ix es n < es.length then (ix es n : Int) else -1
theorem ret_eq {k : IntKind} {a b : Int} (h : b = a) : Ending.returned (.int k a) = .returned (.int k b) := by rw [h]
/-- the bytes of all files -/
def used : List Pap → Nat
  | [] => 0
  | e :: r => e.text.size + used r
theorem used_append (a b : List Pap) : used (a ++ b) = used a + used b := by
  induction a with
  | nil => simp [used]
  | cons e r ih => rw [List.cons_append, used, used, ih]; omega
theorem used_take {es : List Pap} {k : Nat} (h : k < es.length) : used (es.take (k + 1)) = used (es.take k) + (pa es k).text.size := by
  rw [List.take_succ_eq_append_getElem h, used_append, ← pa_get h]
  simp [used]
theorem used_le (es : List Pap) (k : Nat) : used (es.take k) ≤ used es := by
  have := used_append (es.take k) (es.drop k)
  rw [List.take_append_drop] at this
  omega
theorem atI_there {es : List Pap} {n : Int} (h : ix es n < es.length) : atI es n = (ix es n : Int) := by unfold atI; rw [if_pos h]
theorem atI_none {es : List Pap} {n : Int} (h : ¬ ix es n < es.length) : atI es n = -1 := by unfold atI; rw [if_neg h]
/-- what a reading answers -/
def readV (es : List Pap) (n : Int) : Value := if ix es n < es.length then .tuple #[.string (pa es (ix es n)).text, .int .i64 0] else .tuple #[.string ⟨#[]⟩, .int .i64 4]
/-- Sync -/
def syncL (es : List Pap) (n : Int) : List Pap := if ix es n < es.length then es.set (ix es n) { pa es (ix es n) with sure := ((pa es (ix es n)).text.size : Int) } else es
def hasE (es : List Pap) (n : Int) : Int := if ix es n < es.length then 0 else 4
def inI (n lo hi : Int) : Bool := decide (lo ≤ n) && decide (n ≤ hi)
/-- Cut -/
def cutP (e : Pap) (k : Nat) : Pap := ⟨e.n, (k : Int), e.text.extract 0 k⟩
def cutOk (es : List Pap) (n size : Int) : Bool := inI size 0 ((pa es (ix es n)).text.size : Int)
def cutL (es : List Pap) (n size : Int) : List Pap := if ix es n < es.length then (if cutOk es n size then es.set (ix es n) (cutP (pa es (ix es n)) size.toNat) else es) else es
def cutE (es : List Pap) (n size : Int) : Int := if ix es n < es.length then (if cutOk es n size then 0 else 1) else 4
def numL (es : List Pap) : List Int := es.map (·.n)
theorem numL_take {es : List Pap} {k : Nat} (h : k < es.length) : numL (es.take (k + 1)) = numL (es.take k) ++ [(pa es k).n] := by
  unfold numL
  rw [List.take_succ_eq_append_getElem h, List.map_append, ← pa_get h]
  rfl
theorem numL_len {es : List Pap} {k : Nat} (h : k ≤ es.length) : (numL (es.take k)).length = k := by
  unfold numL
  rw [List.length_map, List.length_take]
  omega
/-- how many numbers are below n at the front -/
def low (es : List Pap) (n : Int) : Nat := es.findIdx (fun p => !decide (p.n < n))
theorem low_le (es : List Pap) (n : Int) : low es n ≤ es.length := List.findIdx_le_length
theorem low_lt {es : List Pap} {n : Int} {k : Nat} (h : k < low es n) : (pa es k).n < n := by
  have hk : k < es.length := Nat.lt_of_lt_of_le h (low_le es n)
  have := List.not_of_lt_findIdx h
  rw [pa_get hk]
  simpa using this
theorem low_at {es : List Pap} {n : Int} (h : low es n < es.length) : ¬ (pa es (low es n)).n < n := by
  rw [pa_get h]
  have := List.findIdx_getElem (w := h)
  simp only [Bool.not_eq_true', decide_eq_false_iff_not] at this
  exact this
/-- Append -/
def addP (e : Pap) (s : ByteArray) : Pap := { e with text := e.text ++ s }
def full (es : List Pap) (m n : Int) (s : ByteArray) : Bool := decide (m < (s.size : Int) + (used es : Int)) || (!decide (ix es n < es.length) && decide (es.length = 20))
def appE (es : List Pap) (m n : Int) (s : ByteArray) : Int := if inI n 0 1099511627776 = false then 1 else if full es m n s then 8 else 0
def appL (es : List Pap) (m n : Int) (s : ByteArray) : List Pap :=
  if inI n 0 1099511627776 = false then es else if full es m n s then es
  else if ix es n < es.length then es.set (ix es n) (addP (pa es (ix es n)) s) else insL es (low es n) ⟨n, 0, s⟩
theorem app_bad {es : List Pap} {m n : Int} {s : ByteArray} (h : inI n 0 1099511627776 = false) : appE es m n s = 1 ∧ appL es m n s = es := by
  unfold appE appL; rw [if_pos h, if_pos h]; exact ⟨rfl, rfl⟩
theorem app_full {es : List Pap} {m n : Int} {s : ByteArray} (h : inI n 0 1099511627776 = true) (hf : full es m n s = true) : appE es m n s = 8 ∧ appL es m n s = es := by
  unfold appE appL; constructor <;> simp [h, hf]
theorem app_old {es : List Pap} {m n : Int} {s : ByteArray} (h : inI n 0 1099511627776 = true) (hf : full es m n s = false) (hi : ix es n < es.length) : appE es m n s = 0 ∧ appL es m n s = es.set (ix es n) (addP (pa es (ix es n)) s) := by
  unfold appE appL; constructor <;> simp [h, hf, hi]
theorem app_new {es : List Pap} {m n : Int} {s : ByteArray} (h : inI n 0 1099511627776 = true) (hf : full es m n s = false) (hi : ¬ ix es n < es.length) : appE es m n s = 0 ∧ appL es m n s = insL es (low es n) ⟨n, 0, s⟩ := by
  unfold appE appL; constructor <;> simp [h, hf, hi]
theorem full_not {es : List Pap} {m n : Int} {s : ByteArray} (h : full es m n s = false) (hh : ¬ ix es n < es.length) : ¬ m < (s.size : Int) + (used es : Int) ∧ es.length ≠ 20 := by
  unfold full at h
  rw [decide_eq_false hh] at h
  simpa using h
theorem Chg.more {A A' : Nat → Prop} {a b c : World} (h : Chg A a b) (k : Chg A' b c) (hA : ∀ i, i < a.heap.size → A' i → A i) : Chg A a c :=
  ⟨k.os.trans h.os, k.tape.trans h.tape, k.output.trans h.output, Nat.le_trans h.size k.size, fun i hi hn => (k.block i (by have := h.size; omega) (fun q => hn (hA i hi q))).trans (h.block i hi hn)⟩
theorem insL_at {es : List Pap} {k : Nat} (h : k ≤ es.length) (x : Pap) : pa (insL es k x) k = x := by
  unfold pa insL
  have hl : (es.take k).length = k := by rw [List.length_take]; omega
  rw [List.getElem?_append_right (by omega), hl, Nat.sub_self]
  simp
theorem insL_set {es : List Pap} {k : Nat} (h : k ≤ es.length) (x y : Pap) : (insL es k x).set k y = insL es k y := by
  unfold insL
  have hl : (es.take k).length = k := by rw [List.length_take]; omega
  rw [List.set_append_right _ _ (by omega), hl, Nat.sub_self]
  simp
theorem new_text {L : List Pap} {k : Nat} {n : Int} {s : ByteArray} (h : pa L k = ⟨n, 0, ByteArray.empty⟩) : ({ pa L k with text := (pa L k).text ++ s } : Pap) = ⟨n, 0, s⟩ := by rw [h]; simp
/-- Remove -/
def remL (es : List Pap) (n : Int) : List Pap := if ix es n < es.length then es.take (ix es n) ++ es.drop (ix es n + 1) else es
/-- where a text is cut by a stop -/
def stopAt (e : Pap) (keep : Int) : Nat := min e.text.size (e.sure.toNat + keep.toNat)
/-- a file behind a stop -/
def stopP (keep : Int) (e : Pap) : Pap := ⟨e.n, (stopAt e keep : Int), e.text.extract 0 (stopAt e keep)⟩
/-- what a stop needs of a file -/
def Sound (e : Pap) : Prop := 0 ≤ e.sure ∧ e.sure ≤ (e.text.size : Int) ∧ e.text.size ≤ 1000000
theorem stop_le (e : Pap) (keep : Int) : stopAt e keep ≤ e.text.size := Nat.min_le_left _ _
theorem ext_size (t : ByteArray) (c : Nat) (h : c ≤ t.size) : (t.extract 0 c).size = c := by simp; omega
def nth (l : List Int) (k : Nat) : Int := l[k]?.getD 0
/-- the numbers that a slice shows -/
def SlI (w : World) (a : Option Addr) (l : List Int) : Prop := ∀ k, k < l.length → ∃ b o, a = some ⟨b, o, none⟩ ∧ b < w.heap.size ∧ w.cell? ⟨b, o + k, none⟩ = some (.int .i64 (nth l k))
theorem SlI.below {w w' : World} {a : Option Addr} {l : List Int} (h : SlI w a l) (hb : Below w.heap.size w w') : SlI w' a l := by
  intro k hk
  obtain ⟨b, o, h1, h2, h3⟩ := h k hk
  exact ⟨b, o, h1, by have := hb.size; omega, by rw [hb.cell (p := ⟨b, o + k, none⟩) h2]; exact h3⟩
end Go.Proofs.YtphhebdmfdjfeabGreatDoor.Dk

namespace Go.Proofs.YtphhebdmfdjfeabGreatDoor.Dk
open Go.RowKit

/-- the file of a number -/
def fnd (es : List Pap) (n : Int) : Option Pap := es.find? (fun p => p.n == n)
theorem fnd_nil (n : Int) : fnd [] n = none := rfl
theorem fnd_cons (e : Pap) (r : List Pap) (n : Int) : fnd (e :: r) n = if e.n = n then some e else fnd r n := by
  unfold fnd
  rw [List.find?_cons]
  by_cases h : e.n = n
  · rw [if_pos h, beq_iff_eq.2 h]
  · rw [if_neg h, beq_eq_false_iff_ne.2 h]
theorem fnd_append (a b : List Pap) (n : Int) : fnd (a ++ b) n = (fnd a n).or (fnd b n) := List.find?_append
theorem fnd_none {l : List Pap} {n : Int} (h : ∀ e ∈ l, e.n ≠ n) : fnd l n = none := by
  unfold fnd
  rw [List.find?_eq_none]
  intro e he
  rw [beq_iff_eq]
  exact h e he
theorem fnd_mid {A B : List Pap} {x : Pap} (hA : ∀ e ∈ A, e.n ≠ x.n) (k : Int) : fnd (A ++ x :: B) k = if k = x.n then some x else fnd (A ++ B) k := by
  rw [fnd_append, fnd_append, fnd_cons]
  by_cases h : k = x.n
  · rw [if_pos h, if_pos h.symm, h, fnd_none hA]; rfl
  · rw [if_neg h, if_neg (fun q => h q.symm)]
theorem ix_cons (e : Pap) (r : List Pap) (n : Int) : ix (e :: r) n = if e.n = n then 0 else ix r n + 1 := by
  unfold ix
  rw [List.findIdx_cons]
  by_cases h : e.n = n
  · rw [if_pos h, beq_iff_eq.2 h]; rfl
  · rw [if_neg h, beq_eq_false_iff_ne.2 h]; rfl
theorem fnd_ix : ∀ (es : List Pap) (n : Int), fnd es n = if ix es n < es.length then some (pa es (ix es n)) else none
  | [], n => rfl
  | e :: r, n => by
    rw [fnd_cons, ix_cons]
    by_cases h : e.n = n
    · rw [if_pos h, if_pos h, if_pos (by simp)]; rfl
    · rw [if_neg h, if_neg h, fnd_ix r n, pa_succ]
      simp
theorem fnd_some {es : List Pap} {n : Int} (h : ix es n < es.length) : fnd es n = some (pa es (ix es n)) := by rw [fnd_ix, if_pos h]
theorem fnd_not {es : List Pap} {n : Int} (h : ¬ ix es n < es.length) : fnd es n = none := by rw [fnd_ix, if_neg h]
theorem fnd_is {es : List Pap} {n : Int} : ix es n < es.length ↔ (fnd es n).isSome = true := by
  rw [fnd_ix]
  by_cases h : ix es n < es.length
  · rw [if_pos h]; simp [h]
  · rw [if_neg h]; simp [h]
theorem fnd_mem {es : List Pap} {n : Int} {e : Pap} (h : fnd es n = some e) : e ∈ es ∧ e.n = n := ⟨List.mem_of_find?_eq_some h, by have := List.find?_some h; simpa using this⟩
theorem not_there {es : List Pap} {n : Int} (h : ¬ ix es n < es.length) : ∀ e ∈ es, e.n ≠ n := by
  have q := fnd_not h
  unfold fnd at q
  rw [List.find?_eq_none] at q
  intro e he
  have := q e he
  simpa using this
/-- the numbers rise -/
def Rise (es : List Pap) : Prop := es.Pairwise (fun a b => a.n < b.n)
theorem rise_num (es : List Pap) : Rise es ↔ (numL es).Pairwise (· < ·) := by unfold Rise numL; rw [List.pairwise_map]
theorem split_pa {es : List Pap} {i : Nat} (h : i < es.length) : es = es.take i ++ pa es i :: es.drop (i + 1) := by
  rw [pa_get h, ← List.drop_eq_getElem_cons h, List.take_append_drop]
theorem set_split {es : List Pap} {i : Nat} (h : i < es.length) (x : Pap) : es.set i x = es.take i ++ x :: es.drop (i + 1) := by
  rw [List.set_eq_take_append_cons_drop, if_pos h]
theorem rise_ahead {A B : List Pap} {y : Pap} (h : Rise (A ++ y :: B)) : ∀ e ∈ A, e.n ≠ y.n := by
  intro e he
  have := (List.pairwise_append.1 h).2.2 e he y (by simp)
  omega
theorem rise_behind {A B : List Pap} {y : Pap} (h : Rise (A ++ y :: B)) : ∀ e ∈ B, e.n ≠ y.n := by
  intro e he
  have := List.rel_of_pairwise_cons (List.pairwise_append.1 h).2.1 he
  omega
theorem numL_set {es : List Pap} {i : Nat} (h : i < es.length) {x : Pap} (hx : x.n = (pa es i).n) : numL (es.set i x) = numL es := by
  rw [set_split h]
  conv => rhs; rw [split_pa h]
  simp [numL, hx]
theorem used_cons (e : Pap) (r : List Pap) : used (e :: r) = used r + e.text.size := by simp [used]; omega
theorem used_set {es : List Pap} {i : Nat} (h : i < es.length) (x : Pap) : used (es.set i x) + (pa es i).text.size = used es + x.text.size := by
  rw [set_split h]
  conv => rhs; rw [split_pa h]
  rw [used_append, used_append, used_cons, used_cons]
  omega
theorem fnd_set {es : List Pap} {i : Nat} (hr : Rise es) (h : i < es.length) {x : Pap} (hx : x.n = (pa es i).n) (k : Int) : fnd (es.set i x) k = if k = x.n then some x else fnd es k := by
  have e := split_pa h
  have hA : ∀ e ∈ es.take i, e.n ≠ (pa es i).n := rise_ahead (by rw [← e]; exact hr)
  rw [set_split h, fnd_mid (fun e he => by rw [hx]; exact hA e he)]
  by_cases hk : k = x.n
  · rw [if_pos hk, if_pos hk]
  · rw [if_neg hk, if_neg hk]
    conv => rhs; rw [e]
    rw [fnd_mid hA, if_neg (by rw [← hx]; exact hk)]
theorem mem_take_pa {es : List Pap} {q : Nat} {e : Pap} (h : e ∈ es.take q) : ∃ j, j < q ∧ j < es.length ∧ e = pa es j := by
  obtain ⟨j, hj, rfl⟩ := List.getElem_of_mem h
  rw [List.length_take] at hj
  refine ⟨j, by omega, by omega, ?_⟩
  rw [List.getElem_take, pa_get (by omega)]
theorem mem_drop_pa {es : List Pap} {q : Nat} {e : Pap} (h : e ∈ es.drop q) : ∃ j, q ≤ j ∧ j < es.length ∧ e = pa es j := by
  obtain ⟨j, hj, rfl⟩ := List.getElem_of_mem h
  rw [List.length_drop] at hj
  refine ⟨q + j, by omega, by omega, ?_⟩
  rw [List.getElem_drop, pa_get (by omega)]
theorem rise_pa {es : List Pap} (h : Rise es) {i j : Nat} (hij : i < j) (hj : j < es.length) : (pa es i).n < (pa es j).n := by
  rw [pa_get (by omega), pa_get hj]
  exact List.pairwise_iff_getElem.1 h i j (by omega) hj hij
theorem rise_ins {es : List Pap} (h : Rise es) {x : Pap} (hn : ∀ e ∈ es, e.n ≠ x.n) : Rise (insL es (low es x.n) x) := by
  unfold insL Rise
  have hA : ∀ e ∈ es.take (low es x.n), e.n < x.n := fun e he => by
    obtain ⟨j, h1, h2, rfl⟩ := mem_take_pa he
    exact low_lt h1
  have hB : ∀ e ∈ es.drop (low es x.n), x.n < e.n := fun e he => by
    obtain ⟨j, h1, h2, rfl⟩ := mem_drop_pa he
    have q1 := low_at (es := es) (n := x.n) (by omega)
    have q2 := hn _ (pa_mem (l := es) (k := low es x.n) (by omega))
    rcases Nat.eq_or_lt_of_le h1 with z | z
    · rw [← z]; omega
    · have := rise_pa h z h2; omega
  have hp : (es.take (low es x.n) ++ es.drop (low es x.n)).Pairwise (fun a b => a.n < b.n) := by rw [List.take_append_drop]; exact h
  rw [List.pairwise_append] at hp ⊢
  refine ⟨hp.1, List.pairwise_cons.2 ⟨hB, hp.2.1⟩, fun a ha b hb => ?_⟩
  rcases List.mem_cons.1 hb with rfl | hb
  · exact hA a ha
  · exact hp.2.2 a ha b hb
theorem fnd_ins {es : List Pap} (q : Nat) {x : Pap} (hn : ∀ e ∈ es, e.n ≠ x.n) (k : Int) : fnd (insL es q x) k = if k = x.n then some x else fnd es k := by
  unfold insL
  rw [fnd_mid (fun e he => hn e (List.mem_of_mem_take he)), List.take_append_drop]
theorem used_ins {es : List Pap} (q : Nat) (x : Pap) : used (insL es q x) = used es + x.text.size := by
  unfold insL
  conv => rhs; rw [← List.take_append_drop q es]
  rw [used_append, used_append, used_cons]
  omega
theorem mem_ins {es : List Pap} {q : Nat} {x e : Pap} (h : e ∈ insL es q x) : e = x ∨ e ∈ es := by
  unfold insL at h
  rw [List.mem_append, List.mem_cons] at h
  rcases h with h | h | h
  · exact .inr (List.mem_of_mem_take h)
  · exact .inl h
  · exact .inr (List.mem_of_mem_drop h)
theorem fnd_del {es : List Pap} {i : Nat} (hr : Rise es) (h : i < es.length) (k : Int) : fnd (es.take i ++ es.drop (i + 1)) k = if k = (pa es i).n then none else fnd es k := by
  have e := split_pa h
  have hr' : Rise (es.take i ++ pa es i :: es.drop (i + 1)) := by rw [← e]; exact hr
  by_cases hk : k = (pa es i).n
  · rw [if_pos hk]
    refine fnd_none (fun e he => ?_)
    rw [hk]
    rcases List.mem_append.1 he with q | q
    · exact rise_ahead hr' e q
    · exact rise_behind hr' e q
  · rw [if_neg hk]
    conv => rhs; rw [e]
    rw [fnd_mid (rise_ahead hr'), if_neg hk]
theorem used_del {es : List Pap} {i : Nat} (h : i < es.length) : used (es.take i ++ es.drop (i + 1)) + (pa es i).text.size = used es := by
  conv => rhs; rw [split_pa h]
  rw [used_append, used_append, used_cons]
  omega
theorem sub_del (es : List Pap) (i : Nat) : (es.take i ++ es.drop (i + 1)).Sublist es := by
  conv => rhs; rw [← List.take_append_drop i es]
  refine List.Sublist.append (List.Sublist.refl _) ?_
  rw [← List.drop_drop]
  exact List.drop_sublist 1 _
theorem fnd_map (es : List Pap) (f : Pap → Pap) (hf : ∀ e, (f e).n = e.n) (k : Int) : fnd (es.map f) k = (fnd es k).map f := by
  induction es with
  | nil => rfl
  | cons e r ih =>
    rw [List.map_cons, fnd_cons, fnd_cons, hf, ih]
    by_cases h : e.n = k
    · rw [if_pos h, if_pos h]; rfl
    · rw [if_neg h, if_neg h]
end Go.Proofs.YtphhebdmfdjfeabGreatDoor.Dk

namespace Go.Proofs.YtphhebdmfdjfeabGreatDoor.Dk
open Go.RowKit

/-- a disk of the document, whatever was called -/
structure Tidy (m : Int) (es : List Pap) : Prop where
  rise : Rise es
  few : es.length ≤ 20
  fits : (used es : Int) ≤ m
  each : ∀ e ∈ es, inI e.n 0 1099511627776 = true ∧ 0 ≤ e.sure ∧ e.sure ≤ (e.text.size : Int)
theorem Tidy.nil {m : Int} (h : 0 ≤ m) : Tidy m [] := ⟨List.Pairwise.nil, by simp, by simpa [used] using h, fun e he => by simp at he⟩
theorem used_mem {es : List Pap} {e : Pap} (h : e ∈ es) : e.text.size ≤ used es := by
  induction es with
  | nil => simp at h
  | cons x r ih =>
    rw [used_cons]
    rcases List.mem_cons.1 h with rfl | h
    · omega
    · have := ih h; omega
theorem Tidy.sound {m : Int} {es : List Pap} (h : Tidy m es) (hm : m ≤ 1000000) : ∀ e ∈ es, Sound e := fun e he => ⟨(h.each e he).2.1, (h.each e he).2.2, by have := used_mem he; have := h.fits; omega⟩
theorem Tidy.set {m : Int} {es : List Pap} (h : Tidy m es) {i : Nat} (hi : i < es.length) {x : Pap} (hx : x.n = (pa es i).n) (hu : (used es : Int) + (x.text.size : Int) ≤ m + ((pa es i).text.size : Int)) (h0 : 0 ≤ x.sure) (h1 : x.sure ≤ (x.text.size : Int)) : Tidy m (es.set i x) := by
  refine ⟨?_, by rw [List.length_set]; exact h.few, ?_, ?_⟩
  · rw [rise_num, numL_set hi hx, ← rise_num]; exact h.rise
  · have := used_set hi x
    omega
  · intro e he
    rcases List.mem_or_eq_of_mem_set he with q | q
    · exact h.each e q
    · subst q
      refine ⟨?_, h0, h1⟩
      rw [hx]
      exact (h.each _ (pa_mem hi)).1
/-- Append -/
def appP (o : Option Pap) (n : Int) (s : ByteArray) : Pap := match o with
  | some e => addP e s
  | none => ⟨n, 0, s⟩
theorem full_fits {es : List Pap} {m n : Int} {s : ByteArray} (h : full es m n s = false) : (s.size : Int) + (used es : Int) ≤ m := by
  unfold full at h
  simp only [Bool.or_eq_false_iff, decide_eq_false_iff_not] at h
  omega
theorem app_ok {es : List Pap} {m n : Int} {s : ByteArray} : appE es m n s = 0 ↔ inI n 0 1099511627776 = true ∧ full es m n s = false := by
  cases hI : inI n 0 1099511627776 with
  | false => rw [(app_bad hI).1]; simp
  | true =>
    cases hf : full es m n s with
    | true => rw [(app_full hI hf).1]; simp
    | false =>
      by_cases hh : ix es n < es.length
      · rw [(app_old hI hf hh).1]; simp
      · rw [(app_new hI hf hh).1]; simp
theorem app_not {es : List Pap} {m n : Int} {s : ByteArray} (h : appE es m n s ≠ 0) : appL es m n s = es := by
  cases hI : inI n 0 1099511627776 with
  | false => exact (app_bad hI).2
  | true =>
    cases hf : full es m n s with
    | true => exact (app_full hI hf).2
    | false => exact absurd (app_ok.2 ⟨hI, hf⟩) h
theorem addP_size (e : Pap) (s : ByteArray) : (addP e s).text.size = e.text.size + s.size := by simp [addP]
theorem Tidy.app {m : Int} {es : List Pap} (h : Tidy m es) (n : Int) (s : ByteArray) : Tidy m (appL es m n s) := by
  by_cases he : appE es m n s = 0
  · obtain ⟨hI, hf⟩ := app_ok.1 he
    have hu := full_fits hf
    by_cases hh : ix es n < es.length
    · rw [(app_old hI hf hh).2]
      have hs := (h.each _ (pa_mem hh)).2
      have hz := addP_size (pa es (ix es n)) s
      exact h.set hh rfl (by omega) hs.1 (by have : (addP (pa es (ix es n)) s).sure = (pa es (ix es n)).sure := rfl; omega)
    · rw [(app_new hI hf hh).2]
      refine ⟨rise_ins (x := ⟨n, 0, s⟩) h.rise (not_there hh), ?_, ?_, ?_⟩
      · rw [insL_length (low_le _ _)]
        have := (full_not hf hh).2
        have := h.few
        omega
      · rw [used_ins]
        show ((used es + s.size : Nat) : Int) ≤ m
        omega
      · intro e q
        rcases mem_ins q with rfl | q
        · exact ⟨hI, by show (0 : Int) ≤ 0; omega, by show (0 : Int) ≤ (s.size : Int); omega⟩
        · exact h.each e q
  · rw [app_not he]; exact h
theorem fnd_app {m : Int} {es : List Pap} (h : Tidy m es) (n : Int) (s : ByteArray) (k : Int) : fnd (appL es m n s) k = if appE es m n s = 0 ∧ k = n then some (appP (fnd es n) n s) else fnd es k := by
  by_cases he : appE es m n s = 0
  · obtain ⟨hI, hf⟩ := app_ok.1 he
    by_cases hh : ix es n < es.length
    · rw [(app_old hI hf hh).2, fnd_set (x := addP (pa es (ix es n)) s) h.rise hh rfl, fnd_some hh]
      have : (addP (pa es (ix es n)) s).n = n := ix_at hh
      rw [this]
      simp [he, appP]
    · rw [(app_new hI hf hh).2, fnd_ins _ (x := ⟨n, 0, s⟩) (not_there hh), fnd_not hh]
      simp [he, appP]
  · rw [app_not he, if_neg (fun q => he q.1)]
/-- Cut -/
theorem cut_ok {es : List Pap} {n size : Int} : cutE es n size = 0 ↔ ix es n < es.length ∧ cutOk es n size = true := by
  unfold cutE
  by_cases h : ix es n < es.length
  · rw [if_pos h]
    cases cutOk es n size <;> simp [h]
  · rw [if_neg h]; simp [h]
theorem cut_is {es : List Pap} {n size : Int} (h : cutE es n size = 0) : cutL es n size = es.set (ix es n) (cutP (pa es (ix es n)) size.toNat) := by
  obtain ⟨h1, h2⟩ := cut_ok.1 h
  unfold cutL
  rw [if_pos h1, if_pos h2]
theorem cut_not {es : List Pap} {n size : Int} (h : cutE es n size ≠ 0) : cutL es n size = es := by
  unfold cutL
  by_cases h1 : ix es n < es.length
  · rw [if_pos h1]
    by_cases h2 : cutOk es n size = true
    · exact absurd (cut_ok.2 ⟨h1, h2⟩) h
    · rw [if_neg h2]
  · rw [if_neg h1]
theorem cutP_size {e : Pap} {k : Nat} (h : k ≤ e.text.size) : (cutP e k).text.size = k := ext_size _ _ h
theorem Tidy.cut {m : Int} {es : List Pap} (h : Tidy m es) (n size : Int) : Tidy m (cutL es n size) := by
  by_cases he : cutE es n size = 0
  · obtain ⟨h1, h2⟩ := cut_ok.1 he
    have hz : 0 ≤ size ∧ size ≤ ((pa es (ix es n)).text.size : Int) := by simpa [cutOk, inI] using h2
    have hq := cutP_size (e := pa es (ix es n)) (k := size.toNat) (by omega)
    have hf := h.fits
    rw [cut_is he]
    have hs : (cutP (pa es (ix es n)) size.toNat).sure = (size.toNat : Int) := rfl
    exact h.set h1 rfl (by omega) (by omega) (by omega)
  · rw [cut_not he]; exact h
theorem fnd_cut {m : Int} {es : List Pap} (h : Tidy m es) (n size : Int) (k : Int) : fnd (cutL es n size) k = if cutE es n size = 0 ∧ k = n then (fnd es n).map (cutP · size.toNat) else fnd es k := by
  by_cases he : cutE es n size = 0
  · obtain ⟨h1, h2⟩ := cut_ok.1 he
    rw [cut_is he, fnd_set (x := cutP (pa es (ix es n)) size.toNat) h.rise h1 rfl, fnd_some h1]
    have : (cutP (pa es (ix es n)) size.toNat).n = n := ix_at h1
    rw [this]
    simp [he]
  · rw [cut_not he, if_neg (fun q => he q.1)]
/-- Sync, Remove -/
theorem has_ok {es : List Pap} {n : Int} : hasE es n = 0 ↔ ix es n < es.length := by
  unfold hasE
  by_cases h : ix es n < es.length
  · rw [if_pos h]; simp [h]
  · rw [if_neg h]; simp [h]
def syncP (e : Pap) : Pap := { e with sure := (e.text.size : Int) }
theorem Tidy.sync {m : Int} {es : List Pap} (h : Tidy m es) (n : Int) : Tidy m (syncL es n) := by
  unfold syncL
  by_cases hh : ix es n < es.length
  · rw [if_pos hh]
    have hf := h.fits
    exact h.set hh rfl (by show (used es : Int) + ((pa es (ix es n)).text.size : Int) ≤ _; omega) (by show (0 : Int) ≤ ((pa es (ix es n)).text.size : Int); omega) (by show ((pa es (ix es n)).text.size : Int) ≤ ((pa es (ix es n)).text.size : Int); omega)
  · rw [if_neg hh]; exact h
theorem fnd_sync {m : Int} {es : List Pap} (h : Tidy m es) (n : Int) (k : Int) : fnd (syncL es n) k = if k = n then (fnd es n).map syncP else fnd es k := by
  unfold syncL
  by_cases hh : ix es n < es.length
  · rw [if_pos hh]
    show fnd (es.set (ix es n) (syncP (pa es (ix es n)))) k = _
    rw [fnd_set (x := syncP (pa es (ix es n))) h.rise hh rfl, fnd_some hh]
    have : (syncP (pa es (ix es n))).n = n := ix_at hh
    rw [this]
    rfl
  · rw [if_neg hh]
    by_cases hk : k = n
    · rw [if_pos hk, hk, fnd_not hh]; rfl
    · rw [if_neg hk]
theorem Tidy.rem {m : Int} {es : List Pap} (h : Tidy m es) (n : Int) : Tidy m (remL es n) := by
  unfold remL
  by_cases hh : ix es n < es.length
  · rw [if_pos hh]
    have hs := sub_del es (ix es n)
    refine ⟨List.Pairwise.sublist hs h.rise, ?_, ?_, fun e he => h.each e (hs.subset he)⟩
    · have := hs.length_le
      have := h.few
      omega
    · have := used_del hh
      have := h.fits
      omega
  · rw [if_neg hh]; exact h
theorem fnd_rem {m : Int} {es : List Pap} (h : Tidy m es) (n : Int) (k : Int) : fnd (remL es n) k = if k = n then none else fnd es k := by
  unfold remL
  by_cases hh : ix es n < es.length
  · rw [if_pos hh, fnd_del h.rise hh, ix_at hh]
  · rw [if_neg hh]
    by_cases hk : k = n
    · rw [if_pos hk, hk, fnd_not hh]
    · rw [if_neg hk]
/-- Crash -/
theorem stop_size (keep : Int) (e : Pap) : (stopP keep e).text.size = stopAt e keep := ext_size _ _ (stop_le e keep)
theorem used_stop (keep : Int) : ∀ es : List Pap, used (es.map (stopP keep)) ≤ used es
  | [] => by simp
  | e :: r => by
    rw [List.map_cons, used_cons, used_cons, stop_size]
    have := stop_le e keep
    have := used_stop keep r
    omega
theorem Tidy.stop {m : Int} {es : List Pap} (h : Tidy m es) (keep : Int) : Tidy m (es.map (stopP keep)) := by
  refine ⟨?_, by rw [List.length_map]; exact h.few, ?_, ?_⟩
  · unfold Rise
    rw [List.pairwise_map]
    exact h.rise
  · have := used_stop keep es
    have := h.fits
    omega
  · intro e he
    obtain ⟨x, hx, rfl⟩ := List.mem_map.1 he
    refine ⟨(h.each x hx).1, ?_, ?_⟩
    · show (0 : Int) ≤ (stopAt x keep : Int); omega
    · rw [stop_size]; show (stopAt x keep : Int) ≤ _; omega
theorem fnd_stop (es : List Pap) (keep : Int) (k : Int) : fnd (es.map (stopP keep)) k = (fnd es k).map (stopP keep) := fnd_map es (stopP keep) (fun _ => rfl) k
/-- List -/
theorem num_mem {es : List Pap} {k : Int} : k ∈ numL es ↔ (fnd es k).isSome = true := by
  unfold numL fnd
  rw [List.mem_map, List.find?_isSome]
  constructor
  · rintro ⟨e, he, rfl⟩; exact ⟨e, he, by simp⟩
  · rintro ⟨e, he, h⟩; exact ⟨e, he, by simpa using h⟩
theorem rise_same : ∀ (a b : List Int), a.Pairwise (· < ·) → b.Pairwise (· < ·) → (∀ k, k ∈ a ↔ k ∈ b) → a = b
  | [], [], _, _, _ => rfl
  | [], y :: b, _, _, h => absurd ((h y).2 (by simp)) (by simp)
  | x :: a, [], _, _, h => absurd ((h x).1 (by simp)) (by simp)
  | x :: a, y :: b, ha, hb, h => by
    have ha' := List.pairwise_cons.1 ha
    have hb' := List.pairwise_cons.1 hb
    have hxy : x = y := by
      rcases List.mem_cons.1 ((h x).1 (by simp)) with q | q
      · exact q
      · rcases List.mem_cons.1 ((h y).2 (by simp)) with p | p
        · exact p.symm
        · have := hb'.1 x q
          have := ha'.1 y p
          omega
    subst hxy
    have : a = b := rise_same a b ha'.2 hb'.2 (fun k => ⟨fun q => by
      rcases List.mem_cons.1 ((h k).1 (by simp [q])) with p | p
      · have := ha'.1 k q; omega
      · exact p, fun q => by
      rcases List.mem_cons.1 ((h k).2 (by simp [q])) with p | p
      · have := hb'.1 k q; omega
      · exact p⟩)
    rw [this]
theorem Tidy.list {m : Int} {es : List Pap} (h : Tidy m es) {l : List Int} (hl : l.Pairwise (· < ·)) (hm : ∀ k, k ∈ l ↔ (fnd es k).isSome = true) : l = numL es :=
  rise_same l _ hl ((rise_num es).1 h.rise) (fun k => by rw [hm, num_mem])
/-- Used, counted over the numbers in any order -/
def sizeAt (es : List Pap) (k : Int) : Nat := match fnd es k with
  | some e => e.text.size
  | none => 0
theorem used_sum : ∀ {es : List Pap}, Rise es → used es = ((numL es).map (sizeAt es)).sum
  | [], _ => by simp [used, numL]
  | e :: r, h => by
    have h' := List.pairwise_cons.1 h
    have ih := used_sum (es := r) h'.2
    have e1 : sizeAt (e :: r) e.n = e.text.size := by unfold sizeAt; rw [fnd_cons, if_pos rfl]
    have e2 : (numL r).map (sizeAt (e :: r)) = (numL r).map (sizeAt r) := by
      refine List.map_congr_left (fun k hk => ?_)
      have : e.n ≠ k := by
        obtain ⟨x, hx, rfl⟩ := List.mem_map.1 hk
        have := h'.1 x hx
        omega
      unfold sizeAt
      rw [fnd_cons, if_neg this]
    show used (e :: r) = ((e.n :: numL r).map (sizeAt (e :: r))).sum
    rw [List.map_cons, List.sum_cons, e1, e2, used_cons, ih]
    omega
theorem Tidy.used {m : Int} {es : List Pap} (h : Tidy m es) {l : List Int} (hl : l.Perm (numL es)) : (l.map (sizeAt es)).sum = used es := by
  rw [used_sum h.rise]
  exact (hl.map _).sum_nat
end Go.Proofs.YtphhebdmfdjfeabGreatDoor.Dk

namespace Go.Proofs.YtphhebdmfdjfeabGreatDoor.Dk
open Go.RowKit

/-- a record -/
structure Rc where
  k : Int
  q : Int
  t : Int
  s : ByteArray
  h : ByteArray
  d : ByteArray
def Rc.pk (r : Rc) : Pk.Rec := ⟨r.k, r.q, r.t, r.s.data.toList, r.h.data.toList, r.d.data.toList⟩
def bt (l : List UInt8) : ByteArray := ⟨l.toArray⟩
theorem bt_list (l : List UInt8) : (bt l).data.toList = l := by simp [bt]
theorem bt_size (l : List UInt8) : (bt l).size = l.length := by simp [bt, ByteArray.size]
theorem bt_of (s : ByteArray) : bt s.data.toList = s := by apply ByteArray.ext; simp [bt]
def rcOf (r : Pk.Rec) : Rc := ⟨r.k, r.q, r.t, bt r.s, bt r.h, bt r.d⟩
theorem rcOf_pk (r : Pk.Rec) : (rcOf r).pk = r := by unfold rcOf Rc.pk; simp only [bt_list]
theorem pk_rcOf (r : Rc) : rcOf r.pk = r := by unfold rcOf Rc.pk; simp only [bt_of]
def rcV (r : Rc) : Value := .agg #[.int .i64 r.k, .int .i64 r.q, .int .i64 r.t, .string r.s, .string r.h, .string r.d]
theorem cod_pos (r : Pk.Rec) : 4 ≤ (Pk.cod r).length := by rw [Pk.cod_len]; omega
theorem dec_pos {l : List UInt8} (h : (Pk.dec l).2.2 = 0) : 1 ≤ (Pk.dec l).2.1 ∧ (Pk.dec l).2.1 ≤ l.length := by
  obtain ⟨_, h2, h3⟩ := Pk.dec_one h
  have := cod_pos (Pk.dec l).1
  rw [h2, List.length_take] at this
  omega
/-- the records at the front of a text, and where they end, if not at its end -/
def scan : Nat → List UInt8 → List Rc × Option Nat
  | 0, _ => ([], none)
  | f + 1, l => if l.length = 0 then ([], none) else if (Pk.dec l).2.2 = 0 then (rcOf (Pk.dec l).1 :: (scan f (l.drop (Pk.dec l).2.1)).1, (scan f (l.drop (Pk.dec l).2.1)).2.map (· + (Pk.dec l).2.1)) else ([], some 0)
theorem scan_nil (f : Nat) : scan f [] = ([], none) := by cases f <;> rfl
theorem scan_ok {f : Nat} {l : List UInt8} (h0 : l.length ≠ 0) (h : (Pk.dec l).2.2 = 0) : scan (f + 1) l = (rcOf (Pk.dec l).1 :: (scan f (l.drop (Pk.dec l).2.1)).1, (scan f (l.drop (Pk.dec l).2.1)).2.map (· + (Pk.dec l).2.1)) := by
  rw [scan, if_neg h0, if_pos h]
theorem scan_bad {f : Nat} {l : List UInt8} (h0 : l.length ≠ 0) (h : (Pk.dec l).2.2 ≠ 0) : scan (f + 1) l = ([], some 0) := by
  rw [scan, if_neg h0, if_neg h]
theorem scan_le : ∀ (f : Nat) (l : List UInt8) (k : Nat), (scan f l).2 = some k → k ≤ l.length
  | 0, _, _, h => by cases h
  | f + 1, l, k, h => by
    by_cases h0 : l.length = 0
    · rw [scan, if_pos h0] at h; cases h
    · by_cases hd : (Pk.dec l).2.2 = 0
      · rw [scan_ok h0 hd] at h
        cases hs : (scan f (l.drop (Pk.dec l).2.1)).2 with
        | none => rw [hs] at h; cases h
        | some j =>
          rw [hs] at h
          have := scan_le f _ j hs
          have := (dec_pos hd).2
          rw [List.length_drop] at *
          simp at h
          omega
      · rw [scan_bad h0 hd] at h
        cases h
        exact Nat.zero_le _
theorem scan_len : ∀ (f : Nat) (l : List UInt8), (scan f l).1.length ≤ l.length
  | 0, _ => Nat.zero_le _
  | f + 1, l => by
    by_cases h0 : l.length = 0
    · rw [scan, if_pos h0]; exact Nat.zero_le _
    · by_cases hd : (Pk.dec l).2.2 = 0
      · rw [scan_ok h0 hd, List.length_cons]
        have := scan_len f (l.drop (Pk.dec l).2.1)
        have := dec_pos hd
        rw [List.length_drop] at *
        omega
      · rw [scan_bad h0 hd]; exact Nat.zero_le _
/-- what was read of a text so far: rs, up to a place -/
def Read (l : List UInt8) (at' : Nat) (rs : List Rc) : Prop := ∃ f, l.length ≤ at' + f ∧ scan l.length l = (rs ++ (scan f (l.drop at')).1, (scan f (l.drop at')).2.map (· + at'))
theorem Read.start (l : List UInt8) : Read l 0 [] := ⟨l.length, by omega, by
  rw [List.drop_zero, List.nil_append]
  cases h : (scan l.length l).2 <;> simp [← h]⟩
theorem Read.done {l : List UInt8} {p : Nat} {rs : List Rc} (h : Read l p rs) (hp : ¬ p < l.length) : scan l.length l = (rs, none) := by
  obtain ⟨f, _, h⟩ := h
  rw [List.drop_eq_nil_of_le (by omega), scan_nil] at h
  simpa using h
theorem Read.step {l : List UInt8} {p : Nat} {rs : List Rc} (h : Read l p rs) (hp : p < l.length) (hd : (Pk.dec (l.drop p)).2.2 = 0) : Read l (p + (Pk.dec (l.drop p)).2.1) (rs ++ [rcOf (Pk.dec (l.drop p)).1]) := by
  obtain ⟨f, hf, h⟩ := h
  have h0 : (l.drop p).length ≠ 0 := by rw [List.length_drop]; omega
  have hpos := dec_pos hd
  cases f with
  | zero => omega
  | succ f =>
    rw [scan_ok h0 hd, List.drop_drop] at h
    refine ⟨f, by omega, ?_⟩
    rw [h, List.append_assoc, List.singleton_append]
    congr 1
    cases (scan f (l.drop (p + (Pk.dec (l.drop p)).2.1))).2 with
    | none => rfl
    | some j => simp; omega
theorem Read.bad {l : List UInt8} {p : Nat} {rs : List Rc} (h : Read l p rs) (hp : p < l.length) (hd : (Pk.dec (l.drop p)).2.2 ≠ 0) : scan l.length l = (rs, some p) := by
  obtain ⟨f, hf, h⟩ := h
  have h0 : (l.drop p).length ≠ 0 := by rw [List.length_drop]; omega
  cases f with
  | zero => omega
  | succ f =>
    rw [scan_bad h0 hd] at h
    simpa using h
theorem Read.len {l : List UInt8} {p : Nat} {rs : List Rc} (h : Read l p rs) : rs.length ≤ l.length := by
  obtain ⟨f, _, h⟩ := h
  have := scan_len l.length l
  rw [h, List.length_append] at this
  omega
def scanT (t : ByteArray) : List Rc × Option Nat := scan t.data.toList.length t.data.toList
/-- Open: the records that are told; what is left of the files -/
def openL : List Pap → List Rc × List Pap
  | [] => ([], [])
  | e :: r => match (scanT e.text).2 with
    | none => ((scanT e.text).1 ++ (openL r).1, e :: (openL r).2)
    | some k => ((scanT e.text).1, [cutP e k])
theorem openL_whole {e : Pap} {r : List Pap} {rs : List Rc} (h : scanT e.text = (rs, none)) : openL (e :: r) = (rs ++ (openL r).1, e :: (openL r).2) := by
  rw [openL, h]
theorem openL_cut {e : Pap} {r : List Pap} {rs : List Rc} {k : Nat} (h : scanT e.text = (rs, some k)) : openL (e :: r) = (rs, [cutP e k]) := by
  rw [openL, h]
/-- what was read of the files so far: acc, of the first i -/
def Reads (es : List Pap) (i : Nat) (acc : List Rc) : Prop := openL es = (acc ++ (openL (es.drop i)).1, es.take i ++ (openL (es.drop i)).2)
theorem Reads.start (es : List Pap) : Reads es 0 [] := by unfold Reads; simp
theorem drop_pa {es : List Pap} {i : Nat} (h : i < es.length) : es.drop i = pa es i :: es.drop (i + 1) := by rw [pa_get h, ← List.drop_eq_getElem_cons h]
theorem take_pa {es : List Pap} {i : Nat} (h : i < es.length) : es.take (i + 1) = es.take i ++ [pa es i] := by rw [List.take_succ_eq_append_getElem h, pa_get h]
theorem Reads.step {es : List Pap} {i : Nat} {acc rs : List Rc} (h : Reads es i acc) (hi : i < es.length) (hs : scanT (pa es i).text = (rs, none)) : Reads es (i + 1) (acc ++ rs) := by
  unfold Reads at h ⊢
  rw [h, drop_pa hi, openL_whole hs, take_pa hi]
  simp
theorem Reads.done {es : List Pap} {i : Nat} {acc : List Rc} (h : Reads es i acc) (hi : ¬ i < es.length) : openL es = (acc, es) := by
  unfold Reads at h
  rw [h, List.drop_eq_nil_of_le (by omega), List.take_of_length_le (by omega)]
  simp [openL]
theorem Reads.bad {es : List Pap} {i k : Nat} {acc rs : List Rc} (h : Reads es i acc) (hi : i < es.length) (hs : scanT (pa es i).text = (rs, some k)) : openL es = (acc ++ rs, es.take i ++ [cutP (pa es i) k]) := by
  unfold Reads at h
  rw [h, drop_pa hi, openL_cut hs]
theorem scanT_le {t : ByteArray} {k : Nat} (h : (scanT t).2 = some k) : k ≤ t.size := by
  have := scan_le _ _ _ h
  simpa using this
theorem scanT_len (t : ByteArray) : (scanT t).1.length ≤ t.size := by
  have := scan_len t.data.toList.length t.data.toList
  unfold scanT
  simpa using this
theorem openL_len : ∀ es : List Pap, (openL es).1.length ≤ used es
  | [] => Nat.zero_le _
  | e :: r => by
    have h1 := scanT_len e.text
    rw [used_cons]
    cases hs : scanT e.text with
    | mk rs o =>
      rw [hs] at h1
      cases o with
      | none =>
        rw [openL_whole hs, List.length_append]
        have := openL_len r
        simp only at h1
        omega
      | some k => rw [openL_cut hs]; simp only at h1 ⊢; omega
theorem openL_keeps : ∀ es : List Pap, (numL (openL es).2).Sublist (numL es) ∧ used (openL es).2 ≤ used es ∧ ∀ x ∈ (openL es).2, ∃ e ∈ es, x = e ∨ ∃ k, k ≤ e.text.size ∧ x = cutP e k
  | [] => ⟨by simp [openL, numL], by simp [openL], by simp [openL]⟩
  | e :: r => by
    cases hs : scanT e.text with
    | mk rs o =>
      cases o with
      | none =>
        rw [openL_whole hs]
        obtain ⟨h1, h2, h3⟩ := openL_keeps r
        refine ⟨?_, ?_, ?_⟩
        · show (e.n :: numL (openL r).2).Sublist (e.n :: numL r)
          exact h1.cons_cons _
        · rw [used_cons, used_cons]; omega
        · intro x hx
          rcases List.mem_cons.1 hx with rfl | hx
          · exact ⟨x, by simp, .inl rfl⟩
          · obtain ⟨y, hy, hq⟩ := h3 x hx
            exact ⟨y, by simp [hy], hq⟩
      | some k =>
        have hk : k ≤ e.text.size := scanT_le (by rw [hs])
        rw [openL_cut hs]
        refine ⟨?_, ?_, ?_⟩
        · show ([e.n] : List Int).Sublist (e.n :: numL r)
          exact (List.nil_sublist _).cons_cons _
        · rw [used_cons, used_cons, cutP_size hk]; simp [used]; omega
        · intro x hx
          have : x = cutP e k := by simpa using hx
          exact ⟨e, by simp, .inr ⟨k, hk, this⟩⟩
theorem Tidy.opened {m : Int} {es : List Pap} (h : Tidy m es) : Tidy m (openL es).2 := by
  obtain ⟨h1, h2, h3⟩ := openL_keeps es
  refine ⟨?_, ?_, ?_, ?_⟩
  · rw [rise_num]; exact List.Pairwise.sublist h1 ((rise_num es).1 h.rise)
  · have := h1.length_le
    simp only [numL, List.length_map] at this
    have := h.few
    omega
  · have := h.fits; omega
  · intro x hx
    obtain ⟨e, he, hq⟩ := h3 x hx
    have := h.each e he
    rcases hq with rfl | ⟨k, hk, rfl⟩
    · exact this
    · exact ⟨this.1, by show (0 : Int) ≤ (k : Int); omega, by rw [cutP_size hk]; show (k : Int) ≤ (k : Int); omega⟩
/-- the removing of the files behind one -/
theorem rem_mid {A B : List Pap} {x : Pap} (h : Rise (A ++ x :: B)) : remL (A ++ x :: B) x.n = A ++ B := by
  have hi : ix (A ++ x :: B) x.n = A.length := by
    have e : pa (A ++ x :: B) A.length = x := by unfold pa; simp
    refine ix_hit (by simp) (by rw [e]) (fun j hj => ?_)
    rw [beq_eq_false_iff_ne]
    have hm : pa (A ++ x :: B) j ∈ A := by
      have : pa (A ++ x :: B) j = A[j] := by unfold pa; rw [List.getElem?_append_left hj, List.getElem?_eq_getElem hj]; rfl
      rw [this]; exact List.getElem_mem hj
    exact rise_ahead h _ hm
  unfold remL
  rw [hi, if_pos (by simp)]
  simp

/-- what a record is written as -/
def codT (r : Rc) : ByteArray := bt (Pk.cod r.pk)
def chkR (r : Rc) : Int := Pk.chk r.pk
/-- Append: the answer; what becomes of the files -/
def lastP (es : List Pap) : Pap := pa es (es.length - 1)
def fills (es : List Pap) (size : Int) (s : ByteArray) : Bool := decide (0 < (lastP es).text.size) && decide (size < ((lastP es).text.size : Int) + (s.size : Int))
def logR (es : List Pap) (m size : Int) (r : Rc) : Int × List Pap :=
  if chkR r ≠ 0 then (chkR r, es)
  else if es.length = 0 then (appE es m 0 (codT r), appL es m 0 (codT r))
  else if fills es size (codT r) then (appE (syncL es (lastP es).n) m ((lastP es).n + 1) (codT r), appL (syncL es (lastP es).n) m ((lastP es).n + 1) (codT r))
  else (appE es m (lastP es).n (codT r), appL es m (lastP es).n (codT r))
theorem Tidy.logged {m : Int} {es : List Pap} (h : Tidy m es) (size : Int) (r : Rc) : Tidy m (logR es m size r).2 := by
  unfold logR
  split
  · exact h
  · split
    · exact h.app 0 (codT r)
    · split
      · exact (h.sync (lastP es).n).app ((lastP es).n + 1) (codT r)
      · exact h.app (lastP es).n (codT r)
/-- the program's Append: as that, but with an error nothing changes -/
def logP (es : List Pap) (m size : Int) (r : Rc) : Int × List Pap := if (logR es m size r).1 = 0 then logR es m size r else ((logR es m size r).1, es)
theorem logP_ok {es : List Pap} {m size : Int} {r : Rc} (h : (logR es m size r).1 = 0) : logP es m size r = logR es m size r := by unfold logP; rw [if_pos h]
theorem logP_not {es : List Pap} {m size : Int} {r : Rc} (h : (logR es m size r).1 ≠ 0) : logP es m size r = ((logR es m size r).1, es) := by unfold logP; rw [if_neg h]
theorem Tidy.logp {m : Int} {es : List Pap} (h : Tidy m es) (size : Int) (r : Rc) : Tidy m (logP es m size r).2 := by
  unfold logP
  split
  · exact h.logged size r
  · exact h
/-- Sync: of the last file -/
def lsyncL (es : List Pap) : List Pap := if es.length = 0 then es else syncL es (lastP es).n
theorem Tidy.lsync {m : Int} {es : List Pap} (h : Tidy m es) : Tidy m (lsyncL es) := by
  unfold lsyncL
  split
  · exact h
  · exact h.sync _
/-- Rewrite -/
def badOf : List Rc → Int
  | [] => 0
  | r :: l => if chkR r ≠ 0 then chkR r else badOf l
def catT : List Rc → ByteArray
  | [] => ByteArray.empty
  | r :: l => codT r ++ catT l
def nextN (es : List Pap) : Int := if es.length = 0 then 0 else (lastP es).n + 1
def rewR (es : List Pap) (m size : Int) (l : List Rc) : Int × List Pap :=
  if badOf l ≠ 0 then (badOf l, es)
  else if 1 < l.length ∧ size < ((catT l).size : Int) then (8, es)
  else if appE es m (nextN es) (catT l) ≠ 0 then (appE es m (nextN es) (catT l), es)
  else (0, [⟨nextN es, ((catT l).size : Int), catT l⟩])
theorem Tidy.rewritten {m : Int} {es : List Pap} (h : Tidy m es) (size : Int) (l : List Rc) : Tidy m (rewR es m size l).2 := by
  unfold rewR
  split
  · exact h
  · split
    · exact h
    · split
      · exact h
      · rename_i h0
        obtain ⟨hI, hf⟩ := app_ok.1 (Classical.byContradiction h0)
        have hu := full_fits hf
        refine ⟨List.pairwise_singleton _ _, by simp, ?_, ?_⟩
        · simp only [Dk.used]; omega
        · intro e he
          have : e = ⟨nextN es, ((catT l).size : Int), catT l⟩ := by simpa using he
          subst this
          exact ⟨hI, by show (0 : Int) ≤ ((catT l).size : Int); omega, by show ((catT l).size : Int) ≤ ((catT l).size : Int); omega⟩
end Go.Proofs.YtphhebdmfdjfeabGreatDoor.Dk

namespace Go.Proofs.YtphhebdmfdjfeabGreatDoor.Dk
open Go.RowKit

/-- texts that can be -/
structure Small (r : Rc) : Prop where
  s : r.s.size ≤ 140737488355328
  h : r.h.size ≤ 140737488355328
  d : r.d.size ≤ 140737488355328
theorem Small.of {r : Rc} (hc : chkR r = 0) : Small r := by
  obtain ⟨_, _, _, _, _, _, h1, h2⟩ := Pk.chk_len (r := r.pk) hc
  have e : ∀ x : ByteArray, x.data.toList.length = x.size := fun x => by simp
  simp only [Rc.pk, e] at h1 h2
  exact ⟨by omega, by omega, by omega⟩
theorem Small.dec {l : List UInt8} (h : (Pk.dec l).2.2 = 0) : Small (rcOf (Pk.dec l).1) := Small.of (by unfold chkR; rw [rcOf_pk]; exact (Pk.dec_one h).1)
theorem codT_size {r : Rc} (h : chkR r = 0) : (codT r).size ≤ 1100 := by
  unfold codT
  rw [bt_size, Pk.cod_len]
  have hb := (Pk.bod_len (r := r.pk) h).2
  unfold Pk.txt
  rw [List.length_append]
  have := Pk.enc_few (n := (Pk.bod r.pk).length) (by omega)
  omega
end Go.Proofs.YtphhebdmfdjfeabGreatDoor.Dk
