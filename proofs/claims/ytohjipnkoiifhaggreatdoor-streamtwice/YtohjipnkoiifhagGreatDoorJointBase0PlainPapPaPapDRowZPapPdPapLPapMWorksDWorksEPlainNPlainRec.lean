/-
  Small words of every walk: what is kept from the walk's sight, and equal answers.
  Plain facts on subjects and filters as lists of bytes: pieces between dots, what a token is, the errors. No program.
  Texts that are cut at a byte, and glued; numbers in decimal and back. No program.
  The document's disk: what it is and what every call makes of it; which blocks a call may have written. No walk, and nothing of the program's own.
  A text out of bytes; a place in a block. No walk.
  A text that is cut at a byte, as it grows at the end. No program.
  The document's disk as a map from numbers to files, and what every call keeps of it. No walk.
  What every call of the document's disk keeps, and what it does to the map from numbers to files. No walk.
  What is asked of the program's disk, whatever it is made of.
  What is asked of the program's disk beyond that: Cut and List.
  Plain mathematics of numbers in groups of seven bits, of texts behind their length, and of the sum (CRC-32): a number is read as it was written, what is read is written so, a burst of at most 32 bits is told. No program.
  Plain mathematics of records as bytes: a body out of its parts and the parts out of a body, a sum as four bytes. No program.
-/
import Derived.WalkKit
import Derived.Deep.OwnRows
import Derived.Lib.SplitLaws
import Derived.Lib.ItoaNum
import Derived.Test.YtohjipnkoiifhagGreatDoorRows
import Derived.WalkSpells
import Derived.WalkLawsBesides
import Derived.Deep.QuietTactic
import Derived.BigQuiet
import Derived.Laws.IdiomCopy
import Derived.Lib.Overlaps
import Derived.Lib.AppendZerosOnto
import Derived.Laws.NewBlocks
namespace Go.Proofs.YtohjipnkoiifhagGreatDoor
open Go.RowKit

theorem hide {p : Prop} (h : p) : Hid p := h
theorem unhide {p : Prop} (h : Hid p) : p := h
theorem ret_bool {a b : Bool} (h : (a = true) ↔ (b = true)) : Ending.returned (.bool a) = .returned (.bool b) := by
  rw [Bool.eq_iff_iff.2 h]
theorem ret_is {b c : Bool} (h : c = b) : Ending.returned (.bool b) = .returned (.bool c) := by rw [h]
theorem ret_int {k : IntKind} {a b : Int} (h : a = b) : Ending.returned (.int k a) = .returned (.int k b) := by rw [h]
theorem own_some {W : World} {base : Nat} {e : TypeId} {size : Nat} {v : Value} {k : Nat} {xs : List Value} (h : W.ownsRow base e size v (k + 1) xs) : ∃ g cap, v = .slice (some ⟨g, 0, none⟩) (k + 1) cap := by
  rcases h.2 with ⟨_, h⟩ | ⟨g, cap, cur, h, _⟩
  · omega
  · exact ⟨g, cap, h⟩
theorem one_new (w : World) (v : Value) (t : TypeId) : ∀ (j : Nat) u, [v][j]? = some u → (w.alloc (.cells #[v] t)).cell? ((⟨w.heap.size, 0, none⟩ : Addr).add j) = some u := by
  intro j u hj
  match j, hj with
  | 0, hj => simp at hj; subst hj; simp [Addr.add]
theorem bstep {w a b : World} (h : Below w.heap.size w a) (h2 : Below a.heap.size a b) : Below w.heap.size w b := h.trans (h2.mono h.size)
end Go.Proofs.YtohjipnkoiifhagGreatDoor

namespace Go.Proofs.YtohjipnkoiifhagGreatDoor.Pl
open Go

/-- a byte that a token may have -/
def tokB (c : UInt8) : Bool := decide (33 ≤ c.toNat) && (decide (c.toNat ≤ 126) && (decide (c.toNat ≠ 46) && (decide (c.toNat ≠ 42) && decide (c.toNat ≠ 62))))
def plainB (t : List UInt8) : Bool := decide (1 ≤ t.length) && (decide (t.length ≤ 16) && t.all tokB)
/-- the pieces of a text between dots -/
def pcs : List UInt8 → List (List UInt8)
  | [] => [[]]
  | c :: r => if c = 46 then [] :: pcs r else (pcs r).modifyHead (fun p => c :: p)
def tokOk (wild last : Bool) (t : List UInt8) : Bool := plainB t || (wild && (t == [42] || (t == [62] && last)))
def goodTo (wild : Bool) (ps : List (List UInt8)) (k : Nat) : Bool := (List.range k).all fun i => tokOk wild (decide (i + 1 = ps.length)) (ps[i]?.getD [])
def errOf (wild : Bool) (ps : List (List UInt8)) : Int := if 8 < ps.length then 2 else if goodTo wild ps ps.length then 0 else 3

theorem goodTo_succ (wild : Bool) (ps : List (List UInt8)) (k : Nat) : goodTo wild ps (k + 1) = (goodTo wild ps k && tokOk wild (decide (k + 1 = ps.length)) (ps[k]?.getD [])) := by
  simp [goodTo, List.range_succ, List.all_append]
theorem goodTo_zero (wild : Bool) (ps : List (List UInt8)) : goodTo wild ps 0 = true := rfl
theorem goodTo_le {wild : Bool} {ps : List (List UInt8)} {k n : Nat} (h : k ≤ n) (g : goodTo wild ps n = true) : goodTo wild ps k = true := by
  simp only [goodTo, List.all_eq_true, List.mem_range] at *
  exact fun i hi => g i (by omega)
theorem goodTo_bad {wild : Bool} {ps : List (List UInt8)} {k n : Nat} (h : k < n) (g : tokOk wild (decide (k + 1 = ps.length)) (ps[k]?.getD []) = false) : goodTo wild ps n = false := by
  cases e : goodTo wild ps n with
  | false => rfl
  | true =>
    have := goodTo_le (Nat.succ_le_of_lt h) e
    rw [Nat.succ_eq_add_one, goodTo_succ, g] at this
    simp at this
theorem errOf_large {wild : Bool} {ps : List (List UInt8)} (h : 8 < ps.length) : errOf wild ps = 2 := by simp [errOf, h]
theorem errOf_good {wild : Bool} {ps : List (List UInt8)} (h : ¬ 8 < ps.length) (g : goodTo wild ps ps.length = true) : errOf wild ps = 0 := by simp [errOf, h, g]
theorem errOf_bad {wild : Bool} {ps : List (List UInt8)} {k : Nat} (h : ¬ 8 < ps.length) (hk : k < ps.length) (g : tokOk wild (decide (k + 1 = ps.length)) (ps[k]?.getD []) = false) : errOf wild ps = 3 := by
  simp [errOf, h, goodTo_bad hk g]

theorem pcs_ne : ∀ l : List UInt8, pcs l ≠ []
  | [] => by simp [pcs]
  | c :: r => by
    unfold pcs
    split
    · simp
    · have := pcs_ne r
      cases e : pcs r with
      | nil => exact absurd e this
      | cons a b => simp
theorem pcs_length : ∀ l : List UInt8, (pcs l).length = l.count 46 + 1
  | [] => rfl
  | c :: r => by
    unfold pcs
    by_cases h : c = 46
    · subst h; simp [pcs_length r]
    · rw [if_neg h, List.length_modifyHead, pcs_length r, List.count_cons_of_ne h]
theorem pcs_none : ∀ {l : List UInt8}, l.count 46 = 0 → pcs l = [l]
  | [], _ => rfl
  | c :: r, h => by
    by_cases e : c = 46
    · subst e; simp at h
    · rw [List.count_cons_of_ne e] at h
      unfold pcs
      rw [if_neg e, pcs_none h]; rfl
theorem pcs_hit : ∀ (a : List UInt8) (b : List UInt8), a.count 46 = 0 → pcs (a ++ 46 :: b) = a :: pcs b
  | [], b, _ => by simp [pcs]
  | c :: r, b, h => by
    by_cases e : c = 46
    · subst e; simp at h
    · rw [List.count_cons_of_ne e] at h
      rw [List.cons_append, pcs, if_neg e, pcs_hit r b h]; rfl
theorem pcs_free : ∀ (l : List UInt8) (p : List UInt8), p ∈ pcs l → p.count 46 = 0
  | [], p, h => by simp [pcs] at h; subst h; rfl
  | c :: r, p, h => by
    unfold pcs at h
    by_cases e : c = 46
    · rw [if_pos e] at h
      rcases List.mem_cons.1 h with h | h
      · subst h; rfl
      · exact pcs_free r p h
    · rw [if_neg e] at h
      have ih := pcs_free r
      cases q : pcs r with
      | nil => rw [q] at h; simp at h
      | cons x y =>
        rw [q] at h ih
        simp only [List.modifyHead_cons, List.mem_cons] at h
        rcases h with h | h
        · subst h
          rw [List.count_cons_of_ne e]
          exact ih x (by simp)
        · exact ih p (by simp [h])

theorem pcs_short : ∀ (l : List UInt8) (p : List UInt8), p ∈ pcs l → p.length ≤ l.length
  | [], p, h => by simp [pcs] at h; subst h; simp
  | c :: r, p, h => by
    have ih := pcs_short r
    unfold pcs at h
    by_cases e : c = 46
    · rw [if_pos e] at h
      rcases List.mem_cons.1 h with h | h
      · subst h; simp
      · have := ih p h; simp; omega
    · rw [if_neg e] at h
      cases q : pcs r with
      | nil => rw [q] at h; simp at h
      | cons x y =>
        rw [q] at h ih
        simp only [List.modifyHead_cons, List.mem_cons] at h
        rcases h with h | h
        · subst h
          have := ih x (by simp)
          simp; omega
        · have := ih p (by simp [h])
          simp; omega
/-- the pieces grow at the end: a dot opens a new one -/
theorem pcs_snoc_dot : ∀ l : List UInt8, pcs (l ++ [46]) = pcs l ++ [[]]
  | [] => rfl
  | c :: r => by
    rw [List.cons_append]
    unfold pcs
    by_cases e : c = 46
    · rw [if_pos e, if_pos e, pcs_snoc_dot r]; rfl
    · rw [if_neg e, if_neg e, pcs_snoc_dot r]
      have := pcs_ne r
      cases q : pcs r with
      | nil => exact absurd q this
      | cons x y => rfl
/-- another byte joins the last one -/
theorem pcs_snoc : ∀ (l : List UInt8) (c : UInt8), c ≠ 46 → ∀ (i : List (List UInt8)) (t : List UInt8), pcs l = i ++ [t] → pcs (l ++ [c]) = i ++ [t ++ [c]]
  | [], c, h, i, t, e => by
    simp only [pcs] at e
    cases i with
    | nil => simp at e; subst e; simp [pcs, h]
    | cons a b => simp at e
  | d :: r, c, h, i, t, e => by
    rw [List.cons_append]
    unfold pcs at e ⊢
    by_cases q : d = 46
    · rw [if_pos q] at e ⊢
      cases i with
      | nil =>
        simp at e
        exact absurd e.2 (pcs_ne r)
      | cons a b =>
        simp only [List.cons_append, List.cons.injEq] at e ⊢
        exact ⟨e.1, pcs_snoc r c h b t e.2⟩
    · rw [if_neg q] at e ⊢
      have hr := pcs_ne r
      cases g : pcs r with
      | nil => exact absurd g hr
      | cons x y =>
        rw [g] at e
        simp only [List.modifyHead_cons] at e
        cases i with
        | nil =>
          simp only [List.nil_append, List.cons.injEq] at e
          obtain ⟨e1, e2⟩ := e
          subst e2
          rw [pcs_snoc r c h [] x (by rw [g]; rfl)]
          subst e1
          rfl
        | cons a b =>
          simp only [List.cons_append, List.cons.injEq] at e
          obtain ⟨e1, e2⟩ := e
          rw [pcs_snoc r c h (x :: b) t (by rw [g, e2]; rfl)]
          subst e1
          rfl

theorem index_one_none {l : List UInt8} (h : Lib.index l [46] = -1) : l.count 46 = 0 := by
  have := Lib.count_miss h
  rwa [Lib.count_one] at this
theorem index_one_hit {l : List UInt8} {i : Nat} (h : Lib.index l [46] = i) : (l.take i).count 46 = 0 ∧ l = l.take i ++ 46 :: l.drop (i + 1) := by
  rcases Lib.index_spec l [46] with ⟨e, _⟩ | ⟨j, e, hj, ho, hn⟩
  · omega
  · obtain rfl : i = j := by omega
    have hd : l[i]? = some 46 := Lib.occAt_head rfl ho
    have hl : i < l.length := by
      rcases Nat.lt_or_ge i l.length with h | h
      · exact h
      · rw [List.getElem?_eq_none h] at hd; cases hd
    refine ⟨?_, ?_⟩
    · rw [List.count_eq_zero]
      intro hm
      obtain ⟨k, hk, hk2⟩ := List.mem_iff_getElem.1 hm
      rw [List.length_take] at hk
      rw [List.getElem_take] at hk2
      have hf := hn k (by omega)
      have ht : Lib.occAt l [46] k = true := by
        unfold Lib.occAt
        rw [List.drop_eq_getElem_cons (by omega), hk2]
        simp [List.isPrefixOf]
      rw [ht] at hf
      cases hf
    · have : l[i] = 46 := by rw [List.getElem?_eq_getElem hl] at hd; exact Option.some.inj hd
      rw [← this, ← List.drop_eq_getElem_cons hl, List.take_append_drop]
theorem splitK_pcs : ∀ (k : Nat) (l : List UInt8), l.count 46 = k → Lib.splitK [46] 0 k l = pcs l
  | 0, l, h => by rw [pcs_none h]; rfl
  | k + 1, l, h => by
    unfold Lib.splitK
    split
    · rename_i e
      have := index_one_none (beq_iff_eq.1 e)
      omega
    · rename_i e
      have hge := Lib.index_ge l [46]
      have hne : Lib.index l [46] ≠ -1 := fun x => e (beq_iff_eq.2 x)
      obtain ⟨i, hi⟩ : ∃ i : Nat, Lib.index l [46] = i := ⟨(Lib.index l [46]).toNat, by omega⟩
      obtain ⟨h1, h2⟩ := index_one_hit hi
      have e1 : (Lib.index l [46]).toNat = i := by omega
      rw [e1]
      have hc : (l.drop (i + 1)).count 46 = k := by
        have := congrArg (List.count 46) h2
        rw [List.count_append, h1, List.count_cons_self] at this
        omega
      rw [show i + 0 = i from rfl, show ([46] : List UInt8).length = 1 from rfl, splitK_pcs k _ hc, ← pcs_hit _ _ h1, ← h2]

/-- the tokens, as the program cuts them -/
def toks (s : ByteArray) : List ByteArray := Lib.splitB ⟨#[46]⟩ 0 (Lib.countB s ⟨#[46]⟩) s
theorem toks_data (s : ByteArray) : (toks s).map (·.data.toList) = pcs s.data.toList := by
  unfold toks
  rw [Lib.splitB_data]
  show Lib.splitK [46] 0 (Lib.count s.data.toList [46]) s.data.toList = _
  rw [Lib.count_one]
  exact splitK_pcs _ _ rfl
theorem toks_length (s : ByteArray) : (toks s).length = (pcs s.data.toList).length := by rw [← toks_data, List.length_map]
theorem countB_dots (s : ByteArray) : Lib.countB s ⟨#[46]⟩ + 1 = (pcs s.data.toList).length := by
  rw [pcs_length]
  show Lib.count s.data.toList [46] + 1 = _
  rw [Lib.count_one]
theorem toks_at (s : ByteArray) (i : Nat) : ((pcs s.data.toList)[i]?).getD [] = ((toks s)[i]?.getD ByteArray.empty).data.toList := by
  rw [← toks_data, List.getElem?_map]
  cases (toks s)[i]? <;> rfl
end Go.Proofs.YtohjipnkoiifhagGreatDoor.Pl

namespace Go.Proofs.YtohjipnkoiifhagGreatDoor.Pn
open Go

/-- the pieces of a text between bytes b -/
def cut (b : UInt8) : List UInt8 → List (List UInt8)
  | [] => [[]]
  | c :: r => if c = b then [] :: cut b r else (cut b r).modifyHead (fun p => c :: p)
theorem cut_dot : ∀ l : List UInt8, cut 46 l = Pl.pcs l
  | [] => rfl
  | c :: r => by unfold cut Pl.pcs; rw [cut_dot r]
theorem cut_ne (b : UInt8) : ∀ l : List UInt8, cut b l ≠ []
  | [] => by simp [cut]
  | c :: r => by
    unfold cut
    split
    · simp
    · have := cut_ne b r
      cases e : cut b r with
      | nil => exact absurd e this
      | cons x y => simp
theorem cut_free (b : UInt8) : ∀ (l : List UInt8) (p : List UInt8), p ∈ cut b l → b ∉ p
  | [], p, h => by
    simp [cut] at h
    rw [h]; simp
  | c :: r, p, h => by
    unfold cut at h
    by_cases e : c = b
    · rw [if_pos e] at h
      rcases List.mem_cons.1 h with y | y
      · rw [y]; simp
      · exact cut_free b r p y
    · rw [if_neg e] at h
      cases hc : cut b r with
      | nil => exact absurd hc (cut_ne b r)
      | cons x xs =>
        rw [hc] at h
        simp only [List.modifyHead_cons] at h
        rcases List.mem_cons.1 h with y | y
        · rw [y]
          have hx := cut_free b r x (by rw [hc]; exact List.mem_cons_self ..)
          intro z
          rcases List.mem_cons.1 z with q | q
          · exact e q.symm
          · exact hx q
        · exact cut_free b r p (by rw [hc]; exact List.mem_cons_of_mem _ y)
/-- texts with b between -/
def glue (b : UInt8) : List (List UInt8) → List UInt8
  | [] => []
  | [t] => t
  | t :: u :: ts => t ++ b :: glue b (u :: ts)
theorem glue_cons (b : UInt8) (t : List UInt8) {ts : List (List UInt8)} (h : ts ≠ []) : glue b (t :: ts) = t ++ b :: glue b ts := by
  cases ts with
  | nil => exact absurd rfl h
  | cons u us => rfl
theorem glue_snoc (b : UInt8) : ∀ (ts : List (List UInt8)) (t : List UInt8), ts ≠ [] → glue b (ts ++ [t]) = glue b ts ++ b :: t
  | [], _, h => absurd rfl h
  | [x], t, _ => rfl
  | x :: y :: ts, t, _ => by
    have h1 := glue_snoc b (y :: ts) t (by simp)
    rw [List.cons_append, glue_cons b x (by simp), h1, glue_cons b x (by simp), List.append_assoc]
    rfl
theorem glue_cut (b : UInt8) : ∀ l : List UInt8, glue b (cut b l) = l
  | [] => rfl
  | c :: r => by
    have ih := glue_cut b r
    unfold cut
    by_cases e : c = b
    · rw [if_pos e, glue_cons b [] (cut_ne b r), ih, e]; rfl
    · rw [if_neg e]
      cases hc : cut b r with
      | nil => exact absurd hc (cut_ne b r)
      | cons x xs =>
        rw [hc] at ih
        rw [List.modifyHead_cons]
        cases xs with
        | nil => rw [← ih]; rfl
        | cons y ys =>
          rw [glue_cons b (c :: x) (List.cons_ne_nil y ys), ← ih, glue_cons b x (List.cons_ne_nil y ys)]
          rfl
theorem cut_front (b : UInt8) : ∀ (a l : List UInt8), b ∉ a → cut b (a ++ b :: l) = a :: cut b l
  | [], l, _ => by rw [List.nil_append, cut, if_pos rfl]
  | c :: a, l, h => by
    have hc : ¬ c = b := fun e => h (by rw [e]; exact List.mem_cons_self ..)
    rw [List.cons_append, cut, if_neg hc, cut_front b a l (fun z => h (List.mem_cons_of_mem _ z)), List.modifyHead_cons]
theorem cut_none (b : UInt8) : ∀ (a : List UInt8), b ∉ a → cut b a = [a]
  | [], _ => rfl
  | c :: a, h => by
    have hc : ¬ c = b := fun e => h (by rw [e]; exact List.mem_cons_self ..)
    rw [cut, if_neg hc, cut_none b a (fun z => h (List.mem_cons_of_mem _ z)), List.modifyHead_cons]
theorem cut_glue (b : UInt8) : ∀ (ts : List (List UInt8)), ts ≠ [] → (∀ t ∈ ts, b ∉ t) → cut b (glue b ts) = ts
  | [], h, _ => absurd rfl h
  | [t], _, h => cut_none b t (h t (List.mem_cons_self ..))
  | t :: u :: ts, _, h => by
    rw [glue_cons b t (by simp), cut_front b t _ (h t (List.mem_cons_self ..)), cut_glue b (u :: ts) (by simp) (fun x hx => h x (List.mem_cons_of_mem _ hx))]
theorem glue_len (b : UInt8) (M : Nat) : ∀ (ts : List (List UInt8)), (∀ t ∈ ts, t.length ≤ M) → (glue b ts).length ≤ ts.length * (M + 1)
  | [], _ => by simp [glue]
  | [t], h => by have := h t (List.mem_cons_self ..); simp [glue]; omega
  | t :: u :: ts, h => by
    have h1 := glue_len b M (u :: ts) (fun x hx => h x (List.mem_cons_of_mem _ hx))
    have h2 := h t (List.mem_cons_self ..)
    rw [glue_cons b t (by simp), List.length_append, List.length_cons]
    rw [List.length_cons (a := t), Nat.add_mul]
    omega
theorem glue_mem (b : UInt8) : ∀ (ts : List (List UInt8)) (c : UInt8), c ∈ glue b ts → c = b ∨ ∃ t ∈ ts, c ∈ t
  | [], c, h => by cases h
  | [t], c, h => .inr ⟨t, List.mem_cons_self .., h⟩
  | t :: u :: ts, c, h => by
    rw [glue_cons b t (by simp)] at h
    rcases List.mem_append.1 h with y | y
    · exact .inr ⟨t, List.mem_cons_self .., y⟩
    · rcases List.mem_cons.1 y with z | z
      · exact .inl z
      · rcases glue_mem b (u :: ts) c z with q | ⟨x, hx, hc⟩
        · exact .inl q
        · exact .inr ⟨x, List.mem_cons_of_mem _ hx, hc⟩

/-- a digit; a number of digits -/
def isDig (c : UInt8) : Bool := decide (48 ≤ c.toNat) && decide (c.toNat ≤ 57)
def val10 (l : List UInt8) : Nat := l.foldl (fun n c => n * 10 + (c.toNat - 48)) 0
theorem val10_snoc (l : List UInt8) (c : UInt8) : val10 (l ++ [c]) = val10 l * 10 + (c.toNat - 48) := by unfold val10; rw [List.foldl_append]; rfl
theorem dig_at {d : Nat} (h : d < 10) : (UInt8.ofNat (48 + d)).toNat = 48 + d := by rw [UInt8.toNat_ofNat']; omega
theorem isDig_at {d : Nat} (h : d < 10) : isDig (UInt8.ofNat (48 + d)) = true := by unfold isDig; rw [dig_at h]; simp; omega
theorem dec_ne (u : Nat) : Lib.decDigits u ≠ [] := by rw [Lib.decDigits]; split <;> simp
theorem dec_dig (u : Nat) : ∀ c ∈ Lib.decDigits u, isDig c = true := by
  induction u using Nat.strongRecOn with
  | _ u ih =>
    intro c hc
    rw [Lib.decDigits] at hc
    split at hc
    · rename_i h
      rw [List.mem_singleton.1 hc]; exact isDig_at h
    · rename_i h
      rcases List.mem_append.1 hc with y | y
      · exact ih (u / 10) (by omega) c y
      · rw [List.mem_singleton.1 y]; exact isDig_at (by omega)
theorem dec_val (u : Nat) : val10 (Lib.decDigits u) = u := by
  induction u using Nat.strongRecOn with
  | _ u ih =>
    rw [Lib.decDigits]
    split
    · rename_i h
      have := val10_snoc [] (UInt8.ofNat (48 + u))
      rw [List.nil_append, dig_at h] at this
      rw [this]; simp [val10]
    · rename_i h
      rw [val10_snoc, ih (u / 10) (by omega), dig_at (by omega)]; omega
theorem dec_head (u : Nat) (hu : 1 ≤ u) : (Lib.decDigits u).head? ≠ some 48 := by
  induction u using Nat.strongRecOn with
  | _ u ih =>
    rw [Lib.decDigits]
    split
    · rename_i h
      intro z
      simp only [List.head?_cons, Option.some.injEq] at z
      have := congrArg UInt8.toNat z
      rw [dig_at h] at this
      simp at this
      omega
    · rename_i h
      have hr := ih (u / 10) (by omega) (by omega)
      cases hd : Lib.decDigits (u / 10) with
      | nil => exact absurd hd (dec_ne _)
      | cons x xs =>
        rw [hd] at hr
        simpa using hr
theorem dec_len : ∀ (k u : Nat), u < 10 ^ (k + 1) → (Lib.decDigits u).length ≤ k + 1
  | 0, u, h => by
    have h' : u < 10 := by simpa using h
    rw [Lib.decDigits, dif_pos h']; simp
  | k + 1, u, h => by
    rw [Lib.decDigits]
    split
    · simp
    · have : u / 10 < 10 ^ (k + 1) := by rw [Nat.pow_succ] at h; omega
      have := dec_len k (u / 10) this
      rw [List.length_append]
      simp
      omega
theorem snoc_rec {P : List UInt8 → Prop} (h0 : P []) (h1 : ∀ a d, P a → P (a ++ [d])) (l : List UInt8) : P l := by
  have key : ∀ (n : Nat) (l : List UInt8), l.length = n → P l := by
    intro n
    induction n with
    | zero => intro l hl; rw [List.eq_nil_of_length_eq_zero hl]; exact h0
    | succ n ih =>
      intro l hl
      have hne : l ≠ [] := by intro z; rw [z] at hl; simp at hl
      rw [← List.dropLast_concat_getLast hne]
      exact h1 _ _ (ih _ (by simp [hl]))
  exact key _ l rfl
theorem val_pos : ∀ {l : List UInt8}, (∀ c ∈ l, isDig c = true) → l ≠ [] → l.head? ≠ some 48 → 1 ≤ val10 l := by
  refine fun {l} => snoc_rec (P := fun l => (∀ c ∈ l, isDig c = true) → l ≠ [] → l.head? ≠ some 48 → 1 ≤ val10 l) ?_ ?_ l
  · intro _ h; exact absurd rfl h
  · intro a d ih hd _ hh
    rw [val10_snoc]
    cases a with
    | nil =>
      simp only [List.nil_append, List.head?_cons, ne_eq, Option.some.injEq] at hh
      have h1 := hd d (by simp)
      unfold isDig at h1
      simp at h1
      have : d.toNat ≠ 48 := fun z => hh (UInt8.toNat_inj.1 (by simpa using z))
      omega
    | cons x xs =>
      have := ih (fun c hc => hd c (List.mem_append_left _ hc)) (by simp) (by simpa using hh)
      omega
theorem val_dec : ∀ {l : List UInt8}, (∀ c ∈ l, isDig c = true) → l ≠ [] → l.head? ≠ some 48 → Lib.decDigits (val10 l) = l := by
  refine fun {l} => snoc_rec (P := fun l => (∀ c ∈ l, isDig c = true) → l ≠ [] → l.head? ≠ some 48 → Lib.decDigits (val10 l) = l) ?_ ?_ l
  · intro _ h; exact absurd rfl h
  · intro a d ih hd _ hh
    have h1 := hd d (by simp)
    unfold isDig at h1
    simp at h1
    have hdd : ∀ n, n = d.toNat - 48 → UInt8.ofNat (48 + n) = d := fun n hn => UInt8.toNat_inj.1 (by rw [UInt8.toNat_ofNat', hn]; omega)
    rw [val10_snoc]
    cases a with
    | nil =>
      have e : val10 [] * 10 + (d.toNat - 48) = d.toNat - 48 := by simp [val10]
      rw [e, Lib.decDigits, dif_pos (by omega), hdd _ rfl]; rfl
    | cons x xs =>
      have ha : ∀ c ∈ x :: xs, isDig c = true := fun c hc => hd c (List.mem_append_left _ hc)
      have hh' : (x :: xs).head? ≠ some 48 := by simpa using hh
      have hp := val_pos ha (by simp) hh'
      rw [Lib.decDigits, dif_neg (by omega), show (val10 (x :: xs) * 10 + (d.toNat - 48)) / 10 = val10 (x :: xs) by omega, ih ha (by simp) hh', hdd _ (by omega)]
/-- Digits: a number without noughts ahead, of one to nine digits; -1: none -/
def digV (l : List UInt8) : Int := if (l.take 10).all isDig = true ∧ 1 ≤ l.length ∧ l.length ≤ 9 ∧ ¬ (l.head? = some 48 ∧ l ≠ [48]) then (val10 l : Int) else -1
theorem digV_dec {u : Nat} (h : 1 ≤ u) (h9 : u < 1000000000) : digV (Lib.decDigits u) = (u : Int) := by
  have hl := dec_len 8 u (by simpa using h9)
  have hn := dec_ne u
  unfold digV
  rw [if_pos, dec_val]
  refine ⟨?_, ?_, hl, fun z => dec_head u h z.1⟩
  · rw [List.all_eq_true]
    exact fun c hc => dec_dig u c (List.mem_of_mem_take hc)
  · cases hd : Lib.decDigits u with
    | nil => exact absurd hd hn
    | cons x xs => simp
theorem digV_back {l : List UInt8} (h : 1 ≤ digV l) : Lib.itoa (digV l) = l ∧ digV l < 1000000000 := by
  unfold digV at h ⊢
  split
  · rename_i hc
    rw [if_pos hc] at h
    obtain ⟨h1, h2, h3, h4⟩ := hc
    have hall : ∀ c ∈ l, isDig c = true := by
      rw [List.take_of_length_le (by omega), List.all_eq_true] at h1
      exact h1
    have hne : l ≠ [] := by intro z; rw [z] at h2; simp at h2
    have hh : l.head? ≠ some 48 := fun z => by
      have : l = [48] := Classical.byContradiction (fun y => h4 ⟨z, y⟩)
      rw [this] at h
      simp [val10] at h
    have hd := val_dec hall hne hh
    refine ⟨?_, ?_⟩
    · unfold Lib.itoa
      rw [if_neg (by omega)]
      simpa using hd
    · apply Classical.byContradiction
      intro z
      have hlen : ∀ (k v : Nat), 10 ^ k ≤ v → k + 1 ≤ (Lib.decDigits v).length := by
        intro k
        induction k with
        | zero => intro v _; cases hd : Lib.decDigits v with
          | nil => exact absurd hd (dec_ne v)
          | cons x xs => simp
        | succ k ih =>
          intro v hv
          rw [Nat.pow_succ] at hv
          have hp : 1 ≤ 10 ^ k := Nat.one_le_pow _ _ (by decide)
          rw [Lib.decDigits, dif_neg (by omega), List.length_append]
          have := ih (v / 10) (by omega)
          simp; omega
      have := hlen 9 (val10 l) (by simp; omega)
      rw [hd] at this
      omega
  · rename_i hc
    rw [if_neg hc] at h
    omega
end Go.Proofs.YtohjipnkoiifhagGreatDoor.Pn

namespace Go.Proofs.YtohjipnkoiifhagGreatDoor.Dk
open Go.RowKit

/-- a file of the document's disk -/
structure Pap where
  n : Int
  sure : Int
  text : ByteArray
def pa (l : List Pap) (k : Nat) : Pap := l[k]?.getD ⟨0, 0, ByteArray.empty⟩
theorem pa_get {l : List Pap} {k : Nat} (h : k < l.length) : pa l k = l[k] := by unfold pa; rw [List.getElem?_eq_getElem h]; rfl
theorem pa_mem {l : List Pap} {k : Nat} (h : k < l.length) : pa l k ∈ l := by rw [pa_get h]; exact List.getElem_mem h
theorem pa_zero (e : Pap) (r : List Pap) : pa (e :: r) 0 = e := rfl
theorem pa_succ (e : Pap) (r : List Pap) (k : Nat) : pa (e :: r) (k + 1) = pa r k := rfl
/-- which blocks may have been written; new ones may be there -/
structure Chg (A : Nat → Prop) (w w' : World) : Prop where
  os : w'.os = w.os
  tape : w'.tape = w.tape
  output : w'.output = w.output
  size : w.heap.size ≤ w'.heap.size
  block : ∀ k, k < w.heap.size → ¬ A k → w'.heap[k]? = w.heap[k]?
theorem Chg.refl (A : Nat → Prop) (w : World) : Chg A w w := ⟨rfl, rfl, rfl, Nat.le_refl _, fun _ _ _ => rfl⟩
theorem Chg.trans {A : Nat → Prop} {a b c : World} (h : Chg A a b) (k : Chg A b c) : Chg A a c :=
  ⟨k.os.trans h.os, k.tape.trans h.tape, k.output.trans h.output, Nat.le_trans h.size k.size, fun i hi hn => (k.block i (by have := h.size; omega) hn).trans (h.block i hi hn)⟩
theorem Chg.mono {A A' : Nat → Prop} {a b : World} (h : Chg A a b) (hA : ∀ k, k < a.heap.size → A k → A' k) : Chg A' a b :=
  ⟨h.os, h.tape, h.output, h.size, fun k hk hn => h.block k hk (fun q => hn (hA k hk q))⟩
theorem Chg.of_below {A : Nat → Prop} {w w' : World} (h : Below w.heap.size w w') : Chg A w w' := ⟨h.os, h.tape, h.output, h.size, fun k hk _ => h.block k hk⟩
theorem Chg.of_grown {w w' : World} {row : Option Nat} (h : w.grownBy w' row) : Chg (fun k => row = some k) w w' := ⟨h.os, h.tape, h.output, h.size, fun k hk hn => h.block k hk (fun e => hn e.symm)⟩
theorem Chg.setCell {A : Nat → Prop} {a w : World} (h : Chg A a w) {p : Addr} (hp : A p.block ∨ a.heap.size ≤ p.block) (u : Value) : Chg A a (w.setCell p u) := by
  refine ⟨h.os, h.tape, h.output, by simpa [World.setCell] using h.size, fun k hk hn => ?_⟩
  rw [Below.heap_setCell _ _ _ _ (fun e => by subst e; rcases hp with q | q; exact hn q; omega)]
  exact h.block k hk hn
theorem Chg.below {A : Nat → Prop} {B : Nat} {w w' : World} (h : Chg A w w') (hB : B ≤ w.heap.size) (hA : ∀ k, k < B → ¬ A k) : Below B w w' := ⟨h.os, h.tape, h.output, h.size, fun k hk => h.block k (by omega) (hA k hk)⟩
theorem Chg.cell {A : Nat → Prop} {w w' : World} (h : Chg A w w') {p : Addr} (hp : p.block < w.heap.size) (hn : ¬ A p.block) : w'.cell? p = w.cell? p := World.cell?_of_block (w := w) (h.block p.block hp hn)
theorem Chg.frozen {A : Nat → Prop} {w w' : World} (h : Chg A w w') {p : Addr} (hp : p.block < w.heap.size) (hn : ¬ A p.block) : w'.frozen? p = w.frozen? p := World.frozen?_of_block (w := w) (h.block p.block hp hn)
def insL (es : List Pap) (i : Nat) (x : Pap) : List Pap := es.take i ++ x :: es.drop i
theorem insL_length {es : List Pap} {i : Nat} {x : Pap} (h : i ≤ es.length) : (insL es i x).length = es.length + 1 := by
  unfold insL; rw [List.length_append, List.length_cons, List.length_take, List.length_drop]; omega
/-- where a file is: behind all, if it isn't -/
def ix (es : List Pap) (n : Int) : Nat := es.findIdx (fun p => p.n == n)
theorem ix_le (es : List Pap) (n : Int) : ix es n ≤ es.length := List.findIdx_le_length
theorem ix_hit {es : List Pap} {n : Int} {i : Nat} (h : i < es.length) (hi : (pa es i).n = n) (hlo : ∀ k, k < i → ((pa es k).n == n) = false) : ix es n = i := by
  unfold ix
  rw [List.findIdx_eq h]
  refine ⟨by rw [← pa_get h]; simp [hi], fun j hj => ?_⟩
  have := hlo j hj
  rw [pa_get (by omega)] at this
  exact this
theorem ix_none {es : List Pap} {n : Int} (h : ∀ k, k < es.length → ((pa es k).n == n) = false) : ix es n = es.length := by
  unfold ix
  rw [List.findIdx_eq_length]
  intro x hx
  obtain ⟨k, hk, rfl⟩ := List.mem_iff_getElem.1 hx
  have := h k hk
  rw [pa_get hk] at this
  exact this
theorem ix_at {es : List Pap} {n : Int} (h : ix es n < es.length) : (pa es (ix es n)).n = n := by
  rw [pa_get h]
  have := List.findIdx_getElem (w := h)
  exact eq_of_beq this
def atI (es : List Pap) (n : Int) : Int := if ix es n < es.length then (ix es n : Int) else -1
theorem ret_eq {k : IntKind} {a b : Int} (h : b = a) : Ending.returned (.int k a) = .returned (.int k b) := by rw [h]
/-- the bytes of all files -/
def used : List Pap → Nat
  | [] => 0
  | e :: r => e.text.size + used r
theorem used_append (a b : List Pap) : used (a ++ b) = used a + used b := by
  induction a with
  | nil => simp [used]
  | cons e r ih => rw [List.cons_append, used, used, ih]; omega
theorem used_take {es : List Pap} {k : Nat} (h : k < es.length) : used (es.take (k + 1)) = used (es.take k) + (pa es k).text.size := by
  rw [List.take_succ_eq_append_getElem h, used_append, ← pa_get h]
  simp [used]
theorem used_le (es : List Pap) (k : Nat) : used (es.take k) ≤ used es := by
  have := used_append (es.take k) (es.drop k)
  rw [List.take_append_drop] at this
  omega
theorem atI_there {es : List Pap} {n : Int} (h : ix es n < es.length) : atI es n = (ix es n : Int) := by unfold atI; rw [if_pos h]
theorem atI_none {es : List Pap} {n : Int} (h : ¬ ix es n < es.length) : atI es n = -1 := by unfold atI; rw [if_neg h]
/-- what a reading answers -/
def readV (es : List Pap) (n : Int) : Value := if ix es n < es.length then .tuple #[.string (pa es (ix es n)).text, .int .i64 0] else .tuple #[.string ⟨#[]⟩, .int .i64 4]
/-- Sync -/
def syncL (es : List Pap) (n : Int) : List Pap := if ix es n < es.length then es.set (ix es n) { pa es (ix es n) with sure := ((pa es (ix es n)).text.size : Int) } else es
def hasE (es : List Pap) (n : Int) : Int := if ix es n < es.length then 0 else 4
def inI (n lo hi : Int) : Bool := decide (lo ≤ n) && decide (n ≤ hi)
/-- Cut -/
def cutP (e : Pap) (k : Nat) : Pap := ⟨e.n, (k : Int), e.text.extract 0 k⟩
def cutOk (es : List Pap) (n size : Int) : Bool := inI size 0 ((pa es (ix es n)).text.size : Int)
def cutL (es : List Pap) (n size : Int) : List Pap := if ix es n < es.length then (if cutOk es n size then es.set (ix es n) (cutP (pa es (ix es n)) size.toNat) else es) else es
def cutE (es : List Pap) (n size : Int) : Int := if ix es n < es.length then (if cutOk es n size then 0 else 1) else 4
def numL (es : List Pap) : List Int := es.map (·.n)
theorem numL_take {es : List Pap} {k : Nat} (h : k < es.length) : numL (es.take (k + 1)) = numL (es.take k) ++ [(pa es k).n] := by
  unfold numL
  rw [List.take_succ_eq_append_getElem h, List.map_append, ← pa_get h]
  rfl
theorem numL_len {es : List Pap} {k : Nat} (h : k ≤ es.length) : (numL (es.take k)).length = k := by
  unfold numL
  rw [List.length_map, List.length_take]
  omega
/-- how many numbers are below n at the front -/
def low (es : List Pap) (n : Int) : Nat := es.findIdx (fun p => !decide (p.n < n))
theorem low_le (es : List Pap) (n : Int) : low es n ≤ es.length := List.findIdx_le_length
theorem low_lt {es : List Pap} {n : Int} {k : Nat} (h : k < low es n) : (pa es k).n < n := by
  have hk : k < es.length := Nat.lt_of_lt_of_le h (low_le es n)
  have := List.not_of_lt_findIdx h
  rw [pa_get hk]
  simpa using this
theorem low_at {es : List Pap} {n : Int} (h : low es n < es.length) : ¬ (pa es (low es n)).n < n := by
  rw [pa_get h]
  have := List.findIdx_getElem (w := h)
  simp only [Bool.not_eq_true', decide_eq_false_iff_not] at this
  exact this
/-- Append -/
def addP (e : Pap) (s : ByteArray) : Pap := { e with text := e.text ++ s }
def full (es : List Pap) (m n : Int) (s : ByteArray) : Bool := decide (m < (s.size : Int) + (used es : Int)) || (!decide (ix es n < es.length) && decide (es.length = 20))
def appE (es : List Pap) (m n : Int) (s : ByteArray) : Int := if inI n 0 1099511627776 = false then 1 else if full es m n s then 8 else 0
def appL (es : List Pap) (m n : Int) (s : ByteArray) : List Pap :=
  if inI n 0 1099511627776 = false then es else if full es m n s then es
  else if ix es n < es.length then es.set (ix es n) (addP (pa es (ix es n)) s) else insL es (low es n) ⟨n, 0, s⟩
theorem app_bad {es : List Pap} {m n : Int} {s : ByteArray} (h : inI n 0 1099511627776 = false) : appE es m n s = 1 ∧ appL es m n s = es := by
  unfold appE appL; rw [if_pos h, if_pos h]; exact ⟨rfl, rfl⟩
theorem app_full {es : List Pap} {m n : Int} {s : ByteArray} (h : inI n 0 1099511627776 = true) (hf : full es m n s = true) : appE es m n s = 8 ∧ appL es m n s = es := by
  unfold appE appL; constructor <;> simp [h, hf]
theorem app_old {es : List Pap} {m n : Int} {s : ByteArray} (h : inI n 0 1099511627776 = true) (hf : full es m n s = false) (hi : ix es n < es.length) : appE es m n s = 0 ∧ appL es m n s = es.set (ix es n) (addP (pa es (ix es n)) s) := by
  unfold appE appL; constructor <;> simp [h, hf, hi]
theorem app_new {es : List Pap} {m n : Int} {s : ByteArray} (h : inI n 0 1099511627776 = true) (hf : full es m n s = false) (hi : ¬ ix es n < es.length) : appE es m n s = 0 ∧ appL es m n s = insL es (low es n) ⟨n, 0, s⟩ := by
  unfold appE appL; constructor <;> simp [h, hf, hi]
theorem full_not {es : List Pap} {m n : Int} {s : ByteArray} (h : full es m n s = false) (hh : ¬ ix es n < es.length) : ¬ m < (s.size : Int) + (used es : Int) ∧ es.length ≠ 20 := by
  unfold full at h
  rw [decide_eq_false hh] at h
  simpa using h
theorem Chg.more {A A' : Nat → Prop} {a b c : World} (h : Chg A a b) (k : Chg A' b c) (hA : ∀ i, i < a.heap.size → A' i → A i) : Chg A a c :=
  ⟨k.os.trans h.os, k.tape.trans h.tape, k.output.trans h.output, Nat.le_trans h.size k.size, fun i hi hn => (k.block i (by have := h.size; omega) (fun q => hn (hA i hi q))).trans (h.block i hi hn)⟩
theorem insL_at {es : List Pap} {k : Nat} (h : k ≤ es.length) (x : Pap) : pa (insL es k x) k = x := by
  unfold pa insL
  have hl : (es.take k).length = k := by rw [List.length_take]; omega
  rw [List.getElem?_append_right (by omega), hl, Nat.sub_self]
  simp
theorem insL_set {es : List Pap} {k : Nat} (h : k ≤ es.length) (x y : Pap) : (insL es k x).set k y = insL es k y := by
  unfold insL
  have hl : (es.take k).length = k := by rw [List.length_take]; omega
  rw [List.set_append_right _ _ (by omega), hl, Nat.sub_self]
  simp
theorem new_text {L : List Pap} {k : Nat} {n : Int} {s : ByteArray} (h : pa L k = ⟨n, 0, ByteArray.empty⟩) : ({ pa L k with text := (pa L k).text ++ s } : Pap) = ⟨n, 0, s⟩ := by rw [h]; simp
/-- Remove -/
def remL (es : List Pap) (n : Int) : List Pap := if ix es n < es.length then es.take (ix es n) ++ es.drop (ix es n + 1) else es
/-- where a text is cut by a stop -/
def stopAt (e : Pap) (keep : Int) : Nat := min e.text.size (e.sure.toNat + keep.toNat)
/-- a file behind a stop -/
def stopP (keep : Int) (e : Pap) : Pap := ⟨e.n, (stopAt e keep : Int), e.text.extract 0 (stopAt e keep)⟩
/-- what a stop needs of a file -/
def Sound (e : Pap) : Prop := 0 ≤ e.sure ∧ e.sure ≤ (e.text.size : Int) ∧ e.text.size ≤ 1000000
theorem stop_le (e : Pap) (keep : Int) : stopAt e keep ≤ e.text.size := Nat.min_le_left _ _
theorem ext_size (t : ByteArray) (c : Nat) (h : c ≤ t.size) : (t.extract 0 c).size = c := by simp; omega
def nth (l : List Int) (k : Nat) : Int := l[k]?.getD 0
/-- the numbers that a slice shows -/
def SlI (w : World) (a : Option Addr) (l : List Int) : Prop := ∀ k, k < l.length → ∃ b o, a = some ⟨b, o, none⟩ ∧ b < w.heap.size ∧ w.cell? ⟨b, o + k, none⟩ = some (.int .i64 (nth l k))
theorem SlI.below {w w' : World} {a : Option Addr} {l : List Int} (h : SlI w a l) (hb : Below w.heap.size w w') : SlI w' a l := by
  intro k hk
  obtain ⟨b, o, h1, h2, h3⟩ := h k hk
  exact ⟨b, o, h1, by have := hb.size; omega, by rw [hb.cell (p := ⟨b, o + k, none⟩) h2]; exact h3⟩
end Go.Proofs.YtohjipnkoiifhagGreatDoor.Dk

namespace Go.Proofs.YtohjipnkoiifhagGreatDoor
open Go.RowKit

/-- a text out of bytes -/
def bs (l : List UInt8) : ByteArray := ⟨l.toArray⟩
theorem bs_list (l : List UInt8) : (bs l).data.toList = l := by simp [bs]
theorem bs_size (l : List UInt8) : (bs l).size = l.length := by simp [bs, ByteArray.size]
theorem addp (b o i : Nat) : (⟨b, o, none⟩ : Addr).add i = ⟨b, o + i, none⟩ := by unfold Addr.add; split <;> simp_all
end Go.Proofs.YtohjipnkoiifhagGreatDoor

namespace Go.Proofs.YtohjipnkoiifhagGreatDoor.Pn
open Go

theorem cut_length (b : UInt8) : ∀ l : List UInt8, (cut b l).length = l.count b + 1
  | [] => rfl
  | c :: r => by
    unfold cut
    by_cases h : c = b
    · rw [if_pos h, h]; simp [cut_length b r]
    · rw [if_neg h, List.length_modifyHead, cut_length b r, List.count_cons_of_ne h]
theorem cut_short (b : UInt8) : ∀ (l : List UInt8) (p : List UInt8), p ∈ cut b l → p.length ≤ l.length
  | [], p, h => by simp [cut] at h; subst h; simp
  | c :: r, p, h => by
    have ih := cut_short b r
    unfold cut at h
    by_cases e : c = b
    · rw [if_pos e] at h
      rcases List.mem_cons.1 h with h | h
      · subst h; simp
      · have := ih p h; simp; omega
    · rw [if_neg e] at h
      cases q : cut b r with
      | nil => rw [q] at h; simp at h
      | cons x y =>
        rw [q] at h ih
        simp only [List.modifyHead_cons, List.mem_cons] at h
        rcases h with h | h
        · subst h
          have := ih x (by simp)
          simp; omega
        · have := ih p (by simp [h])
          simp; omega
/-- the pieces grow at the end: a dot opens a new one -/
theorem cut_snoc_at (b : UInt8) : ∀ l : List UInt8, cut b (l ++ [b]) = cut b l ++ [[]]
  | [] => by simp [cut]
  | c :: r => by
    rw [List.cons_append]
    unfold cut
    by_cases e : c = b
    · rw [if_pos e, if_pos e, cut_snoc_at b r]; rfl
    · rw [if_neg e, if_neg e, cut_snoc_at b r]
      have := cut_ne b r
      cases q : cut b r with
      | nil => exact absurd q this
      | cons x y => rfl
/-- another byte joins the last one -/
theorem cut_snoc (b : UInt8) : ∀ (l : List UInt8) (c : UInt8), c ≠ b → ∀ (i : List (List UInt8)) (t : List UInt8), cut b l = i ++ [t] → cut b (l ++ [c]) = i ++ [t ++ [c]]
  | [], c, h, i, t, e => by
    simp only [cut] at e
    cases i with
    | nil => simp at e; subst e; simp [cut, h]
    | cons a bb => simp at e
  | d :: r, c, h, i, t, e => by
    rw [List.cons_append]
    unfold cut at e ⊢
    by_cases q : d = b
    · rw [if_pos q] at e ⊢
      cases i with
      | nil =>
        simp at e
        exact absurd e.2 (cut_ne b r)
      | cons a bb =>
        simp only [List.cons_append, List.cons.injEq] at e ⊢
        exact ⟨e.1, cut_snoc b r c h bb t e.2⟩
    · rw [if_neg q] at e ⊢
      have hr := cut_ne b r
      cases g : cut b r with
      | nil => exact absurd g hr
      | cons x y =>
        rw [g] at e
        simp only [List.modifyHead_cons] at e
        cases i with
        | nil =>
          simp only [List.nil_append, List.cons.injEq] at e
          obtain ⟨e1, e2⟩ := e
          subst e2
          rw [cut_snoc b r c h [] x (by rw [g]; rfl)]
          subst e1
          rfl
        | cons a bb =>
          simp only [List.cons_append, List.cons.injEq] at e
          obtain ⟨e1, e2⟩ := e
          rw [cut_snoc b r c h (x :: bb) t (by rw [g, e2]; rfl)]
          subst e1
          rfl
end Go.Proofs.YtohjipnkoiifhagGreatDoor.Pn

namespace Go.Proofs.YtohjipnkoiifhagGreatDoor.Dk
open Go.RowKit

/-- the file of a number -/
def fnd (es : List Pap) (n : Int) : Option Pap := es.find? (fun p => p.n == n)
theorem fnd_nil (n : Int) : fnd [] n = none := rfl
theorem fnd_cons (e : Pap) (r : List Pap) (n : Int) : fnd (e :: r) n = if e.n = n then some e else fnd r n := by
  unfold fnd
  rw [List.find?_cons]
  by_cases h : e.n = n
  · rw [if_pos h, beq_iff_eq.2 h]
  · rw [if_neg h, beq_eq_false_iff_ne.2 h]
theorem fnd_append (a b : List Pap) (n : Int) : fnd (a ++ b) n = (fnd a n).or (fnd b n) := List.find?_append
theorem fnd_none {l : List Pap} {n : Int} (h : ∀ e ∈ l, e.n ≠ n) : fnd l n = none := by
  unfold fnd
  rw [List.find?_eq_none]
  intro e he
  rw [beq_iff_eq]
  exact h e he
theorem fnd_mid {A B : List Pap} {x : Pap} (hA : ∀ e ∈ A, e.n ≠ x.n) (k : Int) : fnd (A ++ x :: B) k = if k = x.n then some x else fnd (A ++ B) k := by
  rw [fnd_append, fnd_append, fnd_cons]
  by_cases h : k = x.n
  · rw [if_pos h, if_pos h.symm, h, fnd_none hA]; rfl
  · rw [if_neg h, if_neg (fun q => h q.symm)]
theorem ix_cons (e : Pap) (r : List Pap) (n : Int) : ix (e :: r) n = if e.n = n then 0 else ix r n + 1 := by
  unfold ix
  rw [List.findIdx_cons]
  by_cases h : e.n = n
  · rw [if_pos h, beq_iff_eq.2 h]; rfl
  · rw [if_neg h, beq_eq_false_iff_ne.2 h]; rfl
theorem fnd_ix : ∀ (es : List Pap) (n : Int), fnd es n = if ix es n < es.length then some (pa es (ix es n)) else none
  | [], n => rfl
  | e :: r, n => by
    rw [fnd_cons, ix_cons]
    by_cases h : e.n = n
    · rw [if_pos h, if_pos h, if_pos (by simp)]; rfl
    · rw [if_neg h, if_neg h, fnd_ix r n, pa_succ]
      simp
theorem fnd_some {es : List Pap} {n : Int} (h : ix es n < es.length) : fnd es n = some (pa es (ix es n)) := by rw [fnd_ix, if_pos h]
theorem fnd_not {es : List Pap} {n : Int} (h : ¬ ix es n < es.length) : fnd es n = none := by rw [fnd_ix, if_neg h]
theorem fnd_is {es : List Pap} {n : Int} : ix es n < es.length ↔ (fnd es n).isSome = true := by
  rw [fnd_ix]
  by_cases h : ix es n < es.length
  · rw [if_pos h]; simp [h]
  · rw [if_neg h]; simp [h]
theorem fnd_mem {es : List Pap} {n : Int} {e : Pap} (h : fnd es n = some e) : e ∈ es ∧ e.n = n := ⟨List.mem_of_find?_eq_some h, by have := List.find?_some h; simpa using this⟩
theorem not_there {es : List Pap} {n : Int} (h : ¬ ix es n < es.length) : ∀ e ∈ es, e.n ≠ n := by
  have q := fnd_not h
  unfold fnd at q
  rw [List.find?_eq_none] at q
  intro e he
  have := q e he
  simpa using this
/-- the numbers rise -/
def Rise (es : List Pap) : Prop := es.Pairwise (fun a b => a.n < b.n)
theorem rise_num (es : List Pap) : Rise es ↔ (numL es).Pairwise (· < ·) := by unfold Rise numL; rw [List.pairwise_map]
theorem split_pa {es : List Pap} {i : Nat} (h : i < es.length) : es = es.take i ++ pa es i :: es.drop (i + 1) := by
  rw [pa_get h, ← List.drop_eq_getElem_cons h, List.take_append_drop]
theorem set_split {es : List Pap} {i : Nat} (h : i < es.length) (x : Pap) : es.set i x = es.take i ++ x :: es.drop (i + 1) := by
  rw [List.set_eq_take_append_cons_drop, if_pos h]
theorem rise_ahead {A B : List Pap} {y : Pap} (h : Rise (A ++ y :: B)) : ∀ e ∈ A, e.n ≠ y.n := by
  intro e he
  have := (List.pairwise_append.1 h).2.2 e he y (by simp)
  omega
theorem rise_behind {A B : List Pap} {y : Pap} (h : Rise (A ++ y :: B)) : ∀ e ∈ B, e.n ≠ y.n := by
  intro e he
  have := List.rel_of_pairwise_cons (List.pairwise_append.1 h).2.1 he
  omega
theorem numL_set {es : List Pap} {i : Nat} (h : i < es.length) {x : Pap} (hx : x.n = (pa es i).n) : numL (es.set i x) = numL es := by
  rw [set_split h]
  conv => rhs; rw [split_pa h]
  simp [numL, hx]
theorem used_cons (e : Pap) (r : List Pap) : used (e :: r) = used r + e.text.size := by simp [used]; omega
theorem used_set {es : List Pap} {i : Nat} (h : i < es.length) (x : Pap) : used (es.set i x) + (pa es i).text.size = used es + x.text.size := by
  rw [set_split h]
  conv => rhs; rw [split_pa h]
  rw [used_append, used_append, used_cons, used_cons]
  omega
theorem fnd_set {es : List Pap} {i : Nat} (hr : Rise es) (h : i < es.length) {x : Pap} (hx : x.n = (pa es i).n) (k : Int) : fnd (es.set i x) k = if k = x.n then some x else fnd es k := by
  have e := split_pa h
  have hA : ∀ e ∈ es.take i, e.n ≠ (pa es i).n := rise_ahead (by rw [← e]; exact hr)
  rw [set_split h, fnd_mid (fun e he => by rw [hx]; exact hA e he)]
  by_cases hk : k = x.n
  · rw [if_pos hk, if_pos hk]
  · rw [if_neg hk, if_neg hk]
    conv => rhs; rw [e]
    rw [fnd_mid hA, if_neg (by rw [← hx]; exact hk)]
theorem mem_take_pa {es : List Pap} {q : Nat} {e : Pap} (h : e ∈ es.take q) : ∃ j, j < q ∧ j < es.length ∧ e = pa es j := by
  obtain ⟨j, hj, rfl⟩ := List.getElem_of_mem h
  rw [List.length_take] at hj
  refine ⟨j, by omega, by omega, ?_⟩
  rw [List.getElem_take, pa_get (by omega)]
theorem mem_drop_pa {es : List Pap} {q : Nat} {e : Pap} (h : e ∈ es.drop q) : ∃ j, q ≤ j ∧ j < es.length ∧ e = pa es j := by
  obtain ⟨j, hj, rfl⟩ := List.getElem_of_mem h
  rw [List.length_drop] at hj
  refine ⟨q + j, by omega, by omega, ?_⟩
  rw [List.getElem_drop, pa_get (by omega)]
theorem rise_pa {es : List Pap} (h : Rise es) {i j : Nat} (hij : i < j) (hj : j < es.length) : (pa es i).n < (pa es j).n := by
  rw [pa_get (by omega), pa_get hj]
  exact List.pairwise_iff_getElem.1 h i j (by omega) hj hij
theorem rise_ins {es : List Pap} (h : Rise es) {x : Pap} (hn : ∀ e ∈ es, e.n ≠ x.n) : Rise (insL es (low es x.n) x) := by
  unfold insL Rise
  have hA : ∀ e ∈ es.take (low es x.n), e.n < x.n := fun e he => by
    obtain ⟨j, h1, h2, rfl⟩ := mem_take_pa he
    exact low_lt h1
  have hB : ∀ e ∈ es.drop (low es x.n), x.n < e.n := fun e he => by
    obtain ⟨j, h1, h2, rfl⟩ := mem_drop_pa he
    have q1 := low_at (es := es) (n := x.n) (by omega)
    have q2 := hn _ (pa_mem (l := es) (k := low es x.n) (by omega))
    rcases Nat.eq_or_lt_of_le h1 with z | z
    · rw [← z]; omega
    · have := rise_pa h z h2; omega
  have hp : (es.take (low es x.n) ++ es.drop (low es x.n)).Pairwise (fun a b => a.n < b.n) := by rw [List.take_append_drop]; exact h
  rw [List.pairwise_append] at hp ⊢
  refine ⟨hp.1, List.pairwise_cons.2 ⟨hB, hp.2.1⟩, fun a ha b hb => ?_⟩
  rcases List.mem_cons.1 hb with rfl | hb
  · exact hA a ha
  · exact hp.2.2 a ha b hb
theorem fnd_ins {es : List Pap} (q : Nat) {x : Pap} (hn : ∀ e ∈ es, e.n ≠ x.n) (k : Int) : fnd (insL es q x) k = if k = x.n then some x else fnd es k := by
  unfold insL
  rw [fnd_mid (fun e he => hn e (List.mem_of_mem_take he)), List.take_append_drop]
theorem used_ins {es : List Pap} (q : Nat) (x : Pap) : used (insL es q x) = used es + x.text.size := by
  unfold insL
  conv => rhs; rw [← List.take_append_drop q es]
  rw [used_append, used_append, used_cons]
  omega
theorem mem_ins {es : List Pap} {q : Nat} {x e : Pap} (h : e ∈ insL es q x) : e = x ∨ e ∈ es := by
  unfold insL at h
  rw [List.mem_append, List.mem_cons] at h
  rcases h with h | h | h
  · exact .inr (List.mem_of_mem_take h)
  · exact .inl h
  · exact .inr (List.mem_of_mem_drop h)
theorem fnd_del {es : List Pap} {i : Nat} (hr : Rise es) (h : i < es.length) (k : Int) : fnd (es.take i ++ es.drop (i + 1)) k = if k = (pa es i).n then none else fnd es k := by
  have e := split_pa h
  have hr' : Rise (es.take i ++ pa es i :: es.drop (i + 1)) := by rw [← e]; exact hr
  by_cases hk : k = (pa es i).n
  · rw [if_pos hk]
    refine fnd_none (fun e he => ?_)
    rw [hk]
    rcases List.mem_append.1 he with q | q
    · exact rise_ahead hr' e q
    · exact rise_behind hr' e q
  · rw [if_neg hk]
    conv => rhs; rw [e]
    rw [fnd_mid (rise_ahead hr'), if_neg hk]
theorem used_del {es : List Pap} {i : Nat} (h : i < es.length) : used (es.take i ++ es.drop (i + 1)) + (pa es i).text.size = used es := by
  conv => rhs; rw [split_pa h]
  rw [used_append, used_append, used_cons]
  omega
theorem sub_del (es : List Pap) (i : Nat) : (es.take i ++ es.drop (i + 1)).Sublist es := by
  conv => rhs; rw [← List.take_append_drop i es]
  refine List.Sublist.append (List.Sublist.refl _) ?_
  rw [← List.drop_drop]
  exact List.drop_sublist 1 _
theorem fnd_map (es : List Pap) (f : Pap → Pap) (hf : ∀ e, (f e).n = e.n) (k : Int) : fnd (es.map f) k = (fnd es k).map f := by
  induction es with
  | nil => rfl
  | cons e r ih =>
    rw [List.map_cons, fnd_cons, fnd_cons, hf, ih]
    by_cases h : e.n = k
    · rw [if_pos h, if_pos h]; rfl
    · rw [if_neg h, if_neg h]
end Go.Proofs.YtohjipnkoiifhagGreatDoor.Dk

namespace Go.Proofs.YtohjipnkoiifhagGreatDoor.Dk
open Go.RowKit

/-- a disk of the document, whatever was called -/
structure Tidy (m : Int) (es : List Pap) : Prop where
  rise : Rise es
  few : es.length ≤ 20
  fits : (used es : Int) ≤ m
  each : ∀ e ∈ es, inI e.n 0 1099511627776 = true ∧ 0 ≤ e.sure ∧ e.sure ≤ (e.text.size : Int)
theorem Tidy.nil {m : Int} (h : 0 ≤ m) : Tidy m [] := ⟨List.Pairwise.nil, by simp, by simpa [used] using h, fun e he => by simp at he⟩
theorem used_mem {es : List Pap} {e : Pap} (h : e ∈ es) : e.text.size ≤ used es := by
  induction es with
  | nil => simp at h
  | cons x r ih =>
    rw [used_cons]
    rcases List.mem_cons.1 h with rfl | h
    · omega
    · have := ih h; omega
theorem Tidy.sound {m : Int} {es : List Pap} (h : Tidy m es) (hm : m ≤ 1000000) : ∀ e ∈ es, Sound e := fun e he => ⟨(h.each e he).2.1, (h.each e he).2.2, by have := used_mem he; have := h.fits; omega⟩
theorem Tidy.set {m : Int} {es : List Pap} (h : Tidy m es) {i : Nat} (hi : i < es.length) {x : Pap} (hx : x.n = (pa es i).n) (hu : (used es : Int) + (x.text.size : Int) ≤ m + ((pa es i).text.size : Int)) (h0 : 0 ≤ x.sure) (h1 : x.sure ≤ (x.text.size : Int)) : Tidy m (es.set i x) := by
  refine ⟨?_, by rw [List.length_set]; exact h.few, ?_, ?_⟩
  · rw [rise_num, numL_set hi hx, ← rise_num]; exact h.rise
  · have := used_set hi x
    omega
  · intro e he
    rcases List.mem_or_eq_of_mem_set he with q | q
    · exact h.each e q
    · subst q
      refine ⟨?_, h0, h1⟩
      rw [hx]
      exact (h.each _ (pa_mem hi)).1
/-- Append -/
def appP (o : Option Pap) (n : Int) (s : ByteArray) : Pap := match o with
  | some e => addP e s
  | none => ⟨n, 0, s⟩
theorem full_fits {es : List Pap} {m n : Int} {s : ByteArray} (h : full es m n s = false) : (s.size : Int) + (used es : Int) ≤ m := by
  unfold full at h
  simp only [Bool.or_eq_false_iff, decide_eq_false_iff_not] at h
  omega
theorem app_ok {es : List Pap} {m n : Int} {s : ByteArray} : appE es m n s = 0 ↔ inI n 0 1099511627776 = true ∧ full es m n s = false := by
  cases hI : inI n 0 1099511627776 with
  | false => rw [(app_bad hI).1]; simp
  | true =>
    cases hf : full es m n s with
    | true => rw [(app_full hI hf).1]; simp
    | false =>
      by_cases hh : ix es n < es.length
      · rw [(app_old hI hf hh).1]; simp
      · rw [(app_new hI hf hh).1]; simp
theorem app_not {es : List Pap} {m n : Int} {s : ByteArray} (h : appE es m n s ≠ 0) : appL es m n s = es := by
  cases hI : inI n 0 1099511627776 with
  | false => exact (app_bad hI).2
  | true =>
    cases hf : full es m n s with
    | true => exact (app_full hI hf).2
    | false => exact absurd (app_ok.2 ⟨hI, hf⟩) h
theorem addP_size (e : Pap) (s : ByteArray) : (addP e s).text.size = e.text.size + s.size := by simp [addP]
theorem Tidy.app {m : Int} {es : List Pap} (h : Tidy m es) (n : Int) (s : ByteArray) : Tidy m (appL es m n s) := by
  by_cases he : appE es m n s = 0
  · obtain ⟨hI, hf⟩ := app_ok.1 he
    have hu := full_fits hf
    by_cases hh : ix es n < es.length
    · rw [(app_old hI hf hh).2]
      have hs := (h.each _ (pa_mem hh)).2
      have hz := addP_size (pa es (ix es n)) s
      exact h.set hh rfl (by omega) hs.1 (by have : (addP (pa es (ix es n)) s).sure = (pa es (ix es n)).sure := rfl; omega)
    · rw [(app_new hI hf hh).2]
      refine ⟨rise_ins (x := ⟨n, 0, s⟩) h.rise (not_there hh), ?_, ?_, ?_⟩
      · rw [insL_length (low_le _ _)]
        have := (full_not hf hh).2
        have := h.few
        omega
      · rw [used_ins]
        show ((used es + s.size : Nat) : Int) ≤ m
        omega
      · intro e q
        rcases mem_ins q with rfl | q
        · exact ⟨hI, by show (0 : Int) ≤ 0; omega, by show (0 : Int) ≤ (s.size : Int); omega⟩
        · exact h.each e q
  · rw [app_not he]; exact h
theorem fnd_app {m : Int} {es : List Pap} (h : Tidy m es) (n : Int) (s : ByteArray) (k : Int) : fnd (appL es m n s) k = if appE es m n s = 0 ∧ k = n then some (appP (fnd es n) n s) else fnd es k := by
  by_cases he : appE es m n s = 0
  · obtain ⟨hI, hf⟩ := app_ok.1 he
    by_cases hh : ix es n < es.length
    · rw [(app_old hI hf hh).2, fnd_set (x := addP (pa es (ix es n)) s) h.rise hh rfl, fnd_some hh]
      have : (addP (pa es (ix es n)) s).n = n := ix_at hh
      rw [this]
      simp [he, appP]
    · rw [(app_new hI hf hh).2, fnd_ins _ (x := ⟨n, 0, s⟩) (not_there hh), fnd_not hh]
      simp [he, appP]
  · rw [app_not he, if_neg (fun q => he q.1)]
/-- Cut -/
theorem cut_ok {es : List Pap} {n size : Int} : cutE es n size = 0 ↔ ix es n < es.length ∧ cutOk es n size = true := by
  unfold cutE
  by_cases h : ix es n < es.length
  · rw [if_pos h]
    cases cutOk es n size <;> simp [h]
  · rw [if_neg h]; simp [h]
theorem cut_is {es : List Pap} {n size : Int} (h : cutE es n size = 0) : cutL es n size = es.set (ix es n) (cutP (pa es (ix es n)) size.toNat) := by
  obtain ⟨h1, h2⟩ := cut_ok.1 h
  unfold cutL
  rw [if_pos h1, if_pos h2]
theorem cut_not {es : List Pap} {n size : Int} (h : cutE es n size ≠ 0) : cutL es n size = es := by
  unfold cutL
  by_cases h1 : ix es n < es.length
  · rw [if_pos h1]
    by_cases h2 : cutOk es n size = true
    · exact absurd (cut_ok.2 ⟨h1, h2⟩) h
    · rw [if_neg h2]
  · rw [if_neg h1]
theorem cutP_size {e : Pap} {k : Nat} (h : k ≤ e.text.size) : (cutP e k).text.size = k := ext_size _ _ h
theorem Tidy.cut {m : Int} {es : List Pap} (h : Tidy m es) (n size : Int) : Tidy m (cutL es n size) := by
  by_cases he : cutE es n size = 0
  · obtain ⟨h1, h2⟩ := cut_ok.1 he
    have hz : 0 ≤ size ∧ size ≤ ((pa es (ix es n)).text.size : Int) := by simpa [cutOk, inI] using h2
    have hq := cutP_size (e := pa es (ix es n)) (k := size.toNat) (by omega)
    have hf := h.fits
    rw [cut_is he]
    have hs : (cutP (pa es (ix es n)) size.toNat).sure = (size.toNat : Int) := rfl
    exact h.set h1 rfl (by omega) (by omega) (by omega)
  · rw [cut_not he]; exact h
theorem fnd_cut {m : Int} {es : List Pap} (h : Tidy m es) (n size : Int) (k : Int) : fnd (cutL es n size) k = if cutE es n size = 0 ∧ k = n then (fnd es n).map (cutP · size.toNat) else fnd es k := by
  by_cases he : cutE es n size = 0
  · obtain ⟨h1, h2⟩ := cut_ok.1 he
    rw [cut_is he, fnd_set (x := cutP (pa es (ix es n)) size.toNat) h.rise h1 rfl, fnd_some h1]
    have : (cutP (pa es (ix es n)) size.toNat).n = n := ix_at h1
    rw [this]
    simp [he]
  · rw [cut_not he, if_neg (fun q => he q.1)]
/-- Sync, Remove -/
theorem has_ok {es : List Pap} {n : Int} : hasE es n = 0 ↔ ix es n < es.length := by
  unfold hasE
  by_cases h : ix es n < es.length
  · rw [if_pos h]; simp [h]
  · rw [if_neg h]; simp [h]
def syncP (e : Pap) : Pap := { e with sure := (e.text.size : Int) }
theorem Tidy.sync {m : Int} {es : List Pap} (h : Tidy m es) (n : Int) : Tidy m (syncL es n) := by
  unfold syncL
  by_cases hh : ix es n < es.length
  · rw [if_pos hh]
    have hf := h.fits
    exact h.set hh rfl (by show (used es : Int) + ((pa es (ix es n)).text.size : Int) ≤ _; omega) (by show (0 : Int) ≤ ((pa es (ix es n)).text.size : Int); omega) (by show ((pa es (ix es n)).text.size : Int) ≤ ((pa es (ix es n)).text.size : Int); omega)
  · rw [if_neg hh]; exact h
theorem fnd_sync {m : Int} {es : List Pap} (h : Tidy m es) (n : Int) (k : Int) : fnd (syncL es n) k = if k = n then (fnd es n).map syncP else fnd es k := by
  unfold syncL
  by_cases hh : ix es n < es.length
  · rw [if_pos hh]
    show fnd (es.set (ix es n) (syncP (pa es (ix es n)))) k = _
    rw [fnd_set (x := syncP (pa es (ix es n))) h.rise hh rfl, fnd_some hh]
    have : (syncP (pa es (ix es n))).n = n := ix_at hh
    rw [this]
    rfl
  · rw [if_neg hh]
    by_cases hk : k = n
    · rw [if_pos hk, hk, fnd_not hh]; rfl
    · rw [if_neg hk]
theorem Tidy.rem {m : Int} {es : List Pap} (h : Tidy m es) (n : Int) : Tidy m (remL es n) := by
  unfold remL
  by_cases hh : ix es n < es.length
  · rw [if_pos hh]
    have hs := sub_del es (ix es n)
    refine ⟨List.Pairwise.sublist hs h.rise, ?_, ?_, fun e he => h.each e (hs.subset he)⟩
    · have := hs.length_le
      have := h.few
      omega
    · have := used_del hh
      have := h.fits
      omega
  · rw [if_neg hh]; exact h
theorem fnd_rem {m : Int} {es : List Pap} (h : Tidy m es) (n : Int) (k : Int) : fnd (remL es n) k = if k = n then none else fnd es k := by
  unfold remL
  by_cases hh : ix es n < es.length
  · rw [if_pos hh, fnd_del h.rise hh, ix_at hh]
  · rw [if_neg hh]
    by_cases hk : k = n
    · rw [if_pos hk, hk, fnd_not hh]
    · rw [if_neg hk]
/-- Crash -/
theorem stop_size (keep : Int) (e : Pap) : (stopP keep e).text.size = stopAt e keep := ext_size _ _ (stop_le e keep)
theorem used_stop (keep : Int) : ∀ es : List Pap, used (es.map (stopP keep)) ≤ used es
  | [] => by simp
  | e :: r => by
    rw [List.map_cons, used_cons, used_cons, stop_size]
    have := stop_le e keep
    have := used_stop keep r
    omega
theorem Tidy.stop {m : Int} {es : List Pap} (h : Tidy m es) (keep : Int) : Tidy m (es.map (stopP keep)) := by
  refine ⟨?_, by rw [List.length_map]; exact h.few, ?_, ?_⟩
  · unfold Rise
    rw [List.pairwise_map]
    exact h.rise
  · have := used_stop keep es
    have := h.fits
    omega
  · intro e he
    obtain ⟨x, hx, rfl⟩ := List.mem_map.1 he
    refine ⟨(h.each x hx).1, ?_, ?_⟩
    · show (0 : Int) ≤ (stopAt x keep : Int); omega
    · rw [stop_size]; show (stopAt x keep : Int) ≤ _; omega
theorem fnd_stop (es : List Pap) (keep : Int) (k : Int) : fnd (es.map (stopP keep)) k = (fnd es k).map (stopP keep) := fnd_map es (stopP keep) (fun _ => rfl) k
/-- List -/
theorem num_mem {es : List Pap} {k : Int} : k ∈ numL es ↔ (fnd es k).isSome = true := by
  unfold numL fnd
  rw [List.mem_map, List.find?_isSome]
  constructor
  · rintro ⟨e, he, rfl⟩; exact ⟨e, he, by simp⟩
  · rintro ⟨e, he, h⟩; exact ⟨e, he, by simpa using h⟩
theorem rise_same : ∀ (a b : List Int), a.Pairwise (· < ·) → b.Pairwise (· < ·) → (∀ k, k ∈ a ↔ k ∈ b) → a = b
  | [], [], _, _, _ => rfl
  | [], y :: b, _, _, h => absurd ((h y).2 (by simp)) (by simp)
  | x :: a, [], _, _, h => absurd ((h x).1 (by simp)) (by simp)
  | x :: a, y :: b, ha, hb, h => by
    have ha' := List.pairwise_cons.1 ha
    have hb' := List.pairwise_cons.1 hb
    have hxy : x = y := by
      rcases List.mem_cons.1 ((h x).1 (by simp)) with q | q
      · exact q
      · rcases List.mem_cons.1 ((h y).2 (by simp)) with p | p
        · exact p.symm
        · have := hb'.1 x q
          have := ha'.1 y p
          omega
    subst hxy
    have : a = b := rise_same a b ha'.2 hb'.2 (fun k => ⟨fun q => by
      rcases List.mem_cons.1 ((h k).1 (by simp [q])) with p | p
      · have := ha'.1 k q; omega
      · exact p, fun q => by
      rcases List.mem_cons.1 ((h k).2 (by simp [q])) with p | p
      · have := hb'.1 k q; omega
      · exact p⟩)
    rw [this]
theorem Tidy.list {m : Int} {es : List Pap} (h : Tidy m es) {l : List Int} (hl : l.Pairwise (· < ·)) (hm : ∀ k, k ∈ l ↔ (fnd es k).isSome = true) : l = numL es :=
  rise_same l _ hl ((rise_num es).1 h.rise) (fun k => by rw [hm, num_mem])
/-- Used, counted over the numbers in any order -/
def sizeAt (es : List Pap) (k : Int) : Nat := match fnd es k with
  | some e => e.text.size
  | none => 0
theorem used_sum : ∀ {es : List Pap}, Rise es → used es = ((numL es).map (sizeAt es)).sum
  | [], _ => by simp [used, numL]
  | e :: r, h => by
    have h' := List.pairwise_cons.1 h
    have ih := used_sum (es := r) h'.2
    have e1 : sizeAt (e :: r) e.n = e.text.size := by unfold sizeAt; rw [fnd_cons, if_pos rfl]
    have e2 : (numL r).map (sizeAt (e :: r)) = (numL r).map (sizeAt r) := by
      refine List.map_congr_left (fun k hk => ?_)
      have : e.n ≠ k := by
        obtain ⟨x, hx, rfl⟩ := List.mem_map.1 hk
        have := h'.1 x hx
        omega
      unfold sizeAt
      rw [fnd_cons, if_neg this]
    show used (e :: r) = ((e.n :: numL r).map (sizeAt (e :: r))).sum
    rw [List.map_cons, List.sum_cons, e1, e2, used_cons, ih]
    omega
theorem Tidy.used {m : Int} {es : List Pap} (h : Tidy m es) {l : List Int} (hl : l.Perm (numL es)) : (l.map (sizeAt es)).sum = used es := by
  rw [used_sum h.rise]
  exact (hl.map _).sum_nat
end Go.Proofs.YtohjipnkoiifhagGreatDoor.Dk

namespace Go.Proofs.YtohjipnkoiifhagGreatDoor.Dk
open Go.RowKit

/-- a number that fits in 64 bits -/
def wf (n : Int) : Prop := (Lit.int .i64 n).wf = true
theorem wf_low {n : Int} (h : 0 ≤ n ∧ n ≤ 1099511627776) : wf n := WalkArith.wf_i64 (by omega)
theorem wf_of {n : Int} (h : inI n 0 1099511627776 = true) : wf n := wf_low (by simpa [inI] using h)
/-- a call may have written the disk's own blocks F alone; it shows es' then, in blocks of its own or new ones -/
def Did (Has : World → Nat → Nat → (Nat → Prop) → Int → List Pap → Prop) (w w' : World) (B q : Nat) (F : Nat → Prop) (m : Int) (es' : List Pap) : Prop := ∃ F', Has w' B q F' m es' ∧ Chg F w w' ∧ ∀ k, F' k → F k ∨ w.heap.size ≤ k
/-- what is asked of the program's disk: Has w B q F m es says that at block q there is a disk of room m that shows the files es, in the blocks F -/
structure Works (Has : World → Nat → Nat → (Nat → Prop) → Int → List Pap → Prop) : Prop where
  own : ∀ {w B q F m es}, Has w B q F m es → ∀ k, F k → B ≤ k ∧ k < w.heap.size
  chg : ∀ {w w' B q F m es} {A : Nat → Prop}, Has w B q F m es → Chg A w w' → (∀ k, F k → ¬ A k) → Has w' B q F m es
  append : ∀ {w B q F m es} (n : Int) (s : ByteArray), Has w B q F m es → Tidy m es → m ≤ 65536 → s.size ≤ 140737488355328 → B ≤ w.heap.size →
    Calls Tryz.prog 46 #[.pointer (some ⟨q, 0, none⟩), .int .i64 n, .string s] w fun e w' => e = .returned (.int .i64 (appE es m n s)) ∧ Did Has w w' B q F m (appL es m n s)
  sync : ∀ {w B q F m es} (n : Int), wf n → Has w B q F m es → Tidy m es → m ≤ 65536 → B ≤ w.heap.size →
    Calls Tryz.prog 47 #[.pointer (some ⟨q, 0, none⟩), .int .i64 n] w fun e w' => e = .returned (.int .i64 (hasE es n)) ∧ Did Has w w' B q F m (syncL es n)
  remove : ∀ {w B q F m es} (n : Int), wf n → Has w B q F m es → Tidy m es → m ≤ 65536 → B ≤ w.heap.size →
    Calls Tryz.prog 82 #[.pointer (some ⟨q, 0, none⟩), .int .i64 n] w fun e w' => e = .returned (.int .i64 (hasE es n)) ∧ Did Has w w' B q F m (remL es n)
  read : ∀ {w B q F m es} (n : Int), wf n → Has w B q F m es → Tidy m es → m ≤ 65536 → B ≤ w.heap.size →
    Calls Tryz.prog 92 #[.pointer (some ⟨q, 0, none⟩), .int .i64 n] w fun e w' => e = .returned (readV es n) ∧ Did Has w w' B q F m es
  used : ∀ {w B q F m es}, Has w B q F m es → Tidy m es → m ≤ 65536 → B ≤ w.heap.size →
    Calls Tryz.prog 28 #[.pointer (some ⟨q, 0, none⟩)] w fun e w' => e = .returned (.int .i64 (used es : Int)) ∧ Did Has w w' B q F m es
/-- what is asked of New -/
structure News (Has : World → Nat → Nat → (Nat → Prop) → Int → List Pap → Prop) : Prop where
  bad : ∀ (w : World) (m : Int), inI m 1 65536 = false → Calls Tryz.prog 20 #[.int .i64 m] w fun e w' => e = .returned (.tuple #[.pointer none, .int .i64 1]) ∧ Below w.heap.size w w'
  good : ∀ (w : World) (m : Int), inI m 1 65536 = true → Calls Tryz.prog 20 #[.int .i64 m] w fun e w' => ∃ q F, e = .returned (.tuple #[.pointer (some ⟨q, 0, none⟩), .int .i64 0]) ∧ Has w' w.heap.size q F m [] ∧ Below w.heap.size w w'
end Go.Proofs.YtohjipnkoiifhagGreatDoor.Dk

namespace Go.Proofs.YtohjipnkoiifhagGreatDoor.Dk
open Go.RowKit

/-- what is asked of a disk that is only looked at -/
structure Looks (Has : World → Nat → Nat → (Nat → Prop) → Int → List Pap → Prop) : Prop where
  own : ∀ {w B q F m es}, Has w B q F m es → ∀ k, F k → B ≤ k ∧ k < w.heap.size
  chg : ∀ {w w' B q F m es} {A : Nat → Prop}, Has w B q F m es → Chg A w w' → (∀ k, F k → ¬ A k) → Has w' B q F m es
  read : ∀ {w B q F m es} (n : Int), wf n → Has w B q F m es → Tidy m es → m ≤ 65536 → B ≤ w.heap.size →
    Calls Tryz.prog 92 #[.pointer (some ⟨q, 0, none⟩), .int .i64 n] w fun e w' => e = .returned (readV es n) ∧ Did Has w w' B q F m es
  used : ∀ {w B q F m es}, Has w B q F m es → Tidy m es → m ≤ 65536 → B ≤ w.heap.size →
    Calls Tryz.prog 28 #[.pointer (some ⟨q, 0, none⟩)] w fun e w' => e = .returned (.int .i64 (used es : Int)) ∧ Did Has w w' B q F m es
  list : ∀ {w B q F m es}, Has w B q F m es → Tidy m es → m ≤ 65536 → B ≤ w.heap.size →
    Calls Tryz.prog 78 #[.pointer (some ⟨q, 0, none⟩)] w fun e w' => ∃ a c, e = .returned (.slice a es.length c) ∧ SlI w' a (numL es) ∧ Did Has w w' B q F m es
/-- what is asked of the program's disk, Cut and List too -/
structure More (Has : World → Nat → Nat → (Nat → Prop) → Int → List Pap → Prop) : Prop where
  works : Works Has
  cut : ∀ {w B q F m es} (n size : Int), wf n → Has w B q F m es → Tidy m es → m ≤ 65536 → B ≤ w.heap.size →
    Calls Tryz.prog 110 #[.pointer (some ⟨q, 0, none⟩), .int .i64 n, .int .i64 size] w fun e w' => e = .returned (.int .i64 (cutE es n size)) ∧ Did Has w w' B q F m (cutL es n size)
  list : ∀ {w B q F m es}, Has w B q F m es → Tidy m es → m ≤ 65536 → B ≤ w.heap.size →
    Calls Tryz.prog 78 #[.pointer (some ⟨q, 0, none⟩)] w fun e w' => ∃ a c, e = .returned (.slice a es.length c) ∧ SlI w' a (numL es) ∧ Did Has w w' B q F m es
theorem More.looks {Has : World → Nat → Nat → (Nat → Prop) → Int → List Pap → Prop} (H : More Has) : Looks Has := ⟨H.works.own, H.works.chg, H.works.read, H.works.used, H.list⟩
end Go.Proofs.YtohjipnkoiifhagGreatDoor.Dk

namespace Go.Proofs.YtohjipnkoiifhagGreatDoor.Pk

/-- the byte at a place, 0 behind the end -/
def at' (l : List UInt8) (k : Nat) : Nat := (l[k]?.getD 0).toNat
theorem at_lt (l : List UInt8) (k : Nat) : at' l k < 256 := UInt8.toNat_lt _
theorem at_zero (c : UInt8) (l : List UInt8) : at' (c :: l) 0 = c.toNat := rfl
theorem at_succ (c : UInt8) (l : List UInt8) (k : Nat) : at' (c :: l) (k + 1) = at' l k := rfl
theorem at_append_left {l m : List UInt8} {k : Nat} (h : k < l.length) : at' (l ++ m) k = at' l k := by
  unfold at'; rw [List.getElem?_append_left h]
theorem at_get {l : List UInt8} {k : Nat} (h : k < l.length) : at' l k = (l[k]).toNat := by
  unfold at'; rw [List.getElem?_eq_getElem h]; rfl
theorem at_take {l : List UInt8} {k i : Nat} (h : k < i) : at' (l.take i) k = at' l k := by
  unfold at'; rw [List.getElem?_take_of_lt h]

/-- a number's bytes -/
def enc (n : Nat) : List UInt8 := if n < 128 then [UInt8.ofNat n] else UInt8.ofNat (128 + n % 128) :: enc (n / 128)
theorem enc_small {n : Nat} (h : n < 128) : enc n = [UInt8.ofNat n] := by rw [enc, if_pos h]
theorem enc_large {n : Nat} (h : ¬ n < 128) : enc n = UInt8.ofNat (128 + n % 128) :: enc (n / 128) := by rw [enc, if_neg h]
theorem u8_of {n : Nat} (h : n < 256) : (UInt8.ofNat n).toNat = n := by simp; omega
theorem enc_pos (n : Nat) : 1 ≤ (enc n).length := by
  by_cases h : n < 128
  · rw [enc_small h]; simp
  · rw [enc_large h]; simp
theorem enc_short : ∀ (m : Nat) {n : Nat}, n < 128 ^ (m + 1) → (enc n).length ≤ m + 1
  | 0, n, h => by rw [enc_small (by simpa using h)]; simp
  | m + 1, n, h => by
    by_cases hs : n < 128
    · rw [enc_small hs]; simp
    · rw [enc_large hs, List.length_cons]
      have : n / 128 < 128 ^ (m + 1) := by rw [Nat.div_lt_iff_lt_mul (by decide)]; rw [Nat.pow_succ] at h; exact h
      have := enc_short m this
      omega
theorem enc_nine {n : Nat} (h : n < 9223372036854775808) : (enc n).length ≤ 9 := enc_short 8 (by simpa using h)

/-- how many bytes at the front go on, at most m -/
def lead : List UInt8 → Nat → Nat
  | [], _ => 0
  | _ :: _, 0 => 0
  | c :: r, m + 1 => if c.toNat < 128 then 0 else lead r m + 1
theorem lead_eq : ∀ {l : List UInt8} {m k : Nat}, k ≤ m → k ≤ l.length → (∀ j, j < k → 128 ≤ at' l j) → (k = m ∨ k = l.length ∨ at' l k < 128) → lead l m = k
  | [], m, k, _, h2, _, _ => by simp at h2; subst h2; simp [lead]
  | c :: r, 0, k, h1, _, _, _ => by simp at h1; subst h1; simp [lead]
  | c :: r, m + 1, 0, _, _, _, h => by
    rcases h with h | h | h
    · cases h
    · simp at h
    · rw [at_zero] at h; simp [lead, h]
  | c :: r, m + 1, k + 1, h1, h2, h3, h4 => by
    have h0 := h3 0 (by omega)
    rw [at_zero] at h0
    have e := lead_eq (l := r) (m := m) (k := k) (by omega) (by simpa using h2) (fun j hj => by have := h3 (j + 1) (by omega); rwa [at_succ] at this) (by
      rcases h4 with h | h | h
      · exact .inl (by omega)
      · exact .inr (.inl (by simpa using h))
      · exact .inr (.inr (by rwa [at_succ] at h)))
    simp [lead, e]; omega
theorem lead_le : ∀ (l : List UInt8) (m : Nat), lead l m ≤ m ∧ lead l m ≤ l.length
  | [], m => by simp [lead]
  | _ :: _, 0 => by simp [lead]
  | c :: r, m + 1 => by
    have := lead_le r m
    unfold lead; split <;> simp <;> omega
theorem lead_big : ∀ {l : List UInt8} {m j : Nat}, j < lead l m → 128 ≤ at' l j
  | [], m, j, h => by simp [lead] at h
  | _ :: _, 0, j, h => by simp [lead] at h
  | c :: r, m + 1, j, h => by
    unfold lead at h
    split at h
    · omega
    · cases j with
      | zero => rw [at_zero]; omega
      | succ j => rw [at_succ]; exact lead_big (m := m) (by omega)
theorem lead_stop : ∀ {l : List UInt8} {m : Nat}, lead l m < m → lead l m < l.length → at' l (lead l m) < 128
  | [], m, _, h => by simp [lead] at h
  | _ :: _, 0, h, _ => by simp [lead] at h
  | c :: r, m + 1, h1, h2 => by
    unfold lead at h1 h2 ⊢
    split
    · rw [at_zero]; assumption
    · rw [at_succ]
      rename_i hc
      rw [if_neg hc] at h1 h2
      exact lead_stop (by omega) (by simpa using h2)

/-- the value of m groups from place i on -/
def val (l : List UInt8) (i : Nat) : Nat → Nat
  | 0 => 0
  | m + 1 => at' l i % 128 + 128 * val l (i + 1) m
theorem val_succ (l : List UInt8) (i m : Nat) : val l i (m + 1) = at' l i % 128 + 128 * val l (i + 1) m := rfl
theorem val_shift (c : UInt8) (l : List UInt8) : ∀ (m i : Nat), val (c :: l) (i + 1) m = val l i m
  | 0, _ => rfl
  | m + 1, i => by rw [val_succ, val_succ, at_succ, val_shift c l m (i + 1)]
theorem val_last (l : List UInt8) : ∀ (m i : Nat), val l i (m + 1) = val l i m + 128 ^ m * (at' l (i + m) % 128)
  | 0, i => by simp [val]
  | m + 1, i => by
    rw [val_succ, val_last l m (i + 1), val_succ, Nat.pow_succ, Nat.mul_add, ← Nat.add_assoc]
    rw [show i + 1 + m = i + (m + 1) from by omega, Nat.mul_comm (128 ^ m) 128, Nat.mul_assoc]
theorem val_lt (l : List UInt8) : ∀ (m i : Nat), val l i m < 128 ^ m
  | 0, _ => by simp [val]
  | m + 1, i => by
    have := val_lt l m (i + 1)
    rw [val_succ, Nat.pow_succ]
    have := Nat.mod_lt (at' l i) (show 0 < 128 by decide)
    omega

/-- ReadNumber: the number, how many bytes, the error -/
def rd (l : List UInt8) : Nat × Nat × Nat :=
  if lead l 9 = 9 then (0, 0, 7) else if lead l 9 = l.length then (0, 0, 6) else if 0 < lead l 9 ∧ at' l (lead l 9) = 0 then (0, 0, 7)
  else (val l 0 (lead l 9 + 1), lead l 9 + 1, 0)

theorem lead_enc (more : List UInt8) (n : Nat) : ∀ m, (enc n).length ≤ m → lead (enc n ++ more) m = (enc n).length - 1 := by
  induction n using Nat.strongRecOn with
  | _ n ih =>
    intro m hm
    by_cases hs : n < 128
    · rw [enc_small hs] at hm ⊢
      obtain ⟨m, rfl⟩ : ∃ k, m = k + 1 := ⟨m - 1, by simp at hm; omega⟩
      simp [lead]; omega
    · rw [enc_large hs] at hm ⊢
      obtain ⟨m, rfl⟩ : ∃ k, m = k + 1 := ⟨m - 1, by simp at hm; omega⟩
      have e := ih (n / 128) (by omega) m (by simpa using hm)
      have p := enc_pos (n / 128)
      rw [List.cons_append, lead, u8_of (by omega), if_neg (by omega), e, List.length_cons]
      omega
theorem val_enc (more : List UInt8) (n : Nat) : val (enc n ++ more) 0 (enc n).length = n := by
  induction n using Nat.strongRecOn with
  | _ n ih =>
    by_cases hs : n < 128
    · rw [enc_small hs]
      simp [val, at']; omega
    · have e := ih (n / 128) (by omega)
      rw [enc_large hs, List.cons_append, List.length_cons, val_succ, val_shift, e, at_zero, u8_of (by omega)]
      omega
theorem last_enc (more : List UInt8) (n : Nat) : 0 < n → at' (enc n ++ more) ((enc n).length - 1) ≠ 0 := by
  induction n using Nat.strongRecOn with
  | _ n ih =>
    intro h0
    by_cases hs : n < 128
    · rw [enc_small hs]
      simp [at']; omega
    · have e := ih (n / 128) (by omega) (by omega)
      have p := enc_pos (n / 128)
      rw [enc_large hs, List.cons_append, List.length_cons]
      rw [show (enc (n / 128)).length + 1 - 1 = ((enc (n / 128)).length - 1) + 1 from by omega, at_succ]
      exact e
theorem rd_enc {n : Nat} (h : n < 9223372036854775808) (more : List UInt8) : rd (enc n ++ more) = (n, (enc n).length, 0) := by
  have h9 := enc_nine h
  have p := enc_pos n
  have e := lead_enc more n 9 h9
  unfold rd
  rw [e, if_neg (by omega), if_neg (by simp; omega), if_neg]
  · rw [show (enc n).length - 1 + 1 = (enc n).length from by omega, val_enc]
  · rintro ⟨h1, h2⟩
    by_cases hn : 0 < n
    · exact last_enc more n hn h2
    · rw [enc_small (by omega)] at h1
      simp at h1
theorem rd_front {n i : Nat} (h : n < 9223372036854775808) (hi : i < (enc n).length) (more : List UInt8) : rd ((enc n ++ more).take i) = (0, 0, 6) := by
  have h9 := enc_nine h
  have e0 := lead_enc more n 9 h9
  have hl : ((enc n ++ more).take i).length = i := by simp; omega
  have e : lead ((enc n ++ more).take i) 9 = i := lead_eq (by omega) (by omega) (fun j hj => by rw [at_take hj]; exact lead_big (m := 9) (by omega)) (.inr (.inl hl.symm))
  unfold rd
  rw [e, hl, if_neg (by omega), if_pos rfl]
theorem enc_val : ∀ (k : Nat) {l : List UInt8}, k < l.length → (∀ j, j < k → 128 ≤ at' l j) → at' l k < 128 → (k = 0 ∨ at' l k ≠ 0) → enc (val l 0 (k + 1)) = l.take (k + 1)
  | k, [], h, _, _, _ => by simp at h
  | 0, c :: r, _, _, h2, _ => by
    rw [at_zero] at h2
    rw [val_succ, at_zero, val, enc_small (by omega)]
    simp [Nat.mod_eq_of_lt h2]
  | k + 1, c :: r, h0, h1, h2, h3 => by
    rw [at_succ] at h2 h3
    have hne : at' r k ≠ 0 := by omega
    have e := enc_val k (l := r) (by simpa using h0) (fun j hj => by have := h1 (j + 1) (by omega); rwa [at_succ] at this) h2 (.inr hne)
    have hc := h1 0 (by omega)
    rw [at_zero] at hc
    have hcl := UInt8.toNat_lt c
    have hp : 0 < val r 0 (k + 1) := by
      rw [val_last, Nat.zero_add, Nat.mod_eq_of_lt h2]
      have := Nat.mul_pos (show 0 < 128 ^ k from Nat.pow_pos (by decide)) (show 0 < at' r k by omega)
      omega
    rw [val_succ, val_shift, at_zero, enc_large (by omega)]
    rw [show (c.toNat % 128 + 128 * val r 0 (k + 1)) / 128 = val r 0 (k + 1) from by omega, e]
    rw [show 128 + (c.toNat % 128 + 128 * val r 0 (k + 1)) % 128 = c.toNat from by omega]
    simp
theorem rd_bad {l : List UInt8} (h : (rd l).2.2 ≠ 0) : (rd l).1 = 0 ∧ (rd l).2.1 = 0 := by
  unfold rd at h ⊢
  split
  · exact ⟨rfl, rfl⟩
  split
  · exact ⟨rfl, rfl⟩
  split
  · exact ⟨rfl, rfl⟩
  · rename_i h1 h2 h3
    rw [if_neg h1, if_neg h2, if_neg h3] at h
    exact absurd rfl h
theorem rd_good {l : List UInt8} (h : (rd l).2.2 = 0) : enc (rd l).1 = l.take (rd l).2.1 ∧ (rd l).2.1 ≤ l.length ∧ (rd l).1 < 9223372036854775808 ∧ 1 ≤ (rd l).2.1 ∧ (rd l).2.1 ≤ 9 := by
  have hl := lead_le l 9
  unfold rd at h ⊢
  split
  · rename_i h1; rw [if_pos h1] at h; cases h
  rename_i h1
  rw [if_neg h1] at h
  split
  · rename_i h2; rw [if_pos h2] at h; cases h
  rename_i h2
  rw [if_neg h2] at h
  split
  · rename_i h3; rw [if_pos h3] at h; cases h
  rename_i h3
  refine ⟨enc_val _ (by omega) (fun j hj => lead_big hj) (lead_stop (by omega) (by omega)) (by omega), by show lead l 9 + 1 ≤ _; omega, ?_, by show 1 ≤ lead l 9 + 1; omega, by show lead l 9 + 1 ≤ 9; omega⟩
  refine Nat.lt_of_lt_of_le (val_lt l _ 0) ?_
  exact Nat.le_trans (Nat.pow_le_pow_right (by decide) (show lead l 9 + 1 ≤ 9 by omega)) (by decide)

/-- ReadText: the text, how many bytes, the error -/
def rt (l : List UInt8) (most : Int) : List UInt8 × Nat × Nat :=
  if (rd l).2.2 ≠ 0 then ([], 0, (rd l).2.2) else if most < (rd l).1 then ([], 0, 7) else if l.length < (rd l).2.1 + (rd l).1 then ([], 0, 6)
  else ((l.drop (rd l).2.1).take (rd l).1, (rd l).2.1 + (rd l).1, 0)
def txt (t : List UInt8) : List UInt8 := enc t.length ++ t
theorem rt_txt {t : List UInt8} (h : t.length < 9223372036854775808) (more : List UInt8) : rt (txt t ++ more) t.length = (t, (txt t).length, 0) := by
  unfold rt txt
  rw [List.append_assoc, rd_enc h]
  simp only []
  rw [if_neg (by simp), if_neg (by omega), if_neg (by simp)]
  simp
theorem rt_front {t : List UInt8} {i : Nat} (h : t.length < 9223372036854775808) (hi : i < (txt t).length) : (rt ((txt t).take i) t.length).2.2 = 6 := by
  unfold rt
  by_cases hl : i < (enc t.length).length
  · unfold txt
    rw [rd_front h hl]
    rfl
  · have e : (txt t).take i = enc t.length ++ t.take (i - (enc t.length).length) := by
      unfold txt
      rw [List.take_append, List.take_of_length_le (by omega)]
    have hi' := hi
    unfold txt at hi'
    rw [List.length_append] at hi'
    rw [e, rd_enc h]
    simp only []
    rw [if_neg (by simp), if_neg (by omega), if_pos (by simp; omega)]

/-! sums -/
def Z (r : Nat) : Nat := (r / 2) ^^^ (if r % 2 = 1 then 3988292384 else 0)
theorem Z_lt {r : Nat} (h : r < 4294967296) : Z r < 4294967296 := by
  unfold Z
  exact Nat.xor_lt_two_pow (n := 32) (by omega) (by split <;> decide)
theorem xor_half (a b : Nat) : (a ^^^ b) / 2 = a / 2 ^^^ b / 2 := by
  apply Nat.eq_of_testBit_eq
  intro i
  simp [Nat.testBit_div_two]
theorem xor_odd (a b : Nat) : (a ^^^ b) % 2 = (a % 2 + b % 2) % 2 := by
  have := Nat.testBit_xor a b 0
  simp only [Nat.testBit_zero] at this
  have ha : a % 2 = 0 ∨ a % 2 = 1 := by omega
  have hb : b % 2 = 0 ∨ b % 2 = 1 := by omega
  have hc : (a ^^^ b) % 2 = 0 ∨ (a ^^^ b) % 2 = 1 := by omega
  rcases ha with ha | ha <;> rcases hb with hb | hb <;> rcases hc with hc | hc <;> simp [ha, hb, hc] at this ⊢
theorem Z_xor (a b : Nat) : Z (a ^^^ b) = Z a ^^^ Z b := by
  unfold Z
  rw [xor_half, xor_odd]
  have ha : a % 2 = 0 ∨ a % 2 = 1 := by omega
  have hb : b % 2 = 0 ∨ b % 2 = 1 := by omega
  rcases ha with ha | ha <;> rcases hb with hb | hb <;> simp only [ha, hb]
  · simp
  · simp [Nat.xor_assoc]
  · simp only [Nat.zero_ne_one, ↓reduceIte, Nat.xor_zero]
    ac_rfl
  · simp only [Nat.reduceAdd, Nat.reduceMod, Nat.zero_ne_one, ↓reduceIte, Nat.xor_zero]
    rw [show a / 2 ^^^ 3988292384 ^^^ (b / 2 ^^^ 3988292384) = (a / 2 ^^^ b / 2) ^^^ (3988292384 ^^^ 3988292384) from by ac_rfl, Nat.xor_self, Nat.xor_zero]
theorem Z_zero {r : Nat} (hr : r < 4294967296) (h : Z r = 0) : r = 0 := by
  unfold Z at h
  by_cases ho : r % 2 = 1
  · rw [if_pos ho] at h
    have hb := congrArg (fun n => n.testBit 31) h
    simp only [Nat.testBit_xor, Nat.zero_testBit] at hb
    rw [Nat.testBit_lt_two_pow (show r / 2 < 2 ^ 31 by omega)] at hb
    exact absurd hb (by decide)
  · rw [if_neg ho, Nat.xor_zero] at h
    omega
/-- the register behind n bits -/
def reg (f : Nat → Nat) : Nat → Nat
  | 0 => 4294967295
  | n + 1 => Z (reg f n ^^^ f n)
def bitAt (l : List UInt8) (j : Nat) : Nat := at' l (j / 8) / 2 ^ (j % 8) % 2
theorem bitAt_lt (l : List UInt8) (j : Nat) : bitAt l j < 2 := Nat.mod_lt _ (by decide)
theorem reg_lt {f : Nat → Nat} (hf : ∀ j, f j < 2) : ∀ n, reg f n < 4294967296
  | 0 => by show 4294967295 < 4294967296; decide
  | n + 1 => Z_lt (Nat.xor_lt_two_pow (n := 32) (reg_lt hf n) (by have := hf n; omega))
def crc (l : List UInt8) : Nat := 4294967295 - reg (bitAt l) (8 * l.length)

theorem xor_eq_zero {a b : Nat} (h : a ^^^ b = 0) : a = b := by
  have := congrArg (· ^^^ b) h
  simpa [Nat.xor_assoc] using this
theorem diff_step {f g : Nat → Nat} (n : Nat) : reg f (n + 1) ^^^ reg g (n + 1) = Z ((reg f n ^^^ reg g n) ^^^ (f n ^^^ g n)) := by
  show Z (reg f n ^^^ f n) ^^^ Z (reg g n ^^^ g n) = _
  rw [← Z_xor]
  congr 1
  ac_rfl
def Zs : Nat → Nat → Nat
  | 0, r => r
  | n + 1, r => Z (Zs n r)
theorem Zs_lt {r : Nat} (h : r < 4294967296) : ∀ n, Zs n r < 4294967296
  | 0 => h
  | n + 1 => Z_lt (Zs_lt h n)
theorem Zs_ne {r : Nat} (h : r < 4294967296) (h0 : r ≠ 0) : ∀ n, Zs n r ≠ 0
  | 0 => h0
  | n + 1 => fun e => Zs_ne h h0 n (Z_zero (Zs_lt h n) e)
/-- PETERSON, BROWN: a burst of at most 32 bits is told -/
theorem burst {f g : Nat → Nat} (hf : ∀ j, f j < 2) (hg : ∀ j, g j < 2) {k turn : Nat} (ht : turn < 4294967296) (h0 : turn ≠ 0)
    (h : ∀ j, f j ^^^ g j = if k ≤ j ∧ j < k + 32 then turn / 2 ^ (j - k) % 2 else 0) {N : Nat} (hN : k + 32 ≤ N) : reg f N ≠ reg g N := by
  have hpre : ∀ n, n ≤ k → reg f n ^^^ reg g n = 0 := by
    intro n
    induction n with
    | zero => intro _; simp [reg]
    | succ n ih =>
      intro hn
      rw [diff_step, ih (by omega), h, if_neg (by omega)]
      rfl
  have hmid : ∀ i, i ≤ 32 → (reg f (k + i) ^^^ reg g (k + i)) ^^^ (turn / 2 ^ i) = Zs i turn := by
    intro i
    induction i with
    | zero => intro _; rw [Nat.add_zero, hpre k (Nat.le_refl _)]; simp [Zs]
    | succ i ih =>
      intro hi
      have e := ih (by omega)
      rw [← Nat.add_assoc, diff_step, h, if_pos (by omega), show k + i - k = i from by omega, Zs, ← e]
      have hd : turn / 2 ^ (i + 1) = turn / 2 ^ i / 2 := by rw [Nat.pow_succ, Nat.div_div_eq_div_mul]
      have hz : ∀ x, Z x = Z (x % 2) ^^^ (x / 2) := by
        intro x
        unfold Z
        have : x % 2 / 2 = 0 := by omega
        rw [this, Nat.zero_xor, Nat.mod_mod, Nat.xor_comm]
      rw [Z_xor, Z_xor (reg f (k + i) ^^^ reg g (k + i)), hd, hz (turn / 2 ^ i)]
      ac_rfl
  have hend : ∀ n, reg f (k + 32 + n) ^^^ reg g (k + 32 + n) ≠ 0 := by
    intro n
    induction n with
    | zero =>
      have e := hmid 32 (Nat.le_refl _)
      rw [Nat.div_eq_of_lt (show turn < 2 ^ 32 by omega), Nat.xor_zero] at e
      rw [Nat.add_zero, e]
      exact Zs_ne ht h0 32
    | succ n ih =>
      intro e
      rw [← Nat.add_assoc, diff_step, h, if_neg (by omega), Nat.xor_zero] at e
      exact ih (Z_zero (Nat.xor_lt_two_pow (n := 32) (reg_lt hf _) (reg_lt hg _)) e)
  intro e
  have := hend (N - (k + 32))
  rw [show k + 32 + (N - (k + 32)) = N from by omega, e, Nat.xor_self] at this
  exact this rfl
end Go.Proofs.YtohjipnkoiifhagGreatDoor.Pk

namespace Go.Proofs.YtohjipnkoiifhagGreatDoor.Pk

/-! records -/
theorem rt_one {l x : List UInt8} {most : Int} {n : Nat} (h : rt l most = (x, n, 0)) : txt x = l.take n ∧ n ≤ l.length ∧ (x.length : Int) ≤ most := by
  unfold rt at h
  split at h
  · rename_i he; injection h with _ h; injection h with _ h; exact absurd h he
  rename_i he
  have he0 : (rd l).2.2 = 0 := Classical.byContradiction fun q => he q
  obtain ⟨g1, g2, g3, g4, g5⟩ := rd_good he0
  split at h
  · injection h with _ h; injection h with _ h; exact absurd h (by decide)
  rename_i hm
  split at h
  · injection h with _ h; injection h with _ h; exact absurd h (by decide)
  rename_i hl
  injection h with h1 h2
  injection h2 with h2 _
  have hx : x.length = (rd l).1 := by rw [← h1]; simp; omega
  refine ⟨?_, by omega, by omega⟩
  unfold txt
  rw [hx, g1, ← h1, ← h2, List.take_add]
/-- a record's body -/
def body (k q t : Nat) (s h d : List UInt8) : List UInt8 := UInt8.ofNat k :: (enc q ++ (enc t ++ (txt s ++ (txt h ++ txt d))))
def le4 (n : Nat) : List UInt8 := [UInt8.ofNat (n % 256), UInt8.ofNat (n / 256 % 256), UInt8.ofNat (n / 65536 % 256), UInt8.ofNat (n / 16777216 % 256)]
def num4 (l : List UInt8) : Nat := at' l 0 + 256 * at' l 1 + 65536 * at' l 2 + 16777216 * at' l 3
theorem num4_le4 {n : Nat} (h : n < 4294967296) (more : List UInt8) : num4 (le4 n ++ more) = n := by
  unfold num4 le4
  simp only [List.cons_append, at_zero, at_succ, List.nil_append]
  rw [u8_of (by omega), u8_of (by omega), u8_of (by omega), u8_of (by omega)]
  omega
theorem le4_num4 {l : List UInt8} (h : 4 ≤ l.length) : le4 (num4 l) = l.take 4 := by
  match l, h with
  | a :: b :: c :: d :: r, _ =>
    unfold num4 le4
    simp only [at_zero, at_succ]
    have ha := UInt8.toNat_lt a
    have hb := UInt8.toNat_lt b
    have hc := UInt8.toNat_lt c
    have hd := UInt8.toNat_lt d
    rw [show (a.toNat + 256 * b.toNat + 65536 * c.toNat + 16777216 * d.toNat) % 256 = a.toNat from by omega,
      show (a.toNat + 256 * b.toNat + 65536 * c.toNat + 16777216 * d.toNat) / 256 % 256 = b.toNat from by omega,
      show (a.toNat + 256 * b.toNat + 65536 * c.toNat + 16777216 * d.toNat) / 65536 % 256 = c.toNat from by omega,
      show (a.toNat + 256 * b.toNat + 65536 * c.toNat + 16777216 * d.toNat) / 16777216 % 256 = d.toNat from by omega]
    simp
/-- what stands behind a number, behind a text -/
def aftN (l : List UInt8) : List UInt8 := l.drop (rd l).2.1
def aftT (l : List UInt8) : List UInt8 := l.drop (rt l 1024).2.1
theorem split_N {l : List UInt8} (h : (rd l).2.2 = 0) : enc (rd l).1 ++ aftN l = l := by
  rw [(rd_good h).1]; exact List.take_append_drop _ _
theorem split_T {l : List UInt8} (h : (rt l 1024).2.2 = 0) : txt (rt l 1024).1 ++ aftT l = l ∧ (rt l 1024).1.length ≤ 1024 := by
  have := rt_one (l := l) (most := 1024) (x := (rt l 1024).1) (n := (rt l 1024).2.1) (by rw [← h])
  refine ⟨?_, by omega⟩
  rw [this.1]
  exact List.take_append_drop _ _
/-- are a body's parts right, and is nothing left behind them? -/
def partsOk (r0 : List UInt8) : Prop := (rd r0).2.2 = 0 ∧ (rd (aftN r0)).2.2 = 0 ∧ (rt (aftN (aftN r0)) 1024).2.2 = 0 ∧ (rt (aftT (aftN (aftN r0))) 1024).2.2 = 0 ∧ (rt (aftT (aftT (aftN (aftN r0)))) 1024).2.2 = 0 ∧ aftT (aftT (aftT (aftN (aftN r0)))) = []
theorem aftN_enc {n : Nat} (h : n < 9223372036854775808) (more : List UInt8) : aftN (enc n ++ more) = more := by
  unfold aftN; rw [rd_enc h]; simp
theorem rt_at {t : List UInt8} (h : t.length ≤ 1024) (more : List UInt8) : rt (txt t ++ more) 1024 = (t, (txt t).length, 0) := by
  have h0 : t.length < 9223372036854775808 := by omega
  unfold rt txt
  rw [List.append_assoc, rd_enc h0]
  simp only []
  rw [if_neg (by simp), if_neg (by omega), if_neg (by simp)]
  simp
theorem aftT_txt {x : List UInt8} (h : x.length ≤ 1024) (more : List UInt8) : aftT (txt x ++ more) = more := by
  unfold aftT; rw [rt_at h]; simp
theorem parts_body {q t : Nat} {s h d : List UInt8} (hq : q < 9223372036854775808) (ht : t < 9223372036854775808) (hs : s.length ≤ 1024) (hh : h.length ≤ 1024) (hd : d.length ≤ 1024) :
    partsOk (enc q ++ (enc t ++ (txt s ++ (txt h ++ txt d)))) := by
  have e5 : rt (txt d) 1024 = (d, (txt d).length, 0) := by have := rt_at hd []; rwa [List.append_nil] at this
  have e6 : aftT (txt d) = [] := by have := aftT_txt hd []; rwa [List.append_nil] at this
  unfold partsOk
  rw [aftN_enc hq, aftN_enc ht, aftT_txt hs, aftT_txt hh, rd_enc hq, rd_enc ht, rt_at hs, rt_at hh, e5, e6]
  exact ⟨rfl, rfl, rfl, rfl, rfl, rfl⟩
theorem parts_one {r0 : List UInt8} (h : partsOk r0) :
    enc (rd r0).1 ++ (enc (rd (aftN r0)).1 ++ (txt (rt (aftN (aftN r0)) 1024).1 ++ (txt (rt (aftT (aftN (aftN r0))) 1024).1 ++ txt (rt (aftT (aftT (aftN (aftN r0)))) 1024).1))) = r0 := by
  obtain ⟨h1, h2, h3, h4, h5, h6⟩ := h
  have s5 := (split_T h5).1
  rw [h6, List.append_nil] at s5
  rw [s5, (split_T h4).1, (split_T h3).1, split_N h2, split_N h1]
end Go.Proofs.YtohjipnkoiifhagGreatDoor.Pk
