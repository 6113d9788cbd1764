/-
  A store, pure: its messages by rising numbers, and the last number there ever was; what Try and Apply make of it. No walk.
  A store, pure: what Get, Last, Next and Sums answer; going on from one message to the next one. No walk.
-/
import Derived.Test.YtcdajajekmichafDoorJointPapDPapLPapMPapGPapN
import Derived.Test.YtcdajajekmichafDoorJointPlain2Plain5
namespace Go.Proofs.YtcdajajekmichafDoor.Dk
open Go.RowKit

structure Sto where
  l : List Rc
  last : Int
/-- a filter takes a subject (both are right) -/
def tkB (f s : ByteArray) : Bool := coverL (Pl.toks f) (Pl.toks s)
def hasS (l : List Rc) (s : ByteArray) : Bool := l.any fun r => decide (r.s = s)
/-- how many subjects there are -/
def nameN : List Rc → Nat
  | [] => 0
  | r :: l => nameN l + (if hasS l r.s then 0 else 1)
def seqB (l : List Rc) (n : Int) : Bool := l.any fun r => decide (r.q = n)
def tryE (s : Sto) (r : Rc) : Int :=
  if chkR r ≠ 0 then chkR r
  else if r.k = 2 ∧ seqB s.l r.q = false then 4
  else if r.k ≠ 1 then 0
  else if r.q ≤ s.last then 9
  else if 200 ≤ s.l.length ∨ (hasS s.l r.s = false ∧ 100 ≤ nameN s.l) then 8
  else 0
def goneB (r x : Rc) : Bool := (decide (r.k = 2) && decide (x.q = r.q)) || (decide (r.k = 3) && (decide (x.q < r.q) && tkB r.s x.s))
def aplS (s : Sto) (r : Rc) : Sto :=
  if tryE s r ≠ 0 then s
  else if r.k = 1 then ⟨s.l ++ [r], r.q⟩
  else if r.k = 4 then ⟨s.l, max s.last r.q⟩
  else ⟨s.l.filter (fun x => !goneB r x), s.last⟩
/-- what each call keeps -/
structure Sto.Ok (s : Sto) : Prop where
  rise : s.l.Pairwise fun a b => a.q < b.q
  msg : ∀ x ∈ s.l, x.k = 1 ∧ chkR x = 0
  low : ∀ x ∈ s.l, x.q ≤ s.last
  last : 0 ≤ s.last ∧ s.last ≤ 1099511627776
  few : s.l.length ≤ 200
  names : nameN s.l ≤ 100
theorem hasS_append (a b : List Rc) (s : ByteArray) : hasS (a ++ b) s = (hasS a s || hasS b s) := by unfold hasS; rw [List.any_append]
theorem nameN_snoc : ∀ (l : List Rc) (r : Rc), nameN (l ++ [r]) = nameN l + (if hasS l r.s then 0 else 1)
  | [], r => by simp [nameN, hasS]
  | x :: l, r => by
    rw [List.cons_append, nameN, nameN, nameN_snoc l r, hasS_append]
    have e : hasS [r] x.s = decide (r.s = x.s) := by simp [hasS]
    have e2 : hasS (x :: l) r.s = (decide (x.s = r.s) || hasS l r.s) := by simp [hasS]
    rw [e, e2]
    by_cases h : x.s = r.s
    · have h' : r.s = x.s := h.symm
      rw [h]
      cases hasS l r.s <;> simp
    · have h' : ¬ r.s = x.s := fun z => h z.symm
      rw [decide_eq_false h, decide_eq_false h']
      cases hasS l x.s <;> cases hasS l r.s <;> simp
theorem hasS_filter {p : Rc → Bool} {l : List Rc} {s : ByteArray} (h : hasS (l.filter p) s = true) : hasS l s = true := by
  unfold hasS at h ⊢
  rw [List.any_eq_true] at h ⊢
  obtain ⟨x, hx, hs⟩ := h
  exact ⟨x, (List.mem_filter.1 hx).1, hs⟩
/-- subjects of fewer messages -/
def nameL : List Rc → List ByteArray
  | [] => []
  | r :: l => if hasS l r.s then nameL l else r.s :: nameL l
theorem nameN_len : ∀ l : List Rc, nameN l = (nameL l).length
  | [] => rfl
  | r :: l => by
    rw [nameN, nameL, nameN_len l]
    by_cases h : hasS l r.s = true
    · rw [if_pos h, if_pos h]; omega
    · rw [if_neg h, if_neg h]; rfl
theorem nameL_mem : ∀ (l : List Rc) (s : ByteArray), s ∈ nameL l ↔ hasS l s = true
  | [], s => by simp [nameL, hasS]
  | r :: l, s => by
    have e : hasS (r :: l) s = (decide (r.s = s) || hasS l s) := by simp [hasS]
    rw [nameL, e]
    by_cases h : hasS l r.s = true
    · rw [if_pos h, nameL_mem l s]
      constructor
      · intro z; rw [z]; simp
      · intro z
        rcases Bool.or_eq_true _ _ ▸ z with y | y
        · rw [← of_decide_eq_true y]; exact h
        · exact y
    · rw [if_neg h, List.mem_cons, nameL_mem l s, Bool.or_eq_true, decide_eq_true_eq]
      constructor
      · rintro (y | y)
        · exact .inl y.symm
        · exact .inr y
      · rintro (y | y)
        · exact .inl y.symm
        · exact .inr y
theorem nameL_nodup : ∀ l : List Rc, (nameL l).Nodup
  | [] => List.nodup_nil
  | r :: l => by
    rw [nameL]
    by_cases h : hasS l r.s = true
    · rw [if_pos h]; exact nameL_nodup l
    · rw [if_neg h, List.nodup_cons]
      exact ⟨fun z => h ((nameL_mem l r.s).1 z), nameL_nodup l⟩
theorem nodup_le {α : Type} [DecidableEq α] : ∀ (a b : List α), a.Nodup → (∀ x ∈ a, x ∈ b) → a.length ≤ b.length
  | [], b, _, _ => Nat.zero_le _
  | x :: a, b, hn, hs => by
    rw [List.nodup_cons] at hn
    have hx : x ∈ b := hs x (List.mem_cons_self ..)
    have := nodup_le a (b.erase x) hn.2 (fun y hy => (List.mem_erase_of_ne (fun e => hn.1 (by rw [← e]; exact hy))).2 (hs y (List.mem_cons_of_mem _ hy)))
    rw [List.length_erase_of_mem hx] at this
    have : 0 < b.length := List.length_pos_of_mem hx
    simp only [List.length_cons]
    omega
theorem nameN_filter (p : Rc → Bool) (l : List Rc) : nameN (l.filter p) ≤ nameN l := by
  rw [nameN_len, nameN_len]
  exact nodup_le _ _ (nameL_nodup _) (fun s hs => (nameL_mem l s).2 (hasS_filter ((nameL_mem _ s).1 hs)))
theorem Sto.Ok.nil : Sto.Ok ⟨[], 0⟩ := ⟨List.Pairwise.nil, fun _ h => (by cases h), fun _ h => (by cases h), ⟨Int.le_refl _, by decide⟩, Nat.zero_le _, Nat.zero_le _⟩
theorem chkR_in {r : Rc} (h : chkR r = 0) : 1 ≤ r.q ∧ r.q ≤ 1099511627776 := by
  obtain ⟨_, _, h1, h2, _⟩ := Pk.chk_len (r := r.pk) h
  exact ⟨h1, h2⟩
theorem Sto.Ok.apply {s : Sto} (h : s.Ok) (r : Rc) : (aplS s r).Ok := by
  unfold aplS
  by_cases h0 : tryE s r ≠ 0
  · rw [if_pos h0]; exact h
  · rw [if_neg h0]
    have h0 : tryE s r = 0 := Classical.byContradiction h0
    have hc : chkR r = 0 := by
      apply Classical.byContradiction
      intro z
      unfold tryE at h0
      rw [if_pos z] at h0
      exact z h0
    have hq := chkR_in hc
    by_cases h1 : r.k = 1
    · rw [if_pos h1]
      have h2 : ¬ r.q ≤ s.last ∧ ¬ (200 ≤ s.l.length ∨ (hasS s.l r.s = false ∧ 100 ≤ nameN s.l)) := by
        unfold tryE at h0
        rw [if_neg (by rw [hc]; simp), if_neg (by omega), if_neg (by omega)] at h0
        by_cases z : r.q ≤ s.last
        · rw [if_pos z] at h0; omega
        · rw [if_neg z] at h0
          by_cases y : 200 ≤ s.l.length ∨ (hasS s.l r.s = false ∧ 100 ≤ nameN s.l)
          · rw [if_pos y] at h0; omega
          · exact ⟨z, y⟩
      obtain ⟨h2, h3⟩ := h2
      refine ⟨?_, ?_, ?_, ⟨by show 0 ≤ r.q; omega, hq.2⟩, ?_, ?_⟩
      · rw [List.pairwise_append]
        refine ⟨h.rise, List.pairwise_singleton _ _, fun a ha b hb => ?_⟩
        rw [List.mem_singleton.1 hb]
        have := h.low a ha
        omega
      · intro x hx
        rcases List.mem_append.1 hx with y | y
        · exact h.msg x y
        · rw [List.mem_singleton.1 y]; exact ⟨h1, hc⟩
      · intro x hx
        rcases List.mem_append.1 hx with y | y
        · have := h.low x y; show x.q ≤ r.q; omega
        · rw [List.mem_singleton.1 y]; exact Int.le_refl _
      · show (s.l ++ [r]).length ≤ 200
        rw [List.length_append, List.length_singleton]; omega
      · show nameN (s.l ++ [r]) ≤ 100
        rw [nameN_snoc]
        have := h.names
        cases hh : hasS s.l r.s
        · rw [if_neg (by simp)]
          have : ¬ 100 ≤ nameN s.l := fun z => h3 (.inr ⟨hh, z⟩)
          omega
        · rw [if_pos rfl]; omega
    · rw [if_neg h1]
      by_cases h4 : r.k = 4
      · rw [if_pos h4]
        have hl := h.last
        refine ⟨h.rise, h.msg, fun x hx => ?_, ⟨?_, ?_⟩, h.few, h.names⟩
        · have := h.low x hx; show x.q ≤ max s.last r.q; omega
        · show 0 ≤ max s.last r.q; omega
        · show max s.last r.q ≤ 1099511627776; omega
      · rw [if_neg h4]
        exact ⟨h.rise.sublist List.filter_sublist, fun x hx => h.msg x (List.mem_filter.1 hx).1, fun x hx => h.low x (List.mem_filter.1 hx).1, h.last, Nat.le_trans (List.length_filter_le _ _) h.few, Nat.le_trans (nameN_filter _ _) h.names⟩
end Go.Proofs.YtcdajajekmichafDoor.Dk

namespace Go.Proofs.YtcdajajekmichafDoor.Dk
open Go.RowKit

def takenL (f : ByteArray) (l : List Rc) : List Rc := l.filter fun r => tkB f r.s
def getO (l : List Rc) (n : Int) : Option Rc := l.find? fun r => decide (r.q = n)
def nextO (f : ByteArray) (l : List Rc) (from' : Int) : Option Rc := l.find? fun r => tkB f r.s && decide (from' ≤ r.q)
def lastO (f : ByteArray) (l : List Rc) : Option Rc := (takenL f l).getLast?
def byteN : List Rc → Nat
  | [] => 0
  | r :: l => r.s.size + r.h.size + r.d.size + byteN l
def firstQ (l : List Rc) : Int := match l with
  | [] => 0
  | r :: _ => r.q
theorem byteN_append : ∀ a b : List Rc, byteN (a ++ b) = byteN a + byteN b
  | [], b => by simp [byteN]
  | r :: a, b => by rw [List.cons_append, byteN, byteN, byteN_append a b]; omega
theorem byteN_le {l : List Rc} (h : ∀ r ∈ l, r.s.size ≤ 135 ∧ r.h.size + r.d.size ≤ 256) : byteN l ≤ 391 * l.length := by
  induction l with
  | nil => simp [byteN]
  | cons r l ih =>
    have h1 := h r (List.mem_cons_self ..)
    have h2 := ih (fun x hx => h x (List.mem_cons_of_mem _ hx))
    rw [byteN, List.length_cons]
    omega
theorem Sto.Ok.small {s : Sto} (h : s.Ok) {x : Rc} (hx : x ∈ s.l) : x.s.size ≤ 135 ∧ x.h.size + x.d.size ≤ 256 := by
  obtain ⟨_, _, _, _, _, _, h1, h2⟩ := Pk.chk_len (r := x.pk) (h.msg x hx).2
  have e : ∀ x : ByteArray, x.data.toList.length = x.size := fun x => by simp
  simp only [Rc.pk, e] at h1 h2
  exact ⟨h1, h2⟩
theorem Sto.Ok.bytes {s : Sto} (h : s.Ok) : byteN s.l ≤ 78200 := by
  have h1 := byteN_le (fun r hr => h.small hr)
  have := h.few
  omega
theorem Sto.Ok.seq {s : Sto} (h : s.Ok) {x : Rc} (hx : x ∈ s.l) : 1 ≤ x.q ∧ x.q ≤ 1099511627776 := chkR_in (h.msg x hx).2
theorem taken_rise {f : ByteArray} {l : List Rc} (h : l.Pairwise fun a b => a.q < b.q) : (takenL f l).Pairwise fun a b => a.q < b.q := h.sublist List.filter_sublist
theorem next_taken (f : ByteArray) (l : List Rc) (n : Int) : nextO f l n = (takenL f l).find? fun r => decide (n ≤ r.q) := by
  unfold nextO takenL
  rw [List.find?_filter]
  congr
  funext r
  cases tkB f r.s <;> simp
/-- the k-th of those that rise is the first one from a number on that is above all ahead of it -/
theorem find_rise {T : List Rc} {k : Nat} {n : Int} (h1 : ∀ j, (hj : j < T.length) → j < k → T[j].q < n) (h2 : ∀ hk : k < T.length, n ≤ T[k].q) : T.find? (fun r => decide (n ≤ r.q)) = T[k]? := by
  by_cases hk : k < T.length
  · rw [List.getElem?_eq_getElem hk, List.find?_eq_some_iff_getElem]
    refine ⟨by simpa using h2 hk, k, hk, rfl, fun j hj => ?_⟩
    have := h1 j (by omega) hj
    simp only [Bool.not_eq_true', decide_eq_false_iff_not]
    omega
  · rw [List.getElem?_eq_none (by omega), List.find?_eq_none]
    intro x hx
    obtain ⟨j, hj, rfl⟩ := List.getElem_of_mem hx
    have := h1 j hj (by omega)
    simp only [decide_eq_true_eq]
    omega
/-- where one is behind k messages that a filter takes -/
def Gone (T : List Rc) (k : Nat) (n : Int) : Prop := k ≤ T.length ∧ ((k = 0 ∧ n = 0) ∨ ∃ j, ∃ hj : j < T.length, k = j + 1 ∧ n = T[j].q + 1)
theorem Gone.next {f : ByteArray} {s : Sto} (h : s.Ok) {k : Nat} {n : Int} (g : Gone (takenL f s.l) k n) : nextO f s.l n = (takenL f s.l)[k]? := by
  have hr := taken_rise (f := f) h.rise
  have hp : ∀ x ∈ takenL f s.l, 1 ≤ x.q := fun x hx => (h.seq (List.mem_filter.1 hx).1).1
  rw [next_taken]
  obtain ⟨_, ⟨rfl, rfl⟩ | ⟨j, hj, rfl, rfl⟩⟩ := g
  · exact find_rise (fun j _ z => absurd z (Nat.not_lt_zero j)) (fun hk => by have := hp _ (List.getElem_mem hk); omega)
  · refine find_rise (fun i hi z => ?_) (fun hk => ?_)
    · rcases Nat.lt_or_ge i j with y | y
      · have := List.pairwise_iff_getElem.1 hr i j hi hj y; omega
      · obtain rfl : i = j := by omega
        omega
    · have := List.pairwise_iff_getElem.1 hr j (j + 1) hj hk (by omega); omega
theorem Gone.step {T : List Rc} {k : Nat} (hk : k < T.length) : Gone T (k + 1) (T[k].q + 1) := ⟨hk, .inr ⟨k, hk, rfl, rfl⟩⟩
theorem Gone.start (T : List Rc) : Gone T 0 0 := ⟨Nat.zero_le _, .inl ⟨rfl, rfl⟩⟩
/-- what a purge leaves -/
theorem purge_left {s : Sto} {r : Rc} (h0 : tryE s r = 0) (h3 : r.k = 3) : aplS s r = ⟨s.l.filter (fun x => !(decide (x.q < r.q) && tkB r.s x.s)), s.last⟩ := by
  unfold aplS
  rw [if_neg (by rw [h0]; simp), if_neg (by omega), if_neg (by omega)]
  unfold goneB
  rw [h3]
  simp
theorem purge_try {s : Sto} {r : Rc} (h3 : r.k = 3) : tryE s r = chkR r := by
  unfold tryE
  by_cases hc : chkR r ≠ 0
  · rw [if_pos hc]
  · rw [if_neg hc, if_neg (by omega), if_pos (by omega)]
    exact (Classical.byContradiction hc : chkR r = 0).symm
end Go.Proofs.YtcdajajekmichafDoor.Dk
