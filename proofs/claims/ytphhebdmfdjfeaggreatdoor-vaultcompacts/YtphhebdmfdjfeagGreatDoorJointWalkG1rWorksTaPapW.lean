/-
  Contract of slices.Equal at two slices that show the same records.
  A store's counts: there is such an index; each message's subject is right. No walk.
  A store whose messages lie by their numbers, pure: where a number is, what is erased there, what a purge leaves. No walk.
-/
import Derived.Test.YtphhebdmfdjfeagGreatDoorJointRowGRowBRowSRowURowV
import Derived.Deep.QuietTactic
import Derived.BigQuiet
import Derived.Test.YtphhebdmfdjfeagGreatDoorJointPapSPapTPlainIPapCPapE
import Derived.Test.YtphhebdmfdjfeagGreatDoorRowE
import Derived.Test.YtphhebdmfdjfeagGreatDoorJointWalkC3WalkC6
namespace Go.Proofs.YtphhebdmfdjfeagGreatDoor.Dk
open Go.RowKit

theorem neqR (r : Rc) (W : World) : (binOp .neq 30 (.agg #[.int .i64 r.k, .int .i64 r.q, .int .i64 r.t, .string r.s, .string r.h, .string r.d]) (.agg #[.int .i64 r.k, .int .i64 r.q, .int .i64 r.t, .string r.s, .string r.h, .string r.d])).run Tryz.prog W = .ok (.bool false) W := by
  have u3 := Tryz.underlying3
  have u9 := Tryz.underlying9
  have hS : Tryz.prog.underlying 30 = some (.struct (Tryz.prog.fieldsOf 30)) := by kernel_rfl
  have hp : Tryz.prog.stoodInHeld 30 = false := by kernel_rfl
  rw [run_neq_struct, show (10000 : Nat) = 9999 + 1 from rfl, run_equalIn_agg W 9999 30 _ _ hS hp]
  simp only [Program.fieldsOf, Tryz.underlying30]
  go_simp

set_option maxHeartbeats 2000000 in
set_option maxRecDepth 100000 in
theorem equal_rec (a b : Option Addr) (ca cb : Nat) (l : List Rc) (w : World) (ha : SlR w a l) (hb : SlR w b l) (h100 : l.length ≤ 1000000) :
    Calls Tryz.prog 12 #[.slice a l.length ca, .slice b l.length cb] w fun e w' => e = .returned (.bool true) ∧ ∃ q, w' = w.drewN q := by
  have Ha := hide ha
  have Hb := hide hb
  clear ha hb
  have hm : Tryz.prog.eqGuardType Tryz.prog.depth 30 = false := by kernel_rfl
  go_enter Tryz.func12, Tryz.ntmps12
  go_wp2
  go_loopw [13] (fun kv wr => ∃ (k : Nat), kv = .int .i64 k ∧ k ≤ l.length ∧ ∃ n, wr = w.drewN n) (fun kv _ => l.length - (intOf kv).toNat)
  case atStart => exact ⟨0, rfl, Nat.zero_le _, 0, rfl⟩
  case round =>
    obtain ⟨k, rfl, hk, n, rfl⟩ := hrel
    by_cases hlt : k < l.length
    · obtain ⟨g, o, rfl, s1⟩ := unhide Ha k hlt
      obtain ⟨h, o2, rfl, s2⟩ := unhide Hb k hlt
      obtain ⟨_, x0, x1, x2, x3, x4, x5⟩ := s1
      obtain ⟨_, y0, y1, y2, y3, y4, y5⟩ := s2
      have hne := neqR (rc l k)
      go_wp2
      go_quiet (fail)
      go_wp2
      exact ⟨⟨k + 1, by go_num, by omega, _, rfl⟩, by simp [intOf]; omega⟩
    · go_wp2
      go_ret
      exact ⟨rfl, n, rfl⟩
end Go.Proofs.YtphhebdmfdjfeagGreatDoor.Dk

namespace Go.Proofs.YtphhebdmfdjfeagGreatDoor.Dk
open Go.RowKit

theorem right_msg {r : Rc} (h : chkR r = 0) (h1 : r.k = 1) : errS false r.s = 0 := by
  have e := chkV_eq r.k r.q r.t r.s r.h r.d
  have e2 : chkV r.k r.q r.t r.s r.h r.d = 0 := h
  rw [e2] at e
  by_cases hb : Pk.inB r.k r.q r.t = false
  · rw [if_pos hb] at e; cases e
  · rw [if_neg hb, if_pos h1] at e
    unfold msgE at e
    by_cases z : errS false r.s ≠ 0
    · rw [if_pos z] at e; exact e.symm
    · exact Classical.byContradiction z
theorem Sto.Ok.cnt {s : Sto} (h : s.Ok) : ∃ es, Cnt s.l es := cnt_ex _ s.l rfl (fun x hx => ⟨right_msg (h.msg x hx).2 (h.msg x hx).1, by have := (h.small hx).1; omega⟩) h.names
end Go.Proofs.YtphhebdmfdjfeagGreatDoor.Dk

namespace Go.Proofs.YtphhebdmfdjfeagGreatDoor.Dk
open Go.RowKit

/-- how many messages have a lower number -/
def pq : List Rc → Int → Nat
  | [], _ => 0
  | r :: l, n => if r.q < n then pq l n + 1 else 0
def RiseQ (l : List Rc) : Prop := l.Pairwise fun a b => a.q < b.q
theorem pq_le : ∀ (l : List Rc) (n : Int), pq l n ≤ l.length
  | [], _ => Nat.le_refl _
  | r :: l, n => by
    have := pq_le l n
    rw [pq, List.length_cons]
    split <;> omega
theorem rc_mem {l : List Rc} {k : Nat} (h : k < l.length) : rc l k ∈ l := by rw [rc_get h]; exact List.getElem_mem h
theorem pq_lt : ∀ (l : List Rc) (n : Int) (k : Nat), k < pq l n → (rc l k).q < n
  | [], n, k, h => by simp [pq] at h
  | r :: l, n, k, h => by
    rw [pq] at h
    by_cases hr : r.q < n
    · rw [if_pos hr] at h
      match k, h with
      | 0, _ => exact hr
      | k + 1, h => exact pq_lt l n k (by omega)
    · rw [if_neg hr] at h; omega
theorem pq_at : ∀ (l : List Rc) (n : Int), pq l n < l.length → n ≤ (rc l (pq l n)).q
  | [], n, h => by simp [pq] at h
  | r :: l, n, h => by
    rw [pq] at h ⊢
    by_cases hr : r.q < n
    · rw [if_pos hr] at h ⊢
      have := pq_at l n (by rw [List.length_cons] at h; omega)
      exact this
    · rw [if_neg hr]
      have e : rc (r :: l) 0 = r := rfl
      rw [e]; omega
theorem rise_lt {l : List Rc} (h : RiseQ l) {i j : Nat} (hij : i < j) (hj : j < l.length) : (rc l i).q < (rc l j).q := by
  rw [rc_get (by omega), rc_get hj]
  exact List.pairwise_iff_getElem.1 h i j (by omega) hj hij
theorem pq_ge {l : List Rc} (h : RiseQ l) (n : Int) (k : Nat) (h1 : pq l n ≤ k) (h2 : k < l.length) : n ≤ (rc l k).q := by
  have ha := pq_at l n (by omega)
  rcases Nat.eq_or_lt_of_le h1 with e | e
  · rw [← e]; exact ha
  · have := rise_lt h e h2; omega
theorem pq_is {l : List Rc} {n : Int} {i : Nat} (hi : i ≤ l.length) (h1 : ∀ j, j < i → (rc l j).q < n) (h2 : ∀ j, i ≤ j → j < l.length → n ≤ (rc l j).q) : i = pq l n := by
  rcases Nat.lt_trichotomy i (pq l n) with h | h | h
  · have a := pq_lt l n i h
    have := pq_le l n
    have := h2 i (Nat.le_refl _) (by omega)
    omega
  · exact h
  · have a := pq_at l n (by omega)
    have := h1 (pq l n) h
    omega
theorem seq_at {l : List Rc} (h : RiseQ l) (n : Int) : seqB l n = (decide (pq l n < l.length) && decide ((rc l (pq l n)).q = n)) := by
  unfold seqB
  rw [Bool.eq_iff_iff, List.any_eq_true, Bool.and_eq_true, decide_eq_true_eq, decide_eq_true_eq]
  constructor
  · rintro ⟨x, hx, e⟩
    have e : x.q = n := of_decide_eq_true e
    obtain ⟨j, hj, rfl⟩ := List.getElem_of_mem hx
    rw [← rc_get hj] at e
    have hp : pq l n = j := by
      refine (pq_is (by omega) (fun i hi => ?_) (fun i hi hl => ?_)).symm
      · have := rise_lt h hi hj; omega
      · rcases Nat.eq_or_lt_of_le hi with z | z
        · rw [← z]; omega
        · have := rise_lt h z hl; omega
    rw [hp]
    exact ⟨hj, e⟩
  · rintro ⟨h1, h2⟩
    exact ⟨_, rc_mem h1, by rw [h2]; simp⟩
theorem seq_miss {l : List Rc} (h : RiseQ l) {n : Int} (hp : pq l n < l.length) : seqB l n = decide ((rc l (pq l n)).q = n) := by
  rw [seq_at h, decide_eq_true hp, Bool.true_and]
theorem seq_end {l : List Rc} (h : RiseQ l) {n : Int} (hp : ¬ pq l n < l.length) : seqB l n = false := by
  rw [seq_at h, decide_eq_false hp, Bool.false_and]
theorem seq_hit {l : List Rc} (h : RiseQ l) {n : Int} (hs : seqB l n = true) : pq l n < l.length ∧ (rc l (pq l n)).q = n := by
  rw [seq_at h, Bool.and_eq_true, decide_eq_true_eq, decide_eq_true_eq] at hs
  exact hs
theorem split_at {l : List Rc} {k : Nat} (h : k < l.length) : l = l.take k ++ rc l k :: l.drop (k + 1) := by
  rw [rc_get h, ← List.drop_eq_getElem_cons h, List.take_append_drop]
theorem get_hit {l : List Rc} (h : RiseQ l) {n : Int} (hs : seqB l n = true) : getO l n = some (rc l (pq l n)) := by
  obtain ⟨h1, h2⟩ := seq_hit h hs
  unfold getO
  rw [List.find?_eq_some_iff_getElem]
  refine ⟨by rw [h2]; simp, pq l n, h1, (rc_get h1).symm, fun j hj => ?_⟩
  have := pq_lt l n j hj
  rw [rc_get (by omega)] at this
  simp only [Bool.not_eq_true', decide_eq_false_iff_not]
  omega
theorem get_none {l : List Rc} {n : Int} (hs : seqB l n = false) : getO l n = none := by
  unfold getO
  rw [List.find?_eq_none]
  intro x hx
  unfold seqB at hs
  rw [List.any_eq_false] at hs
  exact hs x hx
theorem find_same {p q : Rc → Bool} : ∀ {l : List Rc}, (∀ x ∈ l, p x = q x) → l.find? p = l.find? q
  | [], _ => rfl
  | x :: l, h => by
    rw [List.find?_cons, List.find?_cons, h x (List.mem_cons_self ..), find_same (l := l) (fun y hy => h y (List.mem_cons_of_mem _ hy))]
theorem nextO_drop {l : List Rc} (h : RiseQ l) (f : ByteArray) (n : Int) : nextO f l n = (l.drop (pq l n)).find? fun r => tkB f r.s := by
  unfold nextO
  have e : l.find? (fun r => tkB f r.s && decide (n ≤ r.q)) = ((l.take (pq l n)) ++ (l.drop (pq l n))).find? (fun r => tkB f r.s && decide (n ≤ r.q)) := by rw [List.take_append_drop]
  rw [e, List.find?_append]
  have e1 : (l.take (pq l n)).find? (fun r => tkB f r.s && decide (n ≤ r.q)) = none := by
    rw [List.find?_eq_none]
    intro x hx
    obtain ⟨j, hj, rfl⟩ := List.getElem_of_mem hx
    rw [List.length_take] at hj
    have := pq_lt l n j (by omega)
    rw [rc_get (by omega)] at this
    rw [List.getElem_take]
    simp only [Bool.and_eq_true, decide_eq_true_eq, not_and]
    intro _
    omega
  rw [e1, Option.none_or]
  refine find_same (fun x hx => ?_)
  obtain ⟨j, hj, rfl⟩ := List.getElem_of_mem hx
  rw [List.length_drop] at hj
  rw [List.getElem_drop]
  have := pq_ge h n (pq l n + j) (by omega) (by omega)
  rw [rc_get (by omega)] at this
  rw [decide_eq_true this, Bool.and_true]
/-- the message of that number is gone -/
def delR (l : List Rc) (i : Nat) : List Rc := l.take i ++ l.drop (i + 1)
theorem delR_length {l : List Rc} {i : Nat} (h : i < l.length) : (delR l i).length = l.length - 1 := by
  unfold delR
  rw [List.length_append, List.length_take, List.length_drop]
  omega
theorem erase_is {l : List Rc} (h : RiseQ l) {n : Int} (hs : seqB l n = true) : l.filter (fun x => !decide (x.q = n)) = delR l (pq l n) := by
  obtain ⟨h1, h2⟩ := seq_hit h hs
  unfold delR
  have e := congrArg (List.filter fun x : Rc => !decide (x.q = n)) (split_at h1)
  rw [e, List.filter_append, List.filter_cons, h2]
  simp only [decide_true, Bool.not_true, Bool.false_eq_true, if_false]
  congr 1
  · refine List.filter_eq_self.2 (fun x hx => ?_)
    obtain ⟨j, hj, rfl⟩ := List.getElem_of_mem hx
    rw [List.length_take] at hj
    have := pq_lt l n j (by omega)
    rw [rc_get (by omega)] at this
    rw [List.getElem_take]
    simp only [Bool.not_eq_true', decide_eq_false_iff_not]
    omega
  · refine List.filter_eq_self.2 (fun x hx => ?_)
    obtain ⟨j, hj, rfl⟩ := List.getElem_of_mem hx
    rw [List.length_drop] at hj
    have := rise_lt h (i := pq l n) (j := pq l n + 1 + j) (by omega) (by omega)
    rw [rc_get (l := l) (k := pq l n + 1 + j) (by omega)] at this
    rw [List.getElem_drop]
    simp only [Bool.not_eq_true', decide_eq_false_iff_not]
    omega
/-- what a purge leaves of messages that all have a lower number -/
def leftL (f : ByteArray) (l : List Rc) : List Rc := l.filter fun x => !tkB f x.s
theorem left_take {f : ByteArray} {l : List Rc} {k : Nat} (h : k < l.length) : leftL f (l.take (k + 1)) = leftL f (l.take k) ++ (if tkB f (rc l k).s then [] else [rc l k]) := by
  unfold leftL
  rw [List.take_succ_eq_append_getElem h, ← rc_get h, List.filter_append]
  cases e : tkB f (rc l k).s <;> simp [e]
theorem left_len (f : ByteArray) (l : List Rc) : (leftL f l).length ≤ l.length := List.length_filter_le _ _
theorem purge_is {l : List Rc} (h : RiseQ l) (f : ByteArray) (n : Int) : l.filter (fun x => !(decide (x.q < n) && tkB f x.s)) = leftL f (l.take (pq l n)) ++ l.drop (pq l n) := by
  have e := congrArg (List.filter fun x : Rc => !(decide (x.q < n) && tkB f x.s)) (List.take_append_drop (pq l n) l).symm
  rw [e, List.filter_append]
  congr 1
  · unfold leftL
    refine List.filter_congr (fun x hx => ?_)
    obtain ⟨j, hj, rfl⟩ := List.getElem_of_mem hx
    rw [List.length_take] at hj
    have := pq_lt l n j (by omega)
    rw [rc_get (by omega)] at this
    rw [List.getElem_take, decide_eq_true this, Bool.true_and]
  · refine List.filter_eq_self.2 (fun x hx => ?_)
    obtain ⟨j, hj, rfl⟩ := List.getElem_of_mem hx
    rw [List.length_drop] at hj
    have := pq_ge h n (pq l n + j) (by omega) (by omega)
    rw [rc_get (by omega)] at this
    rw [List.getElem_drop, decide_eq_false (by omega), Bool.false_and]
    rfl
/-- one message less, as the program counts it off -/
def offL (es : List Ent) (n : Int) (s : ByteArray) : List Ent := if 1 < n then putL es s (n - 1) else dropL es s
theorem Cnt.off {A B : List Rc} {x : Rc} {es : List Ent} (h : Cnt (A ++ x :: B) es) (hs : errS false x.s = 0) (hz : x.s.size ≤ 140737488355328) : Cnt (A ++ B) (offL es (getN es x.s) x.s) := by
  have hc : cntN (A ++ x :: B) x.s = cntN (A ++ B) x.s + 1 := by
    rw [show A ++ x :: B = A ++ ([x] ++ B) from rfl, cntN_append, cntN_append, cntN_append, cntN_one, if_pos rfl]
    omega
  have h2 := (h.less hs hz).2
  unfold offL
  rw [h.get hs, hc]
  by_cases h0 : cntN (A ++ B) x.s = 0
  · rw [if_pos h0] at h2
    rw [if_neg (by omega)]
    exact h2
  · rw [if_neg h0] at h2
    rw [if_pos (by omega), show ((cntN (A ++ B) x.s + 1 : Nat) : Int) - 1 = (cntN (A ++ B) x.s : Int) by omega]
    exact h2
end Go.Proofs.YtphhebdmfdjfeagGreatDoor.Dk
