/-
  The document's disk: what it is and what every call makes of it; which blocks a call may have written. No walk, and nothing of the program's own.
  The document's disk as a map from numbers to files, and what every call keeps of it. No walk.
  What every call of the document's disk keeps, and what it does to the map from numbers to files. No walk.
  The document's log: what is read of a disk's files, what an append and a rewriting make of them. No walk, and nothing of the program's own.
  Records whose texts can be; how long a record's bytes are. No walk.
-/
import Derived.Test.YtphhebdmfdjfeagGreatDoorRows
import Derived.Test.YtphhebdmfdjfeagGreatDoorJointBase0RowZ
import Derived.WalkKit
import Derived.WalkSpells
import Derived.WalkLawsBesides
import Derived.Deep.QuietTactic
import Derived.BigQuiet
import Derived.Laws.IdiomCopy
import Derived.Lib.Overlaps
import Derived.Lib.AppendZerosOnto
import Derived.Laws.NewBlocks
import Derived.Test.YtphhebdmfdjfeagGreatDoorJointPlainPlainNPlainRecPlainSPlainR2
namespace Go.Proofs.YtphhebdmfdjfeagGreatDoor.Dk
open Go.RowKit

/-- a file of the document's disk -/
structure Pap where
  n : Int
  sure : Int
  text : ByteArray
def pa (l : List Pap) (k : Nat) : Pap := l[k]?.getD ⟨0, 0, ByteArray.empty⟩
theorem pa_get {l : List Pap} {k : Nat} (h : k < l.length) : pa l k = l[k] := by unfold pa; rw [List.getElem?_eq_getElem h]; rfl
theorem pa_mem {l : List Pap} {k : Nat} (h : k < l.length) : pa l k ∈ l := by rw [pa_get h]; exact List.getElem_mem h
theorem pa_zero (e : Pap) (r : List Pap) : pa (e :: r) 0 = e := rfl
theorem pa_succ (e : Pap) (r : List Pap) (k : Nat) : pa (e :: r) (k + 1) = pa r k := rfl
/-- which blocks may have been written; new ones may be there -/
structure Chg (A : Nat → Prop) (w w' : World) : Prop where
  os : w'.os = w.os
  tape : w'.tape = w.tape
  output : w'.output = w.output
  size : w.heap.size ≤ w'.heap.size
  block : ∀ k, k < w.heap.size → ¬ A k → w'.heap[k]? = w.heap[k]?
theorem Chg.refl (A : Nat → Prop) (w : World) : Chg A w w := ⟨rfl, rfl, rfl, Nat.le_refl _, fun _ _ _ => rfl⟩
theorem Chg.trans {A : Nat → Prop} {a b c : World} (h : Chg A a b) (k : Chg A b c) : Chg A a c :=
  ⟨k.os.trans h.os, k.tape.trans h.tape, k.output.trans h.output, Nat.le_trans h.size k.size, fun i hi hn => (k.block i (by have := h.size; omega) hn).trans (h.block i hi hn)⟩
theorem Chg.mono {A A' : Nat → Prop} {a b : World} (h : Chg A a b) (hA : ∀ k, k < a.heap.size → A k → A' k) : Chg A' a b :=
  ⟨h.os, h.tape, h.output, h.size, fun k hk hn => h.block k hk (fun q => hn (hA k hk q))⟩
theorem Chg.of_below {A : Nat → Prop} {w w' : World} (h : Below w.heap.size w w') : Chg A w w' := ⟨h.os, h.tape, h.output, h.size, fun k hk _ => h.block k hk⟩
theorem Chg.of_grown {w w' : World} {row : Option Nat} (h : w.grownBy w' row) : Chg (fun k => row = some k) w w' := ⟨h.os, h.tape, h.output, h.size, fun k hk hn => h.block k hk (fun e => hn e.symm)⟩
theorem Chg.setCell {A : Nat → Prop} {a w : World} (h : Chg A a w) {p : Addr} (hp : A p.block ∨ a.heap.size ≤ p.block) (u : Value) : Chg A a (w.setCell p u) := by
  refine ⟨h.os, h.tape, h.output, by simpa [World.setCell] using h.size, fun k hk hn => ?_⟩
  rw [Below.heap_setCell _ _ _ _ (fun e => by subst e; rcases hp with q | q; exact hn q; omega)]
  exact h.block k hk hn
theorem Chg.below {A : Nat → Prop} {B : Nat} {w w' : World} (h : Chg A w w') (hB : B ≤ w.heap.size) (hA : ∀ k, k < B → ¬ A k) : Below B w w' := ⟨h.os, h.tape, h.output, h.size, fun k hk => h.block k (by omega) (hA k hk)⟩
theorem Chg.cell {A : Nat → Prop} {w w' : World} (h : Chg A w w') {p : Addr} (hp : p.block < w.heap.size) (hn : ¬ A p.block) : w'.cell? p = w.cell? p := World.cell?_of_block (w := w) (h.block p.block hp hn)
theorem Chg.frozen {A : Nat → Prop} {w w' : World} (h : Chg A w w') {p : Addr} (hp : p.block < w.heap.size) (hn : ¬ A p.block) : w'.frozen? p = w.frozen? p := World.frozen?_of_block (w := w) (h.block p.block hp hn)
def insL (es : List Pap) (i : Nat) (x : Pap) : List Pap := es.take i ++ x :: es.drop i
theorem insL_length {es : List Pap} {i : Nat} {x : Pap} (h : i ≤ es.length) : (insL es i x).length = es.length + 1 := by
  unfold insL; rw [List.length_append, List.length_cons, List.length_take, List.length_drop]; omega
/-- where a file is: behind all, if it isn't -/
def ix (es : List Pap) (n : Int) : Nat := es.findIdx (fun p => p.n == n)
theorem ix_le (es : List Pap) (n : Int) : ix es n ≤ es.length := List.findIdx_le_length
theorem ix_hit {es : List Pap} {n : Int} {i : Nat} (h : i < es.length) (hi : (pa es i).n = n) (hlo : ∀ k, k < i → ((pa es k).n == n) = false) : ix es n = i := by
  unfold ix
  rw [List.findIdx_eq h]
  refine ⟨by rw [← pa_get h]; simp [hi], fun j hj => ?_⟩
  have := hlo j hj
  rw [pa_get (by omega)] at this
  exact this
theorem ix_none {es : List Pap} {n : Int} (h : ∀ k, k < es.length → ((pa es k).n == n) = false) : ix es n = es.length := by
  unfold ix
  rw [List.findIdx_eq_length]
  intro x hx
  obtain ⟨k, hk, rfl⟩ := List.mem_iff_getElem.1 hx
  have := h k hk
  rw [pa_get hk] at this
  exact this
theorem ix_at {es : List Pap} {n : Int} (h : ix es n < es.length) : (pa es (ix es n)).n = n := by
  rw [pa_get h]
  have := List.findIdx_getElem (w := h)
  exact eq_of_beq this
def atI (es : List Pap) (n : Int) : Int := if ix es n < es.length then (ix es n : Int) else -1
theorem ret_eq {k : IntKind} {a b : Int} (h : b = a) : Ending.returned (.int k a) = .returned (.int k b) := by rw [h]
/-- the bytes of all files -/
def used : List Pap → Nat
  | [] => 0
  | e :: r => e.text.size + used r
theorem used_append (a b : List Pap) : used (a ++ b) = used a + used b := by
  induction a with
  | nil => simp [used]
  | cons e r ih => rw [List.cons_append, used, used, ih]; omega
theorem used_take {es : List Pap} {k : Nat} (h : k < es.length) : used (es.take (k + 1)) = used (es.take k) + (pa es k).text.size := by
  rw [List.take_succ_eq_append_getElem h, used_append, ← pa_get h]
  simp [used]
theorem used_le (es : List Pap) (k : Nat) : used (es.take k) ≤ used es := by
  have := used_append (es.take k) (es.drop k)
  rw [List.take_append_drop] at this
  omega
theorem atI_there {es : List Pap} {n : Int} (h : ix es n < es.length) : atI es n = (ix es n : Int) := by unfold atI; rw [if_pos h]
theorem atI_none {es : List Pap} {n : Int} (h : ¬ ix es n < es.length) : atI es n = -1 := by unfold atI; rw [if_neg h]
/-- what a reading answers -/
def readV (es : List Pap) (n : Int) : Value := if ix es n < es.length then .tuple #[.string (pa es (ix es n)).text, .int .i64 0] else .tuple #[.string ⟨#[]⟩, .int .i64 4]
/-- Sync -/
def syncL (es : List Pap) (n : Int) : List Pap := if ix es n < es.length then es.set (ix es n) { pa es (ix es n) with sure := ((pa es (ix es n)).text.size : Int) } else es
def hasE (es : List Pap) (n : Int) : Int := if ix es n < es.length then 0 else 4
def inI (n lo hi : Int) : Bool := decide (lo ≤ n) && decide (n ≤ hi)
/-- Cut -/
def cutP (e : Pap) (k : Nat) : Pap := ⟨e.n, (k : Int), e.text.extract 0 k⟩
def cutOk (es : List Pap) (n size : Int) : Bool := inI size 0 ((pa es (ix es n)).text.size : Int)
def cutL (es : List Pap) (n size : Int) : List Pap := if ix es n < es.length then (if cutOk es n size then es.set (ix es n) (cutP (pa es (ix es n)) size.toNat) else es) else es
def cutE (es : List Pap) (n size : Int) : Int := if ix es n < es.length then (if cutOk es n size then 0 else 1) else 4
def numL (es : List Pap) : List Int := es.map (·.n)
theorem numL_take {es : List Pap} {k : Nat} (h : k < es.length) : numL (es.take (k + 1)) = numL (es.take k) ++ [(pa es k).n] := by
  unfold numL
  rw [List.take_succ_eq_append_getElem h, List.map_append, ← pa_get h]
  rfl
theorem numL_len {es : List Pap} {k : Nat} (h : k ≤ es.length) : (numL (es.take k)).length = k := by
  unfold numL
  rw [List.length_map, List.length_take]
  omega
/-- how many numbers are below n at the front -/
def low (es : List Pap) (n : Int) : Nat := es.findIdx (fun p => !decide (p.n < n))
theorem low_le (es : List Pap) (n : Int) : low es n ≤ es.length := List.findIdx_le_length
theorem low_lt {es : List Pap} {n : Int} {k : Nat} (h : k < low es n) : (pa es k).n < n := by
  have hk : k < es.length := Nat.lt_of_lt_of_le h (low_le es n)
  have := List.not_of_lt_findIdx h
  rw [pa_get hk]
  simpa using this
theorem low_at {es : List Pap} {n : Int} (h : low es n < es.length) : ¬ (pa es (low es n)).n < n := by
  rw [pa_get h]
  have := List.findIdx_getElem (w := h)
  simp only [Bool.not_eq_true', decide_eq_false_iff_not] at this
  exact this
/-- Append -/
def addP (e : Pap) (s : ByteArray) : Pap := { e with text := e.text ++ s }
def full (es : List Pap) (m n : Int) (s : ByteArray) : Bool := decide (m < (s.size : Int) + (used es : Int)) || (!decide (ix es n < es.length) && decide (es.length = 20))
def appE (es : List Pap) (m n : Int) (s : ByteArray) : Int := if inI n 0 1099511627776 = false then 1 else if full es m n s then 8 else 0
def appL (es : List Pap) (m n : Int) (s : ByteArray) : List Pap :=
  if inI n 0 1099511627776 = false then es else if full es m n s then es
  else if ix es n < es.length then es.set (ix es n) (addP (pa es (ix es n)) s) else insL es (low es n) ⟨n, 0, s⟩
theorem app_bad {es : List Pap} {m n : Int} {s : ByteArray} (h : inI n 0 1099511627776 = false) : appE es m n s = 1 ∧ appL es m n s = es := by
  unfold appE appL; rw [if_pos h, if_pos h]; exact ⟨rfl, rfl⟩
theorem app_full {es : List Pap} {m n : Int} {s : ByteArray} (h : inI n 0 1099511627776 = true) (hf : full es m n s = true) : appE es m n s = 8 ∧ appL es m n s = es := by
  unfold appE appL; constructor <;> simp [h, hf]
theorem app_old {es : List Pap} {m n : Int} {s : ByteArray} (h : inI n 0 1099511627776 = true) (hf : full es m n s = false) (hi : ix es n < es.length) : appE es m n s = 0 ∧ appL es m n s = es.set (ix es n) (addP (pa es (ix es n)) s) := by
  unfold appE appL; constructor <;> simp [h, hf, hi]
theorem app_new {es : List Pap} {m n : Int} {s : ByteArray} (h : inI n 0 1099511627776 = true) (hf : full es m n s = false) (hi : ¬ ix es n < es.length) : appE es m n s = 0 ∧ appL es m n s = insL es (low es n) ⟨n, 0, s⟩ := by
  unfold appE appL; constructor <;> simp [h, hf, hi]
theorem full_not {es : List Pap} {m n : Int} {s : ByteArray} (h : full es m n s = false) (hh : ¬ ix es n < es.length) : ¬ m < (s.size : Int) + (used es : Int) ∧ es.length ≠ 20 := by
  unfold full at h
  rw [decide_eq_false hh] at h
  simpa using h
theorem Chg.more {A A' : Nat → Prop} {a b c : World} (h : Chg A a b) (k : Chg A' b c) (hA : ∀ i, i < a.heap.size → A' i → A i) : Chg A a c :=
  ⟨k.os.trans h.os, k.tape.trans h.tape, k.output.trans h.output, Nat.le_trans h.size k.size, fun i hi hn => (k.block i (by have := h.size; omega) (fun q => hn (hA i hi q))).trans (h.block i hi hn)⟩
theorem insL_at {es : List Pap} {k : Nat} (h : k ≤ es.length) (x : Pap) : pa (insL es k x) k = x := by
  unfold pa insL
  have hl : (es.take k).length = k := by rw [List.length_take]; omega
  rw [List.getElem?_append_right (by omega), hl, Nat.sub_self]
  simp
theorem insL_set {es : List Pap} {k : Nat} (h : k ≤ es.length) (x y : Pap) : (insL es k x).set k y = insL es k y := by
  unfold insL
  have hl : (es.take k).length = k := by rw [List.length_take]; omega
  rw [List.set_append_right _ _ (by omega), hl, Nat.sub_self]
  simp
theorem new_text {L : List Pap} {k : Nat} {n : Int} {s : ByteArray} (h : pa L k = ⟨n, 0, ByteArray.empty⟩) : ({ pa L k with text := (pa L k).text ++ s } : Pap) = ⟨n, 0, s⟩ := by rw [h]; simp
/-- Remove -/
def remL (es : List Pap) (n : Int) : List Pap := if ix es n < es.length then es.take (ix es n) ++ es.drop (ix es n + 1) else es
/-- where a text is cut by a stop -/
def stopAt (e : Pap) (keep : Int) : Nat := min e.text.size (e.sure.toNat + keep.toNat)
/-- a file behind a stop -/
def stopP (keep : Int) (e : Pap) : Pap := ⟨e.n, (stopAt e keep : Int), e.text.extract 0 (stopAt e keep)⟩
/-- what a stop needs of a file -/
def Sound (e : Pap) : Prop := 0 ≤ e.sure ∧ e.sure ≤ (e.text.size : Int) ∧ e.text.size ≤ 1000000
theorem stop_le (e : Pap) (keep : Int) : stopAt e keep ≤ e.text.size := Nat.min_le_left _ _
theorem ext_size (t : ByteArray) (c : Nat) (h : c ≤ t.size) : (t.extract 0 c).size = c := by simp; omega
def nth (l : List Int) (k : Nat) : Int := l[k]?.getD 0
/-- the numbers that a slice shows -/
def SlI (w : World) (a : Option Addr) (l : List Int) : Prop := ∀ k, k < l.length → ∃ b o, a = some ⟨b, o, none⟩ ∧ b < w.heap.size ∧ w.cell? ⟨b, o + k, none⟩ = some (.int .i64 (nth l k))
theorem SlI.below {w w' : World} {a : Option Addr} {l : List Int} (h : SlI w a l) (hb : Below w.heap.size w w') : SlI w' a l := by
  intro k hk
  obtain ⟨b, o, h1, h2, h3⟩ := h k hk
  exact ⟨b, o, h1, by have := hb.size; omega, by rw [hb.cell (p := ⟨b, o + k, none⟩) h2]; exact h3⟩
end Go.Proofs.YtphhebdmfdjfeagGreatDoor.Dk

namespace Go.Proofs.YtphhebdmfdjfeagGreatDoor.Dk
open Go.RowKit

/-- the file of a number -/
def fnd (es : List Pap) (n : Int) : Option Pap := es.find? (fun p => p.n == n)
theorem fnd_nil (n : Int) : fnd [] n = none := rfl
theorem fnd_cons (e : Pap) (r : List Pap) (n : Int) : fnd (e :: r) n = if e.n = n then some e else fnd r n := by
  unfold fnd
  rw [List.find?_cons]
  by_cases h : e.n = n
  · rw [if_pos h, beq_iff_eq.2 h]
  · rw [if_neg h, beq_eq_false_iff_ne.2 h]
theorem fnd_append (a b : List Pap) (n : Int) : fnd (a ++ b) n = (fnd a n).or (fnd b n) := List.find?_append
theorem fnd_none {l : List Pap} {n : Int} (h : ∀ e ∈ l, e.n ≠ n) : fnd l n = none := by
  unfold fnd
  rw [List.find?_eq_none]
  intro e he
  rw [beq_iff_eq]
  exact h e he
theorem fnd_mid {A B : List Pap} {x : Pap} (hA : ∀ e ∈ A, e.n ≠ x.n) (k : Int) : fnd (A ++ x :: B) k = if k = x.n then some x else fnd (A ++ B) k := by
  rw [fnd_append, fnd_append, fnd_cons]
  by_cases h : k = x.n
  · rw [if_pos h, if_pos h.symm, h, fnd_none hA]; rfl
  · rw [if_neg h, if_neg (fun q => h q.symm)]
theorem ix_cons (e : Pap) (r : List Pap) (n : Int) : ix (e :: r) n = if e.n = n then 0 else ix r n + 1 := by
  unfold ix
  rw [List.findIdx_cons]
  by_cases h : e.n = n
  · rw [if_pos h, beq_iff_eq.2 h]; rfl
  · rw [if_neg h, beq_eq_false_iff_ne.2 h]; rfl
theorem fnd_ix : ∀ (es : List Pap) (n : Int), fnd es n = if ix es n < es.length then some (pa es (ix es n)) else none
  | [], n => rfl
  | e :: r, n => by
    rw [fnd_cons, ix_cons]
    by_cases h : e.n = n
    · rw [if_pos h, if_pos h, if_pos (by simp)]; rfl
    · rw [if_neg h, if_neg h, fnd_ix r n, pa_succ]
      simp
theorem fnd_some {es : List Pap} {n : Int} (h : ix es n < es.length) : fnd es n = some (pa es (ix es n)) := by rw [fnd_ix, if_pos h]
theorem fnd_not {es : List Pap} {n : Int} (h : ¬ ix es n < es.length) : fnd es n = none := by rw [fnd_ix, if_neg h]
theorem fnd_is {es : List Pap} {n : Int} : ix es n < es.length ↔ (fnd es n).isSome = true := by
  rw [fnd_ix]
  by_cases h : ix es n < es.length
  · rw [if_pos h]; simp [h]
  · rw [if_neg h]; simp [h]
theorem fnd_mem {es : List Pap} {n : Int} {e : Pap} (h : fnd es n = some e) : e ∈ es ∧ e.n = n := ⟨List.mem_of_find?_eq_some h, by have := List.find?_some h; simpa using this⟩
theorem not_there {es : List Pap} {n : Int} (h : ¬ ix es n < es.length) : ∀ e ∈ es, e.n ≠ n := by
  have q := fnd_not h
  unfold fnd at q
  rw [List.find?_eq_none] at q
  intro e he
  have := q e he
  simpa using this
/-- the numbers rise -/
def Rise (es : List Pap) : Prop := es.Pairwise (fun a b => a.n < b.n)
theorem rise_num (es : List Pap) : Rise es ↔ (numL es).Pairwise (· < ·) := by unfold Rise numL; rw [List.pairwise_map]
theorem split_pa {es : List Pap} {i : Nat} (h : i < es.length) : es = es.take i ++ pa es i :: es.drop (i + 1) := by
  rw [pa_get h, ← List.drop_eq_getElem_cons h, List.take_append_drop]
theorem set_split {es : List Pap} {i : Nat} (h : i < es.length) (x : Pap) : es.set i x = es.take i ++ x :: es.drop (i + 1) := by
  rw [List.set_eq_take_append_cons_drop, if_pos h]
theorem rise_ahead {A B : List Pap} {y : Pap} (h : Rise (A ++ y :: B)) : ∀ e ∈ A, e.n ≠ y.n := by
  intro e he
  have := (List.pairwise_append.1 h).2.2 e he y (by simp)
  omega
theorem rise_behind {A B : List Pap} {y : Pap} (h : Rise (A ++ y :: B)) : ∀ e ∈ B, e.n ≠ y.n := by
  intro e he
  have := List.rel_of_pairwise_cons (List.pairwise_append.1 h).2.1 he
  omega
theorem numL_set {es : List Pap} {i : Nat} (h : i < es.length) {x : Pap} (hx : x.n = (pa es i).n) : numL (es.set i x) = numL es := by
  rw [set_split h]
  conv => rhs; rw [split_pa h]
  simp [numL, hx]
theorem used_cons (e : Pap) (r : List Pap) : used (e :: r) = used r + e.text.size := by simp [used]; omega
theorem used_set {es : List Pap} {i : Nat} (h : i < es.length) (x : Pap) : used (es.set i x) + (pa es i).text.size = used es + x.text.size := by
  rw [set_split h]
  conv => rhs; rw [split_pa h]
  rw [used_append, used_append, used_cons, used_cons]
  omega
theorem fnd_set {es : List Pap} {i : Nat} (hr : Rise es) (h : i < es.length) {x : Pap} (hx : x.n = (pa es i).n) (k : Int) : fnd (es.set i x) k = if k = x.n then some x else fnd es k := by
  have e := split_pa h
  have hA : ∀ e ∈ es.take i, e.n ≠ (pa es i).n := rise_ahead (by rw [← e]; exact hr)
  rw [set_split h, fnd_mid (fun e he => by rw [hx]; exact hA e he)]
  by_cases hk : k = x.n
  · rw [if_pos hk, if_pos hk]
  · rw [if_neg hk, if_neg hk]
    conv => rhs; rw [e]
    rw [fnd_mid hA, if_neg (by rw [← hx]; exact hk)]
theorem mem_take_pa {es : List Pap} {q : Nat} {e : Pap} (h : e ∈ es.take q) : ∃ j, j < q ∧ j < es.length ∧ e = pa es j := by
  obtain ⟨j, hj, rfl⟩ := List.getElem_of_mem h
  rw [List.length_take] at hj
  refine ⟨j, by omega, by omega, ?_⟩
  rw [List.getElem_take, pa_get (by omega)]
theorem mem_drop_pa {es : List Pap} {q : Nat} {e : Pap} (h : e ∈ es.drop q) : ∃ j, q ≤ j ∧ j < es.length ∧ e = pa es j := by
  obtain ⟨j, hj, rfl⟩ := List.getElem_of_mem h
  rw [List.length_drop] at hj
  refine ⟨q + j, by omega, by omega, ?_⟩
  rw [List.getElem_drop, pa_get (by omega)]
theorem rise_pa {es : List Pap} (h : Rise es) {i j : Nat} (hij : i < j) (hj : j < es.length) : (pa es i).n < (pa es j).n := by
  rw [pa_get (by omega), pa_get hj]
  exact List.pairwise_iff_getElem.1 h i j (by omega) hj hij
theorem rise_ins {es : List Pap} (h : Rise es) {x : Pap} (hn : ∀ e ∈ es, e.n ≠ x.n) : Rise (insL es (low es x.n) x) := by
  unfold insL Rise
  have hA : ∀ e ∈ es.take (low es x.n), e.n < x.n := fun e he => by
    obtain ⟨j, h1, h2, rfl⟩ := mem_take_pa he
    exact low_lt h1
  have hB : ∀ e ∈ es.drop (low es x.n), x.n < e.n := fun e he => by
    obtain ⟨j, h1, h2, rfl⟩ := mem_drop_pa he
    have q1 := low_at (es := es) (n := x.n) (by omega)
    have q2 := hn _ (pa_mem (l := es) (k := low es x.n) (by omega))
    rcases Nat.eq_or_lt_of_le h1 with z | z
    · rw [← z]; omega
    · have := rise_pa h z h2; omega
  have hp : (es.take (low es x.n) ++ es.drop (low es x.n)).Pairwise (fun a b => a.n < b.n) := by rw [List.take_append_drop]; exact h
  rw [List.pairwise_append] at hp ⊢
  refine ⟨hp.1, List.pairwise_cons.2 ⟨hB, hp.2.1⟩, fun a ha b hb => ?_⟩
  rcases List.mem_cons.1 hb with rfl | hb
  · exact hA a ha
  · exact hp.2.2 a ha b hb
theorem fnd_ins {es : List Pap} (q : Nat) {x : Pap} (hn : ∀ e ∈ es, e.n ≠ x.n) (k : Int) : fnd (insL es q x) k = if k = x.n then some x else fnd es k := by
  unfold insL
  rw [fnd_mid (fun e he => hn e (List.mem_of_mem_take he)), List.take_append_drop]
theorem used_ins {es : List Pap} (q : Nat) (x : Pap) : used (insL es q x) = used es + x.text.size := by
  unfold insL
  conv => rhs; rw [← List.take_append_drop q es]
  rw [used_append, used_append, used_cons]
  omega
theorem mem_ins {es : List Pap} {q : Nat} {x e : Pap} (h : e ∈ insL es q x) : e = x ∨ e ∈ es := by
  unfold insL at h
  rw [List.mem_append, List.mem_cons] at h
  rcases h with h | h | h
  · exact .inr (List.mem_of_mem_take h)
  · exact .inl h
  · exact .inr (List.mem_of_mem_drop h)
theorem fnd_del {es : List Pap} {i : Nat} (hr : Rise es) (h : i < es.length) (k : Int) : fnd (es.take i ++ es.drop (i + 1)) k = if k = (pa es i).n then none else fnd es k := by
  have e := split_pa h
  have hr' : Rise (es.take i ++ pa es i :: es.drop (i + 1)) := by rw [← e]; exact hr
  by_cases hk : k = (pa es i).n
  · rw [if_pos hk]
    refine fnd_none (fun e he => ?_)
    rw [hk]
    rcases List.mem_append.1 he with q | q
    · exact rise_ahead hr' e q
    · exact rise_behind hr' e q
  · rw [if_neg hk]
    conv => rhs; rw [e]
    rw [fnd_mid (rise_ahead hr'), if_neg hk]
theorem used_del {es : List Pap} {i : Nat} (h : i < es.length) : used (es.take i ++ es.drop (i + 1)) + (pa es i).text.size = used es := by
  conv => rhs; rw [split_pa h]
  rw [used_append, used_append, used_cons]
  omega
theorem sub_del (es : List Pap) (i : Nat) : (es.take i ++ es.drop (i + 1)).Sublist es := by
  conv => rhs; rw [← List.take_append_drop i es]
  refine List.Sublist.append (List.Sublist.refl _) ?_
  rw [← List.drop_drop]
  exact List.drop_sublist 1 _
theorem fnd_map (es : List Pap) (f : Pap → Pap) (hf : ∀ e, (f e).n = e.n) (k : Int) : fnd (es.map f) k = (fnd es k).map f := by
  induction es with
  | nil => rfl
  | cons e r ih =>
    rw [List.map_cons, fnd_cons, fnd_cons, hf, ih]
    by_cases h : e.n = k
    · rw [if_pos h, if_pos h]; rfl
    · rw [if_neg h, if_neg h]
end Go.Proofs.YtphhebdmfdjfeagGreatDoor.Dk

namespace Go.Proofs.YtphhebdmfdjfeagGreatDoor.Dk
open Go.RowKit

/-- a disk of the document, whatever was called -/
structure Tidy (m : Int) (es : List Pap) : Prop where
  rise : Rise es
  few : es.length ≤ 20
  fits : (used es : Int) ≤ m
  each : ∀ e ∈ es, inI e.n 0 1099511627776 = true ∧ 0 ≤ e.sure ∧ e.sure ≤ (e.text.size : Int)
theorem Tidy.nil {m : Int} (h : 0 ≤ m) : Tidy m [] := ⟨List.Pairwise.nil, by simp, by simpa [used] using h, fun e he => by simp at he⟩
theorem used_mem {es : List Pap} {e : Pap} (h : e ∈ es) : e.text.size ≤ used es := by
  induction es with
  | nil => simp at h
  | cons x r ih =>
    rw [used_cons]
    rcases List.mem_cons.1 h with rfl | h
    · omega
    · have := ih h; omega
theorem Tidy.sound {m : Int} {es : List Pap} (h : Tidy m es) (hm : m ≤ 1000000) : ∀ e ∈ es, Sound e := fun e he => ⟨(h.each e he).2.1, (h.each e he).2.2, by have := used_mem he; have := h.fits; omega⟩
theorem Tidy.set {m : Int} {es : List Pap} (h : Tidy m es) {i : Nat} (hi : i < es.length) {x : Pap} (hx : x.n = (pa es i).n) (hu : (used es : Int) + (x.text.size : Int) ≤ m + ((pa es i).text.size : Int)) (h0 : 0 ≤ x.sure) (h1 : x.sure ≤ (x.text.size : Int)) : Tidy m (es.set i x) := by
  refine ⟨?_, by rw [List.length_set]; exact h.few, ?_, ?_⟩
  · rw [rise_num, numL_set hi hx, ← rise_num]; exact h.rise
  · have := used_set hi x
    omega
  · intro e he
    rcases List.mem_or_eq_of_mem_set he with q | q
    · exact h.each e q
    · subst q
      refine ⟨?_, h0, h1⟩
      rw [hx]
      exact (h.each _ (pa_mem hi)).1
/-- Append -/
def appP (o : Option Pap) (n : Int) (s : ByteArray) : Pap := match o with
  | some e => addP e s
  | none => ⟨n, 0, s⟩
theorem full_fits {es : List Pap} {m n : Int} {s : ByteArray} (h : full es m n s = false) : (s.size : Int) + (used es : Int) ≤ m := by
  unfold full at h
  simp only [Bool.or_eq_false_iff, decide_eq_false_iff_not] at h
  omega
theorem app_ok {es : List Pap} {m n : Int} {s : ByteArray} : appE es m n s = 0 ↔ inI n 0 1099511627776 = true ∧ full es m n s = false := by
  cases hI : inI n 0 1099511627776 with
  | false => rw [(app_bad hI).1]; simp
  | true =>
    cases hf : full es m n s with
    | true => rw [(app_full hI hf).1]; simp
    | false =>
      by_cases hh : ix es n < es.length
      · rw [(app_old hI hf hh).1]; simp
      · rw [(app_new hI hf hh).1]; simp
theorem app_not {es : List Pap} {m n : Int} {s : ByteArray} (h : appE es m n s ≠ 0) : appL es m n s = es := by
  cases hI : inI n 0 1099511627776 with
  | false => exact (app_bad hI).2
  | true =>
    cases hf : full es m n s with
    | true => exact (app_full hI hf).2
    | false => exact absurd (app_ok.2 ⟨hI, hf⟩) h
theorem addP_size (e : Pap) (s : ByteArray) : (addP e s).text.size = e.text.size + s.size := by simp [addP]
theorem Tidy.app {m : Int} {es : List Pap} (h : Tidy m es) (n : Int) (s : ByteArray) : Tidy m (appL es m n s) := by
  by_cases he : appE es m n s = 0
  · obtain ⟨hI, hf⟩ := app_ok.1 he
    have hu := full_fits hf
    by_cases hh : ix es n < es.length
    · rw [(app_old hI hf hh).2]
      have hs := (h.each _ (pa_mem hh)).2
      have hz := addP_size (pa es (ix es n)) s
      exact h.set hh rfl (by omega) hs.1 (by have : (addP (pa es (ix es n)) s).sure = (pa es (ix es n)).sure := rfl; omega)
    · rw [(app_new hI hf hh).2]
      refine ⟨rise_ins (x := ⟨n, 0, s⟩) h.rise (not_there hh), ?_, ?_, ?_⟩
      · rw [insL_length (low_le _ _)]
        have := (full_not hf hh).2
        have := h.few
        omega
      · rw [used_ins]
        show ((used es + s.size : Nat) : Int) ≤ m
        omega
      · intro e q
        rcases mem_ins q with rfl | q
        · exact ⟨hI, by show (0 : Int) ≤ 0; omega, by show (0 : Int) ≤ (s.size : Int); omega⟩
        · exact h.each e q
  · rw [app_not he]; exact h
theorem fnd_app {m : Int} {es : List Pap} (h : Tidy m es) (n : Int) (s : ByteArray) (k : Int) : fnd (appL es m n s) k = if appE es m n s = 0 ∧ k = n then some (appP (fnd es n) n s) else fnd es k := by
  by_cases he : appE es m n s = 0
  · obtain ⟨hI, hf⟩ := app_ok.1 he
    by_cases hh : ix es n < es.length
    · rw [(app_old hI hf hh).2, fnd_set (x := addP (pa es (ix es n)) s) h.rise hh rfl, fnd_some hh]
      have : (addP (pa es (ix es n)) s).n = n := ix_at hh
      rw [this]
      simp [he, appP]
    · rw [(app_new hI hf hh).2, fnd_ins _ (x := ⟨n, 0, s⟩) (not_there hh), fnd_not hh]
      simp [he, appP]
  · rw [app_not he, if_neg (fun q => he q.1)]
/-- Cut -/
theorem cut_ok {es : List Pap} {n size : Int} : cutE es n size = 0 ↔ ix es n < es.length ∧ cutOk es n size = true := by
  unfold cutE
  by_cases h : ix es n < es.length
  · rw [if_pos h]
    cases cutOk es n size <;> simp [h]
  · rw [if_neg h]; simp [h]
theorem cut_is {es : List Pap} {n size : Int} (h : cutE es n size = 0) : cutL es n size = es.set (ix es n) (cutP (pa es (ix es n)) size.toNat) := by
  obtain ⟨h1, h2⟩ := cut_ok.1 h
  unfold cutL
  rw [if_pos h1, if_pos h2]
theorem cut_not {es : List Pap} {n size : Int} (h : cutE es n size ≠ 0) : cutL es n size = es := by
  unfold cutL
  by_cases h1 : ix es n < es.length
  · rw [if_pos h1]
    by_cases h2 : cutOk es n size = true
    · exact absurd (cut_ok.2 ⟨h1, h2⟩) h
    · rw [if_neg h2]
  · rw [if_neg h1]
theorem cutP_size {e : Pap} {k : Nat} (h : k ≤ e.text.size) : (cutP e k).text.size = k := ext_size _ _ h
theorem Tidy.cut {m : Int} {es : List Pap} (h : Tidy m es) (n size : Int) : Tidy m (cutL es n size) := by
  by_cases he : cutE es n size = 0
  · obtain ⟨h1, h2⟩ := cut_ok.1 he
    have hz : 0 ≤ size ∧ size ≤ ((pa es (ix es n)).text.size : Int) := by simpa [cutOk, inI] using h2
    have hq := cutP_size (e := pa es (ix es n)) (k := size.toNat) (by omega)
    have hf := h.fits
    rw [cut_is he]
    have hs : (cutP (pa es (ix es n)) size.toNat).sure = (size.toNat : Int) := rfl
    exact h.set h1 rfl (by omega) (by omega) (by omega)
  · rw [cut_not he]; exact h
theorem fnd_cut {m : Int} {es : List Pap} (h : Tidy m es) (n size : Int) (k : Int) : fnd (cutL es n size) k = if cutE es n size = 0 ∧ k = n then (fnd es n).map (cutP · size.toNat) else fnd es k := by
  by_cases he : cutE es n size = 0
  · obtain ⟨h1, h2⟩ := cut_ok.1 he
    rw [cut_is he, fnd_set (x := cutP (pa es (ix es n)) size.toNat) h.rise h1 rfl, fnd_some h1]
    have : (cutP (pa es (ix es n)) size.toNat).n = n := ix_at h1
    rw [this]
    simp [he]
  · rw [cut_not he, if_neg (fun q => he q.1)]
/-- Sync, Remove -/
theorem has_ok {es : List Pap} {n : Int} : hasE es n = 0 ↔ ix es n < es.length := by
  unfold hasE
  by_cases h : ix es n < es.length
  · rw [if_pos h]; simp [h]
  · rw [if_neg h]; simp [h]
def syncP (e : Pap) : Pap := { e with sure := (e.text.size : Int) }
theorem Tidy.sync {m : Int} {es : List Pap} (h : Tidy m es) (n : Int) : Tidy m (syncL es n) := by
  unfold syncL
  by_cases hh : ix es n < es.length
  · rw [if_pos hh]
    have hf := h.fits
    exact h.set hh rfl (by show (used es : Int) + ((pa es (ix es n)).text.size : Int) ≤ _; omega) (by show (0 : Int) ≤ ((pa es (ix es n)).text.size : Int); omega) (by show ((pa es (ix es n)).text.size : Int) ≤ ((pa es (ix es n)).text.size : Int); omega)
  · rw [if_neg hh]; exact h
theorem fnd_sync {m : Int} {es : List Pap} (h : Tidy m es) (n : Int) (k : Int) : fnd (syncL es n) k = if k = n then (fnd es n).map syncP else fnd es k := by
  unfold syncL
  by_cases hh : ix es n < es.length
  · rw [if_pos hh]
    show fnd (es.set (ix es n) (syncP (pa es (ix es n)))) k = _
    rw [fnd_set (x := syncP (pa es (ix es n))) h.rise hh rfl, fnd_some hh]
    have : (syncP (pa es (ix es n))).n = n := ix_at hh
    rw [this]
    rfl
  · rw [if_neg hh]
    by_cases hk : k = n
    · rw [if_pos hk, hk, fnd_not hh]; rfl
    · rw [if_neg hk]
theorem Tidy.rem {m : Int} {es : List Pap} (h : Tidy m es) (n : Int) : Tidy m (remL es n) := by
  unfold remL
  by_cases hh : ix es n < es.length
  · rw [if_pos hh]
    have hs := sub_del es (ix es n)
    refine ⟨List.Pairwise.sublist hs h.rise, ?_, ?_, fun e he => h.each e (hs.subset he)⟩
    · have := hs.length_le
      have := h.few
      omega
    · have := used_del hh
      have := h.fits
      omega
  · rw [if_neg hh]; exact h
theorem fnd_rem {m : Int} {es : List Pap} (h : Tidy m es) (n : Int) (k : Int) : fnd (remL es n) k = if k = n then none else fnd es k := by
  unfold remL
  by_cases hh : ix es n < es.length
  · rw [if_pos hh, fnd_del h.rise hh, ix_at hh]
  · rw [if_neg hh]
    by_cases hk : k = n
    · rw [if_pos hk, hk, fnd_not hh]
    · rw [if_neg hk]
/-- Crash -/
theorem stop_size (keep : Int) (e : Pap) : (stopP keep e).text.size = stopAt e keep := ext_size _ _ (stop_le e keep)
theorem used_stop (keep : Int) : ∀ es : List Pap, used (es.map (stopP keep)) ≤ used es
  | [] => by simp
  | e :: r => by
    rw [List.map_cons, used_cons, used_cons, stop_size]
    have := stop_le e keep
    have := used_stop keep r
    omega
theorem Tidy.stop {m : Int} {es : List Pap} (h : Tidy m es) (keep : Int) : Tidy m (es.map (stopP keep)) := by
  refine ⟨?_, by rw [List.length_map]; exact h.few, ?_, ?_⟩
  · unfold Rise
    rw [List.pairwise_map]
    exact h.rise
  · have := used_stop keep es
    have := h.fits
    omega
  · intro e he
    obtain ⟨x, hx, rfl⟩ := List.mem_map.1 he
    refine ⟨(h.each x hx).1, ?_, ?_⟩
    · show (0 : Int) ≤ (stopAt x keep : Int); omega
    · rw [stop_size]; show (stopAt x keep : Int) ≤ _; omega
theorem fnd_stop (es : List Pap) (keep : Int) (k : Int) : fnd (es.map (stopP keep)) k = (fnd es k).map (stopP keep) := fnd_map es (stopP keep) (fun _ => rfl) k
/-- List -/
theorem num_mem {es : List Pap} {k : Int} : k ∈ numL es ↔ (fnd es k).isSome = true := by
  unfold numL fnd
  rw [List.mem_map, List.find?_isSome]
  constructor
  · rintro ⟨e, he, rfl⟩; exact ⟨e, he, by simp⟩
  · rintro ⟨e, he, h⟩; exact ⟨e, he, by simpa using h⟩
theorem rise_same : ∀ (a b : List Int), a.Pairwise (· < ·) → b.Pairwise (· < ·) → (∀ k, k ∈ a ↔ k ∈ b) → a = b
  | [], [], _, _, _ => rfl
  | [], y :: b, _, _, h => absurd ((h y).2 (by simp)) (by simp)
  | x :: a, [], _, _, h => absurd ((h x).1 (by simp)) (by simp)
  | x :: a, y :: b, ha, hb, h => by
    have ha' := List.pairwise_cons.1 ha
    have hb' := List.pairwise_cons.1 hb
    have hxy : x = y := by
      rcases List.mem_cons.1 ((h x).1 (by simp)) with q | q
      · exact q
      · rcases List.mem_cons.1 ((h y).2 (by simp)) with p | p
        · exact p.symm
        · have := hb'.1 x q
          have := ha'.1 y p
          omega
    subst hxy
    have : a = b := rise_same a b ha'.2 hb'.2 (fun k => ⟨fun q => by
      rcases List.mem_cons.1 ((h k).1 (by simp [q])) with p | p
      · have := ha'.1 k q; omega
      · exact p, fun q => by
      rcases List.mem_cons.1 ((h k).2 (by simp [q])) with p | p
      · have := hb'.1 k q; omega
      · exact p⟩)
    rw [this]
theorem Tidy.list {m : Int} {es : List Pap} (h : Tidy m es) {l : List Int} (hl : l.Pairwise (· < ·)) (hm : ∀ k, k ∈ l ↔ (fnd es k).isSome = true) : l = numL es :=
  rise_same l _ hl ((rise_num es).1 h.rise) (fun k => by rw [hm, num_mem])
/-- Used, counted over the numbers in any order -/
def sizeAt (es : List Pap) (k : Int) : Nat := match fnd es k with
  | some e => e.text.size
  | none => 0
theorem used_sum : ∀ {es : List Pap}, Rise es → used es = ((numL es).map (sizeAt es)).sum
  | [], _ => by simp [used, numL]
  | e :: r, h => by
    have h' := List.pairwise_cons.1 h
    have ih := used_sum (es := r) h'.2
    have e1 : sizeAt (e :: r) e.n = e.text.size := by unfold sizeAt; rw [fnd_cons, if_pos rfl]
    have e2 : (numL r).map (sizeAt (e :: r)) = (numL r).map (sizeAt r) := by
      refine List.map_congr_left (fun k hk => ?_)
      have : e.n ≠ k := by
        obtain ⟨x, hx, rfl⟩ := List.mem_map.1 hk
        have := h'.1 x hx
        omega
      unfold sizeAt
      rw [fnd_cons, if_neg this]
    show used (e :: r) = ((e.n :: numL r).map (sizeAt (e :: r))).sum
    rw [List.map_cons, List.sum_cons, e1, e2, used_cons, ih]
    omega
theorem Tidy.used {m : Int} {es : List Pap} (h : Tidy m es) {l : List Int} (hl : l.Perm (numL es)) : (l.map (sizeAt es)).sum = used es := by
  rw [used_sum h.rise]
  exact (hl.map _).sum_nat
end Go.Proofs.YtphhebdmfdjfeagGreatDoor.Dk

namespace Go.Proofs.YtphhebdmfdjfeagGreatDoor.Dk
open Go.RowKit

/-- a record -/
structure Rc where
  k : Int
  q : Int
  t : Int
  s : ByteArray
  h : ByteArray
  d : ByteArray
def Rc.pk (r : Rc) : Pk.Rec := ⟨r.k, r.q, r.t, r.s.data.toList, r.h.data.toList, r.d.data.toList⟩
def bt (l : List UInt8) : ByteArray := ⟨l.toArray⟩
theorem bt_list (l : List UInt8) : (bt l).data.toList = l := by simp [bt]
theorem bt_size (l : List UInt8) : (bt l).size = l.length := by simp [bt, ByteArray.size]
theorem bt_of (s : ByteArray) : bt s.data.toList = s := by apply ByteArray.ext; simp [bt]
def rcOf (r : Pk.Rec) : Rc := ⟨r.k, r.q, r.t, bt r.s, bt r.h, bt r.d⟩
theorem rcOf_pk (r : Pk.Rec) : (rcOf r).pk = r := by unfold rcOf Rc.pk; simp only [bt_list]
theorem pk_rcOf (r : Rc) : rcOf r.pk = r := by unfold rcOf Rc.pk; simp only [bt_of]
def rcV (r : Rc) : Value := .agg #[.int .i64 r.k, .int .i64 r.q, .int .i64 r.t, .string r.s, .string r.h, .string r.d]
theorem cod_pos (r : Pk.Rec) : 4 ≤ (Pk.cod r).length := by rw [Pk.cod_len]; omega
theorem dec_pos {l : List UInt8} (h : (Pk.dec l).2.2 = 0) : 1 ≤ (Pk.dec l).2.1 ∧ (Pk.dec l).2.1 ≤ l.length := by
  obtain ⟨_, h2, h3⟩ := Pk.dec_one h
  have := cod_pos (Pk.dec l).1
  rw [h2, List.length_take] at this
  omega
/-- the records at the front of a text, and where they end, if not at its end -/
def scan : Nat → List UInt8 → List Rc × Option Nat
  | 0, _ => ([], none)
  | f + 1, l => if l.length = 0 then ([], none) else if (Pk.dec l).2.2 = 0 then (rcOf (Pk.dec l).1 :: (scan f (l.drop (Pk.dec l).2.1)).1, (scan f (l.drop (Pk.dec l).2.1)).2.map (· + (Pk.dec l).2.1)) else ([], some 0)
theorem scan_nil (f : Nat) : scan f [] = ([], none) := by cases f <;> rfl
theorem scan_ok {f : Nat} {l : List UInt8} (h0 : l.length ≠ 0) (h : (Pk.dec l).2.2 = 0) : scan (f + 1) l = (rcOf (Pk.dec l).1 :: (scan f (l.drop (Pk.dec l).2.1)).1, (scan f (l.drop (Pk.dec l).2.1)).2.map (· + (Pk.dec l).2.1)) := by
  rw [scan, if_neg h0, if_pos h]
theorem scan_bad {f : Nat} {l : List UInt8} (h0 : l.length ≠ 0) (h : (Pk.dec l).2.2 ≠ 0) : scan (f + 1) l = ([], some 0) := by
  rw [scan, if_neg h0, if_neg h]
theorem scan_le : ∀ (f : Nat) (l : List UInt8) (k : Nat), (scan f l).2 = some k → k ≤ l.length
  | 0, _, _, h => by cases h
  | f + 1, l, k, h => by
    by_cases h0 : l.length = 0
    · rw [scan, if_pos h0] at h; cases h
    · by_cases hd : (Pk.dec l).2.2 = 0
      · rw [scan_ok h0 hd] at h
        cases hs : (scan f (l.drop (Pk.dec l).2.1)).2 with
        | none => rw [hs] at h; cases h
        | some j =>
          rw [hs] at h
          have := scan_le f _ j hs
          have := (dec_pos hd).2
          rw [List.length_drop] at *
          simp at h
          omega
      · rw [scan_bad h0 hd] at h
        cases h
        exact Nat.zero_le _
theorem scan_len : ∀ (f : Nat) (l : List UInt8), (scan f l).1.length ≤ l.length
  | 0, _ => Nat.zero_le _
  | f + 1, l => by
    by_cases h0 : l.length = 0
    · rw [scan, if_pos h0]; exact Nat.zero_le _
    · by_cases hd : (Pk.dec l).2.2 = 0
      · rw [scan_ok h0 hd, List.length_cons]
        have := scan_len f (l.drop (Pk.dec l).2.1)
        have := dec_pos hd
        rw [List.length_drop] at *
        omega
      · rw [scan_bad h0 hd]; exact Nat.zero_le _
/-- what was read of a text so far: rs, up to a place -/
def Read (l : List UInt8) (at' : Nat) (rs : List Rc) : Prop := ∃ f, l.length ≤ at' + f ∧ scan l.length l = (rs ++ (scan f (l.drop at')).1, (scan f (l.drop at')).2.map (· + at'))
theorem Read.start (l : List UInt8) : Read l 0 [] := ⟨l.length, by omega, by
  rw [List.drop_zero, List.nil_append]
  cases h : (scan l.length l).2 <;> simp [← h]⟩
theorem Read.done {l : List UInt8} {p : Nat} {rs : List Rc} (h : Read l p rs) (hp : ¬ p < l.length) : scan l.length l = (rs, none) := by
  obtain ⟨f, _, h⟩ := h
  rw [List.drop_eq_nil_of_le (by omega), scan_nil] at h
  simpa using h
theorem Read.step {l : List UInt8} {p : Nat} {rs : List Rc} (h : Read l p rs) (hp : p < l.length) (hd : (Pk.dec (l.drop p)).2.2 = 0) : Read l (p + (Pk.dec (l.drop p)).2.1) (rs ++ [rcOf (Pk.dec (l.drop p)).1]) := by
  obtain ⟨f, hf, h⟩ := h
  have h0 : (l.drop p).length ≠ 0 := by rw [List.length_drop]; omega
  have hpos := dec_pos hd
  cases f with
  | zero => omega
  | succ f =>
    rw [scan_ok h0 hd, List.drop_drop] at h
    refine ⟨f, by omega, ?_⟩
    rw [h, List.append_assoc, List.singleton_append]
    congr 1
    cases (scan f (l.drop (p + (Pk.dec (l.drop p)).2.1))).2 with
    | none => rfl
    | some j => simp; omega
theorem Read.bad {l : List UInt8} {p : Nat} {rs : List Rc} (h : Read l p rs) (hp : p < l.length) (hd : (Pk.dec (l.drop p)).2.2 ≠ 0) : scan l.length l = (rs, some p) := by
  obtain ⟨f, hf, h⟩ := h
  have h0 : (l.drop p).length ≠ 0 := by rw [List.length_drop]; omega
  cases f with
  | zero => omega
  | succ f =>
    rw [scan_bad h0 hd] at h
    simpa using h
theorem Read.len {l : List UInt8} {p : Nat} {rs : List Rc} (h : Read l p rs) : rs.length ≤ l.length := by
  obtain ⟨f, _, h⟩ := h
  have := scan_len l.length l
  rw [h, List.length_append] at this
  omega
def scanT (t : ByteArray) : List Rc × Option Nat := scan t.data.toList.length t.data.toList
/-- Open: the records that are told; what is left of the files -/
def openL : List Pap → List Rc × List Pap
  | [] => ([], [])
  | e :: r => match (scanT e.text).2 with
    | none => ((scanT e.text).1 ++ (openL r).1, e :: (openL r).2)
    | some k => ((scanT e.text).1, [cutP e k])
theorem openL_whole {e : Pap} {r : List Pap} {rs : List Rc} (h : scanT e.text = (rs, none)) : openL (e :: r) = (rs ++ (openL r).1, e :: (openL r).2) := by
  rw [openL, h]
theorem openL_cut {e : Pap} {r : List Pap} {rs : List Rc} {k : Nat} (h : scanT e.text = (rs, some k)) : openL (e :: r) = (rs, [cutP e k]) := by
  rw [openL, h]
/-- what was read of the files so far: acc, of the first i -/
def Reads (es : List Pap) (i : Nat) (acc : List Rc) : Prop := openL es = (acc ++ (openL (es.drop i)).1, es.take i ++ (openL (es.drop i)).2)
theorem Reads.start (es : List Pap) : Reads es 0 [] := by unfold Reads; simp
theorem drop_pa {es : List Pap} {i : Nat} (h : i < es.length) : es.drop i = pa es i :: es.drop (i + 1) := by rw [pa_get h, ← List.drop_eq_getElem_cons h]
theorem take_pa {es : List Pap} {i : Nat} (h : i < es.length) : es.take (i + 1) = es.take i ++ [pa es i] := by rw [List.take_succ_eq_append_getElem h, pa_get h]
theorem Reads.step {es : List Pap} {i : Nat} {acc rs : List Rc} (h : Reads es i acc) (hi : i < es.length) (hs : scanT (pa es i).text = (rs, none)) : Reads es (i + 1) (acc ++ rs) := by
  unfold Reads at h ⊢
  rw [h, drop_pa hi, openL_whole hs, take_pa hi]
  simp
theorem Reads.done {es : List Pap} {i : Nat} {acc : List Rc} (h : Reads es i acc) (hi : ¬ i < es.length) : openL es = (acc, es) := by
  unfold Reads at h
  rw [h, List.drop_eq_nil_of_le (by omega), List.take_of_length_le (by omega)]
  simp [openL]
theorem Reads.bad {es : List Pap} {i k : Nat} {acc rs : List Rc} (h : Reads es i acc) (hi : i < es.length) (hs : scanT (pa es i).text = (rs, some k)) : openL es = (acc ++ rs, es.take i ++ [cutP (pa es i) k]) := by
  unfold Reads at h
  rw [h, drop_pa hi, openL_cut hs]
theorem scanT_le {t : ByteArray} {k : Nat} (h : (scanT t).2 = some k) : k ≤ t.size := by
  have := scan_le _ _ _ h
  simpa using this
theorem scanT_len (t : ByteArray) : (scanT t).1.length ≤ t.size := by
  have := scan_len t.data.toList.length t.data.toList
  unfold scanT
  simpa using this
theorem openL_len : ∀ es : List Pap, (openL es).1.length ≤ used es
  | [] => Nat.zero_le _
  | e :: r => by
    have h1 := scanT_len e.text
    rw [used_cons]
    cases hs : scanT e.text with
    | mk rs o =>
      rw [hs] at h1
      cases o with
      | none =>
        rw [openL_whole hs, List.length_append]
        have := openL_len r
        simp only at h1
        omega
      | some k => rw [openL_cut hs]; simp only at h1 ⊢; omega
theorem openL_keeps : ∀ es : List Pap, (numL (openL es).2).Sublist (numL es) ∧ used (openL es).2 ≤ used es ∧ ∀ x ∈ (openL es).2, ∃ e ∈ es, x = e ∨ ∃ k, k ≤ e.text.size ∧ x = cutP e k
  | [] => ⟨by simp [openL, numL], by simp [openL], by simp [openL]⟩
  | e :: r => by
    cases hs : scanT e.text with
    | mk rs o =>
      cases o with
      | none =>
        rw [openL_whole hs]
        obtain ⟨h1, h2, h3⟩ := openL_keeps r
        refine ⟨?_, ?_, ?_⟩
        · show (e.n :: numL (openL r).2).Sublist (e.n :: numL r)
          exact h1.cons_cons _
        · rw [used_cons, used_cons]; omega
        · intro x hx
          rcases List.mem_cons.1 hx with rfl | hx
          · exact ⟨x, by simp, .inl rfl⟩
          · obtain ⟨y, hy, hq⟩ := h3 x hx
            exact ⟨y, by simp [hy], hq⟩
      | some k =>
        have hk : k ≤ e.text.size := scanT_le (by rw [hs])
        rw [openL_cut hs]
        refine ⟨?_, ?_, ?_⟩
        · show ([e.n] : List Int).Sublist (e.n :: numL r)
          exact (List.nil_sublist _).cons_cons _
        · rw [used_cons, used_cons, cutP_size hk]; simp [used]; omega
        · intro x hx
          have : x = cutP e k := by simpa using hx
          exact ⟨e, by simp, .inr ⟨k, hk, this⟩⟩
theorem Tidy.opened {m : Int} {es : List Pap} (h : Tidy m es) : Tidy m (openL es).2 := by
  obtain ⟨h1, h2, h3⟩ := openL_keeps es
  refine ⟨?_, ?_, ?_, ?_⟩
  · rw [rise_num]; exact List.Pairwise.sublist h1 ((rise_num es).1 h.rise)
  · have := h1.length_le
    simp only [numL, List.length_map] at this
    have := h.few
    omega
  · have := h.fits; omega
  · intro x hx
    obtain ⟨e, he, hq⟩ := h3 x hx
    have := h.each e he
    rcases hq with rfl | ⟨k, hk, rfl⟩
    · exact this
    · exact ⟨this.1, by show (0 : Int) ≤ (k : Int); omega, by rw [cutP_size hk]; show (k : Int) ≤ (k : Int); omega⟩
/-- the removing of the files behind one -/
theorem rem_mid {A B : List Pap} {x : Pap} (h : Rise (A ++ x :: B)) : remL (A ++ x :: B) x.n = A ++ B := by
  have hi : ix (A ++ x :: B) x.n = A.length := by
    have e : pa (A ++ x :: B) A.length = x := by unfold pa; simp
    refine ix_hit (by simp) (by rw [e]) (fun j hj => ?_)
    rw [beq_eq_false_iff_ne]
    have hm : pa (A ++ x :: B) j ∈ A := by
      have : pa (A ++ x :: B) j = A[j] := by unfold pa; rw [List.getElem?_append_left hj, List.getElem?_eq_getElem hj]; rfl
      rw [this]; exact List.getElem_mem hj
    exact rise_ahead h _ hm
  unfold remL
  rw [hi, if_pos (by simp)]
  simp

/-- what a record is written as -/
def codT (r : Rc) : ByteArray := bt (Pk.cod r.pk)
def chkR (r : Rc) : Int := Pk.chk r.pk
/-- Append: the answer; what becomes of the files -/
def lastP (es : List Pap) : Pap := pa es (es.length - 1)
def fills (es : List Pap) (size : Int) (s : ByteArray) : Bool := decide (0 < (lastP es).text.size) && decide (size < ((lastP es).text.size : Int) + (s.size : Int))
def logR (es : List Pap) (m size : Int) (r : Rc) : Int × List Pap :=
  if chkR r ≠ 0 then (chkR r, es)
  else if es.length = 0 then (appE es m 0 (codT r), appL es m 0 (codT r))
  else if fills es size (codT r) then (appE (syncL es (lastP es).n) m ((lastP es).n + 1) (codT r), appL (syncL es (lastP es).n) m ((lastP es).n + 1) (codT r))
  else (appE es m (lastP es).n (codT r), appL es m (lastP es).n (codT r))
theorem Tidy.logged {m : Int} {es : List Pap} (h : Tidy m es) (size : Int) (r : Rc) : Tidy m (logR es m size r).2 := by
  unfold logR
  split
  · exact h
  · split
    · exact h.app 0 (codT r)
    · split
      · exact (h.sync (lastP es).n).app ((lastP es).n + 1) (codT r)
      · exact h.app (lastP es).n (codT r)
/-- the program's Append: as that, but with an error nothing changes -/
def logP (es : List Pap) (m size : Int) (r : Rc) : Int × List Pap := if (logR es m size r).1 = 0 then logR es m size r else ((logR es m size r).1, es)
theorem logP_ok {es : List Pap} {m size : Int} {r : Rc} (h : (logR es m size r).1 = 0) : logP es m size r = logR es m size r := by unfold logP; rw [if_pos h]
theorem logP_not {es : List Pap} {m size : Int} {r : Rc} (h : (logR es m size r).1 ≠ 0) : logP es m size r = ((logR es m size r).1, es) := by unfold logP; rw [if_neg h]
theorem Tidy.logp {m : Int} {es : List Pap} (h : Tidy m es) (size : Int) (r : Rc) : Tidy m (logP es m size r).2 := by
  unfold logP
  split
  · exact h.logged size r
  · exact h
/-- Sync: of the last file -/
def lsyncL (es : List Pap) : List Pap := if es.length = 0 then es else syncL es (lastP es).n
theorem Tidy.lsync {m : Int} {es : List Pap} (h : Tidy m es) : Tidy m (lsyncL es) := by
  unfold lsyncL
  split
  · exact h
  · exact h.sync _
/-- Rewrite -/
def badOf : List Rc → Int
  | [] => 0
  | r :: l => if chkR r ≠ 0 then chkR r else badOf l
def catT : List Rc → ByteArray
  | [] => ByteArray.empty
  | r :: l => codT r ++ catT l
def nextN (es : List Pap) : Int := if es.length = 0 then 0 else (lastP es).n + 1
def rewR (es : List Pap) (m size : Int) (l : List Rc) : Int × List Pap :=
  if badOf l ≠ 0 then (badOf l, es)
  else if 1 < l.length ∧ size < ((catT l).size : Int) then (8, es)
  else if appE es m (nextN es) (catT l) ≠ 0 then (appE es m (nextN es) (catT l), es)
  else (0, [⟨nextN es, ((catT l).size : Int), catT l⟩])
theorem Tidy.rewritten {m : Int} {es : List Pap} (h : Tidy m es) (size : Int) (l : List Rc) : Tidy m (rewR es m size l).2 := by
  unfold rewR
  split
  · exact h
  · split
    · exact h
    · split
      · exact h
      · rename_i h0
        obtain ⟨hI, hf⟩ := app_ok.1 (Classical.byContradiction h0)
        have hu := full_fits hf
        refine ⟨List.pairwise_singleton _ _, by simp, ?_, ?_⟩
        · simp only [Dk.used]; omega
        · intro e he
          have : e = ⟨nextN es, ((catT l).size : Int), catT l⟩ := by simpa using he
          subst this
          exact ⟨hI, by show (0 : Int) ≤ ((catT l).size : Int); omega, by show ((catT l).size : Int) ≤ ((catT l).size : Int); omega⟩
end Go.Proofs.YtphhebdmfdjfeagGreatDoor.Dk

namespace Go.Proofs.YtphhebdmfdjfeagGreatDoor.Dk
open Go.RowKit

/-- texts that can be -/
structure Small (r : Rc) : Prop where
  s : r.s.size ≤ 140737488355328
  h : r.h.size ≤ 140737488355328
  d : r.d.size ≤ 140737488355328
theorem Small.of {r : Rc} (hc : chkR r = 0) : Small r := by
  obtain ⟨_, _, _, _, _, _, h1, h2⟩ := Pk.chk_len (r := r.pk) hc
  have e : ∀ x : ByteArray, x.data.toList.length = x.size := fun x => by simp
  simp only [Rc.pk, e] at h1 h2
  exact ⟨by omega, by omega, by omega⟩
theorem Small.dec {l : List UInt8} (h : (Pk.dec l).2.2 = 0) : Small (rcOf (Pk.dec l).1) := Small.of (by unfold chkR; rw [rcOf_pk]; exact (Pk.dec_one h).1)
theorem codT_size {r : Rc} (h : chkR r = 0) : (codT r).size ≤ 1100 := by
  unfold codT
  rw [bt_size, Pk.cod_len]
  have hb := (Pk.bod_len (r := r.pk) h).2
  unfold Pk.txt
  rw [List.length_append]
  have := Pk.enc_few (n := (Pk.bod r.pk).length) (by omega)
  omega
end Go.Proofs.YtphhebdmfdjfeagGreatDoor.Dk
