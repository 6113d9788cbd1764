/-
  The document's disk: what it is and what every call makes of it; which blocks a call may have written. No walk, and nothing of the program's own.
-/
import Derived.Test.YtbflhmkapfodiaaRows
import Derived.Test.YtbflhmkapfodiaaBase0
import Derived.WalkKit
import Derived.WalkSpells
import Derived.WalkLawsBesides
import Derived.Deep.QuietTactic
import Derived.BigQuiet
import Derived.Laws.IdiomCopy
import Derived.Lib.Overlaps
import Derived.Lib.AppendZerosOnto
import Derived.Laws.NewBlocks
namespace Go.Proofs.Ytbflhmkapfodiaa.Dk
open Go.RowKit

/-- a file of the document's disk -/
structure Pap where
  n : Int
  sure : Int
  text : ByteArray
def pa (l : List Pap) (k : Nat) : Pap := l[k]?.getD ⟨0, 0, ByteArray.empty⟩
theorem pa_get {l : List Pap} {k : Nat} (h : k < l.length) : pa l k = l[k] := by unfold pa; rw [List.getElem?_eq_getElem h]; rfl
theorem pa_mem {l : List Pap} {k : Nat} (h : k < l.length) : pa l k ∈ l := by rw [pa_get h]; exact List.getElem_mem h
theorem pa_zero (e : Pap) (r : List Pap) : pa (e :: r) 0 = e := rfl
theorem pa_succ (e : Pap) (r : List Pap) (k : Nat) : pa (e :: r) (k + 1) = pa r k := rfl
/-- which blocks may have been written; new ones may be there -/
structure Chg (A : Nat → Prop) (w w' : World) : Prop where
  os : w'.os = w.os
  tape : w'.tape = w.tape
  output : w'.output = w.output
  size : w.heap.size ≤ w'.heap.size
  block : ∀ k, k < w.heap.size → ¬ A k → w'.heap[k]? = w.heap[k]?
theorem Chg.refl (A : Nat → Prop) (w : World) : Chg A w w := ⟨rfl, rfl, rfl, Nat.le_refl _, fun _ _ _ => rfl⟩
theorem Chg.trans {A : Nat → Prop} {a b c : World} (h : Chg A a b) (k : Chg A b c) : Chg A a c :=
  ⟨k.os.trans h.os, k.tape.trans h.tape, k.output.trans h.output, Nat.le_trans h.size k.size, fun i hi hn => (k.block i (by have := h.size; omega) hn).trans (h.block i hi hn)⟩
theorem Chg.mono {A A' : Nat → Prop} {a b : World} (h : Chg A a b) (hA : ∀ k, k < a.heap.size → A k → A' k) : Chg A' a b :=
  ⟨h.os, h.tape, h.output, h.size, fun k hk hn => h.block k hk (fun q => hn (hA k hk q))⟩
theorem Chg.of_below {A : Nat → Prop} {w w' : World} (h : Below w.heap.size w w') : Chg A w w' := ⟨h.os, h.tape, h.output, h.size, fun k hk _ => h.block k hk⟩
theorem Chg.of_grown {w w' : World} {row : Option Nat} (h : w.grownBy w' row) : Chg (fun k => row = some k) w w' := ⟨h.os, h.tape, h.output, h.size, fun k hk hn => h.block k hk (fun e => hn e.symm)⟩
theorem Chg.setCell {A : Nat → Prop} {a w : World} (h : Chg A a w) {p : Addr} (hp : A p.block ∨ a.heap.size ≤ p.block) (u : Value) : Chg A a (w.setCell p u) := by
  refine ⟨h.os, h.tape, h.output, by simpa [World.setCell] using h.size, fun k hk hn => ?_⟩
  rw [Below.heap_setCell _ _ _ _ (fun e => by subst e; rcases hp with q | q; exact hn q; omega)]
  exact h.block k hk hn
theorem Chg.below {A : Nat → Prop} {B : Nat} {w w' : World} (h : Chg A w w') (hB : B ≤ w.heap.size) (hA : ∀ k, k < B → ¬ A k) : Below B w w' := ⟨h.os, h.tape, h.output, h.size, fun k hk => h.block k (by omega) (hA k hk)⟩
theorem Chg.cell {A : Nat → Prop} {w w' : World} (h : Chg A w w') {p : Addr} (hp : p.block < w.heap.size) (hn : ¬ A p.block) : w'.cell? p = w.cell? p := World.cell?_of_block (w := w) (h.block p.block hp hn)
theorem Chg.frozen {A : Nat → Prop} {w w' : World} (h : Chg A w w') {p : Addr} (hp : p.block < w.heap.size) (hn : ¬ A p.block) : w'.frozen? p = w.frozen? p := World.frozen?_of_block (w := w) (h.block p.block hp hn)
def insL (es : List Pap) (i : Nat) (x : Pap) : List Pap := es.take i ++ x :: es.drop i
theorem insL_length {es : List Pap} {i : Nat} {x : Pap} (h : i ≤ es.length) : (insL es i x).length = es.length + 1 := by
  unfold insL; rw [List.length_append, List.length_cons, List.length_take, List.length_drop]; omega
/-- where a file is: behind all, if it isn't -/
def ix (es : List Pap) (n : Int) : Nat := es.findIdx (fun p => p.n == n)
theorem ix_le (es : List Pap) (n : Int) : ix es n ≤ es.length := List.findIdx_le_length
theorem ix_hit {es : List Pap} {n : Int} {i : Nat} (h : i < es.length) (hi : (pa es i).n = n) (hlo : ∀ k, k < i → ((pa es k).n == n) = false) : ix es n = i := by
  unfold ix
  rw [List.findIdx_eq h]
  refine ⟨by rw [← pa_get h]; simp [hi], fun j hj => ?_⟩
  have := hlo j hj
  rw [pa_get (by omega)] at this
  exact this
theorem ix_none {es : List Pap} {n : Int} (h : ∀ k, k < es.length → ((pa es k).n == n) = false) : ix es n = es.length := by
  unfold ix
  rw [List.findIdx_eq_length]
  intro x hx
  obtain ⟨k, hk, rfl⟩ := List.mem_iff_getElem.1 hx
  have := h k hk
  rw [pa_get hk] at this
  exact this
theorem ix_at {es : List Pap} {n : Int} (h : ix es n < es.length) : (pa es (ix es n)).n = n := by
  rw [pa_get h]
  have := List.findIdx_getElem (w := h)
  exact eq_of_beq this
def atI (es : List Pap) (n : Int) : Int := if ix es n < es.length then (ix es n : Int) else -1
theorem ret_eq {k : IntKind} {a b : Int} (h : b = a) : Ending.returned (.int k a) = .returned (.int k b) := by rw [h]
/-- the bytes of all files -/
def used : List Pap → Nat
  | [] => 0
  | e :: r => e.text.size + used r
theorem used_append (a b : List Pap) : used (a ++ b) = used a + used b := by
  induction a with
  | nil => simp [used]
  | cons e r ih => rw [List.cons_append, used, used, ih]; omega
theorem used_take {es : List Pap} {k : Nat} (h : k < es.length) : used (es.take (k + 1)) = used (es.take k) + (pa es k).text.size := by
  rw [List.take_succ_eq_append_getElem h, used_append, ← pa_get h]
  simp [used]
theorem used_le (es : List Pap) (k : Nat) : used (es.take k) ≤ used es := by
  have := used_append (es.take k) (es.drop k)
  rw [List.take_append_drop] at this
  omega
theorem atI_there {es : List Pap} {n : Int} (h : ix es n < es.length) : atI es n = (ix es n : Int) := by unfold atI; rw [if_pos h]
theorem atI_none {es : List Pap} {n : Int} (h : ¬ ix es n < es.length) : atI es n = -1 := by unfold atI; rw [if_neg h]
/-- what a reading answers -/
def readV (es : List Pap) (n : Int) : Value := if ix es n < es.length then .tuple #[.string (pa es (ix es n)).text, .int .i64 0] else .tuple #[.string ⟨#[]⟩, .int .i64 4]
/-- Sync -/
def syncL (es : List Pap) (n : Int) : List Pap := if ix es n < es.length then es.set (ix es n) { pa es (ix es n) with sure := ((pa es (ix es n)).text.size : Int) } else es
def hasE (es : List Pap) (n : Int) : Int := if ix es n < es.length then 0 else 4
def inI (n lo hi : Int) : Bool := decide (lo ≤ n) && decide (n ≤ hi)
/-- Cut -/
def cutP (e : Pap) (k : Nat) : Pap := ⟨e.n, (k : Int), e.text.extract 0 k⟩
def cutOk (es : List Pap) (n size : Int) : Bool := inI size 0 ((pa es (ix es n)).text.size : Int)
def cutL (es : List Pap) (n size : Int) : List Pap := if ix es n < es.length then (if cutOk es n size then es.set (ix es n) (cutP (pa es (ix es n)) size.toNat) else es) else es
def cutE (es : List Pap) (n size : Int) : Int := if ix es n < es.length then (if cutOk es n size then 0 else 1) else 4
def numL (es : List Pap) : List Int := es.map (·.n)
theorem numL_take {es : List Pap} {k : Nat} (h : k < es.length) : numL (es.take (k + 1)) = numL (es.take k) ++ [(pa es k).n] := by
  unfold numL
  rw [List.take_succ_eq_append_getElem h, List.map_append, ← pa_get h]
  rfl
theorem numL_len {es : List Pap} {k : Nat} (h : k ≤ es.length) : (numL (es.take k)).length = k := by
  unfold numL
  rw [List.length_map, List.length_take]
  omega
/-- how many numbers are below n at the front -/
def low (es : List Pap) (n : Int) : Nat := es.findIdx (fun p => !decide (p.n < n))
theorem low_le (es : List Pap) (n : Int) : low es n ≤ es.length := List.findIdx_le_length
theorem low_lt {es : List Pap} {n : Int} {k : Nat} (h : k < low es n) : (pa es k).n < n := by
  have hk : k < es.length := Nat.lt_of_lt_of_le h (low_le es n)
  have := List.not_of_lt_findIdx h
  rw [pa_get hk]
  simpa using this
theorem low_at {es : List Pap} {n : Int} (h : low es n < es.length) : ¬ (pa es (low es n)).n < n := by
  rw [pa_get h]
  have := List.findIdx_getElem (w := h)
  simp only [Bool.not_eq_true', decide_eq_false_iff_not] at this
  exact this
/-- Append -/
def addP (e : Pap) (s : ByteArray) : Pap := { e with text := e.text ++ s }
def full (es : List Pap) (m n : Int) (s : ByteArray) : Bool := decide (m < (s.size : Int) + (used es : Int)) || (!decide (ix es n < es.length) && decide (es.length = 20))
def appE (es : List Pap) (m n : Int) (s : ByteArray) : Int := if inI n 0 1099511627776 = false then 1 else if full es m n s then 8 else 0
def appL (es : List Pap) (m n : Int) (s : ByteArray) : List Pap :=
  if inI n 0 1099511627776 = false then es else if full es m n s then es
  else if ix es n < es.length then es.set (ix es n) (addP (pa es (ix es n)) s) else insL es (low es n) ⟨n, 0, s⟩
theorem app_bad {es : List Pap} {m n : Int} {s : ByteArray} (h : inI n 0 1099511627776 = false) : appE es m n s = 1 ∧ appL es m n s = es := by
  unfold appE appL; rw [if_pos h, if_pos h]; exact ⟨rfl, rfl⟩
theorem app_full {es : List Pap} {m n : Int} {s : ByteArray} (h : inI n 0 1099511627776 = true) (hf : full es m n s = true) : appE es m n s = 8 ∧ appL es m n s = es := by
  unfold appE appL; constructor <;> simp [h, hf]
theorem app_old {es : List Pap} {m n : Int} {s : ByteArray} (h : inI n 0 1099511627776 = true) (hf : full es m n s = false) (hi : ix es n < es.length) : appE es m n s = 0 ∧ appL es m n s = es.set (ix es n) (addP (pa es (ix es n)) s) := by
  unfold appE appL; constructor <;> simp [h, hf, hi]
theorem app_new {es : List Pap} {m n : Int} {s : ByteArray} (h : inI n 0 1099511627776 = true) (hf : full es m n s = false) (hi : ¬ ix es n < es.length) : appE es m n s = 0 ∧ appL es m n s = insL es (low es n) ⟨n, 0, s⟩ := by
  unfold appE appL; constructor <;> simp [h, hf, hi]
theorem full_not {es : List Pap} {m n : Int} {s : ByteArray} (h : full es m n s = false) (hh : ¬ ix es n < es.length) : ¬ m < (s.size : Int) + (used es : Int) ∧ es.length ≠ 20 := by
  unfold full at h
  rw [decide_eq_false hh] at h
  simpa using h
theorem Chg.more {A A' : Nat → Prop} {a b c : World} (h : Chg A a b) (k : Chg A' b c) (hA : ∀ i, i < a.heap.size → A' i → A i) : Chg A a c :=
  ⟨k.os.trans h.os, k.tape.trans h.tape, k.output.trans h.output, Nat.le_trans h.size k.size, fun i hi hn => (k.block i (by have := h.size; omega) (fun q => hn (hA i hi q))).trans (h.block i hi hn)⟩
theorem insL_at {es : List Pap} {k : Nat} (h : k ≤ es.length) (x : Pap) : pa (insL es k x) k = x := by
  unfold pa insL
  have hl : (es.take k).length = k := by rw [List.length_take]; omega
  rw [List.getElem?_append_right (by omega), hl, Nat.sub_self]
  simp
theorem insL_set {es : List Pap} {k : Nat} (h : k ≤ es.length) (x y : Pap) : (insL es k x).set k y = insL es k y := by
  unfold insL
  have hl : (es.take k).length = k := by rw [List.length_take]; omega
  rw [List.set_append_right _ _ (by omega), hl, Nat.sub_self]
  simp
theorem new_text {L : List Pap} {k : Nat} {n : Int} {s : ByteArray} (h : pa L k = ⟨n, 0, ByteArray.empty⟩) : ({ pa L k with text := (pa L k).text ++ s } : Pap) = ⟨n, 0, s⟩ := by rw [h]; simp
/-- Remove -/
def remL (es : List Pap) (n : Int) : List Pap := if ix es n < es.length then es.take (ix es n) ++ es.drop (ix es n + 1) else es
/-- where a text is cut by a stop -/
def stopAt (e : Pap) (keep : Int) : Nat := min e.text.size (e.sure.toNat + keep.toNat)
/-- a file behind a stop -/
def stopP (keep : Int) (e : Pap) : Pap := ⟨e.n, (stopAt e keep : Int), e.text.extract 0 (stopAt e keep)⟩
/-- what a stop needs of a file -/
def Sound (e : Pap) : Prop := 0 ≤ e.sure ∧ e.sure ≤ (e.text.size : Int) ∧ e.text.size ≤ 1000000
theorem stop_le (e : Pap) (keep : Int) : stopAt e keep ≤ e.text.size := Nat.min_le_left _ _
theorem ext_size (t : ByteArray) (c : Nat) (h : c ≤ t.size) : (t.extract 0 c).size = c := by simp; omega
def nth (l : List Int) (k : Nat) : Int := l[k]?.getD 0
/-- the numbers that a slice shows -/
def SlI (w : World) (a : Option Addr) (l : List Int) : Prop := ∀ k, k < l.length → ∃ b o, a = some ⟨b, o, none⟩ ∧ b < w.heap.size ∧ w.cell? ⟨b, o + k, none⟩ = some (.int .i64 (nth l k))
theorem SlI.below {w w' : World} {a : Option Addr} {l : List Int} (h : SlI w a l) (hb : Below w.heap.size w w') : SlI w' a l := by
  intro k hk
  obtain ⟨b, o, h1, h2, h3⟩ := h k hk
  exact ⟨b, o, h1, by have := hb.size; omega, by rw [hb.cell (p := ⟨b, o + k, none⟩) h2]; exact h3⟩
end Go.Proofs.Ytbflhmkapfodiaa.Dk
