/-
  A plan of a stream, pure: when it is right, its text, and the text read. No program.
  Names, byte by byte. No program.
  The document's disk: what it is and what every call makes of it; which blocks a call may have written. No walk, and nothing of the program's own.
  A plan in memory: ten cells in a block. No walk.
  Texts that a slice shows; a plan that is looked at. No walk.
-/
import Derived.Test.YtmccpkpeimejhagGreatDoorJointBase0RowTmPlainPapPaWalk1
import Derived.Test.YtmccpkpeimejhagGreatDoorJointWalkSplitWalk2Plain2Plain5PlainK
import Derived.Test.YtmccpkpeimejhagGreatDoorRows
import Derived.WalkKit
import Derived.WalkSpells
import Derived.WalkLawsBesides
import Derived.Deep.QuietTactic
import Derived.BigQuiet
import Derived.Laws.IdiomCopy
import Derived.Lib.Overlaps
import Derived.Lib.AppendZerosOnto
import Derived.Laws.NewBlocks
namespace Go.Proofs.YtmccpkpeimejhagGreatDoor.Pn
open Go

/-- the words of a plan's numbers; the most that each may be -/
def words8 : List (List UInt8) := [[109, 115, 103, 115], [98, 121, 116, 101, 115], [97, 103, 101], [112, 101, 114], [115, 105, 122, 101], [100, 105, 115, 99, 97, 114, 100], [107, 101, 101, 112], [119, 105, 110, 100, 111, 119]]
def most8 : List Int := [200, 65536, 100000, 200, 256, 1, 2, 100000]
/-- a plan: its name, its filters, its eight numbers -/
structure Pln where
  n : ByteArray
  f : List ByteArray
  v : List Int
def nameB (c : UInt8) : Bool := (decide (97 ≤ c.toNat) && decide (c.toNat ≤ 122)) || ((decide (48 ≤ c.toNat) && decide (c.toNat ≤ 57)) || decide (c.toNat = 45))
def namedB (s : ByteArray) : Bool := s.data.toList.all nameB && (decide (1 ≤ s.size) && decide (s.size ≤ 16))
/-- the error of the first filter that has one; 0: none -/
def filtE : List ByteArray → Int
  | [] => 0
  | f :: r => if errS true f = 0 then filtE r else errS true f
/-- do two of them overlap? -/
def laps : List ByteArray → Bool
  | [] => false
  | f :: r => r.any (fun g => meetL (Pl.toks f) (Pl.toks g)) || laps r
def inAll : List Int → List Int → Bool
  | [], [] => true
  | x :: v, m :: ms => (decide (0 ≤ x) && decide (x ≤ m)) && inAll v ms
  | _, _ => false
def planE (p : Pln) : Int := if namedB p.n = false then 3 else if 4 < p.f.length then 2 else if p.f.length = 0 then 1 else if filtE p.f ≠ 0 then filtE p.f else if laps p.f = true then 10 else if inAll p.v most8 = true then 0 else 1
theorem plan_ok {p : Pln} (h : planE p = 0) : namedB p.n = true ∧ p.f.length ≤ 4 ∧ p.f.length ≠ 0 ∧ filtE p.f = 0 ∧ laps p.f = false ∧ inAll p.v most8 = true := by
  unfold planE at h
  by_cases h1 : namedB p.n = false
  · rw [if_pos h1] at h; cases h
  · rw [if_neg h1] at h
    by_cases h2 : 4 < p.f.length
    · rw [if_pos h2] at h; cases h
    · rw [if_neg h2] at h
      by_cases h3 : p.f.length = 0
      · rw [if_pos h3] at h; cases h
      · rw [if_neg h3] at h
        by_cases h4 : filtE p.f ≠ 0
        · rw [if_pos h4] at h; exact absurd h h4
        · rw [if_neg h4] at h
          by_cases h5 : laps p.f = true
          · rw [if_pos h5] at h; cases h
          · rw [if_neg h5] at h
            by_cases h6 : inAll p.v most8 = true
            · exact ⟨by simpa using h1, by omega, h3, Classical.not_not.1 h4, by simpa using h5, h6⟩
            · rw [if_neg h6] at h; cases h
theorem filtE_all : ∀ {l : List ByteArray}, filtE l = 0 → ∀ f ∈ l, errS true f = 0
  | [], _, f, hf => by cases hf
  | g :: r, h, f, hf => by
    unfold filtE at h
    by_cases e : errS true g = 0
    · rw [if_pos e] at h
      rcases List.mem_cons.1 hf with y | y
      · rw [y]; exact e
      · exact filtE_all h f y
    · rw [if_neg e] at h; exact absurd h e
/-- the words of the numbers that aren't 0 -/
def wordsT : List (List UInt8) → List Int → List (List UInt8)
  | w :: ws, x :: v => if x = 0 then wordsT ws v else (w ++ 61 :: Lib.itoa x) :: wordsT ws v
  | _, _ => []
def textL (p : Pln) : List (List UInt8) := p.n.data.toList :: glue 44 (p.f.map (·.data.toList)) :: wordsT words8 p.v
/-- Print: the text; has a filter a comma? -/
def planT (p : Pln) : ByteArray := ⟨(glue 32 (textL p)).toArray⟩
def commas (p : Pln) : Bool := p.f.any (fun f => f.data.toList.contains 44)
/-- the words that are read: of each word in its turn the number, or 0 -/
def rdN : List (List UInt8) → List (List UInt8) → Option (List Int)
  | [], [] => some []
  | [], _ :: _ => none
  | _ :: ws, [] => (rdN ws []).map (fun v => 0 :: v)
  | w :: ws, t :: ts => if (w ++ [61]).isPrefixOf t = true then (if digV (t.drop (w.length + 1)) < 1 then none else (rdN ws ts).map (fun v => digV (t.drop (w.length + 1)) :: v)) else (rdN ws (t :: ts)).map (fun v => 0 :: v)
def zeroP : Pln := ⟨⟨#[]⟩, [], [0, 0, 0, 0, 0, 0, 0, 0]⟩
def bs (l : List UInt8) : ByteArray := ⟨l.toArray⟩
/-- Parse -/
def readP (s : ByteArray) : Pln × Int := if 1024 < s.size then (zeroP, 2) else match cut 32 s.data.toList with
  | n :: f :: ts => match rdN words8 ts with
    | some v => if planE ⟨bs n, (cut 44 f).map bs, v⟩ = 0 then (⟨bs n, (cut 44 f).map bs, v⟩, 0) else (zeroP, planE ⟨bs n, (cut 44 f).map bs, v⟩)
    | none => (zeroP, 3)
  | _ => (zeroP, 3)

theorem prefix_word {a b d : List UInt8} (ha : (61 : UInt8) ∉ a) (hb : (61 : UInt8) ∉ b) (h : (a ++ [61]).isPrefixOf (b ++ 61 :: d) = true) : a = b := by
  induction a generalizing b with
  | nil =>
    cases b with
    | nil => rfl
    | cons x b =>
      simp [List.isPrefixOf] at h
      exact absurd (by rw [← h]; exact List.mem_cons_self ..) hb
  | cons y a ih =>
    cases b with
    | nil =>
      simp [List.isPrefixOf] at h
      exact absurd (by rw [h.1]; exact List.mem_cons_self ..) ha
    | cons x b =>
      simp only [List.cons_append, List.isPrefixOf, Bool.and_eq_true, beq_iff_eq] at h
      rw [h.1, ih (fun z => ha (List.mem_cons_of_mem _ z)) (fun z => hb (List.mem_cons_of_mem _ z)) h.2]
theorem prefix_self (w d : List UInt8) : (w ++ [61]).isPrefixOf (w ++ 61 :: d) = true ∧ (w ++ 61 :: d).drop (w.length + 1) = d := by
  constructor
  · rw [List.isPrefixOf_iff_prefix]
    exact ⟨d, by simp⟩
  · rw [List.drop_append, List.drop_of_length_le (by omega), show w.length + 1 - w.length = 1 by omega]
    rfl
theorem wordsT_head : ∀ (ws : List (List UInt8)) (v : List Int) {t : List UInt8} {ts : List (List UInt8)}, wordsT ws v = t :: ts → ∃ u ∈ ws, ∃ d, t = u ++ 61 :: d
  | [], _, t, ts, h => by simp [wordsT] at h
  | w :: ws, [], t, ts, h => by simp [wordsT] at h
  | w :: ws, x :: v, t, ts, h => by
    by_cases e : x = 0
    · rw [wordsT, if_pos e] at h
      obtain ⟨u, hu, d, hd⟩ := wordsT_head ws v h
      exact ⟨u, List.mem_cons_of_mem _ hu, d, hd⟩
    · rw [wordsT, if_neg e] at h
      exact ⟨w, List.mem_cons_self .., Lib.itoa x, (List.cons.inj h).1.symm⟩
/-- what is printed is read -/
theorem rdN_back : ∀ (ws : List (List UInt8)) (v : List Int), ws.Nodup → (∀ w ∈ ws, (61 : UInt8) ∉ w) → v.length = ws.length → (∀ x ∈ v, 0 ≤ x ∧ x < 1000000000) → rdN ws (wordsT ws v) = some v
  | [], [], _, _, _, _ => rfl
  | [], _ :: _, _, _, h, _ => by simp at h
  | w :: ws, [], _, _, h, _ => by simp at h
  | w :: ws, x :: v, hn, hw, hl, hx => by
    have hn' := List.nodup_cons.1 hn
    have ih := rdN_back ws v hn'.2 (fun u hu => hw u (List.mem_cons_of_mem _ hu)) (by simpa using hl) (fun y hy => hx y (List.mem_cons_of_mem _ hy))
    by_cases e : x = 0
    · have e1 : wordsT (w :: ws) (x :: v) = wordsT ws v := by rw [wordsT, if_pos e]
      rw [e1]
      cases ht : wordsT ws v with
      | nil => rw [ht] at ih; rw [rdN, ih, e]; rfl
      | cons t ts =>
        have hm : ∃ u ∈ ws, ∃ d, t = u ++ 61 :: d := wordsT_head ws v ht
        obtain ⟨u, hu, d, rfl⟩ := hm
        rw [ht] at ih
        have hp : ¬ (w ++ [61]).isPrefixOf (u ++ 61 :: d) = true := fun z => by
          have := prefix_word (hw w (List.mem_cons_self ..)) (hw u (List.mem_cons_of_mem _ hu)) z
          rw [this] at hn'
          exact hn'.1 hu
        rw [rdN, if_neg hp, ih, e]; rfl
    · have e1 : wordsT (w :: ws) (x :: v) = (w ++ 61 :: Lib.itoa x) :: wordsT ws v := by rw [wordsT, if_neg e]
      have hx0 := hx x (List.mem_cons_self ..)
      obtain ⟨u, rfl⟩ : ∃ u : Nat, x = (u : Int) := ⟨x.toNat, by omega⟩
      have hi : Lib.itoa (u : Int) = Lib.decDigits u := by unfold Lib.itoa; rw [if_neg (by omega)]; simp
      obtain ⟨p1, p2⟩ := prefix_self w (Lib.itoa (u : Int))
      have hd : digV (Lib.itoa (u : Int)) = (u : Int) := by rw [hi]; exact digV_dec (by omega) (by omega)
      rw [e1, rdN, if_pos p1, p2, hd, if_neg (by omega), ih]
      rfl
/-- what is read is printed as it stood -/
theorem rdN_one : ∀ (ws ts : List (List UInt8)) {v : List Int}, rdN ws ts = some v → wordsT ws v = ts ∧ v.length = ws.length ∧ ∀ x ∈ v, 0 ≤ x ∧ x < 1000000000
  | [], [], v, h => by
    simp [rdN] at h
    subst h
    exact ⟨rfl, rfl, fun x hx => by cases hx⟩
  | [], _ :: _, v, h => by simp [rdN] at h
  | w :: ws, [], v, h => by
    rw [rdN] at h
    cases hr : rdN ws [] with
    | none => rw [hr] at h; simp at h
    | some u =>
      rw [hr] at h
      simp at h
      subst h
      obtain ⟨h1, h2, h3⟩ := rdN_one ws [] hr
      refine ⟨by rw [wordsT, if_pos rfl]; exact h1, by simp [h2], fun x hx => ?_⟩
      rcases List.mem_cons.1 hx with y | y
      · omega
      · exact h3 x y
  | w :: ws, t :: ts, v, h => by
    rw [rdN] at h
    by_cases hp : (w ++ [61]).isPrefixOf t = true
    · rw [if_pos hp] at h
      by_cases hd : digV (t.drop (w.length + 1)) < 1
      · rw [if_pos hd] at h; cases h
      · rw [if_neg hd] at h
        cases hr : rdN ws ts with
        | none => rw [hr] at h; simp at h
        | some u =>
          rw [hr] at h
          simp at h
          subst h
          obtain ⟨h1, h2, h3⟩ := rdN_one ws ts hr
          obtain ⟨b1, b2⟩ := digV_back (l := t.drop (w.length + 1)) (by omega)
          obtain ⟨d, hd2⟩ := List.isPrefixOf_iff_prefix.1 hp
          have e : t.drop (w.length + 1) = d := by rw [← hd2, List.append_assoc]; exact (prefix_self w d).2
          refine ⟨?_, by simp [h2], fun x hx => ?_⟩
          · rw [wordsT, if_neg (by omega), b1, h1, e, ← hd2]
            simp
          · rcases List.mem_cons.1 hx with y | y
            · omega
            · exact h3 x y
    · rw [if_neg hp] at h
      cases hr : rdN ws (t :: ts) with
      | none => rw [hr] at h; simp at h
      | some u =>
        rw [hr] at h
        simp at h
        subst h
        obtain ⟨h1, h2, h3⟩ := rdN_one ws (t :: ts) hr
        refine ⟨by rw [wordsT, if_pos rfl]; exact h1, by simp [h2], fun x hx => ?_⟩
        rcases List.mem_cons.1 hx with y | y
        · omega
        · exact h3 x y
end Go.Proofs.YtmccpkpeimejhagGreatDoor.Pn

namespace Go.Proofs.YtmccpkpeimejhagGreatDoor
open Go.RowKit

theorem take_byte (s : ByteArray) (k : Nat) (h : k < s.size) : s.data.toList.take (k + 1) = s.data.toList.take k ++ [s[k]] := by
  rw [List.take_succ_eq_append_getElem (by simpa using h)]; rfl
/-- are the first k bytes all right for a name? -/
def namedTo (s : ByteArray) (k : Nat) : Bool := (s.data.toList.take k).all Pn.nameB
theorem namedTo_succ {s : ByteArray} {k : Nat} (h : k < s.size) : namedTo s (k + 1) = (namedTo s k && Pn.nameB s[k]) := by
  unfold namedTo
  rw [take_byte s k h, List.all_append]
  simp
theorem named_bad {s : ByteArray} {k : Nat} (h : k < s.size) (hb : Pn.nameB s[k] = false) : Pn.namedB s = false := by
  unfold Pn.namedB
  have : s.data.toList.all Pn.nameB = false := by
    rw [List.all_eq_false]
    exact ⟨s[k], by
      have : s.data.toList[k]'(by simpa using h) ∈ s.data.toList := List.getElem_mem _
      exact this, by simp [hb]⟩
  rw [this]; rfl
theorem named_ok {s : ByteArray} (h : namedTo s s.size = true) : Pn.namedB s = (decide (1 ≤ s.size) && decide (s.size ≤ 16)) := by
  unfold namedTo at h
  rw [List.take_of_length_le (by simp)] at h
  unfold Pn.namedB
  rw [h, Bool.true_and]
end Go.Proofs.YtmccpkpeimejhagGreatDoor

namespace Go.Proofs.YtmccpkpeimejhagGreatDoor.Dk
open Go.RowKit

/-- a file of the document's disk -/
structure Pap where
  n : Int
  sure : Int
  text : ByteArray
def pa (l : List Pap) (k : Nat) : Pap := l[k]?.getD ⟨0, 0, ByteArray.empty⟩
theorem pa_get {l : List Pap} {k : Nat} (h : k < l.length) : pa l k = l[k] := by unfold pa; rw [List.getElem?_eq_getElem h]; rfl
theorem pa_mem {l : List Pap} {k : Nat} (h : k < l.length) : pa l k ∈ l := by rw [pa_get h]; exact List.getElem_mem h
theorem pa_zero (e : Pap) (r : List Pap) : pa (e :: r) 0 = e := rfl
theorem pa_succ (e : Pap) (r : List Pap) (k : Nat) : pa (e :: r) (k + 1) = pa r k := rfl
/-- which blocks may have been written; new ones may be there -/
structure Chg (A : Nat → Prop) (w w' : World) : Prop where
  os : w'.os = w.os
  tape : w'.tape = w.tape
  output : w'.output = w.output
  size : w.heap.size ≤ w'.heap.size
  block : ∀ k, k < w.heap.size → ¬ A k → w'.heap[k]? = w.heap[k]?
theorem Chg.refl (A : Nat → Prop) (w : World) : Chg A w w := ⟨rfl, rfl, rfl, Nat.le_refl _, fun _ _ _ => rfl⟩
theorem Chg.trans {A : Nat → Prop} {a b c : World} (h : Chg A a b) (k : Chg A b c) : Chg A a c :=
  ⟨k.os.trans h.os, k.tape.trans h.tape, k.output.trans h.output, Nat.le_trans h.size k.size, fun i hi hn => (k.block i (by have := h.size; omega) hn).trans (h.block i hi hn)⟩
theorem Chg.mono {A A' : Nat → Prop} {a b : World} (h : Chg A a b) (hA : ∀ k, k < a.heap.size → A k → A' k) : Chg A' a b :=
  ⟨h.os, h.tape, h.output, h.size, fun k hk hn => h.block k hk (fun q => hn (hA k hk q))⟩
theorem Chg.of_below {A : Nat → Prop} {w w' : World} (h : Below w.heap.size w w') : Chg A w w' := ⟨h.os, h.tape, h.output, h.size, fun k hk _ => h.block k hk⟩
theorem Chg.of_grown {w w' : World} {row : Option Nat} (h : w.grownBy w' row) : Chg (fun k => row = some k) w w' := ⟨h.os, h.tape, h.output, h.size, fun k hk hn => h.block k hk (fun e => hn e.symm)⟩
theorem Chg.setCell {A : Nat → Prop} {a w : World} (h : Chg A a w) {p : Addr} (hp : A p.block ∨ a.heap.size ≤ p.block) (u : Value) : Chg A a (w.setCell p u) := by
  refine ⟨h.os, h.tape, h.output, by simpa [World.setCell] using h.size, fun k hk hn => ?_⟩
  rw [Below.heap_setCell _ _ _ _ (fun e => by subst e; rcases hp with q | q; exact hn q; omega)]
  exact h.block k hk hn
theorem Chg.below {A : Nat → Prop} {B : Nat} {w w' : World} (h : Chg A w w') (hB : B ≤ w.heap.size) (hA : ∀ k, k < B → ¬ A k) : Below B w w' := ⟨h.os, h.tape, h.output, h.size, fun k hk => h.block k (by omega) (hA k hk)⟩
theorem Chg.cell {A : Nat → Prop} {w w' : World} (h : Chg A w w') {p : Addr} (hp : p.block < w.heap.size) (hn : ¬ A p.block) : w'.cell? p = w.cell? p := World.cell?_of_block (w := w) (h.block p.block hp hn)
theorem Chg.frozen {A : Nat → Prop} {w w' : World} (h : Chg A w w') {p : Addr} (hp : p.block < w.heap.size) (hn : ¬ A p.block) : w'.frozen? p = w.frozen? p := World.frozen?_of_block (w := w) (h.block p.block hp hn)
def insL (es : List Pap) (i : Nat) (x : Pap) : List Pap := es.take i ++ x :: es.drop i
theorem insL_length {es : List Pap} {i : Nat} {x : Pap} (h : i ≤ es.length) : (insL es i x).length = es.length + 1 := by
  unfold insL; rw [List.length_append, List.length_cons, List.length_take, List.length_drop]; omega
/-- where a file is: behind all, if it isn't -/
def ix (es : List Pap) (n : Int) : Nat := es.findIdx (fun p => p.n == n)
theorem ix_le (es : List Pap) (n : Int) : ix es n ≤ es.length := List.findIdx_le_length
theorem ix_hit {es : List Pap} {n : Int} {i : Nat} (h : i < es.length) (hi : (pa es i).n = n) (hlo : ∀ k, k < i → ((pa es k).n == n) = false) : ix es n = i := by
  unfold ix
  rw [List.findIdx_eq h]
  refine ⟨by rw [← pa_get h]; simp [hi], fun j hj => ?_⟩
  have := hlo j hj
  rw [pa_get (by omega)] at this
  exact this
theorem ix_none {es : List Pap} {n : Int} (h : ∀ k, k < es.length → ((pa es k).n == n) = false) : ix es n = es.length := by
  unfold ix
  rw [List.findIdx_eq_length]
  intro x hx
  obtain ⟨k, hk, rfl⟩ := List.mem_iff_getElem.1 hx
  have := h k hk
  rw [pa_get hk] at this
  exact this
theorem ix_at {es : List Pap} {n : Int} (h : ix es n < es.length) : (pa es (ix es n)).n = n := by
  rw [pa_get h]
  have := List.findIdx_getElem (w := h)
  exact eq_of_beq this
def atI (es : List Pap) (n : Int) : Int := if ix es n < es.length then (ix es n : Int) else -1
theorem ret_eq {k : IntKind} {a b : Int} (h : b = a) : Ending.returned (.int k a) = .returned (.int k b) := by rw [h]
/-- the bytes of all files -/
def used : List Pap → Nat
  | [] => 0
  | e :: r => e.text.size + used r
theorem used_append (a b : List Pap) : used (a ++ b) = used a + used b := by
  induction a with
  | nil => simp [used]
  | cons e r ih => rw [List.cons_append, used, used, ih]; omega
theorem used_take {es : List Pap} {k : Nat} (h : k < es.length) : used (es.take (k + 1)) = used (es.take k) + (pa es k).text.size := by
  rw [List.take_succ_eq_append_getElem h, used_append, ← pa_get h]
  simp [used]
theorem used_le (es : List Pap) (k : Nat) : used (es.take k) ≤ used es := by
  have := used_append (es.take k) (es.drop k)
  rw [List.take_append_drop] at this
  omega
theorem atI_there {es : List Pap} {n : Int} (h : ix es n < es.length) : atI es n = (ix es n : Int) := by unfold atI; rw [if_pos h]
theorem atI_none {es : List Pap} {n : Int} (h : ¬ ix es n < es.length) : atI es n = -1 := by unfold atI; rw [if_neg h]
/-- what a reading answers -/
def readV (es : List Pap) (n : Int) : Value := if ix es n < es.length then .tuple #[.string (pa es (ix es n)).text, .int .i64 0] else .tuple #[.string ⟨#[]⟩, .int .i64 4]
/-- Sync -/
def syncL (es : List Pap) (n : Int) : List Pap := if ix es n < es.length then es.set (ix es n) { pa es (ix es n) with sure := ((pa es (ix es n)).text.size : Int) } else es
def hasE (es : List Pap) (n : Int) : Int := if ix es n < es.length then 0 else 4
def inI (n lo hi : Int) : Bool := decide (lo ≤ n) && decide (n ≤ hi)
/-- Cut -/
def cutP (e : Pap) (k : Nat) : Pap := ⟨e.n, (k : Int), e.text.extract 0 k⟩
def cutOk (es : List Pap) (n size : Int) : Bool := inI size 0 ((pa es (ix es n)).text.size : Int)
def cutL (es : List Pap) (n size : Int) : List Pap := if ix es n < es.length then (if cutOk es n size then es.set (ix es n) (cutP (pa es (ix es n)) size.toNat) else es) else es
def cutE (es : List Pap) (n size : Int) : Int := if ix es n < es.length then (if cutOk es n size then 0 else 1) else 4
def numL (es : List Pap) : List Int := es.map (·.n)
theorem numL_take {es : List Pap} {k : Nat} (h : k < es.length) : numL (es.take (k + 1)) = numL (es.take k) ++ [(pa es k).n] := by
  unfold numL
  rw [List.take_succ_eq_append_getElem h, List.map_append, ← pa_get h]
  rfl
theorem numL_len {es : List Pap} {k : Nat} (h : k ≤ es.length) : (numL (es.take k)).length = k := by
  unfold numL
  rw [List.length_map, List.length_take]
  omega
/-- how many numbers are below n at the front -/
def low (es : List Pap) (n : Int) : Nat := es.findIdx (fun p => !decide (p.n < n))
theorem low_le (es : List Pap) (n : Int) : low es n ≤ es.length := List.findIdx_le_length
theorem low_lt {es : List Pap} {n : Int} {k : Nat} (h : k < low es n) : (pa es k).n < n := by
  have hk : k < es.length := Nat.lt_of_lt_of_le h (low_le es n)
  have := List.not_of_lt_findIdx h
  rw [pa_get hk]
  simpa using this
theorem low_at {es : List Pap} {n : Int} (h : low es n < es.length) : ¬ (pa es (low es n)).n < n := by
  rw [pa_get h]
  have := List.findIdx_getElem (w := h)
  simp only [Bool.not_eq_true', decide_eq_false_iff_not] at this
  exact this
/-- Append -/
def addP (e : Pap) (s : ByteArray) : Pap := { e with text := e.text ++ s }
def full (es : List Pap) (m n : Int) (s : ByteArray) : Bool := decide (m < (s.size : Int) + (used es : Int)) || (!decide (ix es n < es.length) && decide (es.length = 20))
def appE (es : List Pap) (m n : Int) (s : ByteArray) : Int := if inI n 0 1099511627776 = false then 1 else if full es m n s then 8 else 0
def appL (es : List Pap) (m n : Int) (s : ByteArray) : List Pap :=
  if inI n 0 1099511627776 = false then es else if full es m n s then es
  else if ix es n < es.length then es.set (ix es n) (addP (pa es (ix es n)) s) else insL es (low es n) ⟨n, 0, s⟩
theorem app_bad {es : List Pap} {m n : Int} {s : ByteArray} (h : inI n 0 1099511627776 = false) : appE es m n s = 1 ∧ appL es m n s = es := by
  unfold appE appL; rw [if_pos h, if_pos h]; exact ⟨rfl, rfl⟩
theorem app_full {es : List Pap} {m n : Int} {s : ByteArray} (h : inI n 0 1099511627776 = true) (hf : full es m n s = true) : appE es m n s = 8 ∧ appL es m n s = es := by
  unfold appE appL; constructor <;> simp [h, hf]
theorem app_old {es : List Pap} {m n : Int} {s : ByteArray} (h : inI n 0 1099511627776 = true) (hf : full es m n s = false) (hi : ix es n < es.length) : appE es m n s = 0 ∧ appL es m n s = es.set (ix es n) (addP (pa es (ix es n)) s) := by
  unfold appE appL; constructor <;> simp [h, hf, hi]
theorem app_new {es : List Pap} {m n : Int} {s : ByteArray} (h : inI n 0 1099511627776 = true) (hf : full es m n s = false) (hi : ¬ ix es n < es.length) : appE es m n s = 0 ∧ appL es m n s = insL es (low es n) ⟨n, 0, s⟩ := by
  unfold appE appL; constructor <;> simp [h, hf, hi]
theorem full_not {es : List Pap} {m n : Int} {s : ByteArray} (h : full es m n s = false) (hh : ¬ ix es n < es.length) : ¬ m < (s.size : Int) + (used es : Int) ∧ es.length ≠ 20 := by
  unfold full at h
  rw [decide_eq_false hh] at h
  simpa using h
theorem Chg.more {A A' : Nat → Prop} {a b c : World} (h : Chg A a b) (k : Chg A' b c) (hA : ∀ i, i < a.heap.size → A' i → A i) : Chg A a c :=
  ⟨k.os.trans h.os, k.tape.trans h.tape, k.output.trans h.output, Nat.le_trans h.size k.size, fun i hi hn => (k.block i (by have := h.size; omega) (fun q => hn (hA i hi q))).trans (h.block i hi hn)⟩
theorem insL_at {es : List Pap} {k : Nat} (h : k ≤ es.length) (x : Pap) : pa (insL es k x) k = x := by
  unfold pa insL
  have hl : (es.take k).length = k := by rw [List.length_take]; omega
  rw [List.getElem?_append_right (by omega), hl, Nat.sub_self]
  simp
theorem insL_set {es : List Pap} {k : Nat} (h : k ≤ es.length) (x y : Pap) : (insL es k x).set k y = insL es k y := by
  unfold insL
  have hl : (es.take k).length = k := by rw [List.length_take]; omega
  rw [List.set_append_right _ _ (by omega), hl, Nat.sub_self]
  simp
theorem new_text {L : List Pap} {k : Nat} {n : Int} {s : ByteArray} (h : pa L k = ⟨n, 0, ByteArray.empty⟩) : ({ pa L k with text := (pa L k).text ++ s } : Pap) = ⟨n, 0, s⟩ := by rw [h]; simp
/-- Remove -/
def remL (es : List Pap) (n : Int) : List Pap := if ix es n < es.length then es.take (ix es n) ++ es.drop (ix es n + 1) else es
/-- where a text is cut by a stop -/
def stopAt (e : Pap) (keep : Int) : Nat := min e.text.size (e.sure.toNat + keep.toNat)
/-- a file behind a stop -/
def stopP (keep : Int) (e : Pap) : Pap := ⟨e.n, (stopAt e keep : Int), e.text.extract 0 (stopAt e keep)⟩
/-- what a stop needs of a file -/
def Sound (e : Pap) : Prop := 0 ≤ e.sure ∧ e.sure ≤ (e.text.size : Int) ∧ e.text.size ≤ 1000000
theorem stop_le (e : Pap) (keep : Int) : stopAt e keep ≤ e.text.size := Nat.min_le_left _ _
theorem ext_size (t : ByteArray) (c : Nat) (h : c ≤ t.size) : (t.extract 0 c).size = c := by simp; omega
def nth (l : List Int) (k : Nat) : Int := l[k]?.getD 0
/-- the numbers that a slice shows -/
def SlI (w : World) (a : Option Addr) (l : List Int) : Prop := ∀ k, k < l.length → ∃ b o, a = some ⟨b, o, none⟩ ∧ b < w.heap.size ∧ w.cell? ⟨b, o + k, none⟩ = some (.int .i64 (nth l k))
theorem SlI.below {w w' : World} {a : Option Addr} {l : List Int} (h : SlI w a l) (hb : Below w.heap.size w w') : SlI w' a l := by
  intro k hk
  obtain ⟨b, o, h1, h2, h3⟩ := h k hk
  exact ⟨b, o, h1, by have := hb.size; omega, by rw [hb.cell (p := ⟨b, o + k, none⟩) h2]; exact h3⟩
end Go.Proofs.YtmccpkpeimejhagGreatDoor.Dk

namespace Go.Proofs.YtmccpkpeimejhagGreatDoor
open Go.RowKit

/-- a plan as a value: its name, the slice of its filters, its eight numbers -/
abbrev planV (n : ByteArray) (a : Option Addr) (l c : Nat) (x0 x1 x2 x3 x4 x5 x6 x7 : Int) : Value := .agg #[.string n, .slice a l c, .int .i64 x0, .int .i64 x1, .int .i64 x2, .int .i64 x3, .int .i64 x4, .int .i64 x5, .int .i64 x6, .int .i64 x7]
/-- the cells of a plan in block b -/
structure PB (w : World) (b : Nat) (n : ByteArray) (a : Option Addr) (l c : Nat) (x0 x1 x2 x3 x4 x5 x6 x7 : Int) : Prop where
  lt : b < w.heap.size
  c0 : w.cell? ⟨b, 0, none⟩ = some (.string n)
  c1 : w.cell? ⟨b, 1, none⟩ = some (.slice a l c)
  c2 : w.cell? ⟨b, 2, none⟩ = some (.int .i64 x0)
  c3 : w.cell? ⟨b, 3, none⟩ = some (.int .i64 x1)
  c4 : w.cell? ⟨b, 4, none⟩ = some (.int .i64 x2)
  c5 : w.cell? ⟨b, 5, none⟩ = some (.int .i64 x3)
  c6 : w.cell? ⟨b, 6, none⟩ = some (.int .i64 x4)
  c7 : w.cell? ⟨b, 7, none⟩ = some (.int .i64 x5)
  c8 : w.cell? ⟨b, 8, none⟩ = some (.int .i64 x6)
  c9 : w.cell? ⟨b, 9, none⟩ = some (.int .i64 x7)
section
variable {w w' : World} {b : Nat} {n : ByteArray} {a : Option Addr} {l c : Nat} {x0 x1 x2 x3 x4 x5 x6 x7 : Int}
theorem PB.next (h : PB w b n a l c x0 x1 x2 x3 x4 x5 x6 x7) (hb : Below w.heap.size w w') : PB w' b n a l c x0 x1 x2 x3 x4 x5 x6 x7 :=
  ⟨Nat.lt_of_lt_of_le h.lt hb.size, by rw [hb.cell (p := ⟨b, 0, none⟩) h.lt]; exact h.c0, by rw [hb.cell (p := ⟨b, 1, none⟩) h.lt]; exact h.c1, by rw [hb.cell (p := ⟨b, 2, none⟩) h.lt]; exact h.c2, by rw [hb.cell (p := ⟨b, 3, none⟩) h.lt]; exact h.c3, by rw [hb.cell (p := ⟨b, 4, none⟩) h.lt]; exact h.c4, by rw [hb.cell (p := ⟨b, 5, none⟩) h.lt]; exact h.c5, by rw [hb.cell (p := ⟨b, 6, none⟩) h.lt]; exact h.c6, by rw [hb.cell (p := ⟨b, 7, none⟩) h.lt]; exact h.c7, by rw [hb.cell (p := ⟨b, 8, none⟩) h.lt]; exact h.c8, by rw [hb.cell (p := ⟨b, 9, none⟩) h.lt]; exact h.c9⟩
theorem PB.new (w : World) (n : ByteArray) (a : Option Addr) (l c : Nat) (x0 x1 x2 x3 x4 x5 x6 x7 : Int) (T : TypeId) : PB (w.alloc (.cells #[.string n, .slice a l c, .int .i64 x0, .int .i64 x1, .int .i64 x2, .int .i64 x3, .int .i64 x4, .int .i64 x5, .int .i64 x6, .int .i64 x7] T)) w.heap.size n a l c x0 x1 x2 x3 x4 x5 x6 x7 :=
  ⟨by simp, by simp, by simp, by simp, by simp, by simp, by simp, by simp, by simp, by simp, by simp⟩
end
/-- eight numbers in a block of their own -/
theorem eight_row (w : World) (x0 x1 x2 x3 x4 x5 x6 x7 : Int) (T : TypeId) : Dk.SlI (w.alloc (.cells #[.int .i64 x0, .int .i64 x1, .int .i64 x2, .int .i64 x3, .int .i64 x4, .int .i64 x5, .int .i64 x6, .int .i64 x7] T)) (some ⟨w.heap.size, 0, none⟩) [x0, x1, x2, x3, x4, x5, x6, x7] := fun k hk => by
  refine ⟨w.heap.size, 0, rfl, by simp, ?_⟩
  rw [cell_of_row _ w.heap.size (0 + k) _ _ _ (heap_alloc_new w _), Nat.zero_add]
  have : k < 8 := by simpa using hk
  rcases k with _ | _ | _ | _ | _ | _ | _ | _ | k
  all_goals first
    | rfl
    | omega
theorem nums_next {w w' : World} {a : Option Addr} {l : List Int} (h : Dk.SlI w a l) (hb : Below w.heap.size w w') : Dk.SlI w' a l := fun k hk => by
  obtain ⟨b, o, h1, h2, h3⟩ := h k hk
  exact ⟨b, o, h1, Nat.lt_of_lt_of_le h2 hb.size, by rw [hb.cell (p := ⟨b, o + k, none⟩) h2]; exact h3⟩
end Go.Proofs.YtmccpkpeimejhagGreatDoor

namespace Go.Proofs.YtmccpkpeimejhagGreatDoor
open Go.RowKit

/-- the texts that a slice shows -/
def SlS (w : World) (a : Option Addr) (l : List ByteArray) : Prop := ∀ k, k < l.length → ∃ b o, a = some ⟨b, o, none⟩ ∧ b < w.heap.size ∧ w.cell? ⟨b, o + k, none⟩ = some (.string (tk l k))
theorem SlS.next {w w' : World} {a : Option Addr} {l : List ByteArray} (h : SlS w a l) (hb : Below w.heap.size w w') : SlS w' a l := fun k hk => by
  obtain ⟨b, o, h1, h2, h3⟩ := h k hk
  exact ⟨b, o, h1, Nat.lt_of_lt_of_le h2 hb.size, by rw [hb.cell (p := ⟨b, o + k, none⟩) h2]; exact h3⟩
theorem SlS.from {B : Nat} {w w' : World} {a : Option Addr} {l : List ByteArray} (h : SlS w a l) (hb : Below B w w') (hB : w.heap.size ≤ B) : SlS w' a l := fun k hk => by
  obtain ⟨b, o, h1, h2, h3⟩ := h k hk
  exact ⟨b, o, h1, Nat.lt_of_lt_of_le h2 hb.size, by rw [hb.cell (p := ⟨b, o + k, none⟩) (Nat.lt_of_lt_of_le h2 hB)]; exact h3⟩
namespace Pn
theorem filtE_drop {l : List ByteArray} {i : Nat} (h : i < l.length) : filtE (l.drop i) = if errS true (tk l i) = 0 then filtE (l.drop (i + 1)) else errS true (tk l i) := by rw [drop_tk h]; rfl
theorem laps_drop {l : List ByteArray} {i : Nat} (h : i < l.length) : laps (l.drop i) = ((l.drop (i + 1)).any (fun g => meetL (Pl.toks (tk l i)) (Pl.toks g)) || laps (l.drop (i + 1))) := by rw [drop_tk h]; rfl
theorem any_drop {l : List ByteArray} {i : Nat} (h : i < l.length) (f : ByteArray → Bool) : (l.drop i).any f = (f (tk l i) || (l.drop (i + 1)).any f) := by rw [drop_tk h]; rfl
theorem inAll_drop {v : List Int} {i : Nat} (h : i < v.length) (h8 : v.length = 8) : inAll (v.drop i) (most8.drop i) = ((decide (0 ≤ Dk.nth v i) && decide (Dk.nth v i ≤ Dk.nth most8 i)) && inAll (v.drop (i + 1)) (most8.drop (i + 1))) := by
  have h2 : i < most8.length := by rw [h8] at h; exact h
  rw [List.drop_eq_getElem_cons h, List.drop_eq_getElem_cons h2, inAll, Dk.nth, Dk.nth, List.getElem?_eq_getElem h, List.getElem?_eq_getElem h2]
  rfl
section
variable {p : Pln}
theorem planE_name (h : namedB p.n = false) : planE p = 3 := by unfold planE; rw [if_pos h]
theorem planE_many (h : namedB p.n = true) (h2 : 4 < p.f.length) : planE p = 2 := by unfold planE; rw [if_neg (by rw [h]; simp), if_pos h2]
theorem planE_none (h : namedB p.n = true) (h2 : p.f.length = 0) : planE p = 1 := by unfold planE; rw [if_neg (by rw [h]; simp), if_neg (by omega), if_pos h2]
theorem planE_filt (h : namedB p.n = true) (h2 : ¬ 4 < p.f.length) (h3 : p.f.length ≠ 0) (h4 : filtE p.f ≠ 0) : planE p = filtE p.f := by unfold planE; rw [if_neg (by rw [h]; simp), if_neg h2, if_neg h3, if_pos h4]
theorem planE_laps (h : namedB p.n = true) (h2 : ¬ 4 < p.f.length) (h3 : p.f.length ≠ 0) (h4 : filtE p.f = 0) (h5 : laps p.f = true) : planE p = 10 := by unfold planE; rw [if_neg (by rw [h]; simp), if_neg h2, if_neg h3, if_neg (by rw [h4]; simp), if_pos h5]
theorem planE_nums (h : namedB p.n = true) (h2 : ¬ 4 < p.f.length) (h3 : p.f.length ≠ 0) (h4 : filtE p.f = 0) (h5 : laps p.f = false) : planE p = if inAll p.v most8 = true then 0 else 1 := by unfold planE; rw [if_neg (by rw [h]; simp), if_neg h2, if_neg h3, if_neg (by rw [h4]; simp), if_neg (by rw [h5]; simp)]
end
end Pn

/-- a plan that is looked at: its block, its filters -/
def Pst (w wr : World) (b : Nat) (n : ByteArray) (a : Option Addr) (l : List ByteArray) (c : Nat) (x0 x1 x2 x3 x4 x5 x6 x7 : Int) : Prop := PB wr b n a l.length c x0 x1 x2 x3 x4 x5 x6 x7 ∧ SlS wr a l ∧ Below w.heap.size w wr
theorem Pst.next {w wr w' : World} {b : Nat} {n : ByteArray} {a : Option Addr} {l : List ByteArray} {c : Nat} {x0 x1 x2 x3 x4 x5 x6 x7 : Int} (h : Pst w wr b n a l c x0 x1 x2 x3 x4 x5 x6 x7) (hb : Below wr.heap.size wr w') : Pst w w' b n a l c x0 x1 x2 x3 x4 x5 x6 x7 := ⟨h.1.next hb, h.2.1.next hb, bstep h.2.2 hb⟩
/-- a plan's values and what they may be, in rows -/
def Vst (w wr : World) (g1 g2 : Nat) (v : List Int) : Prop := Dk.SlI wr (some ⟨g1, 0, none⟩) v ∧ Dk.SlI wr (some ⟨g2, 0, none⟩) Pn.most8 ∧ Below w.heap.size w wr
theorem Vst.next {w wr w' : World} {g1 g2 : Nat} {v : List Int} (h : Vst w wr g1 g2 v) (hb : Below wr.heap.size wr w') : Vst w w' g1 g2 v := ⟨nums_next h.1 hb, nums_next h.2.1 hb, bstep h.2.2 hb⟩
abbrev Two3 (g1 g2 i : Nat) (x y : Int) (w : World) : Prop := w.cell? ⟨g1, i, none⟩ = some (.int .i64 x) ∧ w.cell? ⟨g2, i, none⟩ = some (.int .i64 y)
theorem Vst.two {w wr : World} {g1 g2 : Nat} {v : List Int} (h : Vst w wr g1 g2 v) (h8 : v.length = 8) {i : Nat} (hi : i < 8) : Two3 g1 g2 i (Dk.nth v i) (Dk.nth Pn.most8 i) wr := by
  obtain ⟨b1, o1, e1, _, h1⟩ := h.1 i (by omega)
  obtain ⟨b2, o2, e2, _, h2⟩ := h.2.1 i hi
  cases e1
  cases e2
  rw [Nat.zero_add] at h1 h2
  exact ⟨h1, h2⟩
/-- two texts of a row and the slice that shows it -/
abbrev Two2 (b : Nat) (a : Option Addr) (l c ba o i k : Nat) (f g : ByteArray) (w : World) : Prop := w.cell? ⟨b, 1, none⟩ = some (.slice a l c) ∧ w.cell? ⟨ba, o + i, none⟩ = some (.string f) ∧ w.cell? ⟨ba, o + k, none⟩ = some (.string g)
theorem Pst.two {w wr : World} {b ba o : Nat} {n : ByteArray} {l : List ByteArray} {c : Nat} {x0 x1 x2 x3 x4 x5 x6 x7 : Int} (h : Pst w wr b n (some ⟨ba, o, none⟩) l c x0 x1 x2 x3 x4 x5 x6 x7) {i k : Nat} (hi : i < l.length) (hk : k < l.length) : Two2 b (some ⟨ba, o, none⟩) l.length c ba o i k (tk l i) (tk l k) wr := by
  obtain ⟨b1, o1, e1, _, h1⟩ := h.2.1 i hi
  obtain ⟨b2, o2, e2, _, h2⟩ := h.2.1 k hk
  cases e1
  cases e2
  exact ⟨h.1.c1, h1, h2⟩
end Go.Proofs.YtmccpkpeimejhagGreatDoor
