/-
  A plan of a stream, pure: when it is right, its text, and the text read. No program.
  Names, byte by byte. No program.
  A plan in memory: ten cells in a block. No walk.
  Texts that a slice shows; a plan that is looked at. No walk.
  A plan's text is read as it was, and what is read is printed as it stood. No program.
  A plan that is handed back: its ten cells are read as one value; ten cells that are written. No walk.
  The words of a plan's numbers, one by one. No program.
  A store, pure: its messages by rising numbers, and the last number there ever was; what Try and Apply make of it. No walk.
  A store, pure: what Get, Last, Next and Sums answer; going on from one message to the next one. No walk.
  A vault, pure: all that its log holds is sure, and its store is what the log's records make; what Do, Compact and a stop make of it. No walk.
  What a store answers as a value; what a call may write. No walk.
  What is asked of the program's vault, whatever it is made of; a vault on its way, and blocks that are none of its own.
-/
import Derived.Test.YtohjipnkoiifhagGreatDoorJointBase0PlainPapPaPapDRowZPapPdPapLPapMWorksDWorksEPlainNPlainRec
import Derived.Test.YtohjipnkoiifhagGreatDoorJointWalkSplitWalk2Plain2Plain5PlainKWalk5aWalk5PlainI
import Derived.Laws.Rows
import Derived.Test.YtohjipnkoiifhagGreatDoorJointPlainSPlainR2PapGRowGPapNWorksGPapHWorksFRowBWalkC6RowY
import Derived.Test.YtohjipnkoiifhagGreatDoorJointRowTmPapFRowR
namespace Go.Proofs.YtohjipnkoiifhagGreatDoor.Pn
open Go

/-- the words of a plan's numbers; the most that each may be -/
def words8 : List (List UInt8) := [[109, 115, 103, 115], [98, 121, 116, 101, 115], [97, 103, 101], [112, 101, 114], [115, 105, 122, 101], [100, 105, 115, 99, 97, 114, 100], [107, 101, 101, 112], [119, 105, 110, 100, 111, 119]]
def most8 : List Int := [200, 65536, 100000, 200, 256, 1, 2, 100000]
/-- a plan: its name, its filters, its eight numbers -/
structure Pln where
  n : ByteArray
  f : List ByteArray
  v : List Int
def nameB (c : UInt8) : Bool := (decide (97 ≤ c.toNat) && decide (c.toNat ≤ 122)) || ((decide (48 ≤ c.toNat) && decide (c.toNat ≤ 57)) || decide (c.toNat = 45))
def namedB (s : ByteArray) : Bool := s.data.toList.all nameB && (decide (1 ≤ s.size) && decide (s.size ≤ 16))
/-- the error of the first filter that has one; 0: none -/
def filtE : List ByteArray → Int
  | [] => 0
  | f :: r => if errS true f = 0 then filtE r else errS true f
/-- do two of them overlap? -/
def laps : List ByteArray → Bool
  | [] => false
  | f :: r => r.any (fun g => meetL (Pl.toks f) (Pl.toks g)) || laps r
def inAll : List Int → List Int → Bool
  | [], [] => true
  | x :: v, m :: ms => (decide (0 ≤ x) && decide (x ≤ m)) && inAll v ms
  | _, _ => false
def planE (p : Pln) : Int := if namedB p.n = false then 3 else if 4 < p.f.length then 2 else if p.f.length = 0 then 1 else if filtE p.f ≠ 0 then filtE p.f else if laps p.f = true then 10 else if inAll p.v most8 = true then 0 else 1
theorem plan_ok {p : Pln} (h : planE p = 0) : namedB p.n = true ∧ p.f.length ≤ 4 ∧ p.f.length ≠ 0 ∧ filtE p.f = 0 ∧ laps p.f = false ∧ inAll p.v most8 = true := by
  unfold planE at h
  by_cases h1 : namedB p.n = false
  · rw [if_pos h1] at h; cases h
  · rw [if_neg h1] at h
    by_cases h2 : 4 < p.f.length
    · rw [if_pos h2] at h; cases h
    · rw [if_neg h2] at h
      by_cases h3 : p.f.length = 0
      · rw [if_pos h3] at h; cases h
      · rw [if_neg h3] at h
        by_cases h4 : filtE p.f ≠ 0
        · rw [if_pos h4] at h; exact absurd h h4
        · rw [if_neg h4] at h
          by_cases h5 : laps p.f = true
          · rw [if_pos h5] at h; cases h
          · rw [if_neg h5] at h
            by_cases h6 : inAll p.v most8 = true
            · exact ⟨by simpa using h1, by omega, h3, Classical.not_not.1 h4, by simpa using h5, h6⟩
            · rw [if_neg h6] at h; cases h
theorem filtE_all : ∀ {l : List ByteArray}, filtE l = 0 → ∀ f ∈ l, errS true f = 0
  | [], _, f, hf => by cases hf
  | g :: r, h, f, hf => by
    unfold filtE at h
    by_cases e : errS true g = 0
    · rw [if_pos e] at h
      rcases List.mem_cons.1 hf with y | y
      · rw [y]; exact e
      · exact filtE_all h f y
    · rw [if_neg e] at h; exact absurd h e
/-- the words of the numbers that aren't 0 -/
def wordsT : List (List UInt8) → List Int → List (List UInt8)
  | w :: ws, x :: v => if x = 0 then wordsT ws v else (w ++ 61 :: Lib.itoa x) :: wordsT ws v
  | _, _ => []
def textL (p : Pln) : List (List UInt8) := p.n.data.toList :: glue 44 (p.f.map (·.data.toList)) :: wordsT words8 p.v
/-- Print: the text; has a filter a comma? -/
def planT (p : Pln) : ByteArray := ⟨(glue 32 (textL p)).toArray⟩
def commas (p : Pln) : Bool := p.f.any (fun f => f.data.toList.contains 44)
/-- the words that are read: of each word in its turn the number, or 0 -/
def rdN : List (List UInt8) → List (List UInt8) → Option (List Int)
  | [], [] => some []
  | [], _ :: _ => none
  | _ :: ws, [] => (rdN ws []).map (fun v => 0 :: v)
  | w :: ws, t :: ts => if (w ++ [61]).isPrefixOf t = true then (if digV (t.drop (w.length + 1)) < 1 then none else (rdN ws ts).map (fun v => digV (t.drop (w.length + 1)) :: v)) else (rdN ws (t :: ts)).map (fun v => 0 :: v)
def zeroP : Pln := ⟨⟨#[]⟩, [], [0, 0, 0, 0, 0, 0, 0, 0]⟩
def bs (l : List UInt8) : ByteArray := ⟨l.toArray⟩
/-- Parse -/
def readP (s : ByteArray) : Pln × Int := if 1024 < s.size then (zeroP, 2) else match cut 32 s.data.toList with
  | n :: f :: ts => match rdN words8 ts with
    | some v => if planE ⟨bs n, (cut 44 f).map bs, v⟩ = 0 then (⟨bs n, (cut 44 f).map bs, v⟩, 0) else (zeroP, planE ⟨bs n, (cut 44 f).map bs, v⟩)
    | none => (zeroP, 3)
  | _ => (zeroP, 3)

theorem prefix_word {a b d : List UInt8} (ha : (61 : UInt8) ∉ a) (hb : (61 : UInt8) ∉ b) (h : (a ++ [61]).isPrefixOf (b ++ 61 :: d) = true) : a = b := by
  induction a generalizing b with
  | nil =>
    cases b with
    | nil => rfl
    | cons x b =>
      simp [List.isPrefixOf] at h
      exact absurd (by rw [← h]; exact List.mem_cons_self ..) hb
  | cons y a ih =>
    cases b with
    | nil =>
      simp [List.isPrefixOf] at h
      exact absurd (by rw [h.1]; exact List.mem_cons_self ..) ha
    | cons x b =>
      simp only [List.cons_append, List.isPrefixOf, Bool.and_eq_true, beq_iff_eq] at h
      rw [h.1, ih (fun z => ha (List.mem_cons_of_mem _ z)) (fun z => hb (List.mem_cons_of_mem _ z)) h.2]
theorem prefix_self (w d : List UInt8) : (w ++ [61]).isPrefixOf (w ++ 61 :: d) = true ∧ (w ++ 61 :: d).drop (w.length + 1) = d := by
  constructor
  · rw [List.isPrefixOf_iff_prefix]
    exact ⟨d, by simp⟩
  · rw [List.drop_append, List.drop_of_length_le (by omega), show w.length + 1 - w.length = 1 by omega]
    rfl
theorem wordsT_head : ∀ (ws : List (List UInt8)) (v : List Int) {t : List UInt8} {ts : List (List UInt8)}, wordsT ws v = t :: ts → ∃ u ∈ ws, ∃ d, t = u ++ 61 :: d
  | [], _, t, ts, h => by simp [wordsT] at h
  | w :: ws, [], t, ts, h => by simp [wordsT] at h
  | w :: ws, x :: v, t, ts, h => by
    by_cases e : x = 0
    · rw [wordsT, if_pos e] at h
      obtain ⟨u, hu, d, hd⟩ := wordsT_head ws v h
      exact ⟨u, List.mem_cons_of_mem _ hu, d, hd⟩
    · rw [wordsT, if_neg e] at h
      exact ⟨w, List.mem_cons_self .., Lib.itoa x, (List.cons.inj h).1.symm⟩
/-- what is printed is read -/
theorem rdN_back : ∀ (ws : List (List UInt8)) (v : List Int), ws.Nodup → (∀ w ∈ ws, (61 : UInt8) ∉ w) → v.length = ws.length → (∀ x ∈ v, 0 ≤ x ∧ x < 1000000000) → rdN ws (wordsT ws v) = some v
  | [], [], _, _, _, _ => rfl
  | [], _ :: _, _, _, h, _ => by simp at h
  | w :: ws, [], _, _, h, _ => by simp at h
  | w :: ws, x :: v, hn, hw, hl, hx => by
    have hn' := List.nodup_cons.1 hn
    have ih := rdN_back ws v hn'.2 (fun u hu => hw u (List.mem_cons_of_mem _ hu)) (by simpa using hl) (fun y hy => hx y (List.mem_cons_of_mem _ hy))
    by_cases e : x = 0
    · have e1 : wordsT (w :: ws) (x :: v) = wordsT ws v := by rw [wordsT, if_pos e]
      rw [e1]
      cases ht : wordsT ws v with
      | nil => rw [ht] at ih; rw [rdN, ih, e]; rfl
      | cons t ts =>
        have hm : ∃ u ∈ ws, ∃ d, t = u ++ 61 :: d := wordsT_head ws v ht
        obtain ⟨u, hu, d, rfl⟩ := hm
        rw [ht] at ih
        have hp : ¬ (w ++ [61]).isPrefixOf (u ++ 61 :: d) = true := fun z => by
          have := prefix_word (hw w (List.mem_cons_self ..)) (hw u (List.mem_cons_of_mem _ hu)) z
          rw [this] at hn'
          exact hn'.1 hu
        rw [rdN, if_neg hp, ih, e]; rfl
    · have e1 : wordsT (w :: ws) (x :: v) = (w ++ 61 :: Lib.itoa x) :: wordsT ws v := by rw [wordsT, if_neg e]
      have hx0 := hx x (List.mem_cons_self ..)
      obtain ⟨u, rfl⟩ : ∃ u : Nat, x = (u : Int) := ⟨x.toNat, by omega⟩
      have hi : Lib.itoa (u : Int) = Lib.decDigits u := by unfold Lib.itoa; rw [if_neg (by omega)]; simp
      obtain ⟨p1, p2⟩ := prefix_self w (Lib.itoa (u : Int))
      have hd : digV (Lib.itoa (u : Int)) = (u : Int) := by rw [hi]; exact digV_dec (by omega) (by omega)
      rw [e1, rdN, if_pos p1, p2, hd, if_neg (by omega), ih]
      rfl
/-- what is read is printed as it stood -/
theorem rdN_one : ∀ (ws ts : List (List UInt8)) {v : List Int}, rdN ws ts = some v → wordsT ws v = ts ∧ v.length = ws.length ∧ ∀ x ∈ v, 0 ≤ x ∧ x < 1000000000
  | [], [], v, h => by
    simp [rdN] at h
    subst h
    exact ⟨rfl, rfl, fun x hx => by cases hx⟩
  | [], _ :: _, v, h => by simp [rdN] at h
  | w :: ws, [], v, h => by
    rw [rdN] at h
    cases hr : rdN ws [] with
    | none => rw [hr] at h; simp at h
    | some u =>
      rw [hr] at h
      simp at h
      subst h
      obtain ⟨h1, h2, h3⟩ := rdN_one ws [] hr
      refine ⟨by rw [wordsT, if_pos rfl]; exact h1, by simp [h2], fun x hx => ?_⟩
      rcases List.mem_cons.1 hx with y | y
      · omega
      · exact h3 x y
  | w :: ws, t :: ts, v, h => by
    rw [rdN] at h
    by_cases hp : (w ++ [61]).isPrefixOf t = true
    · rw [if_pos hp] at h
      by_cases hd : digV (t.drop (w.length + 1)) < 1
      · rw [if_pos hd] at h; cases h
      · rw [if_neg hd] at h
        cases hr : rdN ws ts with
        | none => rw [hr] at h; simp at h
        | some u =>
          rw [hr] at h
          simp at h
          subst h
          obtain ⟨h1, h2, h3⟩ := rdN_one ws ts hr
          obtain ⟨b1, b2⟩ := digV_back (l := t.drop (w.length + 1)) (by omega)
          obtain ⟨d, hd2⟩ := List.isPrefixOf_iff_prefix.1 hp
          have e : t.drop (w.length + 1) = d := by rw [← hd2, List.append_assoc]; exact (prefix_self w d).2
          refine ⟨?_, by simp [h2], fun x hx => ?_⟩
          · rw [wordsT, if_neg (by omega), b1, h1, e, ← hd2]
            simp
          · rcases List.mem_cons.1 hx with y | y
            · omega
            · exact h3 x y
    · rw [if_neg hp] at h
      cases hr : rdN ws (t :: ts) with
      | none => rw [hr] at h; simp at h
      | some u =>
        rw [hr] at h
        simp at h
        subst h
        obtain ⟨h1, h2, h3⟩ := rdN_one ws (t :: ts) hr
        refine ⟨by rw [wordsT, if_pos rfl]; exact h1, by simp [h2], fun x hx => ?_⟩
        rcases List.mem_cons.1 hx with y | y
        · omega
        · exact h3 x y
end Go.Proofs.YtohjipnkoiifhagGreatDoor.Pn

namespace Go.Proofs.YtohjipnkoiifhagGreatDoor
open Go.RowKit

theorem take_byte (s : ByteArray) (k : Nat) (h : k < s.size) : s.data.toList.take (k + 1) = s.data.toList.take k ++ [s[k]] := by
  rw [List.take_succ_eq_append_getElem (by simpa using h)]; rfl
/-- are the first k bytes all right for a name? -/
def namedTo (s : ByteArray) (k : Nat) : Bool := (s.data.toList.take k).all Pn.nameB
theorem namedTo_succ {s : ByteArray} {k : Nat} (h : k < s.size) : namedTo s (k + 1) = (namedTo s k && Pn.nameB s[k]) := by
  unfold namedTo
  rw [take_byte s k h, List.all_append]
  simp
theorem named_bad {s : ByteArray} {k : Nat} (h : k < s.size) (hb : Pn.nameB s[k] = false) : Pn.namedB s = false := by
  unfold Pn.namedB
  have : s.data.toList.all Pn.nameB = false := by
    rw [List.all_eq_false]
    exact ⟨s[k], by
      have : s.data.toList[k]'(by simpa using h) ∈ s.data.toList := List.getElem_mem _
      exact this, by simp [hb]⟩
  rw [this]; rfl
theorem named_ok {s : ByteArray} (h : namedTo s s.size = true) : Pn.namedB s = (decide (1 ≤ s.size) && decide (s.size ≤ 16)) := by
  unfold namedTo at h
  rw [List.take_of_length_le (by simp)] at h
  unfold Pn.namedB
  rw [h, Bool.true_and]
end Go.Proofs.YtohjipnkoiifhagGreatDoor

namespace Go.Proofs.YtohjipnkoiifhagGreatDoor
open Go.RowKit

/-- a plan as a value: its name, the slice of its filters, its eight numbers -/
abbrev planV (n : ByteArray) (a : Option Addr) (l c : Nat) (x0 x1 x2 x3 x4 x5 x6 x7 : Int) : Value := .agg #[.string n, .slice a l c, .int .i64 x0, .int .i64 x1, .int .i64 x2, .int .i64 x3, .int .i64 x4, .int .i64 x5, .int .i64 x6, .int .i64 x7]
/-- the cells of a plan in block b -/
structure PB (w : World) (b : Nat) (n : ByteArray) (a : Option Addr) (l c : Nat) (x0 x1 x2 x3 x4 x5 x6 x7 : Int) : Prop where
  lt : b < w.heap.size
  c0 : w.cell? ⟨b, 0, none⟩ = some (.string n)
  c1 : w.cell? ⟨b, 1, none⟩ = some (.slice a l c)
  c2 : w.cell? ⟨b, 2, none⟩ = some (.int .i64 x0)
  c3 : w.cell? ⟨b, 3, none⟩ = some (.int .i64 x1)
  c4 : w.cell? ⟨b, 4, none⟩ = some (.int .i64 x2)
  c5 : w.cell? ⟨b, 5, none⟩ = some (.int .i64 x3)
  c6 : w.cell? ⟨b, 6, none⟩ = some (.int .i64 x4)
  c7 : w.cell? ⟨b, 7, none⟩ = some (.int .i64 x5)
  c8 : w.cell? ⟨b, 8, none⟩ = some (.int .i64 x6)
  c9 : w.cell? ⟨b, 9, none⟩ = some (.int .i64 x7)
section
variable {w w' : World} {b : Nat} {n : ByteArray} {a : Option Addr} {l c : Nat} {x0 x1 x2 x3 x4 x5 x6 x7 : Int}
theorem PB.next (h : PB w b n a l c x0 x1 x2 x3 x4 x5 x6 x7) (hb : Below w.heap.size w w') : PB w' b n a l c x0 x1 x2 x3 x4 x5 x6 x7 :=
  ⟨Nat.lt_of_lt_of_le h.lt hb.size, by rw [hb.cell (p := ⟨b, 0, none⟩) h.lt]; exact h.c0, by rw [hb.cell (p := ⟨b, 1, none⟩) h.lt]; exact h.c1, by rw [hb.cell (p := ⟨b, 2, none⟩) h.lt]; exact h.c2, by rw [hb.cell (p := ⟨b, 3, none⟩) h.lt]; exact h.c3, by rw [hb.cell (p := ⟨b, 4, none⟩) h.lt]; exact h.c4, by rw [hb.cell (p := ⟨b, 5, none⟩) h.lt]; exact h.c5, by rw [hb.cell (p := ⟨b, 6, none⟩) h.lt]; exact h.c6, by rw [hb.cell (p := ⟨b, 7, none⟩) h.lt]; exact h.c7, by rw [hb.cell (p := ⟨b, 8, none⟩) h.lt]; exact h.c8, by rw [hb.cell (p := ⟨b, 9, none⟩) h.lt]; exact h.c9⟩
theorem PB.new (w : World) (n : ByteArray) (a : Option Addr) (l c : Nat) (x0 x1 x2 x3 x4 x5 x6 x7 : Int) (T : TypeId) : PB (w.alloc (.cells #[.string n, .slice a l c, .int .i64 x0, .int .i64 x1, .int .i64 x2, .int .i64 x3, .int .i64 x4, .int .i64 x5, .int .i64 x6, .int .i64 x7] T)) w.heap.size n a l c x0 x1 x2 x3 x4 x5 x6 x7 :=
  ⟨by simp, by simp, by simp, by simp, by simp, by simp, by simp, by simp, by simp, by simp, by simp⟩
end
/-- eight numbers in a block of their own -/
theorem eight_row (w : World) (x0 x1 x2 x3 x4 x5 x6 x7 : Int) (T : TypeId) : Dk.SlI (w.alloc (.cells #[.int .i64 x0, .int .i64 x1, .int .i64 x2, .int .i64 x3, .int .i64 x4, .int .i64 x5, .int .i64 x6, .int .i64 x7] T)) (some ⟨w.heap.size, 0, none⟩) [x0, x1, x2, x3, x4, x5, x6, x7] := fun k hk => by
  refine ⟨w.heap.size, 0, rfl, by simp, ?_⟩
  rw [cell_of_row _ w.heap.size (0 + k) _ _ _ (heap_alloc_new w _), Nat.zero_add]
  have : k < 8 := by simpa using hk
  rcases k with _ | _ | _ | _ | _ | _ | _ | _ | k
  all_goals first
    | rfl
    | omega
theorem nums_next {w w' : World} {a : Option Addr} {l : List Int} (h : Dk.SlI w a l) (hb : Below w.heap.size w w') : Dk.SlI w' a l := fun k hk => by
  obtain ⟨b, o, h1, h2, h3⟩ := h k hk
  exact ⟨b, o, h1, Nat.lt_of_lt_of_le h2 hb.size, by rw [hb.cell (p := ⟨b, o + k, none⟩) h2]; exact h3⟩
end Go.Proofs.YtohjipnkoiifhagGreatDoor

namespace Go.Proofs.YtohjipnkoiifhagGreatDoor
open Go.RowKit

/-- the texts that a slice shows -/
def SlS (w : World) (a : Option Addr) (l : List ByteArray) : Prop := ∀ k, k < l.length → ∃ b o, a = some ⟨b, o, none⟩ ∧ b < w.heap.size ∧ w.cell? ⟨b, o + k, none⟩ = some (.string (tk l k))
theorem SlS.next {w w' : World} {a : Option Addr} {l : List ByteArray} (h : SlS w a l) (hb : Below w.heap.size w w') : SlS w' a l := fun k hk => by
  obtain ⟨b, o, h1, h2, h3⟩ := h k hk
  exact ⟨b, o, h1, Nat.lt_of_lt_of_le h2 hb.size, by rw [hb.cell (p := ⟨b, o + k, none⟩) h2]; exact h3⟩
theorem SlS.from {B : Nat} {w w' : World} {a : Option Addr} {l : List ByteArray} (h : SlS w a l) (hb : Below B w w') (hB : w.heap.size ≤ B) : SlS w' a l := fun k hk => by
  obtain ⟨b, o, h1, h2, h3⟩ := h k hk
  exact ⟨b, o, h1, Nat.lt_of_lt_of_le h2 hb.size, by rw [hb.cell (p := ⟨b, o + k, none⟩) (Nat.lt_of_lt_of_le h2 hB)]; exact h3⟩
namespace Pn
theorem filtE_drop {l : List ByteArray} {i : Nat} (h : i < l.length) : filtE (l.drop i) = if errS true (tk l i) = 0 then filtE (l.drop (i + 1)) else errS true (tk l i) := by rw [drop_tk h]; rfl
theorem laps_drop {l : List ByteArray} {i : Nat} (h : i < l.length) : laps (l.drop i) = ((l.drop (i + 1)).any (fun g => meetL (Pl.toks (tk l i)) (Pl.toks g)) || laps (l.drop (i + 1))) := by rw [drop_tk h]; rfl
theorem any_drop {l : List ByteArray} {i : Nat} (h : i < l.length) (f : ByteArray → Bool) : (l.drop i).any f = (f (tk l i) || (l.drop (i + 1)).any f) := by rw [drop_tk h]; rfl
theorem inAll_drop {v : List Int} {i : Nat} (h : i < v.length) (h8 : v.length = 8) : inAll (v.drop i) (most8.drop i) = ((decide (0 ≤ Dk.nth v i) && decide (Dk.nth v i ≤ Dk.nth most8 i)) && inAll (v.drop (i + 1)) (most8.drop (i + 1))) := by
  have h2 : i < most8.length := by rw [h8] at h; exact h
  rw [List.drop_eq_getElem_cons h, List.drop_eq_getElem_cons h2, inAll, Dk.nth, Dk.nth, List.getElem?_eq_getElem h, List.getElem?_eq_getElem h2]
  rfl
section
variable {p : Pln}
theorem planE_name (h : namedB p.n = false) : planE p = 3 := by unfold planE; rw [if_pos h]
theorem planE_many (h : namedB p.n = true) (h2 : 4 < p.f.length) : planE p = 2 := by unfold planE; rw [if_neg (by rw [h]; simp), if_pos h2]
theorem planE_none (h : namedB p.n = true) (h2 : p.f.length = 0) : planE p = 1 := by unfold planE; rw [if_neg (by rw [h]; simp), if_neg (by omega), if_pos h2]
theorem planE_filt (h : namedB p.n = true) (h2 : ¬ 4 < p.f.length) (h3 : p.f.length ≠ 0) (h4 : filtE p.f ≠ 0) : planE p = filtE p.f := by unfold planE; rw [if_neg (by rw [h]; simp), if_neg h2, if_neg h3, if_pos h4]
theorem planE_laps (h : namedB p.n = true) (h2 : ¬ 4 < p.f.length) (h3 : p.f.length ≠ 0) (h4 : filtE p.f = 0) (h5 : laps p.f = true) : planE p = 10 := by unfold planE; rw [if_neg (by rw [h]; simp), if_neg h2, if_neg h3, if_neg (by rw [h4]; simp), if_pos h5]
theorem planE_nums (h : namedB p.n = true) (h2 : ¬ 4 < p.f.length) (h3 : p.f.length ≠ 0) (h4 : filtE p.f = 0) (h5 : laps p.f = false) : planE p = if inAll p.v most8 = true then 0 else 1 := by unfold planE; rw [if_neg (by rw [h]; simp), if_neg h2, if_neg h3, if_neg (by rw [h4]; simp), if_neg (by rw [h5]; simp)]
end
end Pn

/-- a plan that is looked at: its block, its filters -/
def Pst (w wr : World) (b : Nat) (n : ByteArray) (a : Option Addr) (l : List ByteArray) (c : Nat) (x0 x1 x2 x3 x4 x5 x6 x7 : Int) : Prop := PB wr b n a l.length c x0 x1 x2 x3 x4 x5 x6 x7 ∧ SlS wr a l ∧ Below w.heap.size w wr
theorem Pst.next {w wr w' : World} {b : Nat} {n : ByteArray} {a : Option Addr} {l : List ByteArray} {c : Nat} {x0 x1 x2 x3 x4 x5 x6 x7 : Int} (h : Pst w wr b n a l c x0 x1 x2 x3 x4 x5 x6 x7) (hb : Below wr.heap.size wr w') : Pst w w' b n a l c x0 x1 x2 x3 x4 x5 x6 x7 := ⟨h.1.next hb, h.2.1.next hb, bstep h.2.2 hb⟩
/-- a plan's values and what they may be, in rows -/
def Vst (w wr : World) (g1 g2 : Nat) (v : List Int) : Prop := Dk.SlI wr (some ⟨g1, 0, none⟩) v ∧ Dk.SlI wr (some ⟨g2, 0, none⟩) Pn.most8 ∧ Below w.heap.size w wr
theorem Vst.next {w wr w' : World} {g1 g2 : Nat} {v : List Int} (h : Vst w wr g1 g2 v) (hb : Below wr.heap.size wr w') : Vst w w' g1 g2 v := ⟨nums_next h.1 hb, nums_next h.2.1 hb, bstep h.2.2 hb⟩
abbrev Two3 (g1 g2 i : Nat) (x y : Int) (w : World) : Prop := w.cell? ⟨g1, i, none⟩ = some (.int .i64 x) ∧ w.cell? ⟨g2, i, none⟩ = some (.int .i64 y)
theorem Vst.two {w wr : World} {g1 g2 : Nat} {v : List Int} (h : Vst w wr g1 g2 v) (h8 : v.length = 8) {i : Nat} (hi : i < 8) : Two3 g1 g2 i (Dk.nth v i) (Dk.nth Pn.most8 i) wr := by
  obtain ⟨b1, o1, e1, _, h1⟩ := h.1 i (by omega)
  obtain ⟨b2, o2, e2, _, h2⟩ := h.2.1 i hi
  cases e1
  cases e2
  rw [Nat.zero_add] at h1 h2
  exact ⟨h1, h2⟩
/-- two texts of a row and the slice that shows it -/
abbrev Two2 (b : Nat) (a : Option Addr) (l c ba o i k : Nat) (f g : ByteArray) (w : World) : Prop := w.cell? ⟨b, 1, none⟩ = some (.slice a l c) ∧ w.cell? ⟨ba, o + i, none⟩ = some (.string f) ∧ w.cell? ⟨ba, o + k, none⟩ = some (.string g)
theorem Pst.two {w wr : World} {b ba o : Nat} {n : ByteArray} {l : List ByteArray} {c : Nat} {x0 x1 x2 x3 x4 x5 x6 x7 : Int} (h : Pst w wr b n (some ⟨ba, o, none⟩) l c x0 x1 x2 x3 x4 x5 x6 x7) {i k : Nat} (hi : i < l.length) (hk : k < l.length) : Two2 b (some ⟨ba, o, none⟩) l.length c ba o i k (tk l i) (tk l k) wr := by
  obtain ⟨b1, o1, e1, _, h1⟩ := h.2.1 i hi
  obtain ⟨b2, o2, e2, _, h2⟩ := h.2.1 k hk
  cases e1
  cases e2
  exact ⟨h.1.c1, h1, h2⟩
end Go.Proofs.YtohjipnkoiifhagGreatDoor

namespace Go.Proofs.YtohjipnkoiifhagGreatDoor.Pn
open Go

theorem bs_list (s : ByteArray) : bs s.data.toList = s := by unfold bs; apply ByteArray.ext; simp
theorem list_bs (l : List UInt8) : (bs l).data.toList = l := by unfold bs; simp
theorem inAll_in : ∀ {v ms : List Int}, inAll v ms = true → v.length = ms.length ∧ ∀ x ∈ v, 0 ≤ x ∧ ∃ m ∈ ms, x ≤ m
  | [], [], _ => ⟨rfl, fun x hx => by cases hx⟩
  | [], _ :: _, h => by simp [inAll] at h
  | _ :: _, [], h => by simp [inAll] at h
  | x :: v, m :: ms, h => by
    unfold inAll at h
    simp only [Bool.and_eq_true, decide_eq_true_eq] at h
    obtain ⟨h1, h2⟩ := inAll_in h.2
    refine ⟨by simp [h1], fun y hy => ?_⟩
    rcases List.mem_cons.1 hy with z | z
    · rw [z]; exact ⟨h.1.1, m, List.mem_cons_self .., h.1.2⟩
    · obtain ⟨q, k, hk, hl⟩ := h2 y z
      exact ⟨q, k, List.mem_cons_of_mem _ hk, hl⟩
theorem most_le : ∀ m ∈ most8, m ≤ 100000 := by decide
/-- the bytes of a right filter -/
theorem piece_ok {t : List UInt8} {last : Bool} (h : Pl.tokOk true last t = true) : t.length ≤ 16 ∧ ∀ c ∈ t, 33 ≤ c.toNat := by
  unfold Pl.tokOk at h
  rcases Bool.or_eq_true_iff.1 h with y | y
  · unfold Pl.plainB at y
    simp only [Bool.and_eq_true, decide_eq_true_eq, List.all_eq_true] at y
    refine ⟨y.2.1, fun c hc => ?_⟩
    have := y.2.2 c hc
    unfold Pl.tokB at this
    simp only [Bool.and_eq_true, decide_eq_true_eq] at this
    exact this.1
  · simp only [Bool.true_and, Bool.or_eq_true, beq_iff_eq, Bool.and_eq_true] at y
    rcases y with y | y
    · rw [y]; exact ⟨by decide, by decide⟩
    · rw [y.1]; exact ⟨by decide, by decide⟩
theorem filt_bytes {f : ByteArray} (h : errS true f = 0) : f.size ≤ 136 ∧ ∀ c ∈ f.data.toList, 33 ≤ c.toNat := by
  obtain ⟨h1, h2⟩ := good_of h
  have hp : ∀ t ∈ Pl.pcs f.data.toList, t.length ≤ 16 ∧ ∀ c ∈ t, 33 ≤ c.toNat := fun t ht => by
    obtain ⟨k, hk, rfl⟩ := List.mem_iff_getElem.1 ht
    unfold Pl.goodTo at h2
    rw [List.all_eq_true] at h2
    have := h2 k (List.mem_range.2 hk)
    rw [List.getElem?_eq_getElem hk] at this
    exact piece_ok this
  have hg := glue_cut 46 f.data.toList
  rw [cut_dot] at hg
  constructor
  · have := glue_len 46 16 _ (fun t ht => (hp t ht).1)
    rw [hg] at this
    have e : f.data.toList.length = f.size := by simp
    omega
  · intro c hc
    rw [← hg] at hc
    rcases glue_mem 46 _ c hc with y | ⟨t, ht, hct⟩
    · rw [y]; decide
    · exact (hp t ht).2 c hct
theorem name_bytes {s : ByteArray} (h : namedB s = true) : s.size ≤ 16 ∧ ∀ c ∈ s.data.toList, 33 ≤ c.toNat := by
  unfold namedB at h
  simp only [Bool.and_eq_true, decide_eq_true_eq, List.all_eq_true] at h
  refine ⟨h.2.2, fun c hc => ?_⟩
  have := h.1 c hc
  unfold nameB at this
  simp only [Bool.or_eq_true, Bool.and_eq_true, decide_eq_true_eq] at this
  omega
theorem dig_bytes {u : Nat} : ∀ c ∈ Lib.decDigits u, 33 ≤ c.toNat := fun c hc => by
  have := dec_dig u c hc
  unfold isDig at this
  simp at this
  omega
theorem itoa_low {x : Int} (h : 0 ≤ x ∧ x ≤ 100000) : (Lib.itoa x).length ≤ 6 ∧ ∀ c ∈ Lib.itoa x, 33 ≤ c.toNat := by
  have e : Lib.itoa x = Lib.decDigits x.toNat := by unfold Lib.itoa; rw [if_neg (by omega)]
  rw [e]
  exact ⟨dec_len 5 _ (by simp; omega), dig_bytes⟩
theorem wordsT_bytes : ∀ (ws : List (List UInt8)) (v : List Int), (∀ w ∈ ws, w.length ≤ 7 ∧ ∀ c ∈ w, 33 ≤ c.toNat) → (∀ x ∈ v, 0 ≤ x ∧ x ≤ 100000) → (wordsT ws v).length ≤ ws.length ∧ ∀ t ∈ wordsT ws v, t.length ≤ 14 ∧ ∀ c ∈ t, 33 ≤ c.toNat
  | [], v, _, _ => by simp [wordsT]
  | w :: ws, [], _, _ => by simp [wordsT]
  | w :: ws, x :: v, hw, hx => by
    obtain ⟨h1, h2⟩ := wordsT_bytes ws v (fun u hu => hw u (List.mem_cons_of_mem _ hu)) (fun y hy => hx y (List.mem_cons_of_mem _ hy))
    by_cases e : x = 0
    · rw [wordsT, if_pos e]
      exact ⟨by simp; omega, h2⟩
    · rw [wordsT, if_neg e]
      refine ⟨by simp; omega, fun t ht => ?_⟩
      rcases List.mem_cons.1 ht with y | y
      · obtain ⟨i1, i2⟩ := itoa_low (hx x (List.mem_cons_self ..))
        obtain ⟨w1, w2⟩ := hw w (List.mem_cons_self ..)
        rw [y]
        refine ⟨by rw [List.length_append, List.length_cons]; omega, fun c hc => ?_⟩
        rcases List.mem_append.1 hc with z | z
        · exact w2 c z
        · rcases List.mem_cons.1 z with q | q
          · rw [q]; decide
          · exact i2 c q
      · exact h2 t y
theorem words8_ok : ∀ w ∈ words8, w.length ≤ 7 ∧ ∀ c ∈ w, 33 ≤ c.toNat := by decide
theorem words8_no : ∀ w ∈ words8, (61 : UInt8) ∉ w := by decide
theorem words8_nodup : words8.Nodup := by decide
/-- a right plan's text: its bytes, its size -/
theorem text_ok {p : Pln} (h : planE p = 0) : (∀ t ∈ textL p, (32 : UInt8) ∉ t) ∧ (planT p).size ≤ 1024 := by
  obtain ⟨h1, h2, h3, h4, h5, h6⟩ := plan_ok h
  obtain ⟨n1, n2⟩ := name_bytes h1
  have hf := filtE_all h4
  have hv : ∀ x ∈ p.v, 0 ≤ x ∧ x ≤ 100000 := fun x hx => by
    obtain ⟨q, m, hm, hl⟩ := (inAll_in h6).2 x hx
    have := most_le m hm
    omega
  obtain ⟨w1, w2⟩ := wordsT_bytes words8 p.v words8_ok hv
  have hj : ∀ c ∈ glue 44 (p.f.map (·.data.toList)), 33 ≤ c.toNat := fun c hc => by
    rcases glue_mem 44 _ c hc with y | ⟨t, ht, hct⟩
    · rw [y]; decide
    · obtain ⟨f, hff, rfl⟩ := List.mem_map.1 ht
      exact (filt_bytes (hf f hff)).2 c hct
  have no : ∀ {t : List UInt8}, (∀ c ∈ t, 33 ≤ c.toNat) → (32 : UInt8) ∉ t := fun ht z => by
    have := ht _ z
    simp at this
  constructor
  · intro t ht
    unfold textL at ht
    rcases List.mem_cons.1 ht with y | y
    · rw [y]; exact no n2
    · rcases List.mem_cons.1 y with z | z
      · rw [z]; exact no hj
      · exact no (w2 t z).2
  · have hjl : (glue 44 (p.f.map (·.data.toList))).length ≤ 548 := by
      have := glue_len 44 136 (p.f.map (·.data.toList)) (fun t ht => by
        obtain ⟨f, hff, rfl⟩ := List.mem_map.1 ht
        have := (filt_bytes (hf f hff)).1
        simpa using this)
      rw [List.length_map] at this
      omega
    have hw := glue_len 32 14 _ (fun t ht => (w2 t ht).1)
    have hl8 : words8.length = 8 := rfl
    have hstep : ∀ (t : List UInt8) (ts : List (List UInt8)), (glue 32 (t :: ts)).length ≤ t.length + 1 + (glue 32 ts).length := fun t ts => by
      cases ts with
      | nil => simp [glue]
      | cons u us => rw [glue_cons 32 t (by simp), List.length_append, List.length_cons]; omega
    have s1 := hstep p.n.data.toList (glue 44 (p.f.map (·.data.toList)) :: wordsT words8 p.v)
    have s2 := hstep (glue 44 (p.f.map (·.data.toList))) (wordsT words8 p.v)
    have e : (planT p).size = (glue 32 (textL p)).length := by
      show (glue 32 (textL p)).toArray.size = _
      simp
    have en : p.n.data.toList.length = p.n.size := by simp
    rw [e]
    unfold textL
    omega
/-- what is printed is read as it was -/
theorem read_print {p : Pln} (h : planE p = 0) (hc : commas p = false) : readP (planT p) = (p, 0) := by
  obtain ⟨h1, h2, h3, h4, h5, h6⟩ := plan_ok h
  obtain ⟨t1, t2⟩ := text_ok h
  have hcut : cut 32 (planT p).data.toList = textL p := by
    have e : (planT p).data.toList = glue 32 (textL p) := by simp [planT]
    rw [e]
    exact cut_glue 32 _ (by unfold textL; simp) t1
  have hfc : cut 44 (glue 44 (p.f.map (·.data.toList))) = p.f.map (·.data.toList) := by
    refine cut_glue 44 _ (fun z => h3 (by simpa using congrArg List.length z)) (fun t ht => ?_)
    obtain ⟨f, hf, rfl⟩ := List.mem_map.1 ht
    unfold commas at hc
    rw [List.any_eq_false] at hc
    have := hc f hf
    simpa using this
  have hfm : (cut 44 (glue 44 (p.f.map (·.data.toList)))).map bs = p.f := by
    rw [hfc, List.map_map]
    conv => rhs; rw [← List.map_id p.f]
    exact List.map_congr_left (fun f _ => bs_list f)
  have hv : ∀ x ∈ p.v, 0 ≤ x ∧ x < 1000000000 := fun x hx => by
    obtain ⟨q, m, hm, hl⟩ := (inAll_in h6).2 x hx
    have := most_le m hm
    omega
  have hr := rdN_back words8 p.v words8_nodup words8_no ((inAll_in h6).1) hv
  unfold readP
  rw [if_neg (by omega), hcut]
  unfold textL
  simp only [hr, hfm, bs_list]
  rw [if_pos h]
/-- what is read is printed as it stood -/
theorem print_read {s : ByteArray} {x : Pln} (h : readP s = (x, 0)) : planE x = 0 ∧ commas x = false ∧ planT x = s := by
  unfold readP at h
  split at h
  · cases h
  · cases hc : cut 32 s.data.toList with
    | nil => exact absurd hc (cut_ne 32 _)
    | cons n r =>
      rw [hc] at h
      cases r with
      | nil => cases h
      | cons f ts =>
        simp only at h
        cases hr : rdN words8 ts with
        | none => rw [hr] at h; cases h
        | some v =>
          rw [hr] at h
          simp only at h
          by_cases he : planE ⟨bs n, (cut 44 f).map bs, v⟩ = 0
          · rw [if_pos he] at h
            have hx := (Prod.mk.inj h).1
            subst hx
            refine ⟨he, ?_, ?_⟩
            · unfold commas
              rw [List.any_eq_false]
              intro g hg
              obtain ⟨t, ht, rfl⟩ := List.mem_map.1 hg
              rw [list_bs]
              simpa using cut_free 44 f t ht
            · have e1 : ((cut 44 f).map bs).map (·.data.toList) = cut 44 f := by
                rw [List.map_map]
                conv => rhs; rw [← List.map_id (cut 44 f)]
                exact List.map_congr_left (fun t _ => list_bs t)
              have e2 : textL ⟨bs n, (cut 44 f).map bs, v⟩ = cut 32 s.data.toList := by
                unfold textL
                simp only [e1, glue_cut, list_bs, (rdN_one words8 ts hr).1, hc]
              unfold planT
              rw [e2, glue_cut]
          · rw [if_neg he] at h
            exact absurd (Prod.mk.inj h).2 he
theorem read_bad {s : ByteArray} (h : (readP s).2 ≠ 0) : (readP s).1 = zeroP := by
  unfold readP at h ⊢
  split
  · rfl
  · rename_i hs
    rw [if_neg hs] at h
    cases hc : cut 32 s.data.toList with
    | nil => rfl
    | cons n r =>
      rw [hc] at h
      cases r with
      | nil => rfl
      | cons f ts =>
        simp only at h ⊢
        cases hr : rdN words8 ts with
        | none => rfl
        | some v =>
          rw [hr] at h
          simp only at h ⊢
          by_cases he : planE ⟨bs n, (cut 44 f).map bs, v⟩ = 0
          · rw [if_pos he] at h; exact absurd rfl h
          · rw [if_neg he]
/-- the law's one plan -/
def onePlan : Pln := ⟨⟨#[115]⟩, [⟨#[97, 46, 62]⟩, ⟨#[98]⟩], [0, 0, 0, 3, 0, 0, 0, 0]⟩
theorem one_ok : planE onePlan = 0 ∧ commas onePlan = false := by decide +kernel
theorem one_text : planT onePlan = ⟨#[115, 32, 97, 46, 62, 44, 98, 32, 112, 101, 114, 61, 51]⟩ := by decide +kernel
end Go.Proofs.YtohjipnkoiifhagGreatDoor.Pn

namespace Go.Proofs.YtohjipnkoiifhagGreatDoor
open Go.RowKit

theorem load_plan {w : World} {b : Nat} {n : ByteArray} {a : Option Addr} {l c : Nat} {x0 x1 x2 x3 x4 x5 x6 x7 : Int} (r : PB w b n a l c x0 x1 x2 x3 x4 x5 x6 x7) :
    (loadVar 43 ⟨b, 0, none⟩).run Tryz.prog w = .ok (.agg #[.string n, .slice a l c, .int .i64 x0, .int .i64 x1, .int .i64 x2, .int .i64 x3, .int .i64 x4, .int .i64 x5, .int .i64 x6, .int .i64 x7]) w := by
  have hl : (loadCells ⟨b, 0, none⟩ 10).run Tryz.prog w = .ok #[.string n, .slice a l c, .int .i64 x0, .int .i64 x1, .int .i64 x2, .int .i64 x3, .int .i64 x4, .int .i64 x5, .int .i64 x6, .int .i64 x7] w :=
    run_loadCells_list (P := Tryz.prog) w ⟨b, 0, none⟩ [.string n, .slice a l c, .int .i64 x0, .int .i64 x1, .int .i64 x2, .int .i64 x3, .int .i64 x4, .int .i64 x5, .int .i64 x6, .int .i64 x7] (fun j v hv => by
      rw [addp, Nat.zero_add]
      match j, hv with
      | 0, hv => rw [r.c0]; simpa using hv
      | 1, hv => rw [r.c1]; simpa using hv
      | 2, hv => rw [r.c2]; simpa using hv
      | 3, hv => rw [r.c3]; simpa using hv
      | 4, hv => rw [r.c4]; simpa using hv
      | 5, hv => rw [r.c5]; simpa using hv
      | 6, hv => rw [r.c6]; simpa using hv
      | 7, hv => rw [r.c7]; simpa using hv
      | 8, hv => rw [r.c8]; simpa using hv
      | 9, hv => rw [r.c9]; simpa using hv)
  have hz : Tryz.t43.size = 10 := by kernel_rfl
  simp [loadVar, isAgg, sizeOf]
  rw [hz, hl]
  rfl
theorem results_plan2 {fn : Func} {t u : Tmp} {tmps : Array Value} {w : World} {b : Nat} {n : ByteArray} {a : Option Addr} {l c : Nat} {x0 x1 x2 x3 x4 x5 x6 x7 : Int} (hf : fn.results = #[.cell t 43, .tmp u]) (ha : tmps.getD t undef = .pointer (some ⟨b, 0, none⟩)) (r : PB w b n a l c x0 x1 x2 x3 x4 x5 x6 x7) :
    (results fn tmps).run Tryz.prog w = .ok (.tuple #[.agg #[.string n, .slice a l c, .int .i64 x0, .int .i64 x1, .int .i64 x2, .int .i64 x3, .int .i64 x4, .int .i64 x5, .int .i64 x6, .int .i64 x7], tmps.getD u undef]) w := by
  have ha' : tmps[t]?.getD undef = .pointer (some ⟨b, 0, none⟩) := by simpa using ha
  simp [results, hf, ha', asAddr, load_plan r]
/-- cells of a block that are written one behind the other -/
def puts (W : World) (b : Nat) : Nat → List Value → World
  | _, [] => W
  | o, v :: vs => puts (W.setCell ⟨b, o, none⟩ v) b (o + 1) vs
theorem puts_cell (b : Nat) : ∀ (vs : List Value) (W : World) (o : Nat), (∀ j, j < vs.length → (W.cell? ⟨b, o + j, none⟩).isSome = true) → (∀ j, j < vs.length → (puts W b o vs).cell? ⟨b, o + j, none⟩ = vs[j]?) ∧ ∀ k, k < o → (puts W b o vs).cell? ⟨b, k, none⟩ = W.cell? ⟨b, k, none⟩
  | [], W, o, _ => ⟨fun j hj => by simp at hj, fun k _ => rfl⟩
  | v :: vs, W, o, h => by
    have h2 : ∀ j, j < vs.length → ((W.setCell ⟨b, o, none⟩ v).cell? ⟨b, o + 1 + j, none⟩).isSome = true := fun j hj => by
      rw [World.cell?_setCell_other _ _ _ _ (by intro e; injection e; omega)]
      have := h (j + 1) (by simpa using hj)
      rwa [show o + (j + 1) = o + 1 + j by omega] at this
    obtain ⟨r1, r2⟩ := puts_cell b vs (W.setCell ⟨b, o, none⟩ v) (o + 1) h2
    refine ⟨fun j hj => ?_, fun k hk => ?_⟩
    · cases j with
      | zero =>
        rw [Nat.add_zero]
        show (puts (W.setCell ⟨b, o, none⟩ v) b (o + 1) vs).cell? ⟨b, o, none⟩ = some v
        rw [r2 o (by omega)]
        exact World.cell?_setCell_same' _ _ _ (by have := h 0 (by simp); rwa [Nat.add_zero] at this)
      | succ j =>
        have := r1 j (by simpa using hj)
        rw [show o + (j + 1) = o + 1 + j by omega]
        exact this
    · show (puts (W.setCell ⟨b, o, none⟩ v) b (o + 1) vs).cell? ⟨b, k, none⟩ = _
      rw [r2 k (by omega), World.cell?_setCell_other _ _ _ _ (by intro e; injection e; omega)]
theorem puts_size (b : Nat) : ∀ (vs : List Value) (W : World) (o : Nat), (puts W b o vs).heap.size = W.heap.size
  | [], W, o => rfl
  | v :: vs, W, o => by
    show (puts (W.setCell ⟨b, o, none⟩ v) b (o + 1) vs).heap.size = _
    rw [puts_size b vs]; simp [World.setCell]
theorem puts_below {B b : Nat} (hB : B ≤ b) {w : World} : ∀ (vs : List Value) (W : World) (o : Nat), Below B w W → Below B w (puts W b o vs)
  | [], _, _, h => h
  | v :: vs, _, o, h => puts_below hB vs _ (o + 1) (h.setCell (p := ⟨b, o, none⟩) hB v)
theorem puts_other {b k j : Nat} (h : k ≠ b) : ∀ (vs : List Value) (W : World) (o : Nat), (puts W b o vs).cell? ⟨k, j, none⟩ = W.cell? ⟨k, j, none⟩
  | [], W, o => rfl
  | v :: vs, W, o => by
    show (puts (W.setCell ⟨b, o, none⟩ v) b (o + 1) vs).cell? ⟨k, j, none⟩ = _
    rw [puts_other h vs, World.cell?_setCell_other _ _ _ _ (by intro e; injection e; omega)]
/-- a plan is stored over another one -/
theorem PB.puts {W : World} {b : Nat} {n' : ByteArray} {a' : Option Addr} {l' c' : Nat} {z0 z1 z2 z3 z4 z5 z6 z7 : Int} (h : PB W b n' a' l' c' z0 z1 z2 z3 z4 z5 z6 z7) (n : ByteArray) (a : Option Addr) (l c : Nat) (x0 x1 x2 x3 x4 x5 x6 x7 : Int) : PB ((((((((((W.setCell ⟨b, 0, none⟩ (.string n)).setCell ⟨b, 1, none⟩ (.slice a l c)).setCell ⟨b, 2, none⟩ (.int .i64 x0)).setCell ⟨b, 3, none⟩ (.int .i64 x1)).setCell ⟨b, 4, none⟩ (.int .i64 x2)).setCell ⟨b, 5, none⟩ (.int .i64 x3)).setCell ⟨b, 6, none⟩ (.int .i64 x4)).setCell ⟨b, 7, none⟩ (.int .i64 x5)).setCell ⟨b, 8, none⟩ (.int .i64 x6)).setCell ⟨b, 9, none⟩ (.int .i64 x7)) b n a l c x0 x1 x2 x3 x4 x5 x6 x7 := by
  have key := (puts_cell b [.string n, .slice a l c, .int .i64 x0, .int .i64 x1, .int .i64 x2, .int .i64 x3, .int .i64 x4, .int .i64 x5, .int .i64 x6, .int .i64 x7] W 0 (fun j hj => by
    have : j < 10 := hj
    rw [Nat.zero_add]
    rcases j with _ | _ | _ | _ | _ | _ | _ | _ | _ | _ | j
    · rw [h.c0]; rfl
    · rw [h.c1]; rfl
    · rw [h.c2]; rfl
    · rw [h.c3]; rfl
    · rw [h.c4]; rfl
    · rw [h.c5]; rfl
    · rw [h.c6]; rfl
    · rw [h.c7]; rfl
    · rw [h.c8]; rfl
    · rw [h.c9]; rfl
    · omega)).1
  have hsz := puts_size b [.string n, .slice a l c, .int .i64 x0, .int .i64 x1, .int .i64 x2, .int .i64 x3, .int .i64 x4, .int .i64 x5, .int .i64 x6, .int .i64 x7] W 0
  refine ⟨Nat.lt_of_lt_of_eq h.lt hsz.symm, key 0 (by simp), key 1 (by simp), key 2 (by simp), key 3 (by simp), key 4 (by simp), key 5 (by simp), key 6 (by simp), key 7 (by simp), key 8 (by simp), key 9 (by simp)⟩
end Go.Proofs.YtohjipnkoiifhagGreatDoor

namespace Go.Proofs.YtohjipnkoiifhagGreatDoor
open Go

/-- the words of a plan's numbers, as they lie -/
def wd (i : Nat) : ByteArray := Pn.bs ((Pn.words8[i]?).getD [])
namespace Pn
theorem wordsT_take {v : List Int} (h8 : v.length = 8) {i : Nat} (hi : i < 8) : wordsT (words8.take (i + 1)) (v.take (i + 1)) = wordsT (words8.take i) (v.take i) ++ (if Dk.nth v i = 0 then [] else [(wd i).data.toList ++ 61 :: Lib.itoa (Dk.nth v i)]) := by
  have key : ∀ (ws : List (List UInt8)) (v : List Int) (i : Nat), i < ws.length → i < v.length → wordsT (ws.take (i + 1)) (v.take (i + 1)) = wordsT (ws.take i) (v.take i) ++ (if Dk.nth v i = 0 then [] else [(ws[i]?).getD [] ++ 61 :: Lib.itoa (Dk.nth v i)]) := by
    intro ws
    induction ws with
    | nil => intro v i h; simp at h
    | cons w ws ih =>
      intro v i h1 h2
      cases v with
      | nil => simp at h2
      | cons x v =>
        cases i with
        | zero =>
          simp only [List.take_succ_cons, List.take_zero, wordsT, Dk.nth]
          by_cases e : x = 0
          · simp [e]
          · simp [e]
        | succ i =>
          have := ih v i (by simpa using h1) (by simpa using h2)
          simp only [List.take_succ_cons, wordsT]
          have en : Dk.nth (x :: v) (i + 1) = Dk.nth v i := rfl
          rw [en, this]
          by_cases e : x = 0
          · rw [if_pos e, if_pos e]; simp
          · rw [if_neg e, if_neg e]; simp
  have := key words8 v i hi (by omega)
  rw [this]
  unfold wd
  rw [list_bs]
theorem comma_iff (f : ByteArray) : f.data.toList.contains 44 = decide (1 < (cut 44 f.data.toList).length) := by
  rw [cut_length, Bool.eq_iff_iff, decide_eq_true_eq, List.contains_iff_mem, ← List.count_pos_iff]
  omega
theorem nth_at {v : List Int} {i : Nat} (h : i < v.length) : Dk.nth v i ∈ v := by unfold Dk.nth; rw [List.getElem?_eq_getElem h]; exact List.getElem_mem h
end Pn
end Go.Proofs.YtohjipnkoiifhagGreatDoor

namespace Go.Proofs.YtohjipnkoiifhagGreatDoor.Dk
open Go.RowKit

structure Sto where
  l : List Rc
  last : Int
/-- a filter takes a subject (both are right) -/
def tkB (f s : ByteArray) : Bool := coverL (Pl.toks f) (Pl.toks s)
def hasS (l : List Rc) (s : ByteArray) : Bool := l.any fun r => decide (r.s = s)
/-- how many subjects there are -/
def nameN : List Rc → Nat
  | [] => 0
  | r :: l => nameN l + (if hasS l r.s then 0 else 1)
def seqB (l : List Rc) (n : Int) : Bool := l.any fun r => decide (r.q = n)
def tryE (s : Sto) (r : Rc) : Int :=
  if chkR r ≠ 0 then chkR r
  else if r.k = 2 ∧ seqB s.l r.q = false then 4
  else if r.k ≠ 1 then 0
  else if r.q ≤ s.last then 9
  else if 200 ≤ s.l.length ∨ (hasS s.l r.s = false ∧ 100 ≤ nameN s.l) then 8
  else 0
def goneB (r x : Rc) : Bool := (decide (r.k = 2) && decide (x.q = r.q)) || (decide (r.k = 3) && (decide (x.q < r.q) && tkB r.s x.s))
def aplS (s : Sto) (r : Rc) : Sto :=
  if tryE s r ≠ 0 then s
  else if r.k = 1 then ⟨s.l ++ [r], r.q⟩
  else if r.k = 4 then ⟨s.l, max s.last r.q⟩
  else ⟨s.l.filter (fun x => !goneB r x), s.last⟩
/-- what each call keeps -/
structure Sto.Ok (s : Sto) : Prop where
  rise : s.l.Pairwise fun a b => a.q < b.q
  msg : ∀ x ∈ s.l, x.k = 1 ∧ chkR x = 0
  low : ∀ x ∈ s.l, x.q ≤ s.last
  last : 0 ≤ s.last ∧ s.last ≤ 1099511627776
  few : s.l.length ≤ 200
  names : nameN s.l ≤ 100
theorem hasS_append (a b : List Rc) (s : ByteArray) : hasS (a ++ b) s = (hasS a s || hasS b s) := by unfold hasS; rw [List.any_append]
theorem nameN_snoc : ∀ (l : List Rc) (r : Rc), nameN (l ++ [r]) = nameN l + (if hasS l r.s then 0 else 1)
  | [], r => by simp [nameN, hasS]
  | x :: l, r => by
    rw [List.cons_append, nameN, nameN, nameN_snoc l r, hasS_append]
    have e : hasS [r] x.s = decide (r.s = x.s) := by simp [hasS]
    have e2 : hasS (x :: l) r.s = (decide (x.s = r.s) || hasS l r.s) := by simp [hasS]
    rw [e, e2]
    by_cases h : x.s = r.s
    · have h' : r.s = x.s := h.symm
      rw [h]
      cases hasS l r.s <;> simp
    · have h' : ¬ r.s = x.s := fun z => h z.symm
      rw [decide_eq_false h, decide_eq_false h']
      cases hasS l x.s <;> cases hasS l r.s <;> simp
theorem hasS_filter {p : Rc → Bool} {l : List Rc} {s : ByteArray} (h : hasS (l.filter p) s = true) : hasS l s = true := by
  unfold hasS at h ⊢
  rw [List.any_eq_true] at h ⊢
  obtain ⟨x, hx, hs⟩ := h
  exact ⟨x, (List.mem_filter.1 hx).1, hs⟩
/-- subjects of fewer messages -/
def nameL : List Rc → List ByteArray
  | [] => []
  | r :: l => if hasS l r.s then nameL l else r.s :: nameL l
theorem nameN_len : ∀ l : List Rc, nameN l = (nameL l).length
  | [] => rfl
  | r :: l => by
    rw [nameN, nameL, nameN_len l]
    by_cases h : hasS l r.s = true
    · rw [if_pos h, if_pos h]; omega
    · rw [if_neg h, if_neg h]; rfl
theorem nameL_mem : ∀ (l : List Rc) (s : ByteArray), s ∈ nameL l ↔ hasS l s = true
  | [], s => by simp [nameL, hasS]
  | r :: l, s => by
    have e : hasS (r :: l) s = (decide (r.s = s) || hasS l s) := by simp [hasS]
    rw [nameL, e]
    by_cases h : hasS l r.s = true
    · rw [if_pos h, nameL_mem l s]
      constructor
      · intro z; rw [z]; simp
      · intro z
        rcases Bool.or_eq_true _ _ ▸ z with y | y
        · rw [← of_decide_eq_true y]; exact h
        · exact y
    · rw [if_neg h, List.mem_cons, nameL_mem l s, Bool.or_eq_true, decide_eq_true_eq]
      constructor
      · rintro (y | y)
        · exact .inl y.symm
        · exact .inr y
      · rintro (y | y)
        · exact .inl y.symm
        · exact .inr y
theorem nameL_nodup : ∀ l : List Rc, (nameL l).Nodup
  | [] => List.nodup_nil
  | r :: l => by
    rw [nameL]
    by_cases h : hasS l r.s = true
    · rw [if_pos h]; exact nameL_nodup l
    · rw [if_neg h, List.nodup_cons]
      exact ⟨fun z => h ((nameL_mem l r.s).1 z), nameL_nodup l⟩
theorem nodup_le {α : Type} [DecidableEq α] : ∀ (a b : List α), a.Nodup → (∀ x ∈ a, x ∈ b) → a.length ≤ b.length
  | [], b, _, _ => Nat.zero_le _
  | x :: a, b, hn, hs => by
    rw [List.nodup_cons] at hn
    have hx : x ∈ b := hs x (List.mem_cons_self ..)
    have := nodup_le a (b.erase x) hn.2 (fun y hy => (List.mem_erase_of_ne (fun e => hn.1 (by rw [← e]; exact hy))).2 (hs y (List.mem_cons_of_mem _ hy)))
    rw [List.length_erase_of_mem hx] at this
    have : 0 < b.length := List.length_pos_of_mem hx
    simp only [List.length_cons]
    omega
theorem nameN_filter (p : Rc → Bool) (l : List Rc) : nameN (l.filter p) ≤ nameN l := by
  rw [nameN_len, nameN_len]
  exact nodup_le _ _ (nameL_nodup _) (fun s hs => (nameL_mem l s).2 (hasS_filter ((nameL_mem _ s).1 hs)))
theorem Sto.Ok.nil : Sto.Ok ⟨[], 0⟩ := ⟨List.Pairwise.nil, fun _ h => (by cases h), fun _ h => (by cases h), ⟨Int.le_refl _, by decide⟩, Nat.zero_le _, Nat.zero_le _⟩
theorem chkR_in {r : Rc} (h : chkR r = 0) : 1 ≤ r.q ∧ r.q ≤ 1099511627776 := by
  obtain ⟨_, _, h1, h2, _⟩ := Pk.chk_len (r := r.pk) h
  exact ⟨h1, h2⟩
theorem Sto.Ok.apply {s : Sto} (h : s.Ok) (r : Rc) : (aplS s r).Ok := by
  unfold aplS
  by_cases h0 : tryE s r ≠ 0
  · rw [if_pos h0]; exact h
  · rw [if_neg h0]
    have h0 : tryE s r = 0 := Classical.byContradiction h0
    have hc : chkR r = 0 := by
      apply Classical.byContradiction
      intro z
      unfold tryE at h0
      rw [if_pos z] at h0
      exact z h0
    have hq := chkR_in hc
    by_cases h1 : r.k = 1
    · rw [if_pos h1]
      have h2 : ¬ r.q ≤ s.last ∧ ¬ (200 ≤ s.l.length ∨ (hasS s.l r.s = false ∧ 100 ≤ nameN s.l)) := by
        unfold tryE at h0
        rw [if_neg (by rw [hc]; simp), if_neg (by omega), if_neg (by omega)] at h0
        by_cases z : r.q ≤ s.last
        · rw [if_pos z] at h0; omega
        · rw [if_neg z] at h0
          by_cases y : 200 ≤ s.l.length ∨ (hasS s.l r.s = false ∧ 100 ≤ nameN s.l)
          · rw [if_pos y] at h0; omega
          · exact ⟨z, y⟩
      obtain ⟨h2, h3⟩ := h2
      refine ⟨?_, ?_, ?_, ⟨by show 0 ≤ r.q; omega, hq.2⟩, ?_, ?_⟩
      · rw [List.pairwise_append]
        refine ⟨h.rise, List.pairwise_singleton _ _, fun a ha b hb => ?_⟩
        rw [List.mem_singleton.1 hb]
        have := h.low a ha
        omega
      · intro x hx
        rcases List.mem_append.1 hx with y | y
        · exact h.msg x y
        · rw [List.mem_singleton.1 y]; exact ⟨h1, hc⟩
      · intro x hx
        rcases List.mem_append.1 hx with y | y
        · have := h.low x y; show x.q ≤ r.q; omega
        · rw [List.mem_singleton.1 y]; exact Int.le_refl _
      · show (s.l ++ [r]).length ≤ 200
        rw [List.length_append, List.length_singleton]; omega
      · show nameN (s.l ++ [r]) ≤ 100
        rw [nameN_snoc]
        have := h.names
        cases hh : hasS s.l r.s
        · rw [if_neg (by simp)]
          have : ¬ 100 ≤ nameN s.l := fun z => h3 (.inr ⟨hh, z⟩)
          omega
        · rw [if_pos rfl]; omega
    · rw [if_neg h1]
      by_cases h4 : r.k = 4
      · rw [if_pos h4]
        have hl := h.last
        refine ⟨h.rise, h.msg, fun x hx => ?_, ⟨?_, ?_⟩, h.few, h.names⟩
        · have := h.low x hx; show x.q ≤ max s.last r.q; omega
        · show 0 ≤ max s.last r.q; omega
        · show max s.last r.q ≤ 1099511627776; omega
      · rw [if_neg h4]
        exact ⟨h.rise.sublist List.filter_sublist, fun x hx => h.msg x (List.mem_filter.1 hx).1, fun x hx => h.low x (List.mem_filter.1 hx).1, h.last, Nat.le_trans (List.length_filter_le _ _) h.few, Nat.le_trans (nameN_filter _ _) h.names⟩
end Go.Proofs.YtohjipnkoiifhagGreatDoor.Dk

namespace Go.Proofs.YtohjipnkoiifhagGreatDoor.Dk
open Go.RowKit

def takenL (f : ByteArray) (l : List Rc) : List Rc := l.filter fun r => tkB f r.s
def getO (l : List Rc) (n : Int) : Option Rc := l.find? fun r => decide (r.q = n)
def nextO (f : ByteArray) (l : List Rc) (from' : Int) : Option Rc := l.find? fun r => tkB f r.s && decide (from' ≤ r.q)
def lastO (f : ByteArray) (l : List Rc) : Option Rc := (takenL f l).getLast?
def byteN : List Rc → Nat
  | [] => 0
  | r :: l => r.s.size + r.h.size + r.d.size + byteN l
def firstQ (l : List Rc) : Int := match l with
  | [] => 0
  | r :: _ => r.q
theorem byteN_append : ∀ a b : List Rc, byteN (a ++ b) = byteN a + byteN b
  | [], b => by simp [byteN]
  | r :: a, b => by rw [List.cons_append, byteN, byteN, byteN_append a b]; omega
theorem byteN_le {l : List Rc} (h : ∀ r ∈ l, r.s.size ≤ 135 ∧ r.h.size + r.d.size ≤ 256) : byteN l ≤ 391 * l.length := by
  induction l with
  | nil => simp [byteN]
  | cons r l ih =>
    have h1 := h r (List.mem_cons_self ..)
    have h2 := ih (fun x hx => h x (List.mem_cons_of_mem _ hx))
    rw [byteN, List.length_cons]
    omega
theorem Sto.Ok.small {s : Sto} (h : s.Ok) {x : Rc} (hx : x ∈ s.l) : x.s.size ≤ 135 ∧ x.h.size + x.d.size ≤ 256 := by
  obtain ⟨_, _, _, _, _, _, h1, h2⟩ := Pk.chk_len (r := x.pk) (h.msg x hx).2
  have e : ∀ x : ByteArray, x.data.toList.length = x.size := fun x => by simp
  simp only [Rc.pk, e] at h1 h2
  exact ⟨h1, h2⟩
theorem Sto.Ok.bytes {s : Sto} (h : s.Ok) : byteN s.l ≤ 78200 := by
  have h1 := byteN_le (fun r hr => h.small hr)
  have := h.few
  omega
theorem Sto.Ok.seq {s : Sto} (h : s.Ok) {x : Rc} (hx : x ∈ s.l) : 1 ≤ x.q ∧ x.q ≤ 1099511627776 := chkR_in (h.msg x hx).2
theorem taken_rise {f : ByteArray} {l : List Rc} (h : l.Pairwise fun a b => a.q < b.q) : (takenL f l).Pairwise fun a b => a.q < b.q := h.sublist List.filter_sublist
theorem next_taken (f : ByteArray) (l : List Rc) (n : Int) : nextO f l n = (takenL f l).find? fun r => decide (n ≤ r.q) := by
  unfold nextO takenL
  rw [List.find?_filter]
  congr
  funext r
  cases tkB f r.s <;> simp
/-- the k-th of those that rise is the first one from a number on that is above all ahead of it -/
theorem find_rise {T : List Rc} {k : Nat} {n : Int} (h1 : ∀ j, (hj : j < T.length) → j < k → T[j].q < n) (h2 : ∀ hk : k < T.length, n ≤ T[k].q) : T.find? (fun r => decide (n ≤ r.q)) = T[k]? := by
  by_cases hk : k < T.length
  · rw [List.getElem?_eq_getElem hk, List.find?_eq_some_iff_getElem]
    refine ⟨by simpa using h2 hk, k, hk, rfl, fun j hj => ?_⟩
    have := h1 j (by omega) hj
    simp only [Bool.not_eq_true', decide_eq_false_iff_not]
    omega
  · rw [List.getElem?_eq_none (by omega), List.find?_eq_none]
    intro x hx
    obtain ⟨j, hj, rfl⟩ := List.getElem_of_mem hx
    have := h1 j hj (by omega)
    simp only [decide_eq_true_eq]
    omega
/-- where one is behind k messages that a filter takes -/
def Gone (T : List Rc) (k : Nat) (n : Int) : Prop := k ≤ T.length ∧ ((k = 0 ∧ n = 0) ∨ ∃ j, ∃ hj : j < T.length, k = j + 1 ∧ n = T[j].q + 1)
theorem Gone.next {f : ByteArray} {s : Sto} (h : s.Ok) {k : Nat} {n : Int} (g : Gone (takenL f s.l) k n) : nextO f s.l n = (takenL f s.l)[k]? := by
  have hr := taken_rise (f := f) h.rise
  have hp : ∀ x ∈ takenL f s.l, 1 ≤ x.q := fun x hx => (h.seq (List.mem_filter.1 hx).1).1
  rw [next_taken]
  obtain ⟨_, ⟨rfl, rfl⟩ | ⟨j, hj, rfl, rfl⟩⟩ := g
  · exact find_rise (fun j _ z => absurd z (Nat.not_lt_zero j)) (fun hk => by have := hp _ (List.getElem_mem hk); omega)
  · refine find_rise (fun i hi z => ?_) (fun hk => ?_)
    · rcases Nat.lt_or_ge i j with y | y
      · have := List.pairwise_iff_getElem.1 hr i j hi hj y; omega
      · obtain rfl : i = j := by omega
        omega
    · have := List.pairwise_iff_getElem.1 hr j (j + 1) hj hk (by omega); omega
theorem Gone.step {T : List Rc} {k : Nat} (hk : k < T.length) : Gone T (k + 1) (T[k].q + 1) := ⟨hk, .inr ⟨k, hk, rfl, rfl⟩⟩
theorem Gone.start (T : List Rc) : Gone T 0 0 := ⟨Nat.zero_le _, .inl ⟨rfl, rfl⟩⟩
/-- what a purge leaves -/
theorem purge_left {s : Sto} {r : Rc} (h0 : tryE s r = 0) (h3 : r.k = 3) : aplS s r = ⟨s.l.filter (fun x => !(decide (x.q < r.q) && tkB r.s x.s)), s.last⟩ := by
  unfold aplS
  rw [if_neg (by rw [h0]; simp), if_neg (by omega), if_neg (by omega)]
  unfold goneB
  rw [h3]
  simp
theorem purge_try {s : Sto} {r : Rc} (h3 : r.k = 3) : tryE s r = chkR r := by
  unfold tryE
  by_cases hc : chkR r ≠ 0
  · rw [if_pos hc]
  · rw [if_neg hc, if_neg (by omega), if_pos (by omega)]
    exact (Classical.byContradiction hc : chkR r = 0).symm
end Go.Proofs.YtohjipnkoiifhagGreatDoor.Dk

namespace Go.Proofs.YtohjipnkoiifhagGreatDoor.Dk
open Go.RowKit

/-- a log whose records are all sure -/
def Safe (es : List Pap) (recs : List Rc) : Prop := (es = [] ∧ recs = []) ∨ Logd es recs recs.length
def Sured (es : List Pap) : Prop := ∀ x ∈ es, x.sure = (x.text.size : Int)
theorem Safe.sured {es : List Pap} {recs : List Rc} (h : Safe es recs) : Sured es := by
  rcases h with ⟨rfl, _⟩ | ⟨pre, e, A, L, j, rfl, rfl, hw, hs, he, hg, hj, hsu, hn⟩
  · intro x hx; cases hx
  · intro x hx
    rcases List.mem_append.1 hx with y | y
    · exact hs x y
    · rw [List.mem_singleton.1 y, hsu, he]
      rw [List.length_append] at hn
      rw [List.take_of_length_le (by omega)]
theorem Safe.opens {es : List Pap} {recs : List Rc} (h : Safe es recs) : openL es = (recs, es) := by
  rcases h with ⟨rfl, rfl⟩ | ⟨pre, e, A, L, j, rfl, rfl, hw, hs, he, hg, hj, hsu, hn⟩
  · rfl
  · rw [whole_open _ hw, openL_whole (by rw [he]; exact scan_whole hg)]
    simp [openL]
theorem stop_sure {x : Pap} (h : x.sure = (x.text.size : Int)) (keep : Int) : stopP keep x = x := by
  have hat : stopAt x keep = x.text.size := by unfold stopAt; rw [h]; omega
  unfold stopP
  rw [hat]
  have : x.text.extract 0 x.text.size = x.text := by
    apply ByteArray.ext
    simp
  rw [this]
  cases x
  simp only at h
  rw [h]
theorem Sured.stop {es : List Pap} (h : Sured es) (keep : Int) : es.map (stopP keep) = es := by
  conv => rhs; rw [← List.map_id es]
  exact List.map_congr_left (fun x hx => stop_sure (h x hx) keep)
theorem Sured.sync {es : List Pap} (h : Sured es) (n : Int) : syncL es n = es := by
  unfold syncL
  split
  · rename_i hi
    have hs := h _ (pa_mem hi)
    have e : ({ pa es (ix es n) with sure := ((pa es (ix es n)).text.size : Int) } : Pap) = pa es (ix es n) := by
      cases hp : pa es (ix es n)
      rw [hp] at hs
      simp only at hs
      rw [hs]
    rw [e, pa_get hi]
    exact List.set_getElem_self hi
  · rfl
theorem Sured.lsync {es : List Pap} (h : Sured es) : lsyncL es = es := by
  unfold lsyncL
  split
  · rfl
  · exact h.sync _
/-- of such a log the document's Append is the program's -/
theorem Sured.log {es : List Pap} (h : Sured es) (m size : Int) (r : Rc) : logP es m size r = logR es m size r := by
  by_cases h0 : (logR es m size r).1 = 0
  · exact logP_ok h0
  · rw [logP_not h0]
    refine Prod.ext rfl ?_
    unfold logR at h0 ⊢
    split
    · rfl
    · rename_i hc
      rw [if_neg hc] at h0
      split
      · rename_i hl
        rw [if_pos hl] at h0
        have h1 : appE es m 0 (codT r) ≠ 0 := h0
        exact (app_not h1).symm
      · rename_i hl
        rw [if_neg hl] at h0
        split
        · rename_i hf
          rw [if_pos hf] at h0
          rw [h.sync] at h0 ⊢
          have h1 : appE es m ((lastP es).n + 1) (codT r) ≠ 0 := h0
          exact (app_not h1).symm
        · rename_i hf
          rw [if_neg hf] at h0
          have h1 : appE es m (lastP es).n (codT r) ≠ 0 := h0
          exact (app_not h1).symm
theorem Safe.append {m size : Int} {es : List Pap} {recs : List Rc} (h : Safe es recs) (ht : Tidy m es) {r : Rc} (h0 : (logP es m size r).1 = 0) : Safe (lsyncL (logP es m size r).2) (recs ++ [r]) := by
  right
  rcases h with ⟨rfl, rfl⟩ | h
  · have hR : (logR [] m size r).1 = 0 := by
      apply Classical.byContradiction
      intro z
      rw [logP_not z] at h0
      exact z h0
    have hl : Logd (logP [] m size r).2 ([] ++ [r]) 0 := by
      rw [logP_ok hR]
      have hc : chkR r = 0 := by
        apply Classical.byContradiction
        intro z
        unfold logR at hR
        rw [if_pos z] at hR
        exact z hR
      have e : logR [] m size r = (appE [] m 0 (codT r), appL [] m 0 (codT r)) := by
        unfold logR
        rw [if_neg (by rw [hc]; simp), if_pos (show ([] : List Pap).length = 0 from rfl)]
      rw [e] at hR ⊢
      have hR' : appE [] m 0 (codT r) = 0 := hR
      obtain ⟨hI, hf⟩ := app_ok.1 hR'
      have ea : appL [] m 0 (codT r) = [⟨0, 0, codT r⟩] := by
        unfold appL
        rw [if_neg (by rw [hI]; simp), if_neg (by rw [hf]; simp), if_neg (by simp [ix])]
        rfl
      refine ⟨[], ⟨0, 0, codT r⟩, [], [r], 0, by simp only; rw [ea]; rfl, rfl, rfl, fun x hx => (by cases hx), ?_, ?_, Nat.zero_le _, ?_, Nat.zero_le _⟩
      · show codT r = catT [r]
        simp [catT]
      · intro x hx
        rw [List.mem_singleton.1 hx]; exact hc
      · simp [catT]
    exact hl.sync (ht.logp size r)
  · exact ((h.appendp ht r).1 h0).sync (ht.logp size r)
theorem Safe.rewrite {m size : Int} {es : List Pap} {l : List Rc} (hg : Good l) (h0 : (rewR es m size l).1 = 0) : Safe (rewR es m size l).2 l := by
  right
  unfold rewR at h0 ⊢
  split
  · rename_i h; rw [if_pos h] at h0; exact absurd h0 h
  · rename_i h
    rw [if_neg h] at h0
    split
    · rename_i h1; rw [if_pos h1] at h0; cases h0
    · rename_i h1
      rw [if_neg h1] at h0
      split
      · rename_i h2; rw [if_pos h2] at h0; exact absurd h0 h2
      · exact ⟨[], ⟨nextN es, ((catT l).size : Int), catT l⟩, [], l, l.length, rfl, rfl, rfl, fun x hx => (by cases hx), rfl, hg, Nat.le_refl _, by rw [List.take_length], by simp⟩
theorem rew_not {m size : Int} {es : List Pap} {l : List Rc} (h0 : (rewR es m size l).1 ≠ 0) : (rewR es m size l).2 = es := by
  unfold rewR at h0 ⊢
  split
  · rfl
  · rename_i h
    rw [if_neg h] at h0
    split
    · rfl
    · rename_i h1
      rw [if_neg h1] at h0
      split
      · rfl
      · rename_i h2
        rw [if_neg h2] at h0
        exact absurd rfl h0
/-- what records make of an empty store -/
def fillV (l : List Rc) : Sto := l.foldl aplS ⟨[], 0⟩
theorem fillV_snoc (l : List Rc) (r : Rc) : fillV (l ++ [r]) = aplS (fillV l) r := by unfold fillV; rw [List.foldl_append]; rfl
theorem foldlV_ok : ∀ (l : List Rc) {s : Sto}, s.Ok → (l.foldl aplS s).Ok
  | [], _, h => h
  | r :: l, _, h => foldlV_ok l (h.apply r)
theorem fillV_ok (l : List Rc) : (fillV l).Ok := foldlV_ok l Sto.Ok.nil
/-- a mark; what a vault is made compact to -/
def markR (n : Int) : Rc := ⟨4, n, 0, ⟨#[]⟩, ⟨#[]⟩, ⟨#[]⟩⟩
def compL (s : Sto) : List Rc := s.l ++ (if 0 < s.last then [markR s.last] else [])
theorem mark_chk {n : Int} (h : 1 ≤ n ∧ n ≤ 1099511627776) : chkR (markR n) = 0 := by
  unfold chkR markR Rc.pk Pk.chk
  simp [Pk.inB]
  omega
/-- the number of the last message -/
def endQ (l : List Rc) : Int := (l.getLast?.map (·.q)).getD 0
theorem endQ_snoc (l : List Rc) (r : Rc) : endQ (l ++ [r]) = r.q := by unfold endQ; simp
theorem nameN_front (a b : List Rc) : nameN a ≤ nameN (a ++ b) := by
  rw [nameN_len, nameN_len]
  refine nodup_le _ _ (nameL_nodup _) (fun s hs => (nameL_mem _ s).2 ?_)
  rw [hasS_append, (nameL_mem a s).1 hs]
  rfl
theorem refill_front {s : Sto} (h : s.Ok) : ∀ (k : Nat), k ≤ s.l.length → fillV (s.l.take k) = ⟨s.l.take k, endQ (s.l.take k)⟩
  | 0, _ => rfl
  | k + 1, hk => by
    have hlt : k < s.l.length := by omega
    have ih := refill_front h k (by omega)
    have hm := List.getElem_mem hlt
    obtain ⟨hk1, hc⟩ := h.msg _ hm
    have hq := h.seq hm
    rw [List.take_succ_eq_append_getElem hlt, fillV_snoc, ih]
    have hlo : ¬ (s.l[k]).q ≤ endQ (s.l.take k) := by
      cases k with
      | zero => simp [endQ]; omega
      | succ j =>
        rw [List.take_succ_eq_append_getElem (by omega), endQ_snoc]
        have := List.pairwise_iff_getElem.1 h.rise j (j + 1) (by omega) hlt (by omega)
        omega
    have hnm : ¬ (hasS (s.l.take k) (s.l[k]).s = false ∧ 100 ≤ nameN (s.l.take k)) := fun z => by
      have h1 := nameN_front (s.l.take (k + 1)) (s.l.drop (k + 1))
      rw [List.take_append_drop, List.take_succ_eq_append_getElem hlt, nameN_snoc, z.1] at h1
      have := h.names
      simp at h1
      omega
    have hfw : ¬ 200 ≤ (s.l.take k).length := by
      have := h.few
      rw [List.length_take]; omega
    have ht : tryE ⟨s.l.take k, endQ (s.l.take k)⟩ s.l[k] = 0 := by
      unfold tryE
      rw [if_neg (by rw [hc]; simp), if_neg (by omega), if_neg (by omega), if_neg hlo, if_neg (fun z => by rcases z with z | z; exact hfw z; exact hnm z)]
    unfold aplS
    rw [if_neg (by rw [ht]; simp), if_pos hk1, endQ_snoc]
theorem refill {s : Sto} (h : s.Ok) : fillV (compL s) = s ∧ Good (compL s) := by
  have hf := refill_front h s.l.length (Nat.le_refl _)
  rw [List.take_length] at hf
  have hl := h.last
  unfold compL
  by_cases h0 : 0 < s.last
  · rw [if_pos h0]
    have hmk := mark_chk (n := s.last) (by omega)
    constructor
    · rw [fillV_snoc, hf]
      have ht : tryE ⟨s.l, endQ s.l⟩ (markR s.last) = 0 := by
        unfold tryE
        rw [if_neg (by rw [hmk]; simp), if_neg (by simp [markR]), if_pos (by simp [markR])]
      have he : endQ s.l ≤ s.last := by
        unfold endQ
        cases hg : s.l.getLast? with
        | none => simp; omega
        | some x => simp; exact h.low x (List.mem_of_getLast? hg)
      unfold aplS
      rw [if_neg (by rw [ht]; simp), if_neg (by simp [markR]), if_pos (by simp [markR])]
      show Sto.mk s.l (max (endQ s.l) s.last) = s
      rw [Int.max_eq_right he]
    · intro x hx
      rcases List.mem_append.1 hx with y | y
      · exact (h.msg x y).2
      · rw [List.mem_singleton.1 y]; exact hmk
  · rw [if_neg h0, List.append_nil]
    have hn : s.l = [] := by
      cases hs : s.l with
      | nil => rfl
      | cons x l =>
        have hx : x ∈ s.l := by rw [hs]; exact List.mem_cons_self ..
        have := h.low x hx
        have := (h.seq hx).1
        omega
    constructor
    · rw [hf, hn]
      show Sto.mk [] 0 = s
      cases s
      simp only at hn hl h0 ⊢
      rw [hn]
      congr
      omega
    · rw [hn]
      intro x hx
      cases hx
/-- a vault's files and its store -/
structure VOk (m : Int) (es : List Pap) (s : Sto) : Prop where
  tidy : Tidy m es
  safe : ∃ recs, Safe es recs ∧ fillV recs = s
theorem VOk.nil {m : Int} (h : 0 ≤ m) : VOk m [] ⟨[], 0⟩ := ⟨Tidy.nil h, [], .inl ⟨rfl, rfl⟩, rfl⟩
theorem VOk.ok {m : Int} {es : List Pap} {s : Sto} (h : VOk m es s) : s.Ok := by
  obtain ⟨recs, _, rfl⟩ := h.safe
  exact fillV_ok recs
theorem VOk.sured {m : Int} {es : List Pap} {s : Sto} (h : VOk m es s) : Sured es := by
  obtain ⟨recs, h1, _⟩ := h.safe
  exact h1.sured
/-- Do: the answer; the files; the store -/
def doE (es : List Pap) (s : Sto) (m size : Int) (r : Rc) : Int := if tryE s r ≠ 0 then tryE s r else (logP es m size r).1
def doL (es : List Pap) (s : Sto) (m size : Int) (r : Rc) : List Pap := if doE es s m size r = 0 then lsyncL (logP es m size r).2 else es
def doS (es : List Pap) (s : Sto) (m size : Int) (r : Rc) : Sto := if doE es s m size r = 0 then aplS s r else s
theorem do_ok {es : List Pap} {s : Sto} {m size : Int} {r : Rc} (h : doE es s m size r = 0) : tryE s r = 0 ∧ (logP es m size r).1 = 0 := by
  unfold doE at h
  by_cases z : tryE s r = 0
  · rw [if_neg (by rw [z]; simp)] at h
    exact ⟨z, h⟩
  · rw [if_pos z] at h
    exact absurd h z
theorem VOk.did {m size : Int} {es : List Pap} {s : Sto} (h : VOk m es s) (r : Rc) : VOk m (doL es s m size r) (doS es s m size r) := by
  unfold doL doS
  by_cases h0 : doE es s m size r = 0
  · rw [if_pos h0, if_pos h0]
    obtain ⟨recs, h1, h2⟩ := h.safe
    refine ⟨(h.tidy.logp size r).lsync, recs ++ [r], h1.append h.tidy (do_ok h0).2, ?_⟩
    rw [fillV_snoc, h2]
  · rw [if_neg h0, if_neg h0]; exact h
/-- Compact -/
def compE (es : List Pap) (s : Sto) (m size : Int) : Int := (rewR es m size (compL s)).1
def compF (es : List Pap) (s : Sto) (m size : Int) : List Pap := (rewR es m size (compL s)).2
theorem VOk.comp {m size : Int} {es : List Pap} {s : Sto} (h : VOk m es s) : VOk m (compF es s m size) s := by
  unfold compF
  obtain ⟨r1, r2⟩ := refill h.ok
  by_cases h0 : (rewR es m size (compL s)).1 = 0
  · exact ⟨h.tidy.rewritten size _, compL s, Safe.rewrite r2 h0, r1⟩
  · rw [rew_not h0]; exact h
/-- a stop takes nothing; what is read again makes the store -/
theorem VOk.crash {m : Int} {es : List Pap} {s : Sto} (h : VOk m es s) (keep : Int) : es.map (stopP keep) = es ∧ (openL es).2 = es ∧ fillV (openL es).1 = s := by
  obtain ⟨recs, h1, h2⟩ := h.safe
  rw [h1.opens]
  exact ⟨h1.sured.stop keep, rfl, h2⟩
end Go.Proofs.YtohjipnkoiifhagGreatDoor.Dk

namespace Go.Proofs.YtohjipnkoiifhagGreatDoor.Dk
open Go.RowKit

def zeroR : Rc := ⟨0, 0, 0, ⟨#[]⟩, ⟨#[]⟩, ⟨#[]⟩⟩
/-- a message, or none -/
def ansV (o : Option Rc) : Value := match o with
  | some r => .tuple #[rcV r, .int .i64 0]
  | none => .tuple #[rcV zeroR, .int .i64 4]
def seekV (f : ByteArray) (o : Option Rc) : Value := if errS true f = 0 then ansV o else .tuple #[rcV zeroR, .int .i64 (errS true f)]
/-- a call may have written the store's own blocks F alone -/
def DidS (SH : World → Nat → Nat → (Nat → Prop) → Sto → Prop) (w w' : World) (B q : Nat) (F : Nat → Prop) (s : Sto) : Prop := ∃ F', SH w' B q F' s ∧ Chg F w w' ∧ ∀ k, F' k → F k ∨ w.heap.size ≤ k
end Go.Proofs.YtohjipnkoiifhagGreatDoor.Dk

namespace Go.Proofs.YtohjipnkoiifhagGreatDoor.Dk
open Go.RowKit

/-- a call may have written the vault's own blocks F alone -/
def DidV (VH : World → Nat → Nat → (Nat → Prop) → Int → Int → List Pap → Sto → Prop) (w w' : World) (B p : Nat) (F : Nat → Prop) (m size : Int) (es : List Pap) (s : Sto) : Prop := ∃ F', VH w' B p F' m size es s ∧ Chg F w w' ∧ ∀ k, F' k → F k ∨ w.heap.size ≤ k
/-- what is asked of the program's vault: VH w B p F m size es s says that at block p there is a vault of room m and that size, whose disk shows the files es and whose store is s, in the blocks F -/
structure VWorks (VH : World → Nat → Nat → (Nat → Prop) → Int → Int → List Pap → Sto → Prop) (SH : World → Nat → Nat → (Nat → Prop) → Sto → Prop) : Prop where
  own : ∀ {w B p F m size es s}, VH w B p F m size es s → ∀ k, F k → B ≤ k ∧ k < w.heap.size
  chg : ∀ {w w' B p F m size es s} {A : Nat → Prop}, VH w B p F m size es s → Chg A w w' → (∀ k, F k → ¬ A k) → VH w' B p F m size es s
  bad : ∀ (w : World) (m size : Int), (inI m 1 65536 && inI size 1 4096) = false →
    Calls Tryz.prog 6 #[.int .i64 m, .int .i64 size] w fun e w' => e = .returned (.tuple #[.pointer none, .int .i64 1]) ∧ Below w.heap.size w w'
  good : ∀ (w : World) (m size : Int), inI m 1 65536 = true → inI size 1 4096 = true →
    Calls Tryz.prog 6 #[.int .i64 m, .int .i64 size] w fun e w' => ∃ p F, e = .returned (.tuple #[.pointer (some ⟨p, 0, none⟩), .int .i64 0]) ∧ VH w' w.heap.size p F m size [] ⟨[], 0⟩ ∧ Below w.heap.size w w'
  did : ∀ {w B p F m size es s} (r : Rc), Small r → VH w B p F m size es s → VOk m es s → m ≤ 65536 → inI size 1 4096 = true → B ≤ w.heap.size →
    Calls Tryz.prog 8 #[.pointer (some ⟨p, 0, none⟩), .agg #[.int .i64 r.k, .int .i64 r.q, .int .i64 r.t, .string r.s, .string r.h, .string r.d]] w fun e w' => e = .returned (.int .i64 (doE es s m size r)) ∧ DidV VH w w' B p F m size (doL es s m size r) (doS es s m size r)
  compact : ∀ {w B p F m size es s}, VH w B p F m size es s → VOk m es s → m ≤ 65536 → inI size 1 4096 = true → B ≤ w.heap.size →
    Calls Tryz.prog 7 #[.pointer (some ⟨p, 0, none⟩)] w fun e w' => e = .returned (.int .i64 (compE es s m size)) ∧ DidV VH w w' B p F m size (compF es s m size) s
  store : ∀ {w B p F m size es s}, VH w B p F m size es s → VOk m es s → m ≤ 65536 → inI size 1 4096 = true → B ≤ w.heap.size →
    Calls Tryz.prog 11 #[.pointer (some ⟨p, 0, none⟩)] w fun e w' => ∃ q F0, e = .returned (.pointer (some ⟨q, 0, none⟩)) ∧ SH w' B q F0 s ∧ (∀ k, F0 k → F k) ∧ Below w.heap.size w w'
  used : ∀ {w B p F m size es s}, VH w B p F m size es s → VOk m es s → m ≤ 65536 → inI size 1 4096 = true → B ≤ w.heap.size →
    Calls Tryz.prog 10 #[.pointer (some ⟨p, 0, none⟩)] w fun e w' => e = .returned (.int .i64 (used es : Int)) ∧ DidV VH w w' B p F m size es s
/-- blocks that a step has left as they were -/
def Stay (Cs : Nat → Prop) (w w' : World) : Prop := w.heap.size ≤ w'.heap.size ∧ ∀ k, Cs k → w'.heap[k]? = w.heap[k]?
theorem Stay.cell {Cs : Nat → Prop} {w w' : World} (h : Stay Cs w w') {C j : Nat} (hC : Cs C) : w'.cell? ⟨C, j, none⟩ = w.cell? ⟨C, j, none⟩ := World.cell?_of_block (w := w) (h.2 C hC)
theorem Stay.trans {Cs : Nat → Prop} {w w1 w2 : World} (h : Stay Cs w w1) (k : Stay Cs w1 w2) : Stay Cs w w2 := ⟨Nat.le_trans h.1 k.1, fun i hi => (k.2 i hi).trans (h.2 i hi)⟩
theorem Stay.fewer {Cs Cs' : Nat → Prop} {w w' : World} (h : Stay Cs w w') (hC : ∀ k, Cs' k → Cs k) : Stay Cs' w w' := ⟨h.1, fun k hk => h.2 k (hC k hk)⟩
theorem Stay.recs {Cs : Nat → Prop} {w w' : World} {a : Option Addr} {l : List Rc} (h : Stay Cs w w') (s : SlR w a l) (hn : ∀ z, a = some z → Cs z.block) : SlR w' a l := fun k hk => by
  obtain ⟨b, o, h1, h2⟩ := s k hk
  have hb : Cs b := hn _ h1
  exact ⟨b, o, h1, ⟨Nat.lt_of_lt_of_le h2.lt h.1, by rw [h.cell hb]; exact h2.c0, by rw [h.cell hb]; exact h2.c1, by rw [h.cell hb]; exact h2.c2, by rw [h.cell hb]; exact h2.c3, by rw [h.cell hb]; exact h2.c4, by rw [h.cell hb]; exact h2.c5⟩⟩
/-- a vault on its way, behind w; the blocks Cs are none of its own -/
def Vay (VH : World → Nat → Nat → (Nat → Prop) → Int → Int → List Pap → Sto → Prop) (Cs : Nat → Prop) (w wr : World) (p : Nat) (m size : Int) (es : List Pap) (s : Sto) : Prop :=
  ∃ F, VH wr w.heap.size p F m size es s ∧ Below w.heap.size w wr ∧ (∀ k, Cs k → k < wr.heap.size ∧ ¬ F k) ∧ VOk m es s ∧ m ≤ 65536 ∧ inI size 1 4096 = true
section
variable {VH : World → Nat → Nat → (Nat → Prop) → Int → Int → List Pap → Sto → Prop} {SH : World → Nat → Nat → (Nat → Prop) → Sto → Prop} {Cs Cs' : Nat → Prop} {w wr w' : World} {p : Nat} {m size : Int} {es es' : List Pap} {s s' : Sto}
theorem Vay.bl (h : Vay VH Cs w wr p m size es s) : Below w.heap.size w wr := by obtain ⟨F, _, h2, _⟩ := h; exact h2
theorem Vay.room (h : Vay VH Cs w wr p m size es s) : w.heap.size ≤ wr.heap.size := h.bl.size
theorem Vay.vok (h : Vay VH Cs w wr p m size es s) : VOk m es s := by obtain ⟨F, _, _, _, h5, _⟩ := h; exact h5
theorem Vay.ok (h : Vay VH Cs w wr p m size es s) : s.Ok := h.vok.ok
/-- new blocks may be kept -/
theorem Vay.mine (V : VWorks VH SH) (h : Vay VH Cs w wr p m size es s) (hb : Below wr.heap.size wr w') (hn : ∀ k, Cs' k → Cs k ∨ wr.heap.size ≤ k ∧ k < w'.heap.size) : Vay VH Cs' w w' p m size es s := by
  have hr := h.room
  obtain ⟨F, h1, h2, h3, h4, h5, h6⟩ := h
  refine ⟨F, V.chg (A := fun _ => False) h1 (Chg.of_below hb) (fun _ _ z => z), h2.trans (hb.mono hr), fun k hk => ?_, h4, h5, h6⟩
  rcases hn k hk with y | y
  · exact ⟨Nat.lt_of_lt_of_le (h3 k y).1 hb.size, (h3 k y).2⟩
  · exact ⟨y.2, fun z => by have := (V.own h1 k z).2; omega⟩
theorem Vay.below (V : VWorks VH SH) (h : Vay VH Cs w wr p m size es s) (hb : Below wr.heap.size wr w') : Vay VH Cs w w' p m size es s := h.mine V hb (fun _ z => .inl z)
theorem Vay.stay (h : Vay VH Cs w wr p m size es s) (hb : Below wr.heap.size wr w') : Stay Cs wr w' := by
  obtain ⟨F, _, _, h3, _⟩ := h
  exact ⟨hb.size, fun k hk => hb.block k (h3 k hk).1⟩
theorem Vay.does (V : VWorks VH SH) (h : Vay VH Cs w wr p m size es s) (hk : VOk m es' s') {fn : FuncId} {args : Array Value} {Q : Ending → World → Prop}
    (hc : ∀ F, VH wr w.heap.size p F m size es s → Calls Tryz.prog fn args wr fun e w' => Q e w' ∧ DidV VH wr w' w.heap.size p F m size es' s') :
    Calls Tryz.prog fn args wr fun e w' => Q e w' ∧ Vay VH Cs w w' p m size es' s' ∧ Stay Cs wr w' := by
  have hr := h.room
  obtain ⟨F, h1, h2, h3, h4, h5, h6⟩ := h
  refine (hc F h1).mono ?_
  rintro e w' ⟨hq, F', a1, a2, a3⟩
  refine ⟨hq, ⟨F', a1, h2.trans (a2.below hr (fun k hk z => by have := (V.own h1 k z).1; omega)), fun k hk => ⟨Nat.lt_of_lt_of_le (h3 k hk).1 a2.size, fun z => ?_⟩, hk, h5, h6⟩, a2.size, fun k hk => a2.block k (h3 k hk).1 (h3 k hk).2⟩
  rcases a3 k z with y | y
  · exact (h3 k hk).2 y
  · have := (h3 k hk).1; omega
theorem Vay.did (V : VWorks VH SH) (h : Vay VH Cs w wr p m size es s) (r : Rc) (hr : Small r) :
    Calls Tryz.prog 8 #[.pointer (some ⟨p, 0, none⟩), .agg #[.int .i64 r.k, .int .i64 r.q, .int .i64 r.t, .string r.s, .string r.h, .string r.d]] wr fun e w' => e = .returned (.int .i64 (doE es s m size r)) ∧ Vay VH Cs w w' p m size (doL es s m size r) (doS es s m size r) ∧ Stay Cs wr w' := by
  have hm := h.room
  obtain ⟨_, _, _, _, h4, h5, h6⟩ := id h
  exact h.does V (h4.did r) (fun F hF => V.did r hr hF h4 h5 h6 hm)
theorem Vay.compact (V : VWorks VH SH) (h : Vay VH Cs w wr p m size es s) :
    Calls Tryz.prog 7 #[.pointer (some ⟨p, 0, none⟩)] wr fun e w' => e = .returned (.int .i64 (compE es s m size)) ∧ Vay VH Cs w w' p m size (compF es s m size) s ∧ Stay Cs wr w' := by
  have hm := h.room
  obtain ⟨_, _, _, _, h4, h5, h6⟩ := id h
  exact h.does V h4.comp (fun F hF => V.compact hF h4 h5 h6 hm)
theorem Vay.used (V : VWorks VH SH) (h : Vay VH Cs w wr p m size es s) :
    Calls Tryz.prog 10 #[.pointer (some ⟨p, 0, none⟩)] wr fun e w' => e = .returned (.int .i64 (used es : Int)) ∧ Vay VH Cs w w' p m size es s ∧ Stay Cs wr w' := by
  have hm := h.room
  obtain ⟨_, _, _, _, h4, h5, h6⟩ := id h
  exact h.does V h4 (fun F hF => V.used hF h4 h5 h6 hm)
theorem Vay.store (V : VWorks VH SH) (h : Vay VH Cs w wr p m size es s) :
    Calls Tryz.prog 11 #[.pointer (some ⟨p, 0, none⟩)] wr fun e w' => ∃ q F0, e = .returned (.pointer (some ⟨q, 0, none⟩)) ∧ SH w' w.heap.size q F0 s ∧ Below wr.heap.size wr w' := by
  have hm := h.room
  obtain ⟨F, h1, _, _, h4, h5, h6⟩ := h
  refine (V.store h1 h4 h5 h6 hm).mono ?_
  rintro e w' ⟨q, F0, he, hs, _, hb⟩
  exact ⟨q, F0, he, hs, hb⟩
theorem Vay.new (V : VWorks VH SH) (w : World) (hm : inI m 1 65536 = true) (hs : inI size 1 4096 = true) :
    Calls Tryz.prog 6 #[.int .i64 m, .int .i64 size] w fun e w' => ∃ p, e = .returned (.tuple #[.pointer (some ⟨p, 0, none⟩), .int .i64 0]) ∧ Vay VH (fun _ => False) w w' p m size [] ⟨[], 0⟩ := by
  have hb : 1 ≤ m ∧ m ≤ 65536 := by simpa [inI] using hm
  refine (V.good w m size hm hs).mono ?_
  rintro e w' ⟨p, F, he, h1, h2⟩
  exact ⟨p, he, F, h1, h2, fun _ z => z.elim, VOk.nil (by omega), hb.2, hs⟩
end
/-- what is asked of the store of a vault where it is looked at -/
structure SSees (SH : World → Nat → Nat → (Nat → Prop) → Sto → Prop) : Prop where
  all : ∀ {w B q F s}, SH w B q F s → s.Ok → B ≤ w.heap.size →
    Calls Tryz.prog 12 #[.pointer (some ⟨q, 0, none⟩)] w fun e w' => ∃ v, e = .returned v ∧ ArrR w' w.heap.size v s.l ∧ Below w.heap.size w w'
  sums : ∀ {w B q F s}, SH w B q F s → s.Ok → B ≤ w.heap.size →
    Calls Tryz.prog 13 #[.pointer (some ⟨q, 0, none⟩)] w fun e w' => e = .returned (.agg #[.int .i64 (s.l.length : Int), .int .i64 (byteN s.l : Int), .int .i64 (firstQ s.l), .int .i64 s.last]) ∧ Below w.heap.size w w'
end Go.Proofs.YtohjipnkoiifhagGreatDoor.Dk
