/-
  Plain laws of rows of tokens: a row covers itself, what covers a cover covers, what covers both ways is one; what takes in common meets. No walk.
  A plan of a stream, pure: when it is right, its text, and the text read. No program.
  Names, byte by byte. No program.
  The document's disk: what it is and what every call makes of it; which blocks a call may have written. No walk, and nothing of the program's own.
-/
import Derived.Test.YtmccpkpeimejhahGreatDoorJointWalkSplitWalk2Plain2Plain5
import Derived.Test.YtmccpkpeimejhahGreatDoorJointBase0RowTmPlainPapPa
import Derived.Test.YtmccpkpeimejhahGreatDoorRows
import Derived.WalkKit
import Derived.WalkSpells
import Derived.WalkLawsBesides
import Derived.Deep.QuietTactic
import Derived.BigQuiet
import Derived.Laws.IdiomCopy
import Derived.Lib.Overlaps
import Derived.Lib.AppendZerosOnto
import Derived.Laws.NewBlocks
namespace Go.Proofs.YtmccpkpeimejhahGreatDoor
open Go.RowKit

theorem eqB_iff {a b : ByteArray} : eqB a b = true ↔ a = b := by
  unfold eqB
  rw [beq_iff_eq, ByteArray.toList_eq, ByteArray.toList_eq]
  exact ⟨fun h => WideShapes.bytes_inj h, fun h => by rw [h]⟩
theorem eqB_self (a : ByteArray) : eqB a a = true := eqB_iff.2 rfl
theorem gt_eq {a b : ByteArray} (h : gtB a = true) (g : gtB b = true) : a = b := by
  unfold gtB at h g
  exact eqB_iff.1 (by unfold eqB; rw [eq_of_beq h, eq_of_beq g]; rfl)
theorem st_eq {a b : ByteArray} (h : stB a = true) (g : stB b = true) : a = b := by
  unfold stB at h g
  exact eqB_iff.1 (by unfold eqB; rw [eq_of_beq h, eq_of_beq g]; rfl)

theorem coverL_self : ∀ l : List ByteArray, coverL l l = true
  | [] => rfl
  | x :: l => by
    rw [coverL, coverL_self l, eqB_self]
    cases gtB x <;> simp
theorem meetL_self : ∀ l : List ByteArray, meetL l l = true
  | [] => rfl
  | x :: l => by
    rw [meetL, meetL_self l, eqB_self]
    cases gtB x <;> simp
theorem coverL_gt {x : ByteArray} (h : gtB x = true) : ∀ {l : List ByteArray}, l ≠ [] → coverL [x] l = true
  | [], hl => absurd rfl hl
  | y :: l, _ => by rw [coverL, h]; rfl
theorem coverL_cons {x y : ByteArray} {f g : List ByteArray} : coverL (x :: f) (y :: g) = true ↔ (gtB x = true ∨ (gtB y = false ∧ (stB x = true ∨ x = y) ∧ coverL f g = true)) := by
  rw [coverL]
  simp only [Bool.or_eq_true, Bool.and_eq_true, Bool.not_eq_true', eqB_iff]
theorem meetL_cons {x y : ByteArray} {f g : List ByteArray} : meetL (x :: f) (y :: g) = true ↔ (gtB x = true ∨ gtB y = true ∨ ((x = y ∨ stB x = true ∨ stB y = true) ∧ meetL f g = true)) := by
  rw [meetL]
  simp only [Bool.or_eq_true, Bool.and_eq_true, eqB_iff]
theorem coverL_nil {g : List ByteArray} : coverL [] g = true ↔ g = [] := by cases g <;> simp [coverL]
theorem coverL_none {x : ByteArray} {f : List ByteArray} : coverL (x :: f) [] = false := rfl
theorem meetL_nil {g : List ByteArray} : meetL [] g = true ↔ g = [] := by cases g <;> simp [meetL]
theorem meetL_none {x : ByteArray} {f : List ByteArray} : meetL (x :: f) [] = false := rfl

theorem coverL_trans : ∀ (f g h : List ByteArray), coverL f g = true → coverL g h = true → coverL f h = true
  | [], g, h, a, b => by
    obtain rfl := coverL_nil.1 a
    exact b
  | x :: f, [], h, a, b => by cases a
  | x :: f, y :: g, [], a, b => by cases b
  | x :: f, y :: g, z :: h, a, b => by
    rw [coverL_cons] at a b ⊢
    rcases a with a | ⟨a1, a2, a3⟩
    · exact Or.inl a
    · rcases b with b | ⟨b1, b2, b3⟩
      · rw [a1] at b; cases b
      · refine Or.inr ⟨b1, ?_, coverL_trans f g h a3 b3⟩
        rcases a2 with a2 | rfl
        · exact Or.inl a2
        · exact b2
theorem coverL_meetL : ∀ (f g : List ByteArray), coverL f g = true → meetL f g = true
  | [], g, a => by rw [meetL_nil]; exact coverL_nil.1 a
  | x :: f, [], a => by cases a
  | x :: f, y :: g, a => by
    rw [coverL_cons] at a
    rw [meetL_cons]
    rcases a with a | ⟨_, a2, a3⟩
    · exact Or.inl a
    · refine Or.inr (Or.inr ⟨?_, coverL_meetL f g a3⟩)
      rcases a2 with a2 | rfl
      · exact Or.inr (Or.inl a2)
      · exact Or.inl rfl
theorem meetL_symm : ∀ (f g : List ByteArray), meetL f g = true → meetL g f = true
  | [], g, a => by obtain rfl := meetL_nil.1 a; rfl
  | x :: f, [], a => by cases a
  | x :: f, y :: g, a => by
    rw [meetL_cons] at a ⊢
    rcases a with a | a | ⟨a1, a2⟩
    · exact Or.inr (Or.inl a)
    · exact Or.inl a
    · refine Or.inr (Or.inr ⟨?_, meetL_symm f g a2⟩)
      rcases a1 with rfl | a1 | a1
      · exact Or.inl rfl
      · exact Or.inr (Or.inr a1)
      · exact Or.inr (Or.inl a1)
theorem meetL_comm (f g : List ByteArray) : meetL f g = meetL g f := by
  rw [Bool.eq_iff_iff]
  exact ⟨meetL_symm f g, meetL_symm g f⟩
theorem meetL_of_common : ∀ (f g s : List ByteArray), coverL f s = true → coverL g s = true → meetL f g = true
  | [], g, s, a, b => by
    obtain rfl := coverL_nil.1 a
    cases g with
    | nil => rfl
    | cons => cases b
  | x :: f, g, [], a, b => by cases a
  | x :: f, [], y :: s, a, b => by cases b
  | x :: f, z :: g, y :: s, a, b => by
    rw [coverL_cons] at a b
    rw [meetL_cons]
    rcases a with a | ⟨_, a2, a3⟩
    · exact Or.inl a
    · rcases b with b | ⟨_, b2, b3⟩
      · exact Or.inr (Or.inl b)
      · refine Or.inr (Or.inr ⟨?_, meetL_of_common f g s a3 b3⟩)
        rcases a2 with a2 | rfl
        · exact Or.inr (Or.inl a2)
        · rcases b2 with b2 | rfl
          · exact Or.inr (Or.inr b2)
          · exact Or.inl rfl
theorem meetL_cover : ∀ (f g h : List ByteArray), coverL f g = true → meetL g h = true → meetL f h = true
  | [], g, h, a, b => by
    obtain rfl := coverL_nil.1 a
    exact b
  | x :: f, [], h, a, b => by cases a
  | x :: f, y :: g, [], a, b => by cases b
  | x :: f, y :: g, z :: h, a, b => by
    rw [coverL_cons] at a
    rw [meetL_cons] at b ⊢
    rcases a with a | ⟨a1, a2, a3⟩
    · exact Or.inl a
    · rcases b with b | b | ⟨b1, b2⟩
      · rw [a1] at b; cases b
      · exact Or.inr (Or.inl b)
      · refine Or.inr (Or.inr ⟨?_, meetL_cover f g h a3 b2⟩)
        rcases a2 with a2 | rfl
        · exact Or.inr (Or.inl a2)
        · exact b1
/-- the sign for all that is left stands last, if anywhere -/
def lastOnly : List ByteArray → Prop
  | [] => True
  | x :: l => (gtB x = true → l = []) ∧ lastOnly l
theorem coverL_antisymm : ∀ (f g : List ByteArray), lastOnly f → lastOnly g → coverL f g = true → coverL g f = true → f = g
  | [], g, _, _, a, _ => (coverL_nil.1 a).symm
  | x :: f, [], _, _, a, _ => by cases a
  | x :: f, y :: g, p, q, a, b => by
    rw [coverL_cons] at a b
    rcases a with a | ⟨a1, a2, a3⟩
    · rcases b with b | ⟨b1, _, _⟩
      · obtain rfl := gt_eq a b
        rw [p.1 a, q.1 b]
      · rw [a] at b1; cases b1
    · rcases b with b | ⟨_, b2, b3⟩
      · rw [a1] at b; cases b
      · rw [coverL_antisymm f g p.2 q.2 a3 b3]
        rcases a2 with a2 | rfl
        · rcases b2 with b2 | rfl
          · rw [st_eq a2 b2]
          · rfl
        · rfl
/-- a row without wildcards covers just itself -/
theorem coverL_plain : ∀ (f g : List ByteArray), (∀ t ∈ f, gtB t = false ∧ stB t = false) → (∀ t ∈ g, gtB t = false) → (coverL f g = true ↔ f = g)
  | [], g, _, _ => by rw [coverL_nil]; exact eq_comm
  | x :: f, [], _, _ => by rw [coverL_none]; simp
  | x :: f, y :: g, p, q => by
    rw [coverL_cons]
    obtain ⟨p1, p2⟩ := p x (by simp)
    have ih := coverL_plain f g (fun t ht => p t (by simp [ht])) (fun t ht => q t (by simp [ht]))
    rw [p1, p2, q y (by simp), ih]
    simp

/-- the text out of its pieces -/
def joinD : List (List UInt8) → List UInt8
  | [] => []
  | [p] => p
  | p :: q :: r => p ++ 46 :: joinD (q :: r)
theorem joinD_pcs : ∀ l : List UInt8, joinD (Pl.pcs l) = l
  | [] => rfl
  | c :: r => by
    have ih := joinD_pcs r
    rw [Pl.pcs]
    cases e : Pl.pcs r with
    | nil => exact absurd e (Pl.pcs_ne r)
    | cons p q =>
      rw [e] at ih
      by_cases h : c = 46
      · rw [if_pos h, joinD, ih, h]; rfl
      · rw [if_neg h, List.modifyHead_cons]
        cases q with
        | nil => rw [joinD] at ih ⊢; rw [ih]
        | cons a b => rw [joinD] at ih ⊢; rw [List.cons_append, ih]
theorem toks_inj {s t : ByteArray} (h : Pl.toks s = Pl.toks t) : s = t := by
  have e := congrArg (List.map (·.data.toList)) h
  rw [Pl.toks_data, Pl.toks_data] at e
  have e2 := congrArg joinD e
  rw [joinD_pcs, joinD_pcs] at e2
  exact WideShapes.bytes_inj e2
theorem toks_ne (s : ByteArray) : Pl.toks s ≠ [] := by
  intro h
  have := Pl.toks_length s
  rw [h, Pl.pcs_length] at this
  simp at this

theorem good_of {wild : Bool} {s : ByteArray} (h : errS wild s = 0) : ¬ 8 < (Pl.pcs s.data.toList).length ∧ Pl.goodTo wild (Pl.pcs s.data.toList) (Pl.pcs s.data.toList).length = true := by
  unfold errS Pl.errOf at h
  split at h
  · omega
  · rename_i h8
    split at h
    · rename_i hg; exact ⟨h8, hg⟩
    · omega
theorem tok_of {wild : Bool} {s : ByteArray} (h : errS wild s = 0) {k : Nat} (hk : k < (Pl.toks s).length) : Pl.tokOk wild (decide (k + 1 = (Pl.pcs s.data.toList).length)) (tk (Pl.toks s) k).data.toList = true := by
  have g := (good_of h).2
  simp only [Pl.goodTo, List.all_eq_true, List.mem_range] at g
  have := g k (by rw [← Pl.toks_length]; exact hk)
  rw [Pl.toks_at] at this
  exact this
theorem subject_filter {s : ByteArray} (h : errS false s = 0) : errS true s = 0 := by
  obtain ⟨h8, hg⟩ := good_of h
  refine Pl.errOf_good h8 ?_
  simp only [Pl.goodTo, List.all_eq_true, List.mem_range] at hg ⊢
  intro i hi
  have := hg i hi
  simp only [Pl.tokOk, Bool.false_and, Bool.or_false] at this
  simp [Pl.tokOk, this]
theorem plain_sign {t : ByteArray} (h : isPlainB t = true) : gtB t = false ∧ stB t = false := by
  refine ⟨?_, ?_⟩
  · cases e : gtB t with
    | false => rfl
    | true =>
      unfold gtB at e
      rw [ByteArray.toList_eq] at e
      unfold isPlainB at h
      rw [eq_of_beq e] at h
      revert h
      decide
  · cases e : stB t with
    | false => rfl
    | true =>
      unfold stB at e
      rw [ByteArray.toList_eq] at e
      unfold isPlainB at h
      rw [eq_of_beq e] at h
      revert h
      decide
theorem subject_signs {s : ByteArray} (h : errS false s = 0) : ∀ t ∈ Pl.toks s, gtB t = false ∧ stB t = false := by
  intro t ht
  obtain ⟨k, hk, rfl⟩ := List.mem_iff_getElem.1 ht
  have := tok_of h hk
  simp only [Pl.tokOk, Bool.false_and, Bool.or_false] at this
  have e : tk (Pl.toks s) k = (Pl.toks s)[k] := by simp [tk, List.getElem?_eq_getElem hk]
  rw [e] at this
  exact plain_sign this
theorem lastOnly_of : ∀ (l : List ByteArray), (∀ k, k < l.length → gtB (tk l k) = true → k + 1 = l.length) → lastOnly l
  | [], _ => trivial
  | x :: l, h => by
    refine ⟨fun hx => ?_, lastOnly_of l (fun k hk hg => ?_)⟩
    · have := h 0 (by simp) (by simpa [tk] using hx)
      simpa using this
    · have := h (k + 1) (by simpa using hk) (by simpa [tk] using hg)
      simpa using this
theorem filter_last {s : ByteArray} (h : errS true s = 0) : lastOnly (Pl.toks s) := by
  refine lastOnly_of _ fun k hk hg => ?_
  have := tok_of h hk
  rw [← Pl.toks_length] at this
  unfold Pl.tokOk at this
  have hp : isPlainB (tk (Pl.toks s) k) = false := by
    cases e : isPlainB (tk (Pl.toks s) k) with
    | false => rfl
    | true => rw [(plain_sign e).1] at hg; cases hg
  unfold isPlainB at hp
  have hs : ((tk (Pl.toks s) k).data.toList == [42]) = false := by
    unfold gtB at hg
    rw [ByteArray.toList_eq] at hg
    rw [eq_of_beq hg]
    decide
  rw [hp, hs] at this
  simp at this
  exact this.2

theorem coversB_self {s : ByteArray} (h : errS true s = 0) : coversB s s = true := by
  unfold coversB; rw [h, coverL_self]; rfl
theorem overlapB_self {s : ByteArray} (h : errS true s = 0) : overlapB s s = true := by
  unfold overlapB; rw [h, meetL_self]; rfl
theorem gt_text : errS true ⟨#[62]⟩ = 0 ∧ Pl.toks ⟨#[62]⟩ = [⟨#[62]⟩] := by decide +kernel
theorem coversB_all {s : ByteArray} (h : errS true s = 0) : coversB ⟨#[62]⟩ s = true := by
  unfold coversB; rw [h, gt_text.1, gt_text.2, coverL_gt (by decide +kernel) (toks_ne s)]; rfl
theorem coversB_none {s : ByteArray} (h : (errS true s == 0) = false) : coversB s s = false := by
  unfold coversB; rw [h]; rfl
theorem matchB_self {s : ByteArray} (h : errS false s = 0) : matchB s s = true := by
  unfold matchB; rw [h, subject_filter h, coverL_self]; rfl
theorem matchB_subjects {s t : ByteArray} (h : errS false s = 0) (g : errS false t = 0) : matchB s t = (s.toList == t.toList) := by
  have e : matchB s t = coverL (Pl.toks s) (Pl.toks t) := by unfold matchB; rw [subject_filter h, g]; rfl
  rw [e, Bool.eq_iff_iff, coverL_plain _ _ (subject_signs h) (fun x hx => (subject_signs g x hx).1)]
  refine ⟨fun he => ?_, fun he => ?_⟩
  · rw [toks_inj he]; simp
  · rw [eqB_iff.1 he]
theorem match_overlap {f g s : ByteArray} (a : matchB f s = true) (b : matchB g s = true) : overlapB f g = true := by
  unfold matchB at a b
  simp only [Bool.and_eq_true] at a b
  unfold overlapB
  rw [a.1.1, b.1.1, meetL_of_common _ _ _ a.2 b.2]; rfl
theorem overlap_comm (f g : ByteArray) : overlapB f g = overlapB g f := by
  unfold overlapB
  rw [meetL_comm, Bool.and_comm (errS true f == 0)]
theorem covers_match {f g s : ByteArray} (a : coversB f g = true) (b : matchB g s = true) : matchB f s = true := by
  unfold coversB at a
  unfold matchB at b ⊢
  simp only [Bool.and_eq_true] at a b
  rw [a.1.1, b.1.2, coverL_trans _ _ _ a.2 b.2]; rfl
theorem covers_overlap {f g : ByteArray} (a : coversB f g = true) : overlapB f g = true := by
  unfold coversB at a
  unfold overlapB
  simp only [Bool.and_eq_true] at a
  rw [a.1.1, a.1.2, coverL_meetL _ _ a.2]; rfl
theorem covers_trans {f g h : ByteArray} (a : coversB f g = true) (b : coversB g h = true) : coversB f h = true := by
  unfold coversB at a b ⊢
  simp only [Bool.and_eq_true] at a b
  rw [a.1.1, b.1.2, coverL_trans _ _ _ a.2 b.2]; rfl
theorem covers_meet {f g h : ByteArray} (a : coversB f g = true) (b : overlapB g h = true) : overlapB f h = true := by
  unfold coversB at a
  unfold overlapB at b ⊢
  simp only [Bool.and_eq_true] at a b
  rw [a.1.1, b.1.2, meetL_cover _ _ _ a.2 b.2]; rfl
theorem covers_both {f g : ByteArray} (a : coversB f g = true) (b : coversB g f = true) : (f.toList == g.toList) = true := by
  unfold coversB at a b
  simp only [Bool.and_eq_true] at a b
  have h1 : errS true f = 0 := by simpa using a.1.1
  have h2 : errS true g = 0 := by simpa using a.1.2
  rw [toks_inj (coverL_antisymm _ _ (filter_last h1) (filter_last h2) a.2 b.2)]
  simp
theorem takes_cover2 : ∀ (f s : List ByteArray), (∀ t ∈ s, gtB t = false) → takesL f s = coverL f s
  | [], _, _ => rfl
  | _ :: _, [], _ => rfl
  | f :: fs, s :: ss, h => by
    rw [takesL, coverL, takes_cover2 fs ss (fun t ht => h t (by simp [ht])), h s (by simp)]
    simp
theorem takes_match {f s : ByteArray} (hf : errS true f = 0) (hs : errS false s = 0) : takesL (Pl.toks f) (Pl.toks s) = matchB f s := by
  rw [takes_cover2 _ _ (fun t ht => (subject_signs hs t ht).1)]
  unfold matchB
  rw [hf, hs]
  simp
end Go.Proofs.YtmccpkpeimejhahGreatDoor

namespace Go.Proofs.YtmccpkpeimejhahGreatDoor.Pn
open Go

/-- the words of a plan's numbers; the most that each may be -/
def words8 : List (List UInt8) := [[109, 115, 103, 115], [98, 121, 116, 101, 115], [97, 103, 101], [112, 101, 114], [115, 105, 122, 101], [100, 105, 115, 99, 97, 114, 100], [107, 101, 101, 112], [119, 105, 110, 100, 111, 119]]
def most8 : List Int := [200, 65536, 100000, 200, 256, 1, 2, 100000]
/-- a plan: its name, its filters, its eight numbers -/
structure Pln where
  n : ByteArray
  f : List ByteArray
  v : List Int
def nameB (c : UInt8) : Bool := (decide (97 ≤ c.toNat) && decide (c.toNat ≤ 122)) || ((decide (48 ≤ c.toNat) && decide (c.toNat ≤ 57)) || decide (c.toNat = 45))
def namedB (s : ByteArray) : Bool := s.data.toList.all nameB && (decide (1 ≤ s.size) && decide (s.size ≤ 16))
/-- the error of the first filter that has one; 0: none -/
def filtE : List ByteArray → Int
  | [] => 0
  | f :: r => if errS true f = 0 then filtE r else errS true f
/-- do two of them overlap? -/
def laps : List ByteArray → Bool
  | [] => false
  | f :: r => r.any (fun g => meetL (Pl.toks f) (Pl.toks g)) || laps r
def inAll : List Int → List Int → Bool
  | [], [] => true
  | x :: v, m :: ms => (decide (0 ≤ x) && decide (x ≤ m)) && inAll v ms
  | _, _ => false
def planE (p : Pln) : Int := if namedB p.n = false then 3 else if 4 < p.f.length then 2 else if p.f.length = 0 then 1 else if filtE p.f ≠ 0 then filtE p.f else if laps p.f = true then 10 else if inAll p.v most8 = true then 0 else 1
theorem plan_ok {p : Pln} (h : planE p = 0) : namedB p.n = true ∧ p.f.length ≤ 4 ∧ p.f.length ≠ 0 ∧ filtE p.f = 0 ∧ laps p.f = false ∧ inAll p.v most8 = true := by
  unfold planE at h
  by_cases h1 : namedB p.n = false
  · rw [if_pos h1] at h; cases h
  · rw [if_neg h1] at h
    by_cases h2 : 4 < p.f.length
    · rw [if_pos h2] at h; cases h
    · rw [if_neg h2] at h
      by_cases h3 : p.f.length = 0
      · rw [if_pos h3] at h; cases h
      · rw [if_neg h3] at h
        by_cases h4 : filtE p.f ≠ 0
        · rw [if_pos h4] at h; exact absurd h h4
        · rw [if_neg h4] at h
          by_cases h5 : laps p.f = true
          · rw [if_pos h5] at h; cases h
          · rw [if_neg h5] at h
            by_cases h6 : inAll p.v most8 = true
            · exact ⟨by simpa using h1, by omega, h3, Classical.not_not.1 h4, by simpa using h5, h6⟩
            · rw [if_neg h6] at h; cases h
theorem filtE_all : ∀ {l : List ByteArray}, filtE l = 0 → ∀ f ∈ l, errS true f = 0
  | [], _, f, hf => by cases hf
  | g :: r, h, f, hf => by
    unfold filtE at h
    by_cases e : errS true g = 0
    · rw [if_pos e] at h
      rcases List.mem_cons.1 hf with y | y
      · rw [y]; exact e
      · exact filtE_all h f y
    · rw [if_neg e] at h; exact absurd h e
/-- the words of the numbers that aren't 0 -/
def wordsT : List (List UInt8) → List Int → List (List UInt8)
  | w :: ws, x :: v => if x = 0 then wordsT ws v else (w ++ 61 :: Lib.itoa x) :: wordsT ws v
  | _, _ => []
def textL (p : Pln) : List (List UInt8) := p.n.data.toList :: glue 44 (p.f.map (·.data.toList)) :: wordsT words8 p.v
/-- Print: the text; has a filter a comma? -/
def planT (p : Pln) : ByteArray := ⟨(glue 32 (textL p)).toArray⟩
def commas (p : Pln) : Bool := p.f.any (fun f => f.data.toList.contains 44)
/-- the words that are read: of each word in its turn the number, or 0 -/
def rdN : List (List UInt8) → List (List UInt8) → Option (List Int)
  | [], [] => some []
  | [], _ :: _ => none
  | _ :: ws, [] => (rdN ws []).map (fun v => 0 :: v)
  | w :: ws, t :: ts => if (w ++ [61]).isPrefixOf t = true then (if digV (t.drop (w.length + 1)) < 1 then none else (rdN ws ts).map (fun v => digV (t.drop (w.length + 1)) :: v)) else (rdN ws (t :: ts)).map (fun v => 0 :: v)
def zeroP : Pln := ⟨⟨#[]⟩, [], [0, 0, 0, 0, 0, 0, 0, 0]⟩
def bs (l : List UInt8) : ByteArray := ⟨l.toArray⟩
/-- Parse -/
def readP (s : ByteArray) : Pln × Int := if 1024 < s.size then (zeroP, 2) else match cut 32 s.data.toList with
  | n :: f :: ts => match rdN words8 ts with
    | some v => if planE ⟨bs n, (cut 44 f).map bs, v⟩ = 0 then (⟨bs n, (cut 44 f).map bs, v⟩, 0) else (zeroP, planE ⟨bs n, (cut 44 f).map bs, v⟩)
    | none => (zeroP, 3)
  | _ => (zeroP, 3)

theorem prefix_word {a b d : List UInt8} (ha : (61 : UInt8) ∉ a) (hb : (61 : UInt8) ∉ b) (h : (a ++ [61]).isPrefixOf (b ++ 61 :: d) = true) : a = b := by
  induction a generalizing b with
  | nil =>
    cases b with
    | nil => rfl
    | cons x b =>
      simp [List.isPrefixOf] at h
      exact absurd (by rw [← h]; exact List.mem_cons_self ..) hb
  | cons y a ih =>
    cases b with
    | nil =>
      simp [List.isPrefixOf] at h
      exact absurd (by rw [h.1]; exact List.mem_cons_self ..) ha
    | cons x b =>
      simp only [List.cons_append, List.isPrefixOf, Bool.and_eq_true, beq_iff_eq] at h
      rw [h.1, ih (fun z => ha (List.mem_cons_of_mem _ z)) (fun z => hb (List.mem_cons_of_mem _ z)) h.2]
theorem prefix_self (w d : List UInt8) : (w ++ [61]).isPrefixOf (w ++ 61 :: d) = true ∧ (w ++ 61 :: d).drop (w.length + 1) = d := by
  constructor
  · rw [List.isPrefixOf_iff_prefix]
    exact ⟨d, by simp⟩
  · rw [List.drop_append, List.drop_of_length_le (by omega), show w.length + 1 - w.length = 1 by omega]
    rfl
theorem wordsT_head : ∀ (ws : List (List UInt8)) (v : List Int) {t : List UInt8} {ts : List (List UInt8)}, wordsT ws v = t :: ts → ∃ u ∈ ws, ∃ d, t = u ++ 61 :: d
  | [], _, t, ts, h => by simp [wordsT] at h
  | w :: ws, [], t, ts, h => by simp [wordsT] at h
  | w :: ws, x :: v, t, ts, h => by
    by_cases e : x = 0
    · rw [wordsT, if_pos e] at h
      obtain ⟨u, hu, d, hd⟩ := wordsT_head ws v h
      exact ⟨u, List.mem_cons_of_mem _ hu, d, hd⟩
    · rw [wordsT, if_neg e] at h
      exact ⟨w, List.mem_cons_self .., Lib.itoa x, (List.cons.inj h).1.symm⟩
/-- what is printed is read -/
theorem rdN_back : ∀ (ws : List (List UInt8)) (v : List Int), ws.Nodup → (∀ w ∈ ws, (61 : UInt8) ∉ w) → v.length = ws.length → (∀ x ∈ v, 0 ≤ x ∧ x < 1000000000) → rdN ws (wordsT ws v) = some v
  | [], [], _, _, _, _ => rfl
  | [], _ :: _, _, _, h, _ => by simp at h
  | w :: ws, [], _, _, h, _ => by simp at h
  | w :: ws, x :: v, hn, hw, hl, hx => by
    have hn' := List.nodup_cons.1 hn
    have ih := rdN_back ws v hn'.2 (fun u hu => hw u (List.mem_cons_of_mem _ hu)) (by simpa using hl) (fun y hy => hx y (List.mem_cons_of_mem _ hy))
    by_cases e : x = 0
    · have e1 : wordsT (w :: ws) (x :: v) = wordsT ws v := by rw [wordsT, if_pos e]
      rw [e1]
      cases ht : wordsT ws v with
      | nil => rw [ht] at ih; rw [rdN, ih, e]; rfl
      | cons t ts =>
        have hm : ∃ u ∈ ws, ∃ d, t = u ++ 61 :: d := wordsT_head ws v ht
        obtain ⟨u, hu, d, rfl⟩ := hm
        rw [ht] at ih
        have hp : ¬ (w ++ [61]).isPrefixOf (u ++ 61 :: d) = true := fun z => by
          have := prefix_word (hw w (List.mem_cons_self ..)) (hw u (List.mem_cons_of_mem _ hu)) z
          rw [this] at hn'
          exact hn'.1 hu
        rw [rdN, if_neg hp, ih, e]; rfl
    · have e1 : wordsT (w :: ws) (x :: v) = (w ++ 61 :: Lib.itoa x) :: wordsT ws v := by rw [wordsT, if_neg e]
      have hx0 := hx x (List.mem_cons_self ..)
      obtain ⟨u, rfl⟩ : ∃ u : Nat, x = (u : Int) := ⟨x.toNat, by omega⟩
      have hi : Lib.itoa (u : Int) = Lib.decDigits u := by unfold Lib.itoa; rw [if_neg (by omega)]; simp
      obtain ⟨p1, p2⟩ := prefix_self w (Lib.itoa (u : Int))
      have hd : digV (Lib.itoa (u : Int)) = (u : Int) := by rw [hi]; exact digV_dec (by omega) (by omega)
      rw [e1, rdN, if_pos p1, p2, hd, if_neg (by omega), ih]
      rfl
/-- what is read is printed as it stood -/
theorem rdN_one : ∀ (ws ts : List (List UInt8)) {v : List Int}, rdN ws ts = some v → wordsT ws v = ts ∧ v.length = ws.length ∧ ∀ x ∈ v, 0 ≤ x ∧ x < 1000000000
  | [], [], v, h => by
    simp [rdN] at h
    subst h
    exact ⟨rfl, rfl, fun x hx => by cases hx⟩
  | [], _ :: _, v, h => by simp [rdN] at h
  | w :: ws, [], v, h => by
    rw [rdN] at h
    cases hr : rdN ws [] with
    | none => rw [hr] at h; simp at h
    | some u =>
      rw [hr] at h
      simp at h
      subst h
      obtain ⟨h1, h2, h3⟩ := rdN_one ws [] hr
      refine ⟨by rw [wordsT, if_pos rfl]; exact h1, by simp [h2], fun x hx => ?_⟩
      rcases List.mem_cons.1 hx with y | y
      · omega
      · exact h3 x y
  | w :: ws, t :: ts, v, h => by
    rw [rdN] at h
    by_cases hp : (w ++ [61]).isPrefixOf t = true
    · rw [if_pos hp] at h
      by_cases hd : digV (t.drop (w.length + 1)) < 1
      · rw [if_pos hd] at h; cases h
      · rw [if_neg hd] at h
        cases hr : rdN ws ts with
        | none => rw [hr] at h; simp at h
        | some u =>
          rw [hr] at h
          simp at h
          subst h
          obtain ⟨h1, h2, h3⟩ := rdN_one ws ts hr
          obtain ⟨b1, b2⟩ := digV_back (l := t.drop (w.length + 1)) (by omega)
          obtain ⟨d, hd2⟩ := List.isPrefixOf_iff_prefix.1 hp
          have e : t.drop (w.length + 1) = d := by rw [← hd2, List.append_assoc]; exact (prefix_self w d).2
          refine ⟨?_, by simp [h2], fun x hx => ?_⟩
          · rw [wordsT, if_neg (by omega), b1, h1, e, ← hd2]
            simp
          · rcases List.mem_cons.1 hx with y | y
            · omega
            · exact h3 x y
    · rw [if_neg hp] at h
      cases hr : rdN ws (t :: ts) with
      | none => rw [hr] at h; simp at h
      | some u =>
        rw [hr] at h
        simp at h
        subst h
        obtain ⟨h1, h2, h3⟩ := rdN_one ws (t :: ts) hr
        refine ⟨by rw [wordsT, if_pos rfl]; exact h1, by simp [h2], fun x hx => ?_⟩
        rcases List.mem_cons.1 hx with y | y
        · omega
        · exact h3 x y
end Go.Proofs.YtmccpkpeimejhahGreatDoor.Pn

namespace Go.Proofs.YtmccpkpeimejhahGreatDoor
open Go.RowKit

theorem take_byte (s : ByteArray) (k : Nat) (h : k < s.size) : s.data.toList.take (k + 1) = s.data.toList.take k ++ [s[k]] := by
  rw [List.take_succ_eq_append_getElem (by simpa using h)]; rfl
/-- are the first k bytes all right for a name? -/
def namedTo (s : ByteArray) (k : Nat) : Bool := (s.data.toList.take k).all Pn.nameB
theorem namedTo_succ {s : ByteArray} {k : Nat} (h : k < s.size) : namedTo s (k + 1) = (namedTo s k && Pn.nameB s[k]) := by
  unfold namedTo
  rw [take_byte s k h, List.all_append]
  simp
theorem named_bad {s : ByteArray} {k : Nat} (h : k < s.size) (hb : Pn.nameB s[k] = false) : Pn.namedB s = false := by
  unfold Pn.namedB
  have : s.data.toList.all Pn.nameB = false := by
    rw [List.all_eq_false]
    exact ⟨s[k], by
      have : s.data.toList[k]'(by simpa using h) ∈ s.data.toList := List.getElem_mem _
      exact this, by simp [hb]⟩
  rw [this]; rfl
theorem named_ok {s : ByteArray} (h : namedTo s s.size = true) : Pn.namedB s = (decide (1 ≤ s.size) && decide (s.size ≤ 16)) := by
  unfold namedTo at h
  rw [List.take_of_length_le (by simp)] at h
  unfold Pn.namedB
  rw [h, Bool.true_and]
end Go.Proofs.YtmccpkpeimejhahGreatDoor

namespace Go.Proofs.YtmccpkpeimejhahGreatDoor.Dk
open Go.RowKit

/-- a file of the document's disk -/
structure Pap where
  n : Int
  sure : Int
  text : ByteArray
def pa (l : List Pap) (k : Nat) : Pap := l[k]?.getD ⟨0, 0, ByteArray.empty⟩
theorem pa_get {l : List Pap} {k : Nat} (h : k < l.length) : pa l k = l[k] := by unfold pa; rw [List.getElem?_eq_getElem h]; rfl
theorem pa_mem {l : List Pap} {k : Nat} (h : k < l.length) : pa l k ∈ l := by rw [pa_get h]; exact List.getElem_mem h
theorem pa_zero (e : Pap) (r : List Pap) : pa (e :: r) 0 = e := rfl
theorem pa_succ (e : Pap) (r : List Pap) (k : Nat) : pa (e :: r) (k + 1) = pa r k := rfl
/-- which blocks may have been written; new ones may be there -/
structure Chg (A : Nat → Prop) (w w' : World) : Prop where
  os : w'.os = w.os
  tape : w'.tape = w.tape
  output : w'.output = w.output
  size : w.heap.size ≤ w'.heap.size
  block : ∀ k, k < w.heap.size → ¬ A k → w'.heap[k]? = w.heap[k]?
theorem Chg.refl (A : Nat → Prop) (w : World) : Chg A w w := ⟨rfl, rfl, rfl, Nat.le_refl _, fun _ _ _ => rfl⟩
theorem Chg.trans {A : Nat → Prop} {a b c : World} (h : Chg A a b) (k : Chg A b c) : Chg A a c :=
  ⟨k.os.trans h.os, k.tape.trans h.tape, k.output.trans h.output, Nat.le_trans h.size k.size, fun i hi hn => (k.block i (by have := h.size; omega) hn).trans (h.block i hi hn)⟩
theorem Chg.mono {A A' : Nat → Prop} {a b : World} (h : Chg A a b) (hA : ∀ k, k < a.heap.size → A k → A' k) : Chg A' a b :=
  ⟨h.os, h.tape, h.output, h.size, fun k hk hn => h.block k hk (fun q => hn (hA k hk q))⟩
theorem Chg.of_below {A : Nat → Prop} {w w' : World} (h : Below w.heap.size w w') : Chg A w w' := ⟨h.os, h.tape, h.output, h.size, fun k hk _ => h.block k hk⟩
theorem Chg.of_grown {w w' : World} {row : Option Nat} (h : w.grownBy w' row) : Chg (fun k => row = some k) w w' := ⟨h.os, h.tape, h.output, h.size, fun k hk hn => h.block k hk (fun e => hn e.symm)⟩
theorem Chg.setCell {A : Nat → Prop} {a w : World} (h : Chg A a w) {p : Addr} (hp : A p.block ∨ a.heap.size ≤ p.block) (u : Value) : Chg A a (w.setCell p u) := by
  refine ⟨h.os, h.tape, h.output, by simpa [World.setCell] using h.size, fun k hk hn => ?_⟩
  rw [Below.heap_setCell _ _ _ _ (fun e => by subst e; rcases hp with q | q; exact hn q; omega)]
  exact h.block k hk hn
theorem Chg.below {A : Nat → Prop} {B : Nat} {w w' : World} (h : Chg A w w') (hB : B ≤ w.heap.size) (hA : ∀ k, k < B → ¬ A k) : Below B w w' := ⟨h.os, h.tape, h.output, h.size, fun k hk => h.block k (by omega) (hA k hk)⟩
theorem Chg.cell {A : Nat → Prop} {w w' : World} (h : Chg A w w') {p : Addr} (hp : p.block < w.heap.size) (hn : ¬ A p.block) : w'.cell? p = w.cell? p := World.cell?_of_block (w := w) (h.block p.block hp hn)
theorem Chg.frozen {A : Nat → Prop} {w w' : World} (h : Chg A w w') {p : Addr} (hp : p.block < w.heap.size) (hn : ¬ A p.block) : w'.frozen? p = w.frozen? p := World.frozen?_of_block (w := w) (h.block p.block hp hn)
def insL (es : List Pap) (i : Nat) (x : Pap) : List Pap := es.take i ++ x :: es.drop i
theorem insL_length {es : List Pap} {i : Nat} {x : Pap} (h : i ≤ es.length) : (insL es i x).length = es.length + 1 := by
  unfold insL; rw [List.length_append, List.length_cons, List.length_take, List.length_drop]; omega
/-- where a file is: behind all, if it isn't -/
def ix (es : List Pap) (n : Int) : Nat := es.findIdx (fun p => p.n == n)
theorem ix_le (es : List Pap) (n : Int) : ix es n ≤ es.length := List.findIdx_le_length
theorem ix_hit {es : List Pap} {n : Int} {i : Nat} (h : i < es.length) (hi : (pa es i).n = n) (hlo : ∀ k, k < i → ((pa es k).n == n) = false) : ix es n = i := by
  unfold ix
  rw [List.findIdx_eq h]
  refine ⟨by rw [← pa_get h]; simp [hi], fun j hj => ?_⟩
  have := hlo j hj
  rw [pa_get (by omega)] at this
  exact this
theorem ix_none {es : List Pap} {n : Int} (h : ∀ k, k < es.length → ((pa es k).n == n) = false) : ix es n = es.length := by
  unfold ix
  rw [List.findIdx_eq_length]
  intro x hx
  obtain ⟨k, hk, rfl⟩ := List.mem_iff_getElem.1 hx
  have := h k hk
  rw [pa_get hk] at this
  exact this
theorem ix_at {es : List Pap} {n : Int} (h : ix es n < es.length) : (pa es (ix es n)).n = n := by
  rw [pa_get h]
  have := List.findIdx_getElem (w := h)
  exact eq_of_beq this
def atI (es : List Pap) (n : Int) : Int := if ix es n < es.length then (ix es n : Int) else -1
theorem ret_eq {k : IntKind} {a b : Int} (h : b = a) : Ending.returned (.int k a) = .returned (.int k b) := by rw [h]
/-- the bytes of all files -/
def used : List Pap → Nat
  | [] => 0
  | e :: r => e.text.size + used r
theorem used_append (a b : List Pap) : used (a ++ b) = used a + used b := by
  induction a with
  | nil => simp [used]
  | cons e r ih => rw [List.cons_append, used, used, ih]; omega
theorem used_take {es : List Pap} {k : Nat} (h : k < es.length) : used (es.take (k + 1)) = used (es.take k) + (pa es k).text.size := by
  rw [List.take_succ_eq_append_getElem h, used_append, ← pa_get h]
  simp [used]
theorem used_le (es : List Pap) (k : Nat) : used (es.take k) ≤ used es := by
  have := used_append (es.take k) (es.drop k)
  rw [List.take_append_drop] at this
  omega
theorem atI_there {es : List Pap} {n : Int} (h : ix es n < es.length) : atI es n = (ix es n : Int) := by unfold atI; rw [if_pos h]
theorem atI_none {es : List Pap} {n : Int} (h : ¬ ix es n < es.length) : atI es n = -1 := by unfold atI; rw [if_neg h]
/-- what a reading answers -/
def readV (es : List Pap) (n : Int) : Value := if ix es n < es.length then .tuple #[.string (pa es (ix es n)).text, .int .i64 0] else .tuple #[.string ⟨#[]⟩, .int .i64 4]
/-- Sync -/
def syncL (es : List Pap) (n : Int) : List Pap := if ix es n < es.length then es.set (ix es n) { pa es (ix es n) with sure := ((pa es (ix es n)).text.size : Int) } else es
def hasE (es : List Pap) (n : Int) : Int := if ix es n < es.length then 0 else 4
def inI (n lo hi : Int) : Bool := decide (lo ≤ n) && decide (n ≤ hi)
/-- Cut -/
def cutP (e : Pap) (k : Nat) : Pap := ⟨e.n, (k : Int), e.text.extract 0 k⟩
def cutOk (es : List Pap) (n size : Int) : Bool := inI size 0 ((pa es (ix es n)).text.size : Int)
def cutL (es : List Pap) (n size : Int) : List Pap := if ix es n < es.length then (if cutOk es n size then es.set (ix es n) (cutP (pa es (ix es n)) size.toNat) else es) else es
def cutE (es : List Pap) (n size : Int) : Int := if ix es n < es.length then (if cutOk es n size then 0 else 1) else 4
def numL (es : List Pap) : List Int := es.map (·.n)
theorem numL_take {es : List Pap} {k : Nat} (h : k < es.length) : numL (es.take (k + 1)) = numL (es.take k) ++ [(pa es k).n] := by
  unfold numL
  rw [List.take_succ_eq_append_getElem h, List.map_append, ← pa_get h]
  rfl
theorem numL_len {es : List Pap} {k : Nat} (h : k ≤ es.length) : (numL (es.take k)).length = k := by
  unfold numL
  rw [List.length_map, List.length_take]
  omega
/-- how many numbers are below n at the front -/
def low (es : List Pap) (n : Int) : Nat := es.findIdx (fun p => !decide (p.n < n))
theorem low_le (es : List Pap) (n : Int) : low es n ≤ es.length := List.findIdx_le_length
theorem low_lt {es : List Pap} {n : Int} {k : Nat} (h : k < low es n) : (pa es k).n < n := by
  have hk : k < es.length := Nat.lt_of_lt_of_le h (low_le es n)
  have := List.not_of_lt_findIdx h
  rw [pa_get hk]
  simpa using this
theorem low_at {es : List Pap} {n : Int} (h : low es n < es.length) : ¬ (pa es (low es n)).n < n := by
  rw [pa_get h]
  have := List.findIdx_getElem (w := h)
  simp only [Bool.not_eq_true', decide_eq_false_iff_not] at this
  exact this
/-- Append -/
def addP (e : Pap) (s : ByteArray) : Pap := { e with text := e.text ++ s }
def full (es : List Pap) (m n : Int) (s : ByteArray) : Bool := decide (m < (s.size : Int) + (used es : Int)) || (!decide (ix es n < es.length) && decide (es.length = 20))
def appE (es : List Pap) (m n : Int) (s : ByteArray) : Int := if inI n 0 1099511627776 = false then 1 else if full es m n s then 8 else 0
def appL (es : List Pap) (m n : Int) (s : ByteArray) : List Pap :=
  if inI n 0 1099511627776 = false then es else if full es m n s then es
  else if ix es n < es.length then es.set (ix es n) (addP (pa es (ix es n)) s) else insL es (low es n) ⟨n, 0, s⟩
theorem app_bad {es : List Pap} {m n : Int} {s : ByteArray} (h : inI n 0 1099511627776 = false) : appE es m n s = 1 ∧ appL es m n s = es := by
  unfold appE appL; rw [if_pos h, if_pos h]; exact ⟨rfl, rfl⟩
theorem app_full {es : List Pap} {m n : Int} {s : ByteArray} (h : inI n 0 1099511627776 = true) (hf : full es m n s = true) : appE es m n s = 8 ∧ appL es m n s = es := by
  unfold appE appL; constructor <;> simp [h, hf]
theorem app_old {es : List Pap} {m n : Int} {s : ByteArray} (h : inI n 0 1099511627776 = true) (hf : full es m n s = false) (hi : ix es n < es.length) : appE es m n s = 0 ∧ appL es m n s = es.set (ix es n) (addP (pa es (ix es n)) s) := by
  unfold appE appL; constructor <;> simp [h, hf, hi]
theorem app_new {es : List Pap} {m n : Int} {s : ByteArray} (h : inI n 0 1099511627776 = true) (hf : full es m n s = false) (hi : ¬ ix es n < es.length) : appE es m n s = 0 ∧ appL es m n s = insL es (low es n) ⟨n, 0, s⟩ := by
  unfold appE appL; constructor <;> simp [h, hf, hi]
theorem full_not {es : List Pap} {m n : Int} {s : ByteArray} (h : full es m n s = false) (hh : ¬ ix es n < es.length) : ¬ m < (s.size : Int) + (used es : Int) ∧ es.length ≠ 20 := by
  unfold full at h
  rw [decide_eq_false hh] at h
  simpa using h
theorem Chg.more {A A' : Nat → Prop} {a b c : World} (h : Chg A a b) (k : Chg A' b c) (hA : ∀ i, i < a.heap.size → A' i → A i) : Chg A a c :=
  ⟨k.os.trans h.os, k.tape.trans h.tape, k.output.trans h.output, Nat.le_trans h.size k.size, fun i hi hn => (k.block i (by have := h.size; omega) (fun q => hn (hA i hi q))).trans (h.block i hi hn)⟩
theorem insL_at {es : List Pap} {k : Nat} (h : k ≤ es.length) (x : Pap) : pa (insL es k x) k = x := by
  unfold pa insL
  have hl : (es.take k).length = k := by rw [List.length_take]; omega
  rw [List.getElem?_append_right (by omega), hl, Nat.sub_self]
  simp
theorem insL_set {es : List Pap} {k : Nat} (h : k ≤ es.length) (x y : Pap) : (insL es k x).set k y = insL es k y := by
  unfold insL
  have hl : (es.take k).length = k := by rw [List.length_take]; omega
  rw [List.set_append_right _ _ (by omega), hl, Nat.sub_self]
  simp
theorem new_text {L : List Pap} {k : Nat} {n : Int} {s : ByteArray} (h : pa L k = ⟨n, 0, ByteArray.empty⟩) : ({ pa L k with text := (pa L k).text ++ s } : Pap) = ⟨n, 0, s⟩ := by rw [h]; simp
/-- Remove -/
def remL (es : List Pap) (n : Int) : List Pap := if ix es n < es.length then es.take (ix es n) ++ es.drop (ix es n + 1) else es
/-- where a text is cut by a stop -/
def stopAt (e : Pap) (keep : Int) : Nat := min e.text.size (e.sure.toNat + keep.toNat)
/-- a file behind a stop -/
def stopP (keep : Int) (e : Pap) : Pap := ⟨e.n, (stopAt e keep : Int), e.text.extract 0 (stopAt e keep)⟩
/-- what a stop needs of a file -/
def Sound (e : Pap) : Prop := 0 ≤ e.sure ∧ e.sure ≤ (e.text.size : Int) ∧ e.text.size ≤ 1000000
theorem stop_le (e : Pap) (keep : Int) : stopAt e keep ≤ e.text.size := Nat.min_le_left _ _
theorem ext_size (t : ByteArray) (c : Nat) (h : c ≤ t.size) : (t.extract 0 c).size = c := by simp; omega
def nth (l : List Int) (k : Nat) : Int := l[k]?.getD 0
/-- the numbers that a slice shows -/
def SlI (w : World) (a : Option Addr) (l : List Int) : Prop := ∀ k, k < l.length → ∃ b o, a = some ⟨b, o, none⟩ ∧ b < w.heap.size ∧ w.cell? ⟨b, o + k, none⟩ = some (.int .i64 (nth l k))
theorem SlI.below {w w' : World} {a : Option Addr} {l : List Int} (h : SlI w a l) (hb : Below w.heap.size w w') : SlI w' a l := by
  intro k hk
  obtain ⟨b, o, h1, h2, h3⟩ := h k hk
  exact ⟨b, o, h1, by have := hb.size; omega, by rw [hb.cell (p := ⟨b, o + k, none⟩) h2]; exact h3⟩
end Go.Proofs.YtmccpkpeimejhahGreatDoor.Dk
