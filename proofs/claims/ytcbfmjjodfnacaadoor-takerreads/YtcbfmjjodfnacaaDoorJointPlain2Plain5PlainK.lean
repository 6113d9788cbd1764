/-
  Plain facts on rows of tokens: what covers, what meets, what takes.
  What Match, Overlap and Covers answer, pure.
  Plain laws of rows of tokens: a row covers itself, what covers a cover covers, what covers both ways is one; what takes in common meets. No walk.
-/
import Derived.Test.YtcbfmjjodfnacaaDoorWalk2
namespace Go.Proofs.YtcbfmjjodfnacaaDoor
open Go.RowKit

def gtB (t : ByteArray) : Bool := t.toList == [62]
def stB (t : ByteArray) : Bool := t.toList == [42]
def eqB (a b : ByteArray) : Bool := a.toList == b.toList
def coverL : List ByteArray → List ByteArray → Bool
  | [], g => g.isEmpty
  | _ :: _, [] => false
  | f :: fs, g :: gs => gtB f || (!gtB g && ((stB f || eqB f g) && coverL fs gs))
def meetL : List ByteArray → List ByteArray → Bool
  | [], g => g.isEmpty
  | _ :: _, [] => false
  | f :: fs, g :: gs => gtB f || (gtB g || ((eqB f g || (stB f || stB g)) && meetL fs gs))
def takesL : List ByteArray → List ByteArray → Bool
  | [], s => s.isEmpty
  | _ :: _, [] => false
  | f :: fs, s :: ss => gtB f || ((stB f || eqB f s) && takesL fs ss)

theorem drop_tk {l : List ByteArray} {k : Nat} (h : k < l.length) : l.drop k = tk l k :: l.drop (k + 1) := by
  rw [List.drop_eq_getElem_cons h]
  simp [tk, List.getElem?_eq_getElem h]
theorem cover_step {f g : List ByteArray} {k : Nat} (hf : k < f.length) (hg : k < g.length) : coverL (f.drop k) (g.drop k) = (gtB (tk f k) || (!gtB (tk g k) && ((stB (tk f k) || eqB (tk f k) (tk g k)) && coverL (f.drop (k + 1)) (g.drop (k + 1))))) := by
  rw [drop_tk hf, drop_tk hg, coverL]
theorem cover_end {f g : List ByteArray} {k : Nat} (h : k ≤ f.length) (h2 : k ≤ g.length) (he : k = f.length ∨ k = g.length) : coverL (f.drop k) (g.drop k) = decide (f.length = g.length) := by
  rw [Bool.eq_iff_iff]
  rcases Nat.lt_or_ge k f.length with hf | hf
  · rw [drop_tk hf, show g.drop k = [] from List.drop_of_length_le (by omega), coverL]
    simp; omega
  · rw [List.drop_of_length_le hf, coverL]
    simp; omega
theorem meet_step {f g : List ByteArray} {k : Nat} (hf : k < f.length) (hg : k < g.length) : meetL (f.drop k) (g.drop k) = (gtB (tk f k) || (gtB (tk g k) || ((eqB (tk f k) (tk g k) || (stB (tk f k) || stB (tk g k))) && meetL (f.drop (k + 1)) (g.drop (k + 1))))) := by
  rw [drop_tk hf, drop_tk hg, meetL]
theorem meet_end {f g : List ByteArray} {k : Nat} (h : k ≤ f.length) (h2 : k ≤ g.length) (he : k = f.length ∨ k = g.length) : meetL (f.drop k) (g.drop k) = decide (f.length = g.length) := by
  rw [Bool.eq_iff_iff]
  rcases Nat.lt_or_ge k f.length with hf | hf
  · rw [drop_tk hf, show g.drop k = [] from List.drop_of_length_le (by omega), meetL]
    simp; omega
  · rw [List.drop_of_length_le hf, meetL]
    simp; omega
theorem cov_of {f g : List ByteArray} {k : Nat} {a b c d : Bool} (hq : coverL f g = coverL (f.drop k) (g.drop k)) (hf : k < f.length) (hg : k < g.length) (ha : ((tk f k).toList == [62]) = a) (hb : ((tk g k).toList == [62]) = b) (hc : ((tk f k).toList == [42]) = c) (hd : ((tk f k).toList == (tk g k).toList) = d) :
    coverL f g = (a || (!b && ((c || d) && coverL (f.drop (k + 1)) (g.drop (k + 1))))) := by
  rw [hq, cover_step hf hg]; unfold gtB stB eqB; rw [ha, hb, hc, hd]
theorem meet_of {f g : List ByteArray} {k : Nat} {a b c d e : Bool} (hq : meetL f g = meetL (f.drop k) (g.drop k)) (hf : k < f.length) (hg : k < g.length) (ha : ((tk f k).toList == [62]) = a) (hb : ((tk g k).toList == [62]) = b) (hc : ((tk f k).toList == (tk g k).toList) = c) (hd : ((tk f k).toList == [42]) = d) (he : ((tk g k).toList == [42]) = e) :
    meetL f g = (a || (b || ((c || (d || e)) && meetL (f.drop (k + 1)) (g.drop (k + 1))))) := by
  rw [hq, meet_step hf hg]; unfold gtB stB eqB; rw [ha, hb, hc, hd, he]
end Go.Proofs.YtcbfmjjodfnacaaDoor

namespace Go.Proofs.YtcbfmjjodfnacaaDoor
open Go.RowKit

theorem below_drewN {B : Nat} {a w : World} (h : Below B a w) (n : Nat) : Below B a (w.drewN n) := h.trans ⟨rfl, rfl, rfl, Nat.le_refl _, fun _ _ => rfl⟩
def pairErr (a b : Int) : Int := if a = 0 then b else a
theorem err_range (wild : Bool) (s : ByteArray) : 0 ≤ errS wild s ∧ errS wild s ≤ 3 := by
  unfold errS Pl.errOf
  split
  · omega
  · split <;> omega
theorem few {wild : Bool} {s : ByteArray} (h : errS wild s = 0) : (Pl.toks s).length ≤ 8 := by
  rcases Nat.lt_or_ge 8 (Pl.toks s).length with h2 | h2
  · rw [err_many (by simpa [manyB] using h2)] at h
    omega
  · exact h2
def matchB (f s : ByteArray) : Bool := (errS true f == 0 && errS false s == 0) && coverL (Pl.toks f) (Pl.toks s)
def overlapB (f g : ByteArray) : Bool := (errS true f == 0 && errS true g == 0) && meetL (Pl.toks f) (Pl.toks g)
def coversB (f g : ByteArray) : Bool := (errS true f == 0 && errS true g == 0) && coverL (Pl.toks f) (Pl.toks g)
theorem ret_two {a b : Bool} {c d : Int} (h : b = a) (g : d = c) : Ending.returned (.tuple #[.bool a, .int .i64 c]) = .returned (.tuple #[.bool b, .int .i64 d]) := by rw [h, g]
end Go.Proofs.YtcbfmjjodfnacaaDoor

namespace Go.Proofs.YtcbfmjjodfnacaaDoor
open Go.RowKit

theorem eqB_iff {a b : ByteArray} : eqB a b = true ↔ a = b := by
  unfold eqB
  rw [beq_iff_eq, ByteArray.toList_eq, ByteArray.toList_eq]
  exact ⟨fun h => WideShapes.bytes_inj h, fun h => by rw [h]⟩
theorem eqB_self (a : ByteArray) : eqB a a = true := eqB_iff.2 rfl
theorem gt_eq {a b : ByteArray} (h : gtB a = true) (g : gtB b = true) : a = b := by
  unfold gtB at h g
  exact eqB_iff.1 (by unfold eqB; rw [eq_of_beq h, eq_of_beq g]; rfl)
theorem st_eq {a b : ByteArray} (h : stB a = true) (g : stB b = true) : a = b := by
  unfold stB at h g
  exact eqB_iff.1 (by unfold eqB; rw [eq_of_beq h, eq_of_beq g]; rfl)

theorem coverL_self : ∀ l : List ByteArray, coverL l l = true
  | [] => rfl
  | x :: l => by
    rw [coverL, coverL_self l, eqB_self]
    cases gtB x <;> simp
theorem meetL_self : ∀ l : List ByteArray, meetL l l = true
  | [] => rfl
  | x :: l => by
    rw [meetL, meetL_self l, eqB_self]
    cases gtB x <;> simp
theorem coverL_gt {x : ByteArray} (h : gtB x = true) : ∀ {l : List ByteArray}, l ≠ [] → coverL [x] l = true
  | [], hl => absurd rfl hl
  | y :: l, _ => by rw [coverL, h]; rfl
theorem coverL_cons {x y : ByteArray} {f g : List ByteArray} : coverL (x :: f) (y :: g) = true ↔ (gtB x = true ∨ (gtB y = false ∧ (stB x = true ∨ x = y) ∧ coverL f g = true)) := by
  rw [coverL]
  simp only [Bool.or_eq_true, Bool.and_eq_true, Bool.not_eq_true', eqB_iff]
theorem meetL_cons {x y : ByteArray} {f g : List ByteArray} : meetL (x :: f) (y :: g) = true ↔ (gtB x = true ∨ gtB y = true ∨ ((x = y ∨ stB x = true ∨ stB y = true) ∧ meetL f g = true)) := by
  rw [meetL]
  simp only [Bool.or_eq_true, Bool.and_eq_true, eqB_iff]
theorem coverL_nil {g : List ByteArray} : coverL [] g = true ↔ g = [] := by cases g <;> simp [coverL]
theorem coverL_none {x : ByteArray} {f : List ByteArray} : coverL (x :: f) [] = false := rfl
theorem meetL_nil {g : List ByteArray} : meetL [] g = true ↔ g = [] := by cases g <;> simp [meetL]
theorem meetL_none {x : ByteArray} {f : List ByteArray} : meetL (x :: f) [] = false := rfl

theorem coverL_trans : ∀ (f g h : List ByteArray), coverL f g = true → coverL g h = true → coverL f h = true
  | [], g, h, a, b => by
    obtain rfl := coverL_nil.1 a
    exact b
  | x :: f, [], h, a, b => by cases a
  | x :: f, y :: g, [], a, b => by cases b
  | x :: f, y :: g, z :: h, a, b => by
    rw [coverL_cons] at a b ⊢
    rcases a with a | ⟨a1, a2, a3⟩
    · exact Or.inl a
    · rcases b with b | ⟨b1, b2, b3⟩
      · rw [a1] at b; cases b
      · refine Or.inr ⟨b1, ?_, coverL_trans f g h a3 b3⟩
        rcases a2 with a2 | rfl
        · exact Or.inl a2
        · exact b2
theorem coverL_meetL : ∀ (f g : List ByteArray), coverL f g = true → meetL f g = true
  | [], g, a => by rw [meetL_nil]; exact coverL_nil.1 a
  | x :: f, [], a => by cases a
  | x :: f, y :: g, a => by
    rw [coverL_cons] at a
    rw [meetL_cons]
    rcases a with a | ⟨_, a2, a3⟩
    · exact Or.inl a
    · refine Or.inr (Or.inr ⟨?_, coverL_meetL f g a3⟩)
      rcases a2 with a2 | rfl
      · exact Or.inr (Or.inl a2)
      · exact Or.inl rfl
theorem meetL_symm : ∀ (f g : List ByteArray), meetL f g = true → meetL g f = true
  | [], g, a => by obtain rfl := meetL_nil.1 a; rfl
  | x :: f, [], a => by cases a
  | x :: f, y :: g, a => by
    rw [meetL_cons] at a ⊢
    rcases a with a | a | ⟨a1, a2⟩
    · exact Or.inr (Or.inl a)
    · exact Or.inl a
    · refine Or.inr (Or.inr ⟨?_, meetL_symm f g a2⟩)
      rcases a1 with rfl | a1 | a1
      · exact Or.inl rfl
      · exact Or.inr (Or.inr a1)
      · exact Or.inr (Or.inl a1)
theorem meetL_comm (f g : List ByteArray) : meetL f g = meetL g f := by
  rw [Bool.eq_iff_iff]
  exact ⟨meetL_symm f g, meetL_symm g f⟩
theorem meetL_of_common : ∀ (f g s : List ByteArray), coverL f s = true → coverL g s = true → meetL f g = true
  | [], g, s, a, b => by
    obtain rfl := coverL_nil.1 a
    cases g with
    | nil => rfl
    | cons => cases b
  | x :: f, g, [], a, b => by cases a
  | x :: f, [], y :: s, a, b => by cases b
  | x :: f, z :: g, y :: s, a, b => by
    rw [coverL_cons] at a b
    rw [meetL_cons]
    rcases a with a | ⟨_, a2, a3⟩
    · exact Or.inl a
    · rcases b with b | ⟨_, b2, b3⟩
      · exact Or.inr (Or.inl b)
      · refine Or.inr (Or.inr ⟨?_, meetL_of_common f g s a3 b3⟩)
        rcases a2 with a2 | rfl
        · exact Or.inr (Or.inl a2)
        · rcases b2 with b2 | rfl
          · exact Or.inr (Or.inr b2)
          · exact Or.inl rfl
theorem meetL_cover : ∀ (f g h : List ByteArray), coverL f g = true → meetL g h = true → meetL f h = true
  | [], g, h, a, b => by
    obtain rfl := coverL_nil.1 a
    exact b
  | x :: f, [], h, a, b => by cases a
  | x :: f, y :: g, [], a, b => by cases b
  | x :: f, y :: g, z :: h, a, b => by
    rw [coverL_cons] at a
    rw [meetL_cons] at b ⊢
    rcases a with a | ⟨a1, a2, a3⟩
    · exact Or.inl a
    · rcases b with b | b | ⟨b1, b2⟩
      · rw [a1] at b; cases b
      · exact Or.inr (Or.inl b)
      · refine Or.inr (Or.inr ⟨?_, meetL_cover f g h a3 b2⟩)
        rcases a2 with a2 | rfl
        · exact Or.inr (Or.inl a2)
        · exact b1
/-- the sign for all that is left stands last, if anywhere -/
def lastOnly : List ByteArray → Prop
  | [] => True
  | x :: l => (gtB x = true → l = []) ∧ lastOnly l
theorem coverL_antisymm : ∀ (f g : List ByteArray), lastOnly f → lastOnly g → coverL f g = true → coverL g f = true → f = g
  | [], g, _, _, a, _ => (coverL_nil.1 a).symm
  | x :: f, [], _, _, a, _ => by cases a
  | x :: f, y :: g, p, q, a, b => by
    rw [coverL_cons] at a b
    rcases a with a | ⟨a1, a2, a3⟩
    · rcases b with b | ⟨b1, _, _⟩
      · obtain rfl := gt_eq a b
        rw [p.1 a, q.1 b]
      · rw [a] at b1; cases b1
    · rcases b with b | ⟨_, b2, b3⟩
      · rw [a1] at b; cases b
      · rw [coverL_antisymm f g p.2 q.2 a3 b3]
        rcases a2 with a2 | rfl
        · rcases b2 with b2 | rfl
          · rw [st_eq a2 b2]
          · rfl
        · rfl
/-- a row without wildcards covers just itself -/
theorem coverL_plain : ∀ (f g : List ByteArray), (∀ t ∈ f, gtB t = false ∧ stB t = false) → (∀ t ∈ g, gtB t = false) → (coverL f g = true ↔ f = g)
  | [], g, _, _ => by rw [coverL_nil]; exact eq_comm
  | x :: f, [], _, _ => by rw [coverL_none]; simp
  | x :: f, y :: g, p, q => by
    rw [coverL_cons]
    obtain ⟨p1, p2⟩ := p x (by simp)
    have ih := coverL_plain f g (fun t ht => p t (by simp [ht])) (fun t ht => q t (by simp [ht]))
    rw [p1, p2, q y (by simp), ih]
    simp

/-- the text out of its pieces -/
def joinD : List (List UInt8) → List UInt8
  | [] => []
  | [p] => p
  | p :: q :: r => p ++ 46 :: joinD (q :: r)
theorem joinD_pcs : ∀ l : List UInt8, joinD (Pl.pcs l) = l
  | [] => rfl
  | c :: r => by
    have ih := joinD_pcs r
    rw [Pl.pcs]
    cases e : Pl.pcs r with
    | nil => exact absurd e (Pl.pcs_ne r)
    | cons p q =>
      rw [e] at ih
      by_cases h : c = 46
      · rw [if_pos h, joinD, ih, h]; rfl
      · rw [if_neg h, List.modifyHead_cons]
        cases q with
        | nil => rw [joinD] at ih ⊢; rw [ih]
        | cons a b => rw [joinD] at ih ⊢; rw [List.cons_append, ih]
theorem toks_inj {s t : ByteArray} (h : Pl.toks s = Pl.toks t) : s = t := by
  have e := congrArg (List.map (·.data.toList)) h
  rw [Pl.toks_data, Pl.toks_data] at e
  have e2 := congrArg joinD e
  rw [joinD_pcs, joinD_pcs] at e2
  exact WideShapes.bytes_inj e2
theorem toks_ne (s : ByteArray) : Pl.toks s ≠ [] := by
  intro h
  have := Pl.toks_length s
  rw [h, Pl.pcs_length] at this
  simp at this

theorem good_of {wild : Bool} {s : ByteArray} (h : errS wild s = 0) : ¬ 8 < (Pl.pcs s.data.toList).length ∧ Pl.goodTo wild (Pl.pcs s.data.toList) (Pl.pcs s.data.toList).length = true := by
  unfold errS Pl.errOf at h
  split at h
  · omega
  · rename_i h8
    split at h
    · rename_i hg; exact ⟨h8, hg⟩
    · omega
theorem tok_of {wild : Bool} {s : ByteArray} (h : errS wild s = 0) {k : Nat} (hk : k < (Pl.toks s).length) : Pl.tokOk wild (decide (k + 1 = (Pl.pcs s.data.toList).length)) (tk (Pl.toks s) k).data.toList = true := by
  have g := (good_of h).2
  simp only [Pl.goodTo, List.all_eq_true, List.mem_range] at g
  have := g k (by rw [← Pl.toks_length]; exact hk)
  rw [Pl.toks_at] at this
  exact this
theorem subject_filter {s : ByteArray} (h : errS false s = 0) : errS true s = 0 := by
  obtain ⟨h8, hg⟩ := good_of h
  refine Pl.errOf_good h8 ?_
  simp only [Pl.goodTo, List.all_eq_true, List.mem_range] at hg ⊢
  intro i hi
  have := hg i hi
  simp only [Pl.tokOk, Bool.false_and, Bool.or_false] at this
  simp [Pl.tokOk, this]
theorem plain_sign {t : ByteArray} (h : isPlainB t = true) : gtB t = false ∧ stB t = false := by
  refine ⟨?_, ?_⟩
  · cases e : gtB t with
    | false => rfl
    | true =>
      unfold gtB at e
      rw [ByteArray.toList_eq] at e
      unfold isPlainB at h
      rw [eq_of_beq e] at h
      revert h
      decide
  · cases e : stB t with
    | false => rfl
    | true =>
      unfold stB at e
      rw [ByteArray.toList_eq] at e
      unfold isPlainB at h
      rw [eq_of_beq e] at h
      revert h
      decide
theorem subject_signs {s : ByteArray} (h : errS false s = 0) : ∀ t ∈ Pl.toks s, gtB t = false ∧ stB t = false := by
  intro t ht
  obtain ⟨k, hk, rfl⟩ := List.mem_iff_getElem.1 ht
  have := tok_of h hk
  simp only [Pl.tokOk, Bool.false_and, Bool.or_false] at this
  have e : tk (Pl.toks s) k = (Pl.toks s)[k] := by simp [tk, List.getElem?_eq_getElem hk]
  rw [e] at this
  exact plain_sign this
theorem lastOnly_of : ∀ (l : List ByteArray), (∀ k, k < l.length → gtB (tk l k) = true → k + 1 = l.length) → lastOnly l
  | [], _ => trivial
  | x :: l, h => by
    refine ⟨fun hx => ?_, lastOnly_of l (fun k hk hg => ?_)⟩
    · have := h 0 (by simp) (by simpa [tk] using hx)
      simpa using this
    · have := h (k + 1) (by simpa using hk) (by simpa [tk] using hg)
      simpa using this
theorem filter_last {s : ByteArray} (h : errS true s = 0) : lastOnly (Pl.toks s) := by
  refine lastOnly_of _ fun k hk hg => ?_
  have := tok_of h hk
  rw [← Pl.toks_length] at this
  unfold Pl.tokOk at this
  have hp : isPlainB (tk (Pl.toks s) k) = false := by
    cases e : isPlainB (tk (Pl.toks s) k) with
    | false => rfl
    | true => rw [(plain_sign e).1] at hg; cases hg
  unfold isPlainB at hp
  have hs : ((tk (Pl.toks s) k).data.toList == [42]) = false := by
    unfold gtB at hg
    rw [ByteArray.toList_eq] at hg
    rw [eq_of_beq hg]
    decide
  rw [hp, hs] at this
  simp at this
  exact this.2

theorem coversB_self {s : ByteArray} (h : errS true s = 0) : coversB s s = true := by
  unfold coversB; rw [h, coverL_self]; rfl
theorem overlapB_self {s : ByteArray} (h : errS true s = 0) : overlapB s s = true := by
  unfold overlapB; rw [h, meetL_self]; rfl
theorem gt_text : errS true ⟨#[62]⟩ = 0 ∧ Pl.toks ⟨#[62]⟩ = [⟨#[62]⟩] := by decide +kernel
theorem coversB_all {s : ByteArray} (h : errS true s = 0) : coversB ⟨#[62]⟩ s = true := by
  unfold coversB; rw [h, gt_text.1, gt_text.2, coverL_gt (by decide +kernel) (toks_ne s)]; rfl
theorem coversB_none {s : ByteArray} (h : (errS true s == 0) = false) : coversB s s = false := by
  unfold coversB; rw [h]; rfl
theorem matchB_self {s : ByteArray} (h : errS false s = 0) : matchB s s = true := by
  unfold matchB; rw [h, subject_filter h, coverL_self]; rfl
theorem matchB_subjects {s t : ByteArray} (h : errS false s = 0) (g : errS false t = 0) : matchB s t = (s.toList == t.toList) := by
  have e : matchB s t = coverL (Pl.toks s) (Pl.toks t) := by unfold matchB; rw [subject_filter h, g]; rfl
  rw [e, Bool.eq_iff_iff, coverL_plain _ _ (subject_signs h) (fun x hx => (subject_signs g x hx).1)]
  refine ⟨fun he => ?_, fun he => ?_⟩
  · rw [toks_inj he]; simp
  · rw [eqB_iff.1 he]
theorem match_overlap {f g s : ByteArray} (a : matchB f s = true) (b : matchB g s = true) : overlapB f g = true := by
  unfold matchB at a b
  simp only [Bool.and_eq_true] at a b
  unfold overlapB
  rw [a.1.1, b.1.1, meetL_of_common _ _ _ a.2 b.2]; rfl
theorem overlap_comm (f g : ByteArray) : overlapB f g = overlapB g f := by
  unfold overlapB
  rw [meetL_comm, Bool.and_comm (errS true f == 0)]
theorem covers_match {f g s : ByteArray} (a : coversB f g = true) (b : matchB g s = true) : matchB f s = true := by
  unfold coversB at a
  unfold matchB at b ⊢
  simp only [Bool.and_eq_true] at a b
  rw [a.1.1, b.1.2, coverL_trans _ _ _ a.2 b.2]; rfl
theorem covers_overlap {f g : ByteArray} (a : coversB f g = true) : overlapB f g = true := by
  unfold coversB at a
  unfold overlapB
  simp only [Bool.and_eq_true] at a
  rw [a.1.1, a.1.2, coverL_meetL _ _ a.2]; rfl
theorem covers_trans {f g h : ByteArray} (a : coversB f g = true) (b : coversB g h = true) : coversB f h = true := by
  unfold coversB at a b ⊢
  simp only [Bool.and_eq_true] at a b
  rw [a.1.1, b.1.2, coverL_trans _ _ _ a.2 b.2]; rfl
theorem covers_meet {f g h : ByteArray} (a : coversB f g = true) (b : overlapB g h = true) : overlapB f h = true := by
  unfold coversB at a
  unfold overlapB at b ⊢
  simp only [Bool.and_eq_true] at a b
  rw [a.1.1, b.1.2, meetL_cover _ _ _ a.2 b.2]; rfl
theorem covers_both {f g : ByteArray} (a : coversB f g = true) (b : coversB g f = true) : (f.toList == g.toList) = true := by
  unfold coversB at a b
  simp only [Bool.and_eq_true] at a b
  have h1 : errS true f = 0 := by simpa using a.1.1
  have h2 : errS true g = 0 := by simpa using a.1.2
  rw [toks_inj (coverL_antisymm _ _ (filter_last h1) (filter_last h2) a.2 b.2)]
  simp
theorem takes_cover2 : ∀ (f s : List ByteArray), (∀ t ∈ s, gtB t = false) → takesL f s = coverL f s
  | [], _, _ => rfl
  | _ :: _, [], _ => rfl
  | f :: fs, s :: ss, h => by
    rw [takesL, coverL, takes_cover2 fs ss (fun t ht => h t (by simp [ht])), h s (by simp)]
    simp
theorem takes_match {f s : ByteArray} (hf : errS true f = 0) (hs : errS false s = 0) : takesL (Pl.toks f) (Pl.toks s) = matchB f s := by
  rw [takes_cover2 _ _ (fun t ht => (subject_signs hs t ht).1)]
  unfold matchB
  rw [hf, hs]
  simp
end Go.Proofs.YtcbfmjjodfnacaaDoor
