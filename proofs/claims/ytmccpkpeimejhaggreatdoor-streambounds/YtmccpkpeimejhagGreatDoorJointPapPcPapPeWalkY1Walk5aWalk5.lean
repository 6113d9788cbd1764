/-
  A plan's text is read as it was, and what is read is printed as it stood. No program.
  Pure laws for the landed package plan: overlaps in its own order, its filters' error, its numbers' form.
  Contracts of the landed package plan: isDigit, isNameByte, isName, isNumber.
  Contracts of subject.cover and Match.
  Contracts of subject.meet, bothFilters, Overlap and Covers.
-/
import Derived.Test.YtmccpkpeimejhagGreatDoorJointPapPbPapPnPapDRowPlRowPs
import Derived.Lib.Atoi
import Derived.Lib.Join
import Derived.Lib.IndexAny
import Derived.Test.YtmccpkpeimejhagGreatDoorJointWalkSplitWalk2Plain2Plain5PlainK
namespace Go.Proofs.YtmccpkpeimejhagGreatDoor.Pn
open Go

theorem bs_list (s : ByteArray) : bs s.data.toList = s := by unfold bs; apply ByteArray.ext; simp
theorem list_bs (l : List UInt8) : (bs l).data.toList = l := by unfold bs; simp
theorem inAll_in : ∀ {v ms : List Int}, inAll v ms = true → v.length = ms.length ∧ ∀ x ∈ v, 0 ≤ x ∧ ∃ m ∈ ms, x ≤ m
  | [], [], _ => ⟨rfl, fun x hx => by cases hx⟩
  | [], _ :: _, h => by simp [inAll] at h
  | _ :: _, [], h => by simp [inAll] at h
  | x :: v, m :: ms, h => by
    unfold inAll at h
    simp only [Bool.and_eq_true, decide_eq_true_eq] at h
    obtain ⟨h1, h2⟩ := inAll_in h.2
    refine ⟨by simp [h1], fun y hy => ?_⟩
    rcases List.mem_cons.1 hy with z | z
    · rw [z]; exact ⟨h.1.1, m, List.mem_cons_self .., h.1.2⟩
    · obtain ⟨q, k, hk, hl⟩ := h2 y z
      exact ⟨q, k, List.mem_cons_of_mem _ hk, hl⟩
theorem most_le : ∀ m ∈ most8, m ≤ 100000 := by decide
/-- the bytes of a right filter -/
theorem piece_ok {t : List UInt8} {last : Bool} (h : Pl.tokOk true last t = true) : t.length ≤ 16 ∧ ∀ c ∈ t, 33 ≤ c.toNat := by
  unfold Pl.tokOk at h
  rcases Bool.or_eq_true_iff.1 h with y | y
  · unfold Pl.plainB at y
    simp only [Bool.and_eq_true, decide_eq_true_eq, List.all_eq_true] at y
    refine ⟨y.2.1, fun c hc => ?_⟩
    have := y.2.2 c hc
    unfold Pl.tokB at this
    simp only [Bool.and_eq_true, decide_eq_true_eq] at this
    exact this.1
  · simp only [Bool.true_and, Bool.or_eq_true, beq_iff_eq, Bool.and_eq_true] at y
    rcases y with y | y
    · rw [y]; exact ⟨by decide, by decide⟩
    · rw [y.1]; exact ⟨by decide, by decide⟩
theorem filt_bytes {f : ByteArray} (h : errS true f = 0) : f.size ≤ 136 ∧ ∀ c ∈ f.data.toList, 33 ≤ c.toNat := by
  obtain ⟨h1, h2⟩ := good_of h
  have hp : ∀ t ∈ Pl.pcs f.data.toList, t.length ≤ 16 ∧ ∀ c ∈ t, 33 ≤ c.toNat := fun t ht => by
    obtain ⟨k, hk, rfl⟩ := List.mem_iff_getElem.1 ht
    unfold Pl.goodTo at h2
    rw [List.all_eq_true] at h2
    have := h2 k (List.mem_range.2 hk)
    rw [List.getElem?_eq_getElem hk] at this
    exact piece_ok this
  have hg := glue_cut 46 f.data.toList
  rw [cut_dot] at hg
  constructor
  · have := glue_len 46 16 _ (fun t ht => (hp t ht).1)
    rw [hg] at this
    have e : f.data.toList.length = f.size := by simp
    omega
  · intro c hc
    rw [← hg] at hc
    rcases glue_mem 46 _ c hc with y | ⟨t, ht, hct⟩
    · rw [y]; decide
    · exact (hp t ht).2 c hct
theorem name_bytes {s : ByteArray} (h : namedB s = true) : s.size ≤ 16 ∧ ∀ c ∈ s.data.toList, 33 ≤ c.toNat := by
  unfold namedB at h
  simp only [Bool.and_eq_true, decide_eq_true_eq, List.all_eq_true] at h
  refine ⟨h.2.2, fun c hc => ?_⟩
  have := h.1 c hc
  unfold nameB at this
  simp only [Bool.or_eq_true, Bool.and_eq_true, decide_eq_true_eq] at this
  omega
theorem dig_bytes {u : Nat} : ∀ c ∈ Lib.decDigits u, 33 ≤ c.toNat := fun c hc => by
  have := dec_dig u c hc
  unfold isDig at this
  simp at this
  omega
theorem itoa_low {x : Int} (h : 0 ≤ x ∧ x ≤ 100000) : (Lib.itoa x).length ≤ 6 ∧ ∀ c ∈ Lib.itoa x, 33 ≤ c.toNat := by
  have e : Lib.itoa x = Lib.decDigits x.toNat := by unfold Lib.itoa; rw [if_neg (by omega)]
  rw [e]
  exact ⟨dec_len 5 _ (by simp; omega), dig_bytes⟩
theorem wordsT_bytes : ∀ (ws : List (List UInt8)) (v : List Int), (∀ w ∈ ws, w.length ≤ 7 ∧ ∀ c ∈ w, 33 ≤ c.toNat) → (∀ x ∈ v, 0 ≤ x ∧ x ≤ 100000) → (wordsT ws v).length ≤ ws.length ∧ ∀ t ∈ wordsT ws v, t.length ≤ 14 ∧ ∀ c ∈ t, 33 ≤ c.toNat
  | [], v, _, _ => by simp [wordsT]
  | w :: ws, [], _, _ => by simp [wordsT]
  | w :: ws, x :: v, hw, hx => by
    obtain ⟨h1, h2⟩ := wordsT_bytes ws v (fun u hu => hw u (List.mem_cons_of_mem _ hu)) (fun y hy => hx y (List.mem_cons_of_mem _ hy))
    by_cases e : x = 0
    · rw [wordsT, if_pos e]
      exact ⟨by simp; omega, h2⟩
    · rw [wordsT, if_neg e]
      refine ⟨by simp; omega, fun t ht => ?_⟩
      rcases List.mem_cons.1 ht with y | y
      · obtain ⟨i1, i2⟩ := itoa_low (hx x (List.mem_cons_self ..))
        obtain ⟨w1, w2⟩ := hw w (List.mem_cons_self ..)
        rw [y]
        refine ⟨by rw [List.length_append, List.length_cons]; omega, fun c hc => ?_⟩
        rcases List.mem_append.1 hc with z | z
        · exact w2 c z
        · rcases List.mem_cons.1 z with q | q
          · rw [q]; decide
          · exact i2 c q
      · exact h2 t y
theorem words8_ok : ∀ w ∈ words8, w.length ≤ 7 ∧ ∀ c ∈ w, 33 ≤ c.toNat := by decide
theorem words8_no : ∀ w ∈ words8, (61 : UInt8) ∉ w := by decide
theorem words8_nodup : words8.Nodup := by decide
/-- a right plan's text: its bytes, its size -/
theorem text_ok {p : Pln} (h : planE p = 0) : (∀ t ∈ textL p, (32 : UInt8) ∉ t) ∧ (planT p).size ≤ 1024 := by
  obtain ⟨h1, h2, h3, h4, h5, h6⟩ := plan_ok h
  obtain ⟨n1, n2⟩ := name_bytes h1
  have hf := filtE_all h4
  have hv : ∀ x ∈ p.v, 0 ≤ x ∧ x ≤ 100000 := fun x hx => by
    obtain ⟨q, m, hm, hl⟩ := (inAll_in h6).2 x hx
    have := most_le m hm
    omega
  obtain ⟨w1, w2⟩ := wordsT_bytes words8 p.v words8_ok hv
  have hj : ∀ c ∈ glue 44 (p.f.map (·.data.toList)), 33 ≤ c.toNat := fun c hc => by
    rcases glue_mem 44 _ c hc with y | ⟨t, ht, hct⟩
    · rw [y]; decide
    · obtain ⟨f, hff, rfl⟩ := List.mem_map.1 ht
      exact (filt_bytes (hf f hff)).2 c hct
  have no : ∀ {t : List UInt8}, (∀ c ∈ t, 33 ≤ c.toNat) → (32 : UInt8) ∉ t := fun ht z => by
    have := ht _ z
    simp at this
  constructor
  · intro t ht
    unfold textL at ht
    rcases List.mem_cons.1 ht with y | y
    · rw [y]; exact no n2
    · rcases List.mem_cons.1 y with z | z
      · rw [z]; exact no hj
      · exact no (w2 t z).2
  · have hjl : (glue 44 (p.f.map (·.data.toList))).length ≤ 548 := by
      have := glue_len 44 136 (p.f.map (·.data.toList)) (fun t ht => by
        obtain ⟨f, hff, rfl⟩ := List.mem_map.1 ht
        have := (filt_bytes (hf f hff)).1
        simpa using this)
      rw [List.length_map] at this
      omega
    have hw := glue_len 32 14 _ (fun t ht => (w2 t ht).1)
    have hl8 : words8.length = 8 := rfl
    have hstep : ∀ (t : List UInt8) (ts : List (List UInt8)), (glue 32 (t :: ts)).length ≤ t.length + 1 + (glue 32 ts).length := fun t ts => by
      cases ts with
      | nil => simp [glue]
      | cons u us => rw [glue_cons 32 t (by simp), List.length_append, List.length_cons]; omega
    have s1 := hstep p.n.data.toList (glue 44 (p.f.map (·.data.toList)) :: wordsT words8 p.v)
    have s2 := hstep (glue 44 (p.f.map (·.data.toList))) (wordsT words8 p.v)
    have e : (planT p).size = (glue 32 (textL p)).length := by
      show (glue 32 (textL p)).toArray.size = _
      simp
    have en : p.n.data.toList.length = p.n.size := by simp
    rw [e]
    unfold textL
    omega
/-- what is printed is read as it was -/
theorem read_print {p : Pln} (h : planE p = 0) (hc : commas p = false) : readP (planT p) = (p, 0) := by
  obtain ⟨h1, h2, h3, h4, h5, h6⟩ := plan_ok h
  obtain ⟨t1, t2⟩ := text_ok h
  have hcut : cut 32 (planT p).data.toList = textL p := by
    have e : (planT p).data.toList = glue 32 (textL p) := by simp [planT]
    rw [e]
    exact cut_glue 32 _ (by unfold textL; simp) t1
  have hfc : cut 44 (glue 44 (p.f.map (·.data.toList))) = p.f.map (·.data.toList) := by
    refine cut_glue 44 _ (fun z => h3 (by simpa using congrArg List.length z)) (fun t ht => ?_)
    obtain ⟨f, hf, rfl⟩ := List.mem_map.1 ht
    unfold commas at hc
    rw [List.any_eq_false] at hc
    have := hc f hf
    simpa using this
  have hfm : (cut 44 (glue 44 (p.f.map (·.data.toList)))).map bs = p.f := by
    rw [hfc, List.map_map]
    conv => rhs; rw [← List.map_id p.f]
    exact List.map_congr_left (fun f _ => bs_list f)
  have hv : ∀ x ∈ p.v, 0 ≤ x ∧ x < 1000000000 := fun x hx => by
    obtain ⟨q, m, hm, hl⟩ := (inAll_in h6).2 x hx
    have := most_le m hm
    omega
  have hr := rdN_back words8 p.v words8_nodup words8_no ((inAll_in h6).1) hv
  unfold readP
  rw [if_neg (by omega), hcut]
  unfold textL
  simp only [hr, hfm, bs_list]
  rw [if_pos h]
/-- what is read is printed as it stood -/
theorem print_read {s : ByteArray} {x : Pln} (h : readP s = (x, 0)) : planE x = 0 ∧ commas x = false ∧ planT x = s := by
  unfold readP at h
  split at h
  · cases h
  · cases hc : cut 32 s.data.toList with
    | nil => exact absurd hc (cut_ne 32 _)
    | cons n r =>
      rw [hc] at h
      cases r with
      | nil => cases h
      | cons f ts =>
        simp only at h
        cases hr : rdN words8 ts with
        | none => rw [hr] at h; cases h
        | some v =>
          rw [hr] at h
          simp only at h
          by_cases he : planE ⟨bs n, (cut 44 f).map bs, v⟩ = 0
          · rw [if_pos he] at h
            have hx := (Prod.mk.inj h).1
            subst hx
            refine ⟨he, ?_, ?_⟩
            · unfold commas
              rw [List.any_eq_false]
              intro g hg
              obtain ⟨t, ht, rfl⟩ := List.mem_map.1 hg
              rw [list_bs]
              simpa using cut_free 44 f t ht
            · have e1 : ((cut 44 f).map bs).map (·.data.toList) = cut 44 f := by
                rw [List.map_map]
                conv => rhs; rw [← List.map_id (cut 44 f)]
                exact List.map_congr_left (fun t _ => list_bs t)
              have e2 : textL ⟨bs n, (cut 44 f).map bs, v⟩ = cut 32 s.data.toList := by
                unfold textL
                simp only [e1, glue_cut, list_bs, (rdN_one words8 ts hr).1, hc]
              unfold planT
              rw [e2, glue_cut]
          · rw [if_neg he] at h
            exact absurd (Prod.mk.inj h).2 he
theorem read_bad {s : ByteArray} (h : (readP s).2 ≠ 0) : (readP s).1 = zeroP := by
  unfold readP at h ⊢
  split
  · rfl
  · rename_i hs
    rw [if_neg hs] at h
    cases hc : cut 32 s.data.toList with
    | nil => rfl
    | cons n r =>
      rw [hc] at h
      cases r with
      | nil => rfl
      | cons f ts =>
        simp only at h ⊢
        cases hr : rdN words8 ts with
        | none => rfl
        | some v =>
          rw [hr] at h
          simp only at h ⊢
          by_cases he : planE ⟨bs n, (cut 44 f).map bs, v⟩ = 0
          · rw [if_pos he] at h; exact absurd rfl h
          · rw [if_neg he]
/-- the law's one plan -/
def onePlan : Pln := ⟨⟨#[115]⟩, [⟨#[97, 46, 62]⟩, ⟨#[98]⟩], [0, 0, 0, 3, 0, 0, 0, 0]⟩
theorem one_ok : planE onePlan = 0 ∧ commas onePlan = false := by decide +kernel
theorem one_text : planT onePlan = ⟨#[115, 32, 97, 46, 62, 44, 98, 32, 112, 101, 114, 61, 51]⟩ := by decide +kernel
end Go.Proofs.YtmccpkpeimejhagGreatDoor.Pn

namespace Go.Proofs.YtmccpkpeimejhagGreatDoor.Pn
open Go

theorem tk_cons_zero (f : ByteArray) (r : List ByteArray) : tk (f :: r) 0 = f := rfl
theorem tk_cons_succ (f : ByteArray) (r : List ByteArray) (k : Nat) : tk (f :: r) (k + 1) = tk r k := rfl
theorem tk_at {l : List ByteArray} {k : Nat} (h : k < l.length) : tk l k = l[k] := by
  unfold tk
  rw [List.getElem?_eq_getElem h]
  rfl
theorem tk_in {l : List ByteArray} {k : Nat} (h : k < l.length) : tk l k ∈ l := by
  rw [tk_at h]
  exact List.getElem_mem h
/-- two of them overlap: a later one and one ahead of it -/
theorem laps_iff : ∀ l : List ByteArray, laps l = true ↔ ∃ i j, j < i ∧ i < l.length ∧ meetL (Pl.toks (tk l i)) (Pl.toks (tk l j)) = true
  | [] => by
    constructor
    · intro h; cases h
    · rintro ⟨i, j, _, h, _⟩; simp at h
  | f :: r => by
    have ih := laps_iff r
    rw [laps, Bool.or_eq_true, ih, List.any_eq_true]
    constructor
    · rintro (⟨g, hg, hm⟩ | ⟨i, j, h1, h2, h3⟩)
      · obtain ⟨k, hk, rfl⟩ := List.mem_iff_getElem.1 hg
        refine ⟨k + 1, 0, by omega, by simpa using hk, ?_⟩
        rw [tk_cons_succ, tk_cons_zero, tk_at hk, meetL_comm]
        exact hm
      · exact ⟨i + 1, j + 1, by omega, by simpa using h2, h3⟩
    · rintro ⟨i, j, h1, h2, h3⟩
      obtain ⟨i, rfl⟩ : ∃ k, i = k + 1 := ⟨i - 1, by omega⟩
      have hi : i < r.length := by simpa using h2
      cases j with
      | zero =>
        left
        refine ⟨tk r i, tk_in hi, ?_⟩
        rw [meetL_comm]
        exact h3
      | succ j => exact Or.inr ⟨i, j, by omega, hi, h3⟩
/-- what the filters' error is -/
def filtersE (l : List ByteArray) : Int := if 4 < l.length then 2 else if l.length = 0 then 1 else if filtE l ≠ 0 then filtE l else if laps l = true then 10 else 0
theorem plan_filters {p : Pln} (h : namedB p.n = true) : planE p = if filtersE p.f ≠ 0 then filtersE p.f else if inAll p.v most8 = true then 0 else 1 := by
  unfold planE filtersE
  rw [if_neg (by rw [h]; simp)]
  by_cases h2 : 4 < p.f.length
  · rw [if_pos h2, if_pos h2]; rfl
  · rw [if_neg h2, if_neg h2]
    by_cases h3 : p.f.length = 0
    · rw [if_pos h3, if_pos h3]; rfl
    · rw [if_neg h3, if_neg h3]
      by_cases h4 : filtE p.f ≠ 0
      · rw [if_pos h4, if_pos h4, if_pos h4]
      · rw [if_neg h4, if_neg h4]
        by_cases h5 : laps p.f = true
        · rw [if_pos h5, if_pos h5]; rfl
        · rw [if_neg h5, if_neg h5, if_neg (show ¬ (0 : Int) ≠ 0 by decide)]
theorem filters_ok {l : List ByteArray} (h : filtersE l = 0) : l.length ≤ 4 ∧ l.length ≠ 0 ∧ filtE l = 0 ∧ laps l = false := by
  unfold filtersE at h
  by_cases h2 : 4 < l.length
  · rw [if_pos h2] at h; cases h
  · rw [if_neg h2] at h
    by_cases h3 : l.length = 0
    · rw [if_pos h3] at h; cases h
    · rw [if_neg h3] at h
      by_cases h4 : filtE l ≠ 0
      · rw [if_pos h4] at h; exact absurd h h4
      · rw [if_neg h4] at h
        by_cases h5 : laps l = true
        · rw [if_pos h5] at h; cases h
        · exact ⟨by omega, h3, Classical.not_not.1 h4, by simpa using h5⟩
/-- the form of a number in a text -/
def numB (l : List UInt8) : Bool := l.all isDig && (decide (1 ≤ l.length) && (decide (l.length ≤ 9) && decide (l.head? ≠ some 48)))
theorem numB_yes {l : List UInt8} (h : numB l = true) : 1 ≤ digV l ∧ digV l = (val10 l : Int) ∧ l.length ≤ 9 ∧ l ≠ [] ∧ ∀ c ∈ l, isDig c = true := by
  unfold numB at h
  simp only [Bool.and_eq_true, decide_eq_true_eq, List.all_eq_true] at h
  obtain ⟨h1, h2, h3, h4⟩ := h
  have hne : l ≠ [] := by intro e; rw [e] at h2; simp at h2
  have e : digV l = (val10 l : Int) := by
    unfold digV
    rw [if_pos ⟨by rw [List.take_of_length_le (by omega), List.all_eq_true]; exact h1, h2, h3, fun q => h4 q.1⟩]
  refine ⟨?_, e, h3, hne, h1⟩
  rw [e]
  have := val_pos h1 hne h4
  omega
theorem numB_no {l : List UInt8} (h : numB l = false) : digV l < 1 := by
  unfold digV
  by_cases q : (l.take 10).all isDig = true ∧ 1 ≤ l.length ∧ l.length ≤ 9 ∧ ¬ (l.head? = some 48 ∧ l ≠ [48])
  · obtain ⟨q1, q2, q3, q4⟩ := q
    rw [if_pos ⟨q1, q2, q3, q4⟩]
    rw [List.take_of_length_le (by omega)] at q1
    unfold numB at h
    rw [q1, decide_eq_true q2, decide_eq_true q3] at h
    have hh : l.head? = some 48 := by simpa using h
    have hl : l = [48] := Classical.byContradiction (fun x => q4 ⟨hh, x⟩)
    rw [hl]
    decide
  · rw [if_neg q]; decide
theorem decFrom_dig : ∀ (l : List UInt8) (a : Nat), (∀ c ∈ l, isDig c = true) → Lib.decFrom a l = some (l.foldl (fun n c => n * 10 + (c.toNat - 48)) a)
  | [], a, _ => rfl
  | c :: r, a, h => by
    have hc := h c (by simp)
    unfold isDig at hc
    simp only [Bool.and_eq_true, decide_eq_true_eq] at hc
    rw [Lib.decFrom, Lib.digitVal, if_pos ⟨hc.1, hc.2⟩]
    exact decFrom_dig r _ (fun x hx => h x (by simp [hx]))
theorem atoi_dig {l : List UInt8} (hne : l ≠ []) (h : ∀ c ∈ l, isDig c = true) : Lib.atoi l = some (val10 l : Int) := by
  cases l with
  | nil => exact absurd rfl hne
  | cons c r =>
    have hc := h c (by simp)
    unfold isDig at hc
    simp only [Bool.and_eq_true, decide_eq_true_eq] at hc
    have n45 : ¬ (c == 45) = true := by
      intro e
      rw [beq_iff_eq] at e
      subst e
      simp at hc
    have n43 : ¬ (c == 43) = true := by
      intro e
      rw [beq_iff_eq] at e
      subst e
      simp at hc
    rw [Lib.atoi, if_neg n45, if_neg n43, Lib.decNat, if_neg (by simp), decFrom_dig _ _ h]
    rfl
theorem numB_atoi {l : List UInt8} (h : numB l = true) : Lib.atoi l = some (digV l) := by
  obtain ⟨_, e, _, hne, hd⟩ := numB_yes h
  rw [e, atoi_dig hne hd]
theorem glue_join (b : UInt8) : ∀ ts : List (List UInt8), Lib.join ts [b] = glue b ts
  | [] => rfl
  | [t] => by simp [Lib.join, List.intercalate, glue]
  | t :: u :: r => by
    have ih := glue_join b (u :: r)
    rw [glue_cons b t (by simp), ← ih]
    simp [Lib.join, List.intercalate]
theorem contains_at (f : ByteArray) : decide (0 ≤ Lib.indexByte f.data.toList 44) = f.data.toList.contains 44 := (Lib.contains_iff_indexByte _ _).symm
end Go.Proofs.YtmccpkpeimejhagGreatDoor.Pn

namespace Go.Proofs.YtmccpkpeimejhagGreatDoor
open Go.RowKit

def digI (c : Int) : Bool := decide (48 ≤ c) && decide (c ≤ 57)
def nameI (c : Int) : Bool := (decide (97 ≤ c) && decide (c ≤ 122)) || (digI c || decide (c = 45))
theorem digI_byte (c : UInt8) : digI (c.toNat : Int) = Pn.isDig c := by
  unfold digI Pn.isDig
  rw [Bool.eq_iff_iff]
  simp
  omega
theorem nameI_byte (c : UInt8) : nameI (c.toNat : Int) = Pn.nameB c := by
  unfold nameI Pn.nameB digI
  rw [Bool.eq_iff_iff]
  simp
  omega

set_option maxHeartbeats 400000 in
theorem digit_any (c : Int) (w : World) :
    Calls Tryz.prog 128 #[.int .u8 c] w fun e w' => e = .returned (.bool (digI c)) ∧ w' = w := by
  go_enter Tryz.func128, Tryz.ntmps128
  go_wp2
  all_goals go_ret
  all_goals refine ⟨ret_bool ?_, rfl⟩
  all_goals simp [digI]
  all_goals omega

set_option maxHeartbeats 400000 in
theorem nameByte_any (c : Int) (w : World) :
    Calls Tryz.prog 99 #[.int .u8 c] w fun e w' => e = .returned (.bool (nameI c)) ∧ w' = w := by
  have HD := hide (digit_any c)
  go_enter Tryz.func99, Tryz.ntmps99
  go_wp2_with (go_at_call 128; refine (unhide HD _).mono ?_; rintro e w' ⟨rfl, rfl⟩)
  all_goals go_ret
  all_goals refine ⟨ret_bool ?_, rfl⟩
  all_goals simp_all [nameI, digI]
  all_goals omega

theorem name_len {s : ByteArray} (h : s.size < 1 ∨ 16 < s.size) : Pn.namedB s = false := by
  unfold Pn.namedB
  rcases h with h | h
  · rw [decide_eq_false (p := 1 ≤ s.size) (by omega)]; simp
  · rw [decide_eq_false (p := s.size ≤ 16) (by omega)]; simp
theorem name_all {s : ByteArray} (h1 : 1 ≤ s.size) (h2 : s.size ≤ 16) (h : namedTo s s.size = true) : Pn.namedB s = true := by
  rw [named_ok h]
  simp
  omega
set_option maxHeartbeats 1000000 in
theorem isName_any (s : ByteArray) (w : World) (hs : s.size ≤ 140737488355328) :
    Calls Tryz.prog 59 #[.string s] w fun e w' => e = .returned (.bool (Pn.namedB s)) ∧ w' = w := by
  by_cases h1 : s.size < 1
  · go_enter Tryz.func59, Tryz.ntmps59
    go_wp2
    go_ret
    exact ⟨ret_is (name_len (Or.inl h1)), rfl⟩
  by_cases h2 : 16 < s.size
  · go_enter Tryz.func59, Tryz.ntmps59
    go_wp2
    go_ret
    exact ⟨ret_is (name_len (Or.inr h2)), rfl⟩
  go_enter Tryz.func59, Tryz.ntmps59
  go_wp2
  go_loop [14] (fun i => ∃ k : Nat, k ≤ s.size ∧ i = .int .i64 k ∧ Hid (namedTo s k = true)) (fun i => s.size - (intOf i).toNat)
  case atStart => exact ⟨0, Nat.zero_le _, rfl, hide rfl⟩
  case round =>
    obtain ⟨k, hk, rfl, hq⟩ := hrel
    by_cases hlt : k < s.size
    · cases ht : nameI (s[k].toNat : Int) with
      | false =>
        have Ht := hide ht
        clear ht
        go_wp2_with (go_at_call 99; refine (nameByte_any _ _).mono ?_; rintro e w' ⟨rfl, rfl⟩; rw [unhide Ht])
        go_ret
        exact ⟨ret_is (named_bad hlt (by rw [← nameI_byte]; exact unhide Ht)), rfl⟩
      | true =>
        have Ht := hide ht
        clear ht
        go_wp2_with (go_at_call 99; refine (nameByte_any _ _).mono ?_; rintro e w' ⟨rfl, rfl⟩; rw [unhide Ht])
        go_round
        case rel => exact ⟨k + 1, by omega, by go_num, hide (by rw [namedTo_succ hlt, unhide hq, ← nameI_byte, unhide Ht]; rfl)⟩
        case measure => simp [intOf]; omega
    · obtain rfl : k = s.size := by omega
      go_wp2
      go_ret
      exact ⟨ret_is (name_all (by omega) (by omega) (unhide hq)), rfl⟩
end Go.Proofs.YtmccpkpeimejhagGreatDoor

namespace Go.Proofs.YtmccpkpeimejhagGreatDoor
open Go.RowKit

set_option maxRecDepth 100000 in
set_option maxHeartbeats 1000000 in
theorem cover_any (bf bg : Nat) (f g : List ByteArray) (w : World) (hf : Row w bf 0 f) (hg : Row w bg 0 g) (nf : f.length ≤ 8) :
    Calls Tryz.prog 108 #[.slice (some ⟨bf, 0, none⟩) f.length f.length, .slice (some ⟨bg, 0, none⟩) g.length g.length] w fun e w' => e = .returned (.bool (coverL f g)) ∧ ∃ n, w' = w.drewN n := by
  have Hf := hide hf
  have Hg := hide hg
  clear hf hg
  go_enter Tryz.func108, Tryz.ntmps108
  go_wp2
  go_loopw [11] (fun i wr => ∃ k : Nat, k ≤ f.length ∧ k ≤ g.length ∧ i = .int .i64 k ∧ Hid (coverL f g = coverL (f.drop k) (g.drop k)) ∧ ∃ n, wr = w.drewN n) (fun i _ => f.length - (intOf i).toNat)
  case atStart => exact ⟨0, Nat.zero_le _, Nat.zero_le _, rfl, hide rfl, 0, rfl⟩
  case round =>
    obtain ⟨k, hk, hk2, rfl, hq, n, rfl⟩ := hrel
    by_cases hlt : k < f.length ∧ k < g.length
    · obtain ⟨h1, h2⟩ := hlt
      have hc1 : w.cell? ⟨bf, k, none⟩ = some (.string (tk f k)) := by have := unhide Hf k h1; rwa [Nat.zero_add] at this
      have hc2 : w.cell? ⟨bg, k, none⟩ = some (.string (tk g k)) := by have := unhide Hg k h2; rwa [Nat.zero_add] at this
      have hmin : (k : Int) < min (f.length : Int) (g.length : Int) := by omega
      cases ha : ((tk f k).toList == [62])
      · cases hb : ((tk g k).toList == [62])
        · cases hc : ((tk f k).toList == [42])
          · cases hd : ((tk f k).toList == (tk g k).toList)
            · have R := hide (cov_of (unhide hq) h1 h2 ha hb hc hd)
              go_wp2
              go_quiet (fail)
              go_wp2
              go_ret
              exact ⟨ret_is (unhide R), _, World.drewN_drewN _ _ _⟩
            · have R := hide (cov_of (unhide hq) h1 h2 ha hb hc hd)
              go_wp2
              go_quiet (fail)
              go_wp2
              exact ⟨⟨k + 1, by omega, by omega, by go_num, hide (unhide R), _, rfl⟩, by simp [intOf]; omega⟩
          · have R := hide (cov_of (unhide hq) h1 h2 ha hb hc rfl)
            go_wp2
            go_quiet (fail)
            go_wp2
            exact ⟨⟨k + 1, by omega, by omega, by go_num, hide (unhide R), _, rfl⟩, by simp [intOf]; omega⟩
        · have R := hide (cov_of (unhide hq) h1 h2 ha hb rfl rfl)
          go_wp2
          go_ret
          exact ⟨ret_is (unhide R), _, rfl⟩
      · have R := hide (cov_of (unhide hq) h1 h2 ha rfl rfl rfl)
        go_wp2
        go_ret
        exact ⟨ret_is (unhide R), _, rfl⟩
    · have hmin : ¬ (k : Int) < min (f.length : Int) (g.length : Int) := by omega
      have R := hide ((unhide hq).trans (cover_end hk hk2 (by omega)))
      go_wp2
      go_ret
      refine ⟨ret_bool ?_, _, rfl⟩
      rw [unhide R]
      simp
      omega
set_option maxHeartbeats 400000 in
theorem match_any (f s : ByteArray) (w : World) (hf : f.size ≤ 140737488355328) (hs : s.size ≤ 140737488355328) :
    Calls Tryz.prog 73 #[.string f, .string s] w fun e w' => e = .returned (.tuple #[.bool (matchB f s), .int .i64 (pairErr (errS true f) (errS false s))]) ∧ Below w.heap.size w w' := by
  cases he : ((errS true f) == 0)
  · have R : matchB f s = false := by unfold matchB; rw [he]; rfl
    have R2 : pairErr (errS true f) (errS false s) = errS true f := if_neg (by simpa using he)
    have HR := hide R
    have HR2 := hide R2
    clear R R2
    go_enter Tryz.func73, Tryz.ntmps73
    go_wp2_with (go_at_call 72; refine (filter_any f _ hf).mono ?_; rintro e w1 ⟨rfl, hb⟩)
    go_ret2
    exact ⟨ret_two (unhide HR) (unhide HR2), hb⟩
  · have e0 : errS true f = 0 := by simpa using he
    have R2 : pairErr (errS true f) (errS false s) = errS false s := if_pos e0
    have HR2 := hide R2
    have n1 := few e0
    have E0 := hide e0
    clear R2 e0
    cases hc : ((errS false s) == 0)
    · have R : matchB f s = false := by unfold matchB; rw [hc, Bool.and_false]; rfl
      have HR := hide R
      clear R
      go_enter Tryz.func73, Tryz.ntmps73
      go_wp2_with fail
      refine (filter_any f _ hf).mono ?_
      rintro e w1 ⟨rfl, hb⟩
      go_wp2_with fail
      refine (subject_any s _ hs).mono ?_
      rintro e w2 ⟨rfl, hb2⟩
      go_wp2
      go_ret2
      exact ⟨ret_two (unhide HR) (unhide HR2), hb.trans (hb2.mono hb.size)⟩
    · have R : matchB f s = coverL (Pl.toks f) (Pl.toks s) := by unfold matchB; rw [he, hc]; rfl
      have HR := hide R
      have e1 : errS false s = 0 := by simpa using hc
      have n2 := few e1
      have E1 := hide e1
      clear R e1
      go_enter Tryz.func73, Tryz.ntmps73
      go_wp2_with fail
      refine (filter_any f _ hf).mono ?_
      rintro e w1 ⟨rfl, hb⟩
      go_wp2_with fail
      refine (subject_any s _ hs).mono ?_
      rintro e w2 ⟨rfl, hb2⟩
      go_wp2_with fail
      refine (tokens_any f _ hf n1).mono ?_
      rintro e w3 ⟨bf, rfl, h1, h2, hb3, hr3⟩
      go_wp2_with fail
      refine (tokens_any s _ hs n2).mono ?_
      rintro e w4 ⟨bs, rfl, h5, h6, hb4, hr4⟩
      go_wp2_with fail
      refine (cover_any bf bs _ _ _ (hr3.below hb4 h2) hr4 n1).mono ?_
      rintro e w5 ⟨rfl, n, rfl⟩
      go_wp2
      go_ret2
      have h12 := hb.trans (hb2.mono hb.size)
      have h13 := h12.trans (hb3.mono h12.size)
      have h14 := h13.trans (hb4.mono h13.size)
      exact ⟨ret_two (unhide HR) (by rw [unhide HR2, unhide E1]), below_drewN h14 n⟩
/-- the same contracts, with the answers known -/
theorem filter_at {f : ByteArray} {x : Int} (h : errS true f = x) (w : World) (hf : f.size ≤ 140737488355328) :
    Calls Tryz.prog 72 #[.string f] w fun e w' => e = .returned (.int .i64 x) ∧ Below w.heap.size w w' := by
  subst h; exact filter_any f w hf
theorem subject_at {f : ByteArray} {x : Int} (h : errS false f = x) (w : World) (hf : f.size ≤ 140737488355328) :
    Calls Tryz.prog 63 #[.string f] w fun e w' => e = .returned (.int .i64 x) ∧ Below w.heap.size w w' := by
  subst h; exact subject_any f w hf
theorem match_at {f s : ByteArray} {a : Bool} {x : Int} (h1 : matchB f s = a) (h2 : pairErr (errS true f) (errS false s) = x) (hf : f.size ≤ 140737488355328) (hs : s.size ≤ 140737488355328) (w : World) :
    Calls Tryz.prog 73 #[.string f, .string s] w fun e w' => e = .returned (.tuple #[.bool a, .int .i64 x]) ∧ Below w.heap.size w w' := by
  subst h1 h2; exact match_any f s w hf hs
end Go.Proofs.YtmccpkpeimejhagGreatDoor

namespace Go.Proofs.YtmccpkpeimejhagGreatDoor
open Go.RowKit

set_option maxRecDepth 100000 in
set_option maxHeartbeats 1000000 in
theorem meet_any (bf bg : Nat) (f g : List ByteArray) (w : World) (hf : Row w bf 0 f) (hg : Row w bg 0 g) (nf : f.length ≤ 8) :
    Calls Tryz.prog 151 #[.slice (some ⟨bf, 0, none⟩) f.length f.length, .slice (some ⟨bg, 0, none⟩) g.length g.length] w fun e w' => e = .returned (.bool (meetL f g)) ∧ ∃ n, w' = w.drewN n := by
  have Hf := hide hf
  have Hg := hide hg
  clear hf hg
  go_enter Tryz.func151, Tryz.ntmps151
  go_wp2
  go_loopw [11] (fun i wr => ∃ k : Nat, k ≤ f.length ∧ k ≤ g.length ∧ i = .int .i64 k ∧ Hid (meetL f g = meetL (f.drop k) (g.drop k)) ∧ ∃ n, wr = w.drewN n) (fun i _ => f.length - (intOf i).toNat)
  case atStart => exact ⟨0, Nat.zero_le _, Nat.zero_le _, rfl, hide rfl, 0, rfl⟩
  case round =>
    obtain ⟨k, hk, hk2, rfl, hq, n, rfl⟩ := hrel
    by_cases hlt : k < f.length ∧ k < g.length
    · obtain ⟨h1, h2⟩ := hlt
      have hc1 : w.cell? ⟨bf, k, none⟩ = some (.string (tk f k)) := by have := unhide Hf k h1; rwa [Nat.zero_add] at this
      have hc2 : w.cell? ⟨bg, k, none⟩ = some (.string (tk g k)) := by have := unhide Hg k h2; rwa [Nat.zero_add] at this
      have hmin : (k : Int) < min (f.length : Int) (g.length : Int) := by omega
      cases ha : ((tk f k).toList == [62])
      · cases hb : ((tk g k).toList == [62])
        · cases hc : ((tk f k).toList == (tk g k).toList)
          · cases hd : ((tk f k).toList == [42])
            · cases he : ((tk g k).toList == [42])
              · have R := hide (meet_of (unhide hq) h1 h2 ha hb hc hd he)
                go_wp2
                go_quiet (fail)
                go_wp2
                go_ret
                exact ⟨ret_is (unhide R), _, World.drewN_drewN _ _ _⟩
              · have R := hide (meet_of (unhide hq) h1 h2 ha hb hc hd he)
                go_wp2
                go_quiet (fail)
                go_wp2
                exact ⟨⟨k + 1, by omega, by omega, by go_num, hide (unhide R), _, rfl⟩, by simp [intOf]; omega⟩
            · have R := hide (meet_of (unhide hq) h1 h2 ha hb hc hd rfl)
              go_wp2
              go_quiet (fail)
              go_wp2
              exact ⟨⟨k + 1, by omega, by omega, by go_num, hide (unhide R), _, rfl⟩, by simp [intOf]; omega⟩
          · have R := hide (meet_of (unhide hq) h1 h2 ha hb hc rfl rfl)
            go_wp2
            go_quiet (fail)
            go_wp2
            exact ⟨⟨k + 1, by omega, by omega, by go_num, hide (unhide R), _, rfl⟩, by simp [intOf]; omega⟩
        · have R := hide (meet_of (unhide hq) h1 h2 ha hb rfl rfl rfl)
          go_wp2
          go_ret
          exact ⟨ret_is (unhide R), _, rfl⟩
      · have R := hide (meet_of (unhide hq) h1 h2 ha rfl rfl rfl rfl)
        go_wp2
        go_ret
        exact ⟨ret_is (unhide R), _, rfl⟩
    · have hmin : ¬ (k : Int) < min (f.length : Int) (g.length : Int) := by omega
      have R := hide ((unhide hq).trans (meet_end hk hk2 (by omega)))
      go_wp2
      go_ret
      refine ⟨ret_bool ?_, _, rfl⟩
      rw [unhide R]
      simp
      omega
set_option maxHeartbeats 400000 in
theorem both_any (f g : ByteArray) (w : World) (hf : f.size ≤ 140737488355328) (hg : g.size ≤ 140737488355328) :
    Calls Tryz.prog 150 #[.string f, .string g] w fun e w' => e = .returned (.int .i64 (pairErr (errS true f) (errS true g))) ∧ Below w.heap.size w w' := by
  cases he : ((errS true f) == 0)
  · go_enter Tryz.func150, Tryz.ntmps150
    go_wp2_with (go_at_call 72; refine (filter_any f _ hf).mono ?_; rintro e w1 ⟨rfl, hb⟩)
    go_ret
    exact ⟨ret_eq (if_neg (by simpa using he)), hb⟩
  · have e0 : errS true f = 0 := by simpa using he
    have E0 := hide e0
    go_enter Tryz.func150, Tryz.ntmps150
    clear e0
    go_wp2_with fail
    refine (filter_any f _ hf).mono ?_
    rintro e w1 ⟨rfl, hb⟩
    go_wp2_with fail
    refine (filter_any g _ hg).mono ?_
    rintro e w2 ⟨rfl, hb2⟩
    go_wp2
    go_ret
    exact ⟨ret_eq (if_pos (unhide E0)), hb.trans (hb2.mono hb.size)⟩
set_option maxHeartbeats 400000 in
theorem overlap_any (f g : ByteArray) (w : World) (hf : f.size ≤ 140737488355328) (hg : g.size ≤ 140737488355328) :
    Calls Tryz.prog 129 #[.string f, .string g] w fun e w' => e = .returned (.tuple #[.bool (overlapB f g), .int .i64 (pairErr (errS true f) (errS true g))]) ∧ Below w.heap.size w w' := by
  cases he : (pairErr (errS true f) (errS true g) == 0)
  · have R : overlapB f g = false := by
      unfold overlapB
      cases h1 : (errS true f == 0)
      · rfl
      · cases h2 : (errS true g == 0)
        · rfl
        · exfalso
          unfold pairErr at he
          rw [if_pos (by simpa using h1), h2] at he
          cases he
    have HR := hide R
    clear R
    go_enter Tryz.func129, Tryz.ntmps129
    go_wp2_with fail
    refine (both_any f g _ hf hg).mono ?_
    rintro e w1 ⟨rfl, hb⟩
    go_wp2
    go_ret2
    exact ⟨ret_two (unhide HR) rfl, hb⟩
  · have h1 : (errS true f == 0) = true := by
      cases h1 : (errS true f == 0)
      · unfold pairErr at he
        rw [if_neg (by simpa using h1), h1] at he
        cases he
      · rfl
    have h2 : (errS true g == 0) = true := by
      unfold pairErr at he
      rwa [if_pos (by simpa using h1)] at he
    have R : overlapB f g = meetL (Pl.toks f) (Pl.toks g) := by unfold overlapB; rw [h1, h2]; rfl
    have HR := hide R
    have n1 : (Pl.toks f).length ≤ 8 := few (wild := true) (by simpa using h1)
    have n2 : (Pl.toks g).length ≤ 8 := few (wild := true) (by simpa using h2)
    have E := hide (show pairErr (errS true f) (errS true g) = 0 by simpa using he)
    clear R h1 h2
    go_enter Tryz.func129, Tryz.ntmps129
    go_wp2_with fail
    refine (both_any f g _ hf hg).mono ?_
    rintro e w1 ⟨rfl, hb⟩
    go_wp2_with fail
    refine (tokens_any f _ hf n1).mono ?_
    rintro e w3 ⟨bf, rfl, h1, h2, hb3, hr3⟩
    go_wp2_with fail
    refine (tokens_any g _ hg n2).mono ?_
    rintro e w4 ⟨bs, rfl, h5, h6, hb4, hr4⟩
    go_wp2_with fail
    refine (meet_any bf bs _ _ _ (hr3.below hb4 h2) hr4 n1).mono ?_
    rintro e w5 ⟨rfl, n, rfl⟩
    go_wp2
    go_ret2
    have h13 := hb.trans (hb3.mono hb.size)
    have h14 := h13.trans (hb4.mono h13.size)
    exact ⟨ret_two (unhide HR) (unhide E), below_drewN h14 n⟩
theorem overlap_at {f s : ByteArray} {a : Bool} {x : Int} (h1 : overlapB f s = a) (h2 : pairErr (errS true f) (errS true s) = x) (hf : f.size ≤ 140737488355328) (hs : s.size ≤ 140737488355328) (w : World) :
    Calls Tryz.prog 129 #[.string f, .string s] w fun e w' => e = .returned (.tuple #[.bool a, .int .i64 x]) ∧ Below w.heap.size w w' := by
  subst h1 h2; exact overlap_any f s w hf hs
end Go.Proofs.YtmccpkpeimejhagGreatDoor
