/-
  A plan of a stream, pure: when it is right, its text, and the text read. No program.
  A plan's text is read as it was, and what is read is printed as it stood. No program.
-/
import Derived.Test.YtcbfmjjodfnacaaDoorJointPlainPapPa
import Derived.Test.YtcbfmjjodfnacaaDoorJointPlain2Plain5PlainK
namespace Go.Proofs.YtcbfmjjodfnacaaDoor.Pn
open Go

/-- the words of a plan's numbers; the most that each may be -/
def words8 : List (List UInt8) := [[109, 115, 103, 115], [98, 121, 116, 101, 115], [97, 103, 101], [112, 101, 114], [115, 105, 122, 101], [100, 105, 115, 99, 97, 114, 100], [107, 101, 101, 112], [119, 105, 110, 100, 111, 119]]
def most8 : List Int := [200, 65536, 100000, 200, 256, 1, 2, 100000]
/-- a plan: its name, its filters, its eight numbers -/
structure Pln where
  n : ByteArray
  f : List ByteArray
  v : List Int
def nameB (c : UInt8) : Bool := (decide (97 ≤ c.toNat) && decide (c.toNat ≤ 122)) || ((decide (48 ≤ c.toNat) && decide (c.toNat ≤ 57)) || decide (c.toNat = 45))
def namedB (s : ByteArray) : Bool := s.data.toList.all nameB && (decide (1 ≤ s.size) && decide (s.size ≤ 16))
/-- the error of the first filter that has one; 0: none -/
def filtE : List ByteArray → Int
  | [] => 0
  | f :: r => if errS true f = 0 then filtE r else errS true f
/-- do two of them overlap? -/
def laps : List ByteArray → Bool
  | [] => false
  | f :: r => r.any (fun g => meetL (Pl.toks f) (Pl.toks g)) || laps r
def inAll : List Int → List Int → Bool
  | [], [] => true
  | x :: v, m :: ms => (decide (0 ≤ x) && decide (x ≤ m)) && inAll v ms
  | _, _ => false
def planE (p : Pln) : Int := if namedB p.n = false then 3 else if 4 < p.f.length then 2 else if p.f.length = 0 then 1 else if filtE p.f ≠ 0 then filtE p.f else if laps p.f = true then 10 else if inAll p.v most8 = true then 0 else 1
theorem plan_ok {p : Pln} (h : planE p = 0) : namedB p.n = true ∧ p.f.length ≤ 4 ∧ p.f.length ≠ 0 ∧ filtE p.f = 0 ∧ laps p.f = false ∧ inAll p.v most8 = true := by
  unfold planE at h
  by_cases h1 : namedB p.n = false
  · rw [if_pos h1] at h; cases h
  · rw [if_neg h1] at h
    by_cases h2 : 4 < p.f.length
    · rw [if_pos h2] at h; cases h
    · rw [if_neg h2] at h
      by_cases h3 : p.f.length = 0
      · rw [if_pos h3] at h; cases h
      · rw [if_neg h3] at h
        by_cases h4 : filtE p.f ≠ 0
        · rw [if_pos h4] at h; exact absurd h h4
        · rw [if_neg h4] at h
          by_cases h5 : laps p.f = true
          · rw [if_pos h5] at h; cases h
          · rw [if_neg h5] at h
            by_cases h6 : inAll p.v most8 = true
            · exact ⟨by simpa using h1, by omega, h3, Classical.not_not.1 h4, by simpa using h5, h6⟩
            · rw [if_neg h6] at h; cases h
theorem filtE_all : ∀ {l : List ByteArray}, filtE l = 0 → ∀ f ∈ l, errS true f = 0
  | [], _, f, hf => by cases hf
  | g :: r, h, f, hf => by
    unfold filtE at h
    by_cases e : errS true g = 0
    · rw [if_pos e] at h
      rcases List.mem_cons.1 hf with y | y
      · rw [y]; exact e
      · exact filtE_all h f y
    · rw [if_neg e] at h; exact absurd h e
/-- the words of the numbers that aren't 0 -/
def wordsT : List (List UInt8) → List Int → List (List UInt8)
  | w :: ws, x :: v => if x = 0 then wordsT ws v else (w ++ 61 :: Lib.itoa x) :: wordsT ws v
  | _, _ => []
def textL (p : Pln) : List (List UInt8) := p.n.data.toList :: glue 44 (p.f.map (·.data.toList)) :: wordsT words8 p.v
/-- Print: the text; has a filter a comma? -/
def planT (p : Pln) : ByteArray := ⟨(glue 32 (textL p)).toArray⟩
def commas (p : Pln) : Bool := p.f.any (fun f => f.data.toList.contains 44)
/-- the words that are read: of each word in its turn the number, or 0 -/
def rdN : List (List UInt8) → List (List UInt8) → Option (List Int)
  | [], [] => some []
  | [], _ :: _ => none
  | _ :: ws, [] => (rdN ws []).map (fun v => 0 :: v)
  | w :: ws, t :: ts => if (w ++ [61]).isPrefixOf t = true then (if digV (t.drop (w.length + 1)) < 1 then none else (rdN ws ts).map (fun v => digV (t.drop (w.length + 1)) :: v)) else (rdN ws (t :: ts)).map (fun v => 0 :: v)
def zeroP : Pln := ⟨⟨#[]⟩, [], [0, 0, 0, 0, 0, 0, 0, 0]⟩
def bs (l : List UInt8) : ByteArray := ⟨l.toArray⟩
/-- Parse -/
def readP (s : ByteArray) : Pln × Int := if 1024 < s.size then (zeroP, 2) else match cut 32 s.data.toList with
  | n :: f :: ts => match rdN words8 ts with
    | some v => if planE ⟨bs n, (cut 44 f).map bs, v⟩ = 0 then (⟨bs n, (cut 44 f).map bs, v⟩, 0) else (zeroP, planE ⟨bs n, (cut 44 f).map bs, v⟩)
    | none => (zeroP, 3)
  | _ => (zeroP, 3)

theorem prefix_word {a b d : List UInt8} (ha : (61 : UInt8) ∉ a) (hb : (61 : UInt8) ∉ b) (h : (a ++ [61]).isPrefixOf (b ++ 61 :: d) = true) : a = b := by
  induction a generalizing b with
  | nil =>
    cases b with
    | nil => rfl
    | cons x b =>
      simp [List.isPrefixOf] at h
      exact absurd (by rw [← h]; exact List.mem_cons_self ..) hb
  | cons y a ih =>
    cases b with
    | nil =>
      simp [List.isPrefixOf] at h
      exact absurd (by rw [h.1]; exact List.mem_cons_self ..) ha
    | cons x b =>
      simp only [List.cons_append, List.isPrefixOf, Bool.and_eq_true, beq_iff_eq] at h
      rw [h.1, ih (fun z => ha (List.mem_cons_of_mem _ z)) (fun z => hb (List.mem_cons_of_mem _ z)) h.2]
theorem prefix_self (w d : List UInt8) : (w ++ [61]).isPrefixOf (w ++ 61 :: d) = true ∧ (w ++ 61 :: d).drop (w.length + 1) = d := by
  constructor
  · rw [List.isPrefixOf_iff_prefix]
    exact ⟨d, by simp⟩
  · rw [List.drop_append, List.drop_of_length_le (by omega), show w.length + 1 - w.length = 1 by omega]
    rfl
theorem wordsT_head : ∀ (ws : List (List UInt8)) (v : List Int) {t : List UInt8} {ts : List (List UInt8)}, wordsT ws v = t :: ts → ∃ u ∈ ws, ∃ d, t = u ++ 61 :: d
  | [], _, t, ts, h => by simp [wordsT] at h
  | w :: ws, [], t, ts, h => by simp [wordsT] at h
  | w :: ws, x :: v, t, ts, h => by
    by_cases e : x = 0
    · rw [wordsT, if_pos e] at h
      obtain ⟨u, hu, d, hd⟩ := wordsT_head ws v h
      exact ⟨u, List.mem_cons_of_mem _ hu, d, hd⟩
    · rw [wordsT, if_neg e] at h
      exact ⟨w, List.mem_cons_self .., Lib.itoa x, (List.cons.inj h).1.symm⟩
/-- what is printed is read -/
theorem rdN_back : ∀ (ws : List (List UInt8)) (v : List Int), ws.Nodup → (∀ w ∈ ws, (61 : UInt8) ∉ w) → v.length = ws.length → (∀ x ∈ v, 0 ≤ x ∧ x < 1000000000) → rdN ws (wordsT ws v) = some v
  | [], [], _, _, _, _ => rfl
  | [], _ :: _, _, _, h, _ => by simp at h
  | w :: ws, [], _, _, h, _ => by simp at h
  | w :: ws, x :: v, hn, hw, hl, hx => by
    have hn' := List.nodup_cons.1 hn
    have ih := rdN_back ws v hn'.2 (fun u hu => hw u (List.mem_cons_of_mem _ hu)) (by simpa using hl) (fun y hy => hx y (List.mem_cons_of_mem _ hy))
    by_cases e : x = 0
    · have e1 : wordsT (w :: ws) (x :: v) = wordsT ws v := by rw [wordsT, if_pos e]
      rw [e1]
      cases ht : wordsT ws v with
      | nil => rw [ht] at ih; rw [rdN, ih, e]; rfl
      | cons t ts =>
        have hm : ∃ u ∈ ws, ∃ d, t = u ++ 61 :: d := wordsT_head ws v ht
        obtain ⟨u, hu, d, rfl⟩ := hm
        rw [ht] at ih
        have hp : ¬ (w ++ [61]).isPrefixOf (u ++ 61 :: d) = true := fun z => by
          have := prefix_word (hw w (List.mem_cons_self ..)) (hw u (List.mem_cons_of_mem _ hu)) z
          rw [this] at hn'
          exact hn'.1 hu
        rw [rdN, if_neg hp, ih, e]; rfl
    · have e1 : wordsT (w :: ws) (x :: v) = (w ++ 61 :: Lib.itoa x) :: wordsT ws v := by rw [wordsT, if_neg e]
      have hx0 := hx x (List.mem_cons_self ..)
      obtain ⟨u, rfl⟩ : ∃ u : Nat, x = (u : Int) := ⟨x.toNat, by omega⟩
      have hi : Lib.itoa (u : Int) = Lib.decDigits u := by unfold Lib.itoa; rw [if_neg (by omega)]; simp
      obtain ⟨p1, p2⟩ := prefix_self w (Lib.itoa (u : Int))
      have hd : digV (Lib.itoa (u : Int)) = (u : Int) := by rw [hi]; exact digV_dec (by omega) (by omega)
      rw [e1, rdN, if_pos p1, p2, hd, if_neg (by omega), ih]
      rfl
/-- what is read is printed as it stood -/
theorem rdN_one : ∀ (ws ts : List (List UInt8)) {v : List Int}, rdN ws ts = some v → wordsT ws v = ts ∧ v.length = ws.length ∧ ∀ x ∈ v, 0 ≤ x ∧ x < 1000000000
  | [], [], v, h => by
    simp [rdN] at h
    subst h
    exact ⟨rfl, rfl, fun x hx => by cases hx⟩
  | [], _ :: _, v, h => by simp [rdN] at h
  | w :: ws, [], v, h => by
    rw [rdN] at h
    cases hr : rdN ws [] with
    | none => rw [hr] at h; simp at h
    | some u =>
      rw [hr] at h
      simp at h
      subst h
      obtain ⟨h1, h2, h3⟩ := rdN_one ws [] hr
      refine ⟨by rw [wordsT, if_pos rfl]; exact h1, by simp [h2], fun x hx => ?_⟩
      rcases List.mem_cons.1 hx with y | y
      · omega
      · exact h3 x y
  | w :: ws, t :: ts, v, h => by
    rw [rdN] at h
    by_cases hp : (w ++ [61]).isPrefixOf t = true
    · rw [if_pos hp] at h
      by_cases hd : digV (t.drop (w.length + 1)) < 1
      · rw [if_pos hd] at h; cases h
      · rw [if_neg hd] at h
        cases hr : rdN ws ts with
        | none => rw [hr] at h; simp at h
        | some u =>
          rw [hr] at h
          simp at h
          subst h
          obtain ⟨h1, h2, h3⟩ := rdN_one ws ts hr
          obtain ⟨b1, b2⟩ := digV_back (l := t.drop (w.length + 1)) (by omega)
          obtain ⟨d, hd2⟩ := List.isPrefixOf_iff_prefix.1 hp
          have e : t.drop (w.length + 1) = d := by rw [← hd2, List.append_assoc]; exact (prefix_self w d).2
          refine ⟨?_, by simp [h2], fun x hx => ?_⟩
          · rw [wordsT, if_neg (by omega), b1, h1, e, ← hd2]
            simp
          · rcases List.mem_cons.1 hx with y | y
            · omega
            · exact h3 x y
    · rw [if_neg hp] at h
      cases hr : rdN ws (t :: ts) with
      | none => rw [hr] at h; simp at h
      | some u =>
        rw [hr] at h
        simp at h
        subst h
        obtain ⟨h1, h2, h3⟩ := rdN_one ws (t :: ts) hr
        refine ⟨by rw [wordsT, if_pos rfl]; exact h1, by simp [h2], fun x hx => ?_⟩
        rcases List.mem_cons.1 hx with y | y
        · omega
        · exact h3 x y
end Go.Proofs.YtcbfmjjodfnacaaDoor.Pn

namespace Go.Proofs.YtcbfmjjodfnacaaDoor.Pn
open Go

theorem bs_list (s : ByteArray) : bs s.data.toList = s := by unfold bs; apply ByteArray.ext; simp
theorem list_bs (l : List UInt8) : (bs l).data.toList = l := by unfold bs; simp
theorem inAll_in : ∀ {v ms : List Int}, inAll v ms = true → v.length = ms.length ∧ ∀ x ∈ v, 0 ≤ x ∧ ∃ m ∈ ms, x ≤ m
  | [], [], _ => ⟨rfl, fun x hx => by cases hx⟩
  | [], _ :: _, h => by simp [inAll] at h
  | _ :: _, [], h => by simp [inAll] at h
  | x :: v, m :: ms, h => by
    unfold inAll at h
    simp only [Bool.and_eq_true, decide_eq_true_eq] at h
    obtain ⟨h1, h2⟩ := inAll_in h.2
    refine ⟨by simp [h1], fun y hy => ?_⟩
    rcases List.mem_cons.1 hy with z | z
    · rw [z]; exact ⟨h.1.1, m, List.mem_cons_self .., h.1.2⟩
    · obtain ⟨q, k, hk, hl⟩ := h2 y z
      exact ⟨q, k, List.mem_cons_of_mem _ hk, hl⟩
theorem most_le : ∀ m ∈ most8, m ≤ 100000 := by decide
/-- the bytes of a right filter -/
theorem piece_ok {t : List UInt8} {last : Bool} (h : Pl.tokOk true last t = true) : t.length ≤ 16 ∧ ∀ c ∈ t, 33 ≤ c.toNat := by
  unfold Pl.tokOk at h
  rcases Bool.or_eq_true_iff.1 h with y | y
  · unfold Pl.plainB at y
    simp only [Bool.and_eq_true, decide_eq_true_eq, List.all_eq_true] at y
    refine ⟨y.2.1, fun c hc => ?_⟩
    have := y.2.2 c hc
    unfold Pl.tokB at this
    simp only [Bool.and_eq_true, decide_eq_true_eq] at this
    exact this.1
  · simp only [Bool.true_and, Bool.or_eq_true, beq_iff_eq, Bool.and_eq_true] at y
    rcases y with y | y
    · rw [y]; exact ⟨by decide, by decide⟩
    · rw [y.1]; exact ⟨by decide, by decide⟩
theorem filt_bytes {f : ByteArray} (h : errS true f = 0) : f.size ≤ 136 ∧ ∀ c ∈ f.data.toList, 33 ≤ c.toNat := by
  obtain ⟨h1, h2⟩ := good_of h
  have hp : ∀ t ∈ Pl.pcs f.data.toList, t.length ≤ 16 ∧ ∀ c ∈ t, 33 ≤ c.toNat := fun t ht => by
    obtain ⟨k, hk, rfl⟩ := List.mem_iff_getElem.1 ht
    unfold Pl.goodTo at h2
    rw [List.all_eq_true] at h2
    have := h2 k (List.mem_range.2 hk)
    rw [List.getElem?_eq_getElem hk] at this
    exact piece_ok this
  have hg := glue_cut 46 f.data.toList
  rw [cut_dot] at hg
  constructor
  · have := glue_len 46 16 _ (fun t ht => (hp t ht).1)
    rw [hg] at this
    have e : f.data.toList.length = f.size := by simp
    omega
  · intro c hc
    rw [← hg] at hc
    rcases glue_mem 46 _ c hc with y | ⟨t, ht, hct⟩
    · rw [y]; decide
    · exact (hp t ht).2 c hct
theorem name_bytes {s : ByteArray} (h : namedB s = true) : s.size ≤ 16 ∧ ∀ c ∈ s.data.toList, 33 ≤ c.toNat := by
  unfold namedB at h
  simp only [Bool.and_eq_true, decide_eq_true_eq, List.all_eq_true] at h
  refine ⟨h.2.2, fun c hc => ?_⟩
  have := h.1 c hc
  unfold nameB at this
  simp only [Bool.or_eq_true, Bool.and_eq_true, decide_eq_true_eq] at this
  omega
theorem dig_bytes {u : Nat} : ∀ c ∈ Lib.decDigits u, 33 ≤ c.toNat := fun c hc => by
  have := dec_dig u c hc
  unfold isDig at this
  simp at this
  omega
theorem itoa_low {x : Int} (h : 0 ≤ x ∧ x ≤ 100000) : (Lib.itoa x).length ≤ 6 ∧ ∀ c ∈ Lib.itoa x, 33 ≤ c.toNat := by
  have e : Lib.itoa x = Lib.decDigits x.toNat := by unfold Lib.itoa; rw [if_neg (by omega)]
  rw [e]
  exact ⟨dec_len 5 _ (by simp; omega), dig_bytes⟩
theorem wordsT_bytes : ∀ (ws : List (List UInt8)) (v : List Int), (∀ w ∈ ws, w.length ≤ 7 ∧ ∀ c ∈ w, 33 ≤ c.toNat) → (∀ x ∈ v, 0 ≤ x ∧ x ≤ 100000) → (wordsT ws v).length ≤ ws.length ∧ ∀ t ∈ wordsT ws v, t.length ≤ 14 ∧ ∀ c ∈ t, 33 ≤ c.toNat
  | [], v, _, _ => by simp [wordsT]
  | w :: ws, [], _, _ => by simp [wordsT]
  | w :: ws, x :: v, hw, hx => by
    obtain ⟨h1, h2⟩ := wordsT_bytes ws v (fun u hu => hw u (List.mem_cons_of_mem _ hu)) (fun y hy => hx y (List.mem_cons_of_mem _ hy))
    by_cases e : x = 0
    · rw [wordsT, if_pos e]
      exact ⟨by simp; omega, h2⟩
    · rw [wordsT, if_neg e]
      refine ⟨by simp; omega, fun t ht => ?_⟩
      rcases List.mem_cons.1 ht with y | y
      · obtain ⟨i1, i2⟩ := itoa_low (hx x (List.mem_cons_self ..))
        obtain ⟨w1, w2⟩ := hw w (List.mem_cons_self ..)
        rw [y]
        refine ⟨by rw [List.length_append, List.length_cons]; omega, fun c hc => ?_⟩
        rcases List.mem_append.1 hc with z | z
        · exact w2 c z
        · rcases List.mem_cons.1 z with q | q
          · rw [q]; decide
          · exact i2 c q
      · exact h2 t y
theorem words8_ok : ∀ w ∈ words8, w.length ≤ 7 ∧ ∀ c ∈ w, 33 ≤ c.toNat := by decide
theorem words8_no : ∀ w ∈ words8, (61 : UInt8) ∉ w := by decide
theorem words8_nodup : words8.Nodup := by decide
/-- a right plan's text: its bytes, its size -/
theorem text_ok {p : Pln} (h : planE p = 0) : (∀ t ∈ textL p, (32 : UInt8) ∉ t) ∧ (planT p).size ≤ 1024 := by
  obtain ⟨h1, h2, h3, h4, h5, h6⟩ := plan_ok h
  obtain ⟨n1, n2⟩ := name_bytes h1
  have hf := filtE_all h4
  have hv : ∀ x ∈ p.v, 0 ≤ x ∧ x ≤ 100000 := fun x hx => by
    obtain ⟨q, m, hm, hl⟩ := (inAll_in h6).2 x hx
    have := most_le m hm
    omega
  obtain ⟨w1, w2⟩ := wordsT_bytes words8 p.v words8_ok hv
  have hj : ∀ c ∈ glue 44 (p.f.map (·.data.toList)), 33 ≤ c.toNat := fun c hc => by
    rcases glue_mem 44 _ c hc with y | ⟨t, ht, hct⟩
    · rw [y]; decide
    · obtain ⟨f, hff, rfl⟩ := List.mem_map.1 ht
      exact (filt_bytes (hf f hff)).2 c hct
  have no : ∀ {t : List UInt8}, (∀ c ∈ t, 33 ≤ c.toNat) → (32 : UInt8) ∉ t := fun ht z => by
    have := ht _ z
    simp at this
  constructor
  · intro t ht
    unfold textL at ht
    rcases List.mem_cons.1 ht with y | y
    · rw [y]; exact no n2
    · rcases List.mem_cons.1 y with z | z
      · rw [z]; exact no hj
      · exact no (w2 t z).2
  · have hjl : (glue 44 (p.f.map (·.data.toList))).length ≤ 548 := by
      have := glue_len 44 136 (p.f.map (·.data.toList)) (fun t ht => by
        obtain ⟨f, hff, rfl⟩ := List.mem_map.1 ht
        have := (filt_bytes (hf f hff)).1
        simpa using this)
      rw [List.length_map] at this
      omega
    have hw := glue_len 32 14 _ (fun t ht => (w2 t ht).1)
    have hl8 : words8.length = 8 := rfl
    have hstep : ∀ (t : List UInt8) (ts : List (List UInt8)), (glue 32 (t :: ts)).length ≤ t.length + 1 + (glue 32 ts).length := fun t ts => by
      cases ts with
      | nil => simp [glue]
      | cons u us => rw [glue_cons 32 t (by simp), List.length_append, List.length_cons]; omega
    have s1 := hstep p.n.data.toList (glue 44 (p.f.map (·.data.toList)) :: wordsT words8 p.v)
    have s2 := hstep (glue 44 (p.f.map (·.data.toList))) (wordsT words8 p.v)
    have e : (planT p).size = (glue 32 (textL p)).length := by
      show (glue 32 (textL p)).toArray.size = _
      simp
    have en : p.n.data.toList.length = p.n.size := by simp
    rw [e]
    unfold textL
    omega
/-- what is printed is read as it was -/
theorem read_print {p : Pln} (h : planE p = 0) (hc : commas p = false) : readP (planT p) = (p, 0) := by
  obtain ⟨h1, h2, h3, h4, h5, h6⟩ := plan_ok h
  obtain ⟨t1, t2⟩ := text_ok h
  have hcut : cut 32 (planT p).data.toList = textL p := by
    have e : (planT p).data.toList = glue 32 (textL p) := by simp [planT]
    rw [e]
    exact cut_glue 32 _ (by unfold textL; simp) t1
  have hfc : cut 44 (glue 44 (p.f.map (·.data.toList))) = p.f.map (·.data.toList) := by
    refine cut_glue 44 _ (fun z => h3 (by simpa using congrArg List.length z)) (fun t ht => ?_)
    obtain ⟨f, hf, rfl⟩ := List.mem_map.1 ht
    unfold commas at hc
    rw [List.any_eq_false] at hc
    have := hc f hf
    simpa using this
  have hfm : (cut 44 (glue 44 (p.f.map (·.data.toList)))).map bs = p.f := by
    rw [hfc, List.map_map]
    conv => rhs; rw [← List.map_id p.f]
    exact List.map_congr_left (fun f _ => bs_list f)
  have hv : ∀ x ∈ p.v, 0 ≤ x ∧ x < 1000000000 := fun x hx => by
    obtain ⟨q, m, hm, hl⟩ := (inAll_in h6).2 x hx
    have := most_le m hm
    omega
  have hr := rdN_back words8 p.v words8_nodup words8_no ((inAll_in h6).1) hv
  unfold readP
  rw [if_neg (by omega), hcut]
  unfold textL
  simp only [hr, hfm, bs_list]
  rw [if_pos h]
/-- what is read is printed as it stood -/
theorem print_read {s : ByteArray} {x : Pln} (h : readP s = (x, 0)) : planE x = 0 ∧ commas x = false ∧ planT x = s := by
  unfold readP at h
  split at h
  · cases h
  · cases hc : cut 32 s.data.toList with
    | nil => exact absurd hc (cut_ne 32 _)
    | cons n r =>
      rw [hc] at h
      cases r with
      | nil => cases h
      | cons f ts =>
        simp only at h
        cases hr : rdN words8 ts with
        | none => rw [hr] at h; cases h
        | some v =>
          rw [hr] at h
          simp only at h
          by_cases he : planE ⟨bs n, (cut 44 f).map bs, v⟩ = 0
          · rw [if_pos he] at h
            have hx := (Prod.mk.inj h).1
            subst hx
            refine ⟨he, ?_, ?_⟩
            · unfold commas
              rw [List.any_eq_false]
              intro g hg
              obtain ⟨t, ht, rfl⟩ := List.mem_map.1 hg
              rw [list_bs]
              simpa using cut_free 44 f t ht
            · have e1 : ((cut 44 f).map bs).map (·.data.toList) = cut 44 f := by
                rw [List.map_map]
                conv => rhs; rw [← List.map_id (cut 44 f)]
                exact List.map_congr_left (fun t _ => list_bs t)
              have e2 : textL ⟨bs n, (cut 44 f).map bs, v⟩ = cut 32 s.data.toList := by
                unfold textL
                simp only [e1, glue_cut, list_bs, (rdN_one words8 ts hr).1, hc]
              unfold planT
              rw [e2, glue_cut]
          · rw [if_neg he] at h
            exact absurd (Prod.mk.inj h).2 he
theorem read_bad {s : ByteArray} (h : (readP s).2 ≠ 0) : (readP s).1 = zeroP := by
  unfold readP at h ⊢
  split
  · rfl
  · rename_i hs
    rw [if_neg hs] at h
    cases hc : cut 32 s.data.toList with
    | nil => rfl
    | cons n r =>
      rw [hc] at h
      cases r with
      | nil => rfl
      | cons f ts =>
        simp only at h ⊢
        cases hr : rdN words8 ts with
        | none => rfl
        | some v =>
          rw [hr] at h
          simp only at h ⊢
          by_cases he : planE ⟨bs n, (cut 44 f).map bs, v⟩ = 0
          · rw [if_pos he] at h; exact absurd rfl h
          · rw [if_neg he]
/-- the law's one plan -/
def onePlan : Pln := ⟨⟨#[115]⟩, [⟨#[97, 46, 62]⟩, ⟨#[98]⟩], [0, 0, 0, 3, 0, 0, 0, 0]⟩
theorem one_ok : planE onePlan = 0 ∧ commas onePlan = false := by decide +kernel
theorem one_text : planT onePlan = ⟨#[115, 32, 97, 46, 62, 44, 98, 32, 112, 101, 114, 61, 51]⟩ := by decide +kernel
end Go.Proofs.YtcbfmjjodfnacaaDoor.Pn
