/-
  A plan's text is read as it was, and what is read is printed as it stood. No program.
-/
import Derived.Test.YtcbfmjjodfnacaaDoorPapPb
namespace Go.Proofs.YtcbfmjjodfnacaaDoor.Pn
open Go

theorem bs_list (s : ByteArray) : bs s.data.toList = s := by unfold bs; apply ByteArray.ext; simp
theorem list_bs (l : List UInt8) : (bs l).data.toList = l := by unfold bs; simp
theorem inAll_in : ∀ {v ms : List Int}, inAll v ms = true → v.length = ms.length ∧ ∀ x ∈ v, 0 ≤ x ∧ ∃ m ∈ ms, x ≤ m
  | [], [], _ => ⟨rfl, fun x hx => by cases hx⟩
  | [], _ :: _, h => by simp [inAll] at h
  | _ :: _, [], h => by simp [inAll] at h
  | x :: v, m :: ms, h => by
    unfold inAll at h
    simp only [Bool.and_eq_true, decide_eq_true_eq] at h
    obtain ⟨h1, h2⟩ := inAll_in h.2
    refine ⟨by simp [h1], fun y hy => ?_⟩
    rcases List.mem_cons.1 hy with z | z
    · rw [z]; exact ⟨h.1.1, m, List.mem_cons_self .., h.1.2⟩
    · obtain ⟨q, k, hk, hl⟩ := h2 y z
      exact ⟨q, k, List.mem_cons_of_mem _ hk, hl⟩
theorem most_le : ∀ m ∈ most8, m ≤ 100000 := by decide
/-- the bytes of a right filter -/
theorem piece_ok {t : List UInt8} {last : Bool} (h : Pl.tokOk true last t = true) : t.length ≤ 16 ∧ ∀ c ∈ t, 33 ≤ c.toNat := by
  unfold Pl.tokOk at h
  rcases Bool.or_eq_true_iff.1 h with y | y
  · unfold Pl.plainB at y
    simp only [Bool.and_eq_true, decide_eq_true_eq, List.all_eq_true] at y
    refine ⟨y.2.1, fun c hc => ?_⟩
    have := y.2.2 c hc
    unfold Pl.tokB at this
    simp only [Bool.and_eq_true, decide_eq_true_eq] at this
    exact this.1
  · simp only [Bool.true_and, Bool.or_eq_true, beq_iff_eq, Bool.and_eq_true] at y
    rcases y with y | y
    · rw [y]; exact ⟨by decide, by decide⟩
    · rw [y.1]; exact ⟨by decide, by decide⟩
theorem filt_bytes {f : ByteArray} (h : errS true f = 0) : f.size ≤ 136 ∧ ∀ c ∈ f.data.toList, 33 ≤ c.toNat := by
  obtain ⟨h1, h2⟩ := good_of h
  have hp : ∀ t ∈ Pl.pcs f.data.toList, t.length ≤ 16 ∧ ∀ c ∈ t, 33 ≤ c.toNat := fun t ht => by
    obtain ⟨k, hk, rfl⟩ := List.mem_iff_getElem.1 ht
    unfold Pl.goodTo at h2
    rw [List.all_eq_true] at h2
    have := h2 k (List.mem_range.2 hk)
    rw [List.getElem?_eq_getElem hk] at this
    exact piece_ok this
  have hg := glue_cut 46 f.data.toList
  rw [cut_dot] at hg
  constructor
  · have := glue_len 46 16 _ (fun t ht => (hp t ht).1)
    rw [hg] at this
    have e : f.data.toList.length = f.size := by simp
    omega
  · intro c hc
    rw [← hg] at hc
    rcases glue_mem 46 _ c hc with y | ⟨t, ht, hct⟩
    · rw [y]; decide
    · exact (hp t ht).2 c hct
theorem name_bytes {s : ByteArray} (h : namedB s = true) : s.size ≤ 16 ∧ ∀ c ∈ s.data.toList, 33 ≤ c.toNat := by
  unfold namedB at h
  simp only [Bool.and_eq_true, decide_eq_true_eq, List.all_eq_true] at h
  refine ⟨h.2.2, fun c hc => ?_⟩
  have := h.1 c hc
  unfold nameB at this
  simp only [Bool.or_eq_true, Bool.and_eq_true, decide_eq_true_eq] at this
  omega
theorem dig_bytes {u : Nat} : ∀ c ∈ Lib.decDigits u, 33 ≤ c.toNat := fun c hc => by
  have := dec_dig u c hc
  unfold isDig at this
  simp at this
  omega
theorem itoa_low {x : Int} (h : 0 ≤ x ∧ x ≤ 100000) : (Lib.itoa x).length ≤ 6 ∧ ∀ c ∈ Lib.itoa x, 33 ≤ c.toNat := by
  have e : Lib.itoa x = Lib.decDigits x.toNat := by unfold Lib.itoa; rw [if_neg (by omega)]
  rw [e]
  exact ⟨dec_len 5 _ (by simp; omega), dig_bytes⟩
theorem wordsT_bytes : ∀ (ws : List (List UInt8)) (v : List Int), (∀ w ∈ ws, w.length ≤ 7 ∧ ∀ c ∈ w, 33 ≤ c.toNat) → (∀ x ∈ v, 0 ≤ x ∧ x ≤ 100000) → (wordsT ws v).length ≤ ws.length ∧ ∀ t ∈ wordsT ws v, t.length ≤ 14 ∧ ∀ c ∈ t, 33 ≤ c.toNat
  | [], v, _, _ => by simp [wordsT]
  | w :: ws, [], _, _ => by simp [wordsT]
  | w :: ws, x :: v, hw, hx => by
    obtain ⟨h1, h2⟩ := wordsT_bytes ws v (fun u hu => hw u (List.mem_cons_of_mem _ hu)) (fun y hy => hx y (List.mem_cons_of_mem _ hy))
    by_cases e : x = 0
    · rw [wordsT, if_pos e]
      exact ⟨by simp; omega, h2⟩
    · rw [wordsT, if_neg e]
      refine ⟨by simp; omega, fun t ht => ?_⟩
      rcases List.mem_cons.1 ht with y | y
      · obtain ⟨i1, i2⟩ := itoa_low (hx x (List.mem_cons_self ..))
        obtain ⟨w1, w2⟩ := hw w (List.mem_cons_self ..)
        rw [y]
        refine ⟨by rw [List.length_append, List.length_cons]; omega, fun c hc => ?_⟩
        rcases List.mem_append.1 hc with z | z
        · exact w2 c z
        · rcases List.mem_cons.1 z with q | q
          · rw [q]; decide
          · exact i2 c q
      · exact h2 t y
theorem words8_ok : ∀ w ∈ words8, w.length ≤ 7 ∧ ∀ c ∈ w, 33 ≤ c.toNat := by decide
theorem words8_no : ∀ w ∈ words8, (61 : UInt8) ∉ w := by decide
theorem words8_nodup : words8.Nodup := by decide
/-- a right plan's text: its bytes, its size -/
theorem text_ok {p : Pln} (h : planE p = 0) : (∀ t ∈ textL p, (32 : UInt8) ∉ t) ∧ (planT p).size ≤ 1024 := by
  obtain ⟨h1, h2, h3, h4, h5, h6⟩ := plan_ok h
  obtain ⟨n1, n2⟩ := name_bytes h1
  have hf := filtE_all h4
  have hv : ∀ x ∈ p.v, 0 ≤ x ∧ x ≤ 100000 := fun x hx => by
    obtain ⟨q, m, hm, hl⟩ := (inAll_in h6).2 x hx
    have := most_le m hm
    omega
  obtain ⟨w1, w2⟩ := wordsT_bytes words8 p.v words8_ok hv
  have hj : ∀ c ∈ glue 44 (p.f.map (·.data.toList)), 33 ≤ c.toNat := fun c hc => by
    rcases glue_mem 44 _ c hc with y | ⟨t, ht, hct⟩
    · rw [y]; decide
    · obtain ⟨f, hff, rfl⟩ := List.mem_map.1 ht
      exact (filt_bytes (hf f hff)).2 c hct
  have no : ∀ {t : List UInt8}, (∀ c ∈ t, 33 ≤ c.toNat) → (32 : UInt8) ∉ t := fun ht z => by
    have := ht _ z
    simp at this
  constructor
  · intro t ht
    unfold textL at ht
    rcases List.mem_cons.1 ht with y | y
    · rw [y]; exact no n2
    · rcases List.mem_cons.1 y with z | z
      · rw [z]; exact no hj
      · exact no (w2 t z).2
  · have hjl : (glue 44 (p.f.map (·.data.toList))).length ≤ 548 := by
      have := glue_len 44 136 (p.f.map (·.data.toList)) (fun t ht => by
        obtain ⟨f, hff, rfl⟩ := List.mem_map.1 ht
        have := (filt_bytes (hf f hff)).1
        simpa using this)
      rw [List.length_map] at this
      omega
    have hw := glue_len 32 14 _ (fun t ht => (w2 t ht).1)
    have hl8 : words8.length = 8 := rfl
    have hstep : ∀ (t : List UInt8) (ts : List (List UInt8)), (glue 32 (t :: ts)).length ≤ t.length + 1 + (glue 32 ts).length := fun t ts => by
      cases ts with
      | nil => simp [glue]
      | cons u us => rw [glue_cons 32 t (by simp), List.length_append, List.length_cons]; omega
    have s1 := hstep p.n.data.toList (glue 44 (p.f.map (·.data.toList)) :: wordsT words8 p.v)
    have s2 := hstep (glue 44 (p.f.map (·.data.toList))) (wordsT words8 p.v)
    have e : (planT p).size = (glue 32 (textL p)).length := by
      show (glue 32 (textL p)).toArray.size = _
      simp
    have en : p.n.data.toList.length = p.n.size := by simp
    rw [e]
    unfold textL
    omega
/-- what is printed is read as it was -/
theorem read_print {p : Pln} (h : planE p = 0) (hc : commas p = false) : readP (planT p) = (p, 0) := by
  obtain ⟨h1, h2, h3, h4, h5, h6⟩ := plan_ok h
  obtain ⟨t1, t2⟩ := text_ok h
  have hcut : cut 32 (planT p).data.toList = textL p := by
    have e : (planT p).data.toList = glue 32 (textL p) := by simp [planT]
    rw [e]
    exact cut_glue 32 _ (by unfold textL; simp) t1
  have hfc : cut 44 (glue 44 (p.f.map (·.data.toList))) = p.f.map (·.data.toList) := by
    refine cut_glue 44 _ (fun z => h3 (by simpa using congrArg List.length z)) (fun t ht => ?_)
    obtain ⟨f, hf, rfl⟩ := List.mem_map.1 ht
    unfold commas at hc
    rw [List.any_eq_false] at hc
    have := hc f hf
    simpa using this
  have hfm : (cut 44 (glue 44 (p.f.map (·.data.toList)))).map bs = p.f := by
    rw [hfc, List.map_map]
    conv => rhs; rw [← List.map_id p.f]
    exact List.map_congr_left (fun f _ => bs_list f)
  have hv : ∀ x ∈ p.v, 0 ≤ x ∧ x < 1000000000 := fun x hx => by
    obtain ⟨q, m, hm, hl⟩ := (inAll_in h6).2 x hx
    have := most_le m hm
    omega
  have hr := rdN_back words8 p.v words8_nodup words8_no ((inAll_in h6).1) hv
  unfold readP
  rw [if_neg (by omega), hcut]
  unfold textL
  simp only [hr, hfm, bs_list]
  rw [if_pos h]
/-- what is read is printed as it stood -/
theorem print_read {s : ByteArray} {x : Pln} (h : readP s = (x, 0)) : planE x = 0 ∧ commas x = false ∧ planT x = s := by
  unfold readP at h
  split at h
  · cases h
  · cases hc : cut 32 s.data.toList with
    | nil => exact absurd hc (cut_ne 32 _)
    | cons n r =>
      rw [hc] at h
      cases r with
      | nil => cases h
      | cons f ts =>
        simp only at h
        cases hr : rdN words8 ts with
        | none => rw [hr] at h; cases h
        | some v =>
          rw [hr] at h
          simp only at h
          by_cases he : planE ⟨bs n, (cut 44 f).map bs, v⟩ = 0
          · rw [if_pos he] at h
            have hx := (Prod.mk.inj h).1
            subst hx
            refine ⟨he, ?_, ?_⟩
            · unfold commas
              rw [List.any_eq_false]
              intro g hg
              obtain ⟨t, ht, rfl⟩ := List.mem_map.1 hg
              rw [list_bs]
              simpa using cut_free 44 f t ht
            · have e1 : ((cut 44 f).map bs).map (·.data.toList) = cut 44 f := by
                rw [List.map_map]
                conv => rhs; rw [← List.map_id (cut 44 f)]
                exact List.map_congr_left (fun t _ => list_bs t)
              have e2 : textL ⟨bs n, (cut 44 f).map bs, v⟩ = cut 32 s.data.toList := by
                unfold textL
                simp only [e1, glue_cut, list_bs, (rdN_one words8 ts hr).1, hc]
              unfold planT
              rw [e2, glue_cut]
          · rw [if_neg he] at h
            exact absurd (Prod.mk.inj h).2 he
theorem read_bad {s : ByteArray} (h : (readP s).2 ≠ 0) : (readP s).1 = zeroP := by
  unfold readP at h ⊢
  split
  · rfl
  · rename_i hs
    rw [if_neg hs] at h
    cases hc : cut 32 s.data.toList with
    | nil => rfl
    | cons n r =>
      rw [hc] at h
      cases r with
      | nil => rfl
      | cons f ts =>
        simp only at h ⊢
        cases hr : rdN words8 ts with
        | none => rfl
        | some v =>
          rw [hr] at h
          simp only at h ⊢
          by_cases he : planE ⟨bs n, (cut 44 f).map bs, v⟩ = 0
          · rw [if_pos he] at h; exact absurd rfl h
          · rw [if_neg he]
/-- the law's one plan -/
def onePlan : Pln := ⟨⟨#[115]⟩, [⟨#[97, 46, 62]⟩, ⟨#[98]⟩], [0, 0, 0, 3, 0, 0, 0, 0]⟩
theorem one_ok : planE onePlan = 0 ∧ commas onePlan = false := by decide +kernel
theorem one_text : planT onePlan = ⟨#[115, 32, 97, 46, 62, 44, 98, 32, 112, 101, 114, 61, 51]⟩ := by decide +kernel
end Go.Proofs.YtcbfmjjodfnacaaDoor.Pn
