/-
  A consumer's plan: its text is read as it was, and what is read is printed as it stood. No program.
-/
import Derived.Test.YtcbfmjjodfnacaaDoorPapQa
namespace Go.Proofs.YtcbfmjjodfnacaaDoor.Tk
open Go Pn

theorem bare_put {t c : Tkr} : ∀ {i j : Nat}, i < 7 → j < 7 → i ≠ j → bare c j → bare (put t c i) j
  | 0, 0, _, _, h, _ => absurd rfl h
  | 1, 1, _, _, h, _ => absurd rfl h
  | 2, 2, _, _, h, _ => absurd rfl h
  | 3, 3, _, _, h, _ => absurd rfl h
  | 4, 4, _, _, h, _ => absurd rfl h
  | 5, 5, _, _, h, _ => absurd rfl h
  | 6, 6, _, _, h, _ => absurd rfl h
  | 0, 1, _, _, _, h | 0, 2, _, _, _, h | 0, 3, _, _, _, h | 0, 4, _, _, _, h | 0, 5, _, _, _, h | 0, 6, _, _, _, h => h
  | 1, 0, _, _, _, h | 1, 2, _, _, _, h | 1, 3, _, _, _, h | 1, 4, _, _, _, h | 1, 5, _, _, _, h | 1, 6, _, _, _, h => h
  | 2, 0, _, _, _, h | 2, 1, _, _, _, h | 2, 3, _, _, _, h | 2, 4, _, _, _, h | 2, 5, _, _, _, h | 2, 6, _, _, _, h => h
  | 3, 0, _, _, _, h | 3, 1, _, _, _, h | 3, 2, _, _, _, h | 3, 4, _, _, _, h | 3, 5, _, _, _, h | 3, 6, _, _, _, h => h
  | 4, 0, _, _, _, h | 4, 1, _, _, _, h | 4, 2, _, _, _, h | 4, 3, _, _, _, h | 4, 5, _, _, _, h | 4, 6, _, _, _, h => h
  | 5, 0, _, _, _, h | 5, 1, _, _, _, h | 5, 2, _, _, _, h | 5, 3, _, _, _, h | 5, 4, _, _, _, h | 5, 6, _, _, _, h => h
  | 6, 0, _, _, _, h | 6, 1, _, _, _, h | 6, 2, _, _, _, h | 6, 3, _, _, _, h | 6, 4, _, _, _, h | 6, 5, _, _, _, h => h
theorem set_put {c c' : Tkr} : ∀ {i : Nat} {v : List UInt8}, setT c i v = some c' → c' = put c' c i
  | 0, v, h => by
    simp only [setT] at h
    split at h
    · cases h; rfl
    · split at h
      · cases h; rfl
      · split at h
        · cases h
        · cases h; rfl
  | 1, v, h => by
    simp only [setT] at h
    split at h
    · cases h; rfl
    · split at h
      · cases h; rfl
      · cases h
  | 2, v, h => by
    simp only [setT] at h
    split at h
    · cases h
    · cases h; rfl
  | 3, v, h => by
    simp only [setT] at h
    cases hr : rdB (cut 44 v) with
    | none => rw [hr] at h; simp at h
    | some l => rw [hr] at h; simp at h; rw [← h]; rfl
  | 4, v, h => by
    simp only [setT] at h
    split at h
    · cases h
    · cases h; rfl
  | 5, v, h => by
    simp only [setT] at h
    split at h
    · cases h
    · cases h; rfl
  | i + 6, v, h => by
    simp only [setT] at h
    split at h
    · cases h; rfl
    · cases h
theorem like_put {t c : Tkr} : ∀ {i j : Nat}, i < 7 → j < 7 → i ≠ j → like (put t c i) c j
  | 0, 0, _, _, h => absurd rfl h
  | 1, 1, _, _, h => absurd rfl h
  | 2, 2, _, _, h => absurd rfl h
  | 3, 3, _, _, h => absurd rfl h
  | 4, 4, _, _, h => absurd rfl h
  | 5, 5, _, _, h => absurd rfl h
  | 6, 6, _, _, h => absurd rfl h
  | 1, 0, _, _, _ | 2, 0, _, _, _ | 3, 0, _, _, _ | 4, 0, _, _, _ | 5, 0, _, _, _ | 6, 0, _, _, _ => ⟨rfl, rfl⟩
  | 0, 1, _, _, _ | 0, 2, _, _, _ | 0, 3, _, _, _ | 0, 4, _, _, _ | 0, 5, _, _, _ | 0, 6, _, _, _ => rfl
  | 1, 2, _, _, _ | 1, 3, _, _, _ | 1, 4, _, _, _ | 1, 5, _, _, _ | 1, 6, _, _, _ => rfl
  | 2, 1, _, _, _ | 2, 3, _, _, _ | 2, 4, _, _, _ | 2, 5, _, _, _ | 2, 6, _, _, _ => rfl
  | 3, 1, _, _, _ | 3, 2, _, _, _ | 3, 4, _, _, _ | 3, 5, _, _, _ | 3, 6, _, _, _ => rfl
  | 4, 1, _, _, _ | 4, 2, _, _, _ | 4, 3, _, _, _ | 4, 5, _, _, _ | 4, 6, _, _, _ => rfl
  | 5, 1, _, _, _ | 5, 2, _, _, _ | 5, 3, _, _, _ | 5, 4, _, _, _ | 5, 6, _, _, _ => rfl
  | 6, 1, _, _, _ | 6, 2, _, _, _ | 6, 3, _, _, _ | 6, 4, _, _, _ | 6, 5, _, _, _ => rfl
theorem name_put (t c : Tkr) : ∀ i, (put t c i).n = c.n ∧ (put t c i).f = c.f
  | 0 => ⟨rfl, rfl⟩
  | 1 => ⟨rfl, rfl⟩
  | 2 => ⟨rfl, rfl⟩
  | 3 => ⟨rfl, rfl⟩
  | 4 => ⟨rfl, rfl⟩
  | 5 => ⟨rfl, rfl⟩
  | _ + 6 => ⟨rfl, rfl⟩
theorem like_trans {a b c : Tkr} : ∀ {i : Nat}, like a b i → like b c i → like a c i
  | 0, h, g => ⟨h.1.trans g.1, h.2.trans g.2⟩
  | 1, h, g => Eq.trans (show a.ack = b.ack from h) g
  | 2, h, g => Eq.trans (show a.wait = b.wait from h) g
  | 3, h, g => Eq.trans (show a.bo = b.bo from h) g
  | 4, h, g => Eq.trans (show a.mo = b.mo from h) g
  | 5, h, g => Eq.trans (show a.pe = b.pe from h) g
  | _ + 6, h, g => Eq.trans (show a.pu = b.pu from h) g
theorem like_refl (a : Tkr) : ∀ (i : Nat), like a a i
  | 0 => ⟨rfl, rfl⟩
  | 1 => rfl
  | 2 => rfl
  | 3 => rfl
  | 4 => rfl
  | 5 => rfl
  | _ + 6 => rfl
/-- a value that was read is printed as it stood -/
theorem val_set {c c' : Tkr} : ∀ {i : Nat} {v : List UInt8}, bare c i → setT c i v = some c' → valT c' i = some v
  | 0, v, hb, h => by
    simp only [setT] at h
    by_cases h1 : v = lastT
    · rw [if_pos h1] at h; cases h; rw [h1]; rfl
    · rw [if_neg h1] at h
      by_cases h2 : v = newT
      · rw [if_pos h2] at h; cases h; rw [h2]; rfl
      · rw [if_neg h2] at h
        by_cases h3 : digV v < 1
        · rw [if_pos h3] at h; cases h
        · rw [if_neg h3] at h
          cases h
          simp only [valT, fromV]
          rw [if_neg (by decide), if_neg (by decide), if_pos trivial, (digV_back (l := v) (by omega)).1]
  | 1, v, hb, h => by
    simp only [setT] at h
    by_cases h1 : v = noneT
    · rw [if_pos h1] at h; cases h; rw [h1]; rfl
    · rw [if_neg h1] at h
      by_cases h2 : v = allT
      · rw [if_pos h2] at h; cases h; rw [h2]; rfl
      · rw [if_neg h2] at h; cases h
  | 2, v, hb, h => by
    simp only [setT] at h
    by_cases h3 : digV v < 1
    · rw [if_pos h3] at h; cases h
    · rw [if_neg h3] at h
      cases h
      simp only [valT, numV]
      rw [if_neg (by omega), (digV_back (l := v) (by omega)).1]
  | 3, v, hb, h => by
    simp only [bare] at hb
    simp only [setT] at h
    cases hr : rdB (cut 44 v) with
    | none => rw [hr] at h; simp at h
    | some l =>
      rw [hr] at h
      simp at h
      obtain ⟨h1, h2⟩ := rdB_one _ hr
      rw [← h]
      simp only [valT, boV, hb, List.nil_append]
      have hne : ¬ l = [] := fun z => by
        rw [z] at h2
        exact cut_ne 44 v (List.eq_nil_of_length_eq_zero h2.symm)
      rw [if_neg hne, h1, glue_cut]
  | 4, v, hb, h => by
    simp only [setT] at h
    by_cases h3 : digV v < 1
    · rw [if_pos h3] at h; cases h
    · rw [if_neg h3] at h
      cases h
      simp only [valT, numV]
      rw [if_neg (by omega), (digV_back (l := v) (by omega)).1]
  | 5, v, hb, h => by
    simp only [setT] at h
    by_cases h3 : digV v < 1
    · rw [if_pos h3] at h; cases h
    · rw [if_neg h3] at h
      cases h
      simp only [valT, numV]
      rw [if_neg (by omega), (digV_back (l := v) (by omega)).1]
  | i + 6, v, hb, h => by
    simp only [setT] at h
    by_cases h1 : v = []
    · rw [if_pos h1] at h; cases h; rw [h1]; rfl
    · rw [if_neg h1] at h; cases h
theorem val_bare {c : Tkr} : ∀ {i : Nat}, bare c i → valT c i = none
  | 0, h => by simp only [bare] at h; simp only [valT, fromV]; rw [if_neg (by omega), if_neg (by omega), if_neg (by omega)]
  | 1, h => by simp only [bare] at h; simp only [valT, ackV]; rw [if_neg (by omega), if_neg (by omega)]
  | 2, h => by simp only [bare] at h; simp only [valT, numV]; rw [if_pos h]
  | 3, h => by simp only [bare] at h; simp only [valT, boV]; rw [if_pos h]
  | 4, h => by simp only [bare] at h; simp only [valT, numV]; rw [if_pos h]
  | 5, h => by simp only [bare] at h; simp only [valT, numV]; rw [if_pos h]
  | _ + 6, h => by simp only [bare] at h; simp only [valT]; rw [if_neg (by rw [h]; decide)]
/-- no word is the front of another one's text -/
theorem hd_apart {i j : Nat} (hi : i < 7) (hj : j < 7) (hn : i ≠ j) (v : List UInt8) : (hd i).isPrefixOf (hd j ++ v) = false := by
  have ha : i = 0 ∨ i = 1 ∨ i = 2 ∨ i = 3 ∨ i = 4 ∨ i = 5 ∨ i = 6 := by omega
  have hb : j = 0 ∨ j = 1 ∨ j = 2 ∨ j = 3 ∨ j = 4 ∨ j = 5 ∨ j = 6 := by omega
  rcases ha with rfl | rfl | rfl | rfl | rfl | rfl | rfl <;> rcases hb with rfl | rfl | rfl | rfl | rfl | rfl | rfl <;> first | exact absurd rfl hn | rfl
theorem hd_self (i : Nat) (v : List UInt8) : (hd i).isPrefixOf (hd i ++ v) = true ∧ (hd i ++ v).drop (hd i).length = v := by
  constructor
  · rw [List.isPrefixOf_iff_prefix]; exact ⟨v, rfl⟩
  · simp
theorem rd_skip {t : Tkr} {is : List Nat} {i : Nat} (hi : i < 7) (h7 : ∀ j ∈ is, j < 7) (hn : i ∉ is) (c : Tkr) : rdT (i :: is) (is.filterMap (wordT t)) c = rdT is (is.filterMap (wordT t)) c := by
  cases hw : is.filterMap (wordT t) with
  | nil =>
    rw [rdT]
    cases is with
    | nil => rfl
    | cons j js => rfl
  | cons u us =>
    have hm : u ∈ is.filterMap (wordT t) := by rw [hw]; exact List.mem_cons_self ..
    obtain ⟨j, hj, hu⟩ := List.mem_filterMap.1 hm
    unfold wordT at hu
    cases hv : valT t j with
    | none => rw [hv] at hu; cases hu
    | some v =>
      rw [hv] at hu
      cases hu
      rw [rdT, if_neg (by rw [hd_apart hi (h7 j hj) (fun z => hn (by rw [z]; exact hj)) v]; decide)]
/-- what is printed is read -/
theorem rdT_back {t : Tkr} (h : takE t = 0) : ∀ (is : List Nat) (c : Tkr), (∀ j ∈ is, j < 7) → is.Nodup → (∀ j ∈ is, bare c j) → rdT is (is.filterMap (wordT t)) c = some (is.foldl (fun c i => put t c i) c)
  | [], c, _, _, _ => rfl
  | i :: is, c, h7, hnd, hb => by
    have hn := List.nodup_cons.1 hnd
    have hi7 := h7 i (List.mem_cons_self ..)
    have h7' : ∀ j ∈ is, j < 7 := fun j hj => h7 j (List.mem_cons_of_mem _ hj)
    have hbi := hb i (List.mem_cons_self ..)
    have hb' : ∀ j ∈ is, bare (put t c i) j := fun j hj => bare_put hi7 (h7' j hj) (fun z => hn.1 (by rw [z]; exact hj)) (hb j (List.mem_cons_of_mem _ hj))
    have ih := rdT_back h is (put t c i) h7' hn.2 hb'
    rw [List.foldl_cons, ← ih]
    cases hv : valT t i with
    | none =>
      have e : (i :: is).filterMap (wordT t) = is.filterMap (wordT t) := by
        rw [List.filterMap_cons_none]
        unfold wordT; rw [hv]; rfl
      rw [e, rd_skip hi7 h7' hn.1, put_none h hbi hv]
    | some v =>
      have e : (i :: is).filterMap (wordT t) = (hd i ++ v) :: is.filterMap (wordT t) := by
        rw [List.filterMap_cons_some]
        unfold wordT; rw [hv]; rfl
      obtain ⟨p1, p2⟩ := hd_self i v
      rw [e, rdT, if_pos p1, p2, set_val h hbi hv]
/-- what is read is printed as it stood -/
theorem rdT_one : ∀ (is : List Nat) (ts : List (List UInt8)) (c t : Tkr), (∀ j ∈ is, j < 7) → is.Nodup → (∀ j ∈ is, bare c j) → rdT is ts c = some t → is.filterMap (wordT t) = ts ∧ t.n = c.n ∧ t.f = c.f ∧ ∀ j, j < 7 → j ∉ is → like t c j
  | [], [], c, t, _, _, _, h => by
    rw [rdT] at h; cases h
    exact ⟨rfl, rfl, rfl, fun j _ _ => like_refl _ j⟩
  | [], _ :: _, c, t, _, _, _, h => by rw [rdT] at h; cases h
  | i :: is, [], c, t, h7, hnd, hb, h => by
    rw [rdT] at h
    cases h
    refine ⟨?_, rfl, rfl, fun j _ _ => like_refl _ j⟩
    rw [List.filterMap_eq_nil_iff]
    intro j hj
    unfold wordT
    rw [val_bare (hb j hj)]
    rfl
  | i :: is, u :: us, c, t, h7, hnd, hb, h => by
    have hn := List.nodup_cons.1 hnd
    have hi7 := h7 i (List.mem_cons_self ..)
    have h7' : ∀ j ∈ is, j < 7 := fun j hj => h7 j (List.mem_cons_of_mem _ hj)
    have hbi := hb i (List.mem_cons_self ..)
    rw [rdT] at h
    by_cases hp : (hd i).isPrefixOf u = true
    · rw [if_pos hp] at h
      cases hs : setT c i (u.drop (hd i).length) with
      | none => rw [hs] at h; cases h
      | some c' =>
        rw [hs] at h
        simp only at h
        have hc := set_put hs
        have hb' : ∀ j ∈ is, bare c' j := fun j hj => by
          rw [hc]
          exact bare_put hi7 (h7' j hj) (fun z => hn.1 (by rw [z]; exact hj)) (hb j (List.mem_cons_of_mem _ hj))
        obtain ⟨i1, i2, i3, i4⟩ := rdT_one is us c' t h7' hn.2 hb' h
        obtain ⟨v, hv⟩ := List.isPrefixOf_iff_prefix.1 hp
        have hd' : u.drop (hd i).length = v := by rw [← hv]; exact (hd_self i v).2
        have hval : valT t i = some v := by
          rw [val_like (i4 i hi7 hn.1), ← hd']
          exact val_set hbi hs
        refine ⟨?_, ?_, ?_, fun j hj hjn => ?_⟩
        · rw [List.filterMap_cons_some (b := hd i ++ v) (by unfold wordT; rw [hval]; rfl), i1, hv]
        · rw [i2, hc]; exact (name_put c' c i).1
        · rw [i3, hc]; exact (name_put c' c i).2
        · have hji : i ≠ j := fun z => hjn (by rw [z]; exact List.mem_cons_self ..)
          refine like_trans (i4 j hj (fun z => hjn (List.mem_cons_of_mem _ z))) ?_
          rw [hc]
          exact like_put hi7 hj hji
    · rw [if_neg hp] at h
      obtain ⟨i1, i2, i3, i4⟩ := rdT_one is (u :: us) c t h7' hn.2 (fun j hj => hb j (List.mem_cons_of_mem _ hj)) h
      refine ⟨?_, i2, i3, fun j hj hjn => i4 j hj (fun z => hjn (List.mem_cons_of_mem _ z))⟩
      rw [List.filterMap_cons_none, i1]
      unfold wordT
      rw [val_like (i4 i hi7 hn.1), val_bare hbi]
      rfl
theorem seven_low : ∀ j ∈ seven, j < 7 := by decide
theorem seven_nodup : seven.Nodup := by decide
theorem base_bare (n f : ByteArray) : ∀ j ∈ seven, bare (base n f) j := by
  intro j hj
  have : j = 0 ∨ j = 1 ∨ j = 2 ∨ j = 3 ∨ j = 4 ∨ j = 5 ∨ j = 6 := by have := seven_low j hj; omega
  rcases this with rfl | rfl | rfl | rfl | rfl | rfl | rfl
  · exact ⟨rfl, rfl⟩
  all_goals rfl
theorem all_put (t : Tkr) : seven.foldl (fun c i => put t c i) (base t.n t.f) = t := by
  cases t
  simp only [seven, base, List.foldl_cons, List.foldl_nil, put]
theorem itoa_low9 {x : Int} (h : 0 ≤ x ∧ x ≤ 999999999) : (Lib.itoa x).length ≤ 9 ∧ ∀ c ∈ Lib.itoa x, 33 ≤ c.toNat := by
  have e : Lib.itoa x = Lib.decDigits x.toNat := by unfold Lib.itoa; rw [if_neg (by omega)]
  rw [e]
  exact ⟨dec_len 8 _ (by simp; omega), dig_bytes⟩
/-- a right plan's values: their bytes, their size -/
theorem val_bytes {t : Tkr} (h : takE t = 0) : ∀ {i : Nat} {v : List UInt8}, valT t i = some v → v.length ≤ 50 ∧ ∀ c ∈ v, 33 ≤ c.toNat
  | 0, v, hv => by
    obtain ⟨_, _, _, hs, _⟩ := tak_ok h
    simp only [valT, fromV] at hv
    split at hv
    · cases hv; exact ⟨by decide, by decide⟩
    · split at hv
      · cases hv; exact ⟨by decide, by decide⟩
      · split at hv
        · cases hv
          rcases start_of hs with ⟨_, h4⟩ | ⟨_, h4⟩
          · have := itoa_low9 (x := t.st) (by omega); exact ⟨by omega, this.2⟩
          · have := itoa_low9 (x := t.st) (by omega); exact ⟨by omega, this.2⟩
        · cases hv
  | 1, v, hv => by
    simp only [valT, ackV] at hv
    split at hv
    · cases hv; exact ⟨by decide, by decide⟩
    · split at hv
      · cases hv; exact ⟨by decide, by decide⟩
      · cases hv
  | 2, v, hv => by
    obtain ⟨_, _, _, _, ha⟩ := tak_ok h
    simp only [valT, numV] at hv
    split at hv
    · cases hv
    · cases hv
      have := itoa_low9 (x := t.wait) (by have := (nums_of ha).1; omega)
      exact ⟨by omega, this.2⟩
  | 3, v, hv => by
    obtain ⟨_, _, h5, _, ha⟩ := tak_ok h
    have hn := (nums_of ha).2.2.2
    simp only [valT, boV] at hv
    split at hv
    · cases hv
    · cases hv
      have hm : ∀ u ∈ t.bo.map Lib.itoa, u.length ≤ 9 ∧ ∀ c ∈ u, 33 ≤ c.toNat := fun u hu => by
        obtain ⟨x, hx, rfl⟩ := List.mem_map.1 hu
        exact itoa_low9 (by have := hn x hx; omega)
      refine ⟨?_, fun c hc => ?_⟩
      · have := glue_len 44 9 _ (fun u hu => (hm u hu).1)
        rw [List.length_map] at this
        omega
      · rcases glue_mem 44 _ c hc with z | ⟨u, hu, hcu⟩
        · rw [z]; decide
        · exact (hm u hu).2 c hcu
  | 4, v, hv => by
    obtain ⟨_, _, _, _, ha⟩ := tak_ok h
    simp only [valT, numV] at hv
    split at hv
    · cases hv
    · cases hv
      have := itoa_low9 (x := t.mo) (by have := (nums_of ha).2.1; omega)
      exact ⟨by omega, this.2⟩
  | 5, v, hv => by
    obtain ⟨_, _, _, _, ha⟩ := tak_ok h
    simp only [valT, numV] at hv
    split at hv
    · cases hv
    · cases hv
      have := itoa_low9 (x := t.pe) (by have := (nums_of ha).2.2.1; omega)
      exact ⟨by omega, this.2⟩
  | i + 6, v, hv => by
    simp only [valT] at hv
    split at hv
    · cases hv; exact ⟨by simp, by simp⟩
    · cases hv
theorem hd_bytes : ∀ (i : Nat), (hd i).length ≤ 8 ∧ ∀ c ∈ hd i, 33 ≤ c.toNat
  | 0 => ⟨by decide, by decide⟩
  | 1 => ⟨by decide, by decide⟩
  | 2 => ⟨by decide, by decide⟩
  | 3 => ⟨by decide, by decide⟩
  | 4 => ⟨by decide, by decide⟩
  | 5 => ⟨by decide, by decide⟩
  | _ + 6 => ⟨by simp [hd], by simp [hd]⟩
theorem words_bytes {t : Tkr} (h : takE t = 0) : ∀ u ∈ seven.filterMap (wordT t), u.length ≤ 58 ∧ ∀ c ∈ u, 33 ≤ c.toNat := by
  intro u hu
  obtain ⟨j, hj, hw⟩ := List.mem_filterMap.1 hu
  unfold wordT at hw
  cases hv : valT t j with
  | none => rw [hv] at hw; cases hw
  | some v =>
    rw [hv] at hw
    cases hw
    obtain ⟨v1, v2⟩ := val_bytes h hv
    obtain ⟨w1, w2⟩ := hd_bytes j
    refine ⟨by rw [List.length_append]; omega, fun c hc => ?_⟩
    rcases List.mem_append.1 hc with z | z
    · exact w2 c z
    · exact v2 c z
theorem text_ok {t : Tkr} (h : takE t = 0) : (∀ u ∈ textL t, (32 : UInt8) ∉ u) ∧ (takT t).size ≤ 1024 := by
  obtain ⟨h1, h2, h3, h4, h5⟩ := tak_ok h
  obtain ⟨n1, n2⟩ := name_bytes h1
  obtain ⟨f1, f2⟩ := filt_bytes h2
  have hw := words_bytes h
  have no : ∀ {u : List UInt8}, (∀ c ∈ u, 33 ≤ c.toNat) → (32 : UInt8) ∉ u := fun hu z => by
    have := hu _ z
    simp at this
  constructor
  · intro u hu
    unfold textL at hu
    rcases List.mem_cons.1 hu with y | y
    · rw [y]; exact no n2
    · rcases List.mem_cons.1 y with z | z
      · rw [z]; exact no f2
      · exact no (hw u z).2
  · have hl := glue_len 32 58 _ (fun u hu => (hw u hu).1)
    have h7 : (seven.filterMap (wordT t)).length ≤ 7 := List.length_filterMap_le _ _
    have hstep : ∀ (t : List UInt8) (ts : List (List UInt8)), (glue 32 (t :: ts)).length ≤ t.length + 1 + (glue 32 ts).length := fun t ts => by
      cases ts with
      | nil => simp [glue]
      | cons u us => rw [glue_cons 32 t (by simp), List.length_append, List.length_cons]; omega
    have s1 := hstep t.n.data.toList (t.f.data.toList :: seven.filterMap (wordT t))
    have s2 := hstep t.f.data.toList (seven.filterMap (wordT t))
    have e : (takT t).size = (glue 32 (textL t)).length := by
      show (glue 32 (textL t)).toArray.size = _
      simp
    have en : t.n.data.toList.length = t.n.size := by simp
    have ef : t.f.data.toList.length = t.f.size := by simp
    rw [e]
    unfold textL
    omega
/-- what is printed is read as it was -/
theorem read_print {t : Tkr} (h : takE t = 0) : readT (takT t) = (t, 0) := by
  obtain ⟨t1, t2⟩ := text_ok h
  have hcut : cut 32 (takT t).data.toList = textL t := by
    have e : (takT t).data.toList = glue 32 (textL t) := by simp [takT]
    rw [e]
    exact cut_glue 32 _ (by unfold textL; simp) t1
  have hr := rdT_back h seven (base t.n t.f) seven_low seven_nodup (base_bare _ _)
  rw [all_put] at hr
  unfold readT
  rw [if_neg (by omega), hcut]
  unfold textL
  simp only [bs_list, hr]
  rw [if_pos h]
/-- what is read is printed as it stood -/
theorem print_read {s : ByteArray} {x : Tkr} (h : readT s = (x, 0)) : takE x = 0 ∧ takT x = s := by
  unfold readT at h
  split at h
  · cases h
  · cases hc : cut 32 s.data.toList with
    | nil => exact absurd hc (cut_ne 32 _)
    | cons n r =>
      rw [hc] at h
      cases r with
      | nil => cases h
      | cons f ts =>
        simp only at h
        cases hr : rdT seven ts (base (bs n) (bs f)) with
        | none => rw [hr] at h; cases h
        | some v =>
          rw [hr] at h
          simp only at h
          by_cases he : takE v = 0
          · rw [if_pos he] at h
            have hx := (Prod.mk.inj h).1
            subst hx
            obtain ⟨i1, i2, i3, _⟩ := rdT_one seven ts _ v seven_low seven_nodup (base_bare _ _) hr
            refine ⟨he, ?_⟩
            have e2 : textL v = cut 32 s.data.toList := by
              unfold textL
              rw [i1, i2, i3, hc]
              simp only [base, list_bs]
            unfold takT
            rw [e2, glue_cut]
          · rw [if_neg he] at h
            exact absurd (Prod.mk.inj h).2 he
theorem read_bad {s : ByteArray} (h : (readT s).2 ≠ 0) : (readT s).1 = zeroT := by
  unfold readT at h ⊢
  split
  · rfl
  · rename_i hs
    rw [if_neg hs] at h
    cases hc : cut 32 s.data.toList with
    | nil => rfl
    | cons n r =>
      rw [hc] at h
      cases r with
      | nil => rfl
      | cons f ts =>
        simp only at h ⊢
        cases hr : rdT seven ts (base (bs n) (bs f)) with
        | none => rfl
        | some v =>
          rw [hr] at h
          simp only at h ⊢
          by_cases he : takE v = 0
          · rw [if_pos he] at h; exact absurd rfl h
          · rw [if_neg he]
/-- the law's one plan -/
def oneT : Tkr := ⟨⟨#[99]⟩, ⟨#[97]⟩, 0, 0, 2, 5, [], 0, 0, false⟩
theorem one_ok : takE oneT = 0 := by decide +kernel
theorem one_text : takT oneT = ⟨#[99, 32, 97, 32, 119, 97, 105, 116, 61, 53]⟩ := by decide +kernel
end Go.Proofs.YtcbfmjjodfnacaaDoor.Tk
