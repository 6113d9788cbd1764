/-
  A stream, pure: what the document's stream counts when it goes through its messages from the end on; what is old. No program.
  A stream, pure: one id is one message; what is rolled up; what is refused changes nothing. No program.
  A stream, pure: the ways that the program goes: room in two loops, ages in one going through, ids by their last message alone. No program.
  The program's map of ids in memory: each id's last message, its number and its time. No walk.
-/
import Derived.Test.YtmccpkpeimejhahGreatDoorJointWalkXWRowTPapRaPapRb
import Derived.Test.YtmccpkpeimejhahGreatDoorJointRowGPapNWorksGPapH
import Derived.Test.YtmccpkpeimejhahGreatDoorJointPlainKPapPbPapPnPapD
import Derived.Test.YtmccpkpeimejhahGreatDoorJointWalkX1WalkX2WorksTaWalkX4
namespace Go.Proofs.YtmccpkpeimejhahGreatDoor.Dk
open Go

theorem drop_rc {l : List Rc} {i : Nat} (h : i < l.length) : l.drop i = rc l i :: l.drop (i + 1) := by
  rw [List.drop_eq_getElem_cons h]
  unfold rc
  rw [List.getElem?_eq_getElem h]
  rfl
theorem sameN_drop {l : List Rc} {i : Nat} (h : i < l.length) (s : ByteArray) : sameN (l.drop i) s = sameN (l.drop (i + 1)) s + (if (rc l i).s = s then 1 else 0) := by
  rw [drop_rc h]
  unfold sameN
  rw [List.countP_cons]
  by_cases e : (rc l i).s = s <;> simp [e]
theorem firstS_drop {l : List Rc} {i : Nat} (h : i < l.length) (s : ByteArray) : firstS (l.drop i) s = if (rc l i).s = s then (rc l i).q else firstS (l.drop (i + 1)) s := by
  rw [drop_rc h]
  unfold firstS
  by_cases e : (rc l i).s = s
  · rw [List.find?_cons_of_pos (by simpa using e), if_pos e]; rfl
  · rw [List.find?_cons_of_neg (by simpa using e), if_neg e]
theorem firstQ_drop {l : List Rc} {i : Nat} (h : i < l.length) : firstQ (l.drop i) = (rc l i).q := by
  rw [drop_rc h]
  rfl
theorem firstS_none {l : List Rc} {s : ByteArray} (h : sameN l s = 0) : firstS l s = 0 := by
  unfold firstS
  have : l.find? (fun r => decide (r.s = s)) = none := by
    rw [List.find?_eq_none]
    intro r hr z
    unfold sameN at h
    rw [List.countP_eq_zero] at h
    exact h r hr z
  rw [this]
  rfl
/-- the first old message: where it stands -/
theorem oldQ_at {l : List Rc} {t : Int} {k : Nat} (h : k < l.length) (h1 : ∀ j, j < k → ¬ (rc l j).t < t) (h2 : (rc l k).t < t) : oldQ l t = some (rc l k) := by
  induction l generalizing k with
  | nil => simp at h
  | cons r l ih =>
    unfold oldQ
    cases k with
    | zero => rw [List.find?_cons_of_pos (by simpa [rc] using h2)]; rfl
    | succ k =>
      have h0 := h1 0 (by omega)
      rw [List.find?_cons_of_neg (by simpa [rc] using h0)]
      exact ih (by simpa using h) (fun j hj => by simpa [rc] using h1 (j + 1) (by omega)) (by simpa [rc] using h2)
theorem oldQ_none {l : List Rc} {t : Int} (h : ∀ j, j < l.length → ¬ (rc l j).t < t) : oldQ l t = none := by
  unfold oldQ
  rw [List.find?_eq_none]
  intro r hr z
  obtain ⟨j, hj, e⟩ := List.mem_iff_getElem.1 hr
  have := h j hj
  unfold rc at this
  rw [List.getElem?_eq_getElem hj] at this
  rw [← e] at z
  simp at z this
  omega
/-- the ids that are gone through, one more -/
theorem seenQ_take {ids : List Kn} {k : Nat} (h : k < ids.length) (i : ByteArray) (f : Int) : seenQ (ids.take (k + 1)) i f = if ids[k].i = i ∧ f ≤ ids[k].a then ids[k].q else seenQ (ids.take k) i f := by
  rw [List.take_succ_eq_append_getElem h]
  unfold seenQ
  rw [List.foldl_append]
  rfl
/-- it is told again only with a number of its own -/
theorem seenQ_pos {ids : List Kn} (h : ∀ k ∈ ids, 1 ≤ k.q) (i : ByteArray) (f : Int) : 0 ≤ seenQ ids i f := by
  have key : ∀ (ids : List Kn) (q : Int), (∀ k ∈ ids, 1 ≤ k.q) → 0 ≤ q → 0 ≤ ids.foldl (fun q k => if k.i = i ∧ f ≤ k.a then k.q else q) q := by
    intro ids
    induction ids with
    | nil => intro q _ hq; exact hq
    | cons k r ih =>
      intro q hk hq
      apply ih _ (fun z hz => hk z (List.mem_cons_of_mem _ hz))
      have := hk k (List.mem_cons_self ..)
      show 0 ≤ if k.i = i ∧ f ≤ k.a then k.q else q
      split <;> omega
  exact key ids 0 h (Int.le_refl _)
/-- Age to the end: no old message is left, where no error came -/
theorem age_ends {p : Pn.Pln} {m size now : Int} : ∀ (k : Nat) (n : Int) (es : List Pap) (s : Sto), s.l.length < k → (ageF p m size now k n es s).1.2 = 0 → oldQ (ageF p m size now k n es s).2.2.l (now - pv p 2) = none
  | 0, _, _, s, h, _ => by omega
  | k + 1, n, es, s, h, h1 => by
    unfold ageF at h1 ⊢
    cases ho : oldQ s.l (now - pv p 2) with
    | none => simp only [ho]
    | some r =>
      simp only [ho] at h1 ⊢
      by_cases c : doE es s m size (eraR r.q now) = 0
      · rw [if_neg (by rw [c]; simp)] at h1 ⊢
        refine age_ends k _ _ _ ?_ h1
        rw [era_did c]
        have hm : r ∈ s.l := List.mem_of_find?_eq_some ho
        have := filter_less (p := fun y : Rc => decide (y.q ≠ r.q)) ⟨r, hm, by simp⟩
        show (s.l.filter (fun y => decide (y.q ≠ r.q))).length < k
        omega
      · rw [if_pos c] at h1
        exact absurd h1 c
end Go.Proofs.YtmccpkpeimejhahGreatDoor.Dk

namespace Go.Proofs.YtmccpkpeimejhahGreatDoor.Dk
open Go

theorem toks_ne (s : ByteArray) : Pl.toks s ≠ [] := fun h => by
  have := congrArg List.length h
  rw [Pl.toks_length] at this
  have h2 := Pl.pcs_ne s.data.toList
  exact h2 (List.length_eq_zero_iff.1 (by simpa using this))
theorem tkB_all (s : ByteArray) : tkB ⟨#[62]⟩ s = true := by
  unfold tkB
  rw [gt_text.2]
  exact coverL_gt (by decide +kernel) (toks_ne s)
theorem tkB_self (s : ByteArray) : tkB s s = true := coverL_self _
/-- a post that is told a new number -/
theorem pub_new {p : Pn.Pln} {m size now : Int} {x : Po} {st : Str} (h0 : (pubP p m size now x st).1.2.2 = 0) (ha : (pubP p m size now x st).1.2.1 = false) :
    preE p now x = 0 ∧ (pubP p m size now x st).1.1 = st.s.last + 1 ∧ (pubP p m size now x st).2.s.last = st.s.last + 1 ∧ (pubP p m size now x st).2.ids = idsP st.ids x now (st.s.last + 1) ∧
      ∃ l, l.Sublist st.s.l ∧ (x.ro = 0 → (pubP p m size now x st).2.s.l = l ++ [msgR (st.s.last + 1) now x]) ∧ (x.ro ≠ 0 → (pubP p m size now x st).2.s.l = (l ++ [msgR (st.s.last + 1) now x]).filter (fun y => !(decide (y.q < st.s.last + 1) && tkB (rollF x) y.s))) := by
  unfold pubP at h0 ha ⊢
  by_cases a : preE p now x = 0
  · rw [if_neg (by rw [a]; simp)] at h0 ha ⊢
    by_cases b : againB p now x st.ids = true
    · rw [if_pos b] at ha; cases ha
    · rw [if_neg b] at h0 ha ⊢
      by_cases c : x.x ≠ -1 ∧ x.x ≠ st.s.last
      · rw [if_pos c] at h0; cases h0
      · rw [if_neg c] at h0 ha ⊢
        by_cases d : (roomE p m size now x st.es st.s).1 = 0
        · rw [if_neg (by rw [d]; simp)] at h0 ha ⊢
          obtain ⟨hs, hl⟩ := roomE_sub (p := p) (m := m) (size := size) (now := now) (x := x) (es := st.es) (s := st.s)
          generalize (roomE p m size now x st.es st.s).2.1 = es at *
          generalize (roomE p m size now x st.es st.s).2.2 = s at *
          unfold putP at h0 ⊢
          rw [hl] at h0 ⊢
          by_cases e : doE es s m size (msgR (st.s.last + 1) now x) = 0
          · rw [if_neg (by rw [e]; simp)] at h0 ⊢
            by_cases f : x.ro = 0
            · rw [if_pos f]
              refine ⟨a, rfl, by rw [msg_did e], rfl, s.l, hs, fun _ => by rw [msg_did e], fun z => absurd f z⟩
            · rw [if_neg f] at h0 ⊢
              by_cases g : doE (doL es s m size (msgR (st.s.last + 1) now x)) (doS es s m size (msgR (st.s.last + 1) now x)) m size (purR (st.s.last + 1) now (rollF x)) = 0
              · rw [if_neg (by rw [g]; simp)]
                refine ⟨a, rfl, ?_, rfl, s.l, hs, fun z => absurd z f, fun _ => ?_⟩
                · rw [show (doS (doL es s m size (msgR (st.s.last + 1) now x)) (doS es s m size (msgR (st.s.last + 1) now x)) m size (purR (st.s.last + 1) now (rollF x))).last = (doS es s m size (msgR (st.s.last + 1) now x)).last from by rw [pur_did g], msg_did e]
                · rw [show (doS (doL es s m size (msgR (st.s.last + 1) now x)) (doS es s m size (msgR (st.s.last + 1) now x)) m size (purR (st.s.last + 1) now (rollF x))).l = (doS es s m size (msgR (st.s.last + 1) now x)).l.filter _ from by rw [pur_did g], msg_did e]
              · rw [if_pos g] at h0
                exact absurd h0 g
          · rw [if_pos e] at h0
            exact absurd h0 e
        · rw [if_pos d] at h0
          exact absurd h0 d
  · rw [if_pos a] at h0
    exact absurd h0 a
/-- rolled up: this message alone -/
theorem pub_rolls {p : Pn.Pln} {m size now : Int} {x : Po} {st : Str} (hk : st.s.Ok) (h0 : (pubP p m size now x st).1.2.2 = 0) (ha : (pubP p m size now x st).1.2.1 = false) (hr : x.ro ≠ 0) :
    (∀ r ∈ (pubP p m size now x st).2.s.l, r.q ≠ (pubP p m size now x st).1.1 → ¬ (x.ro = 2 ∨ r.s = x.s)) ∧ ((pubP p m size now x st).2.s.l.getLast?.map (·.q)) = some (pubP p m size now x st).1.1 := by
  obtain ⟨hp, h1, _, _, l, hs, _, h6⟩ := pub_new h0 ha
  have h7 := h6 hr
  have h12 : x.ro = 1 ∨ x.ro = 2 := by
    unfold preE at hp
    by_cases z : (inI now 0 1099511627776 && (decide (-1 ≤ x.x) && inI x.ro 0 2)) = false
    · rw [if_pos z] at hp; cases hp
    · have z : (inI now 0 1099511627776 && (decide (-1 ≤ x.x) && inI x.ro 0 2)) = true := by simpa using z
      simp only [inI, Bool.and_eq_true, decide_eq_true_eq] at z
      omega
  rw [h7, h1]
  constructor
  · intro r hr' hq hn
    rw [List.mem_filter] at hr'
    obtain ⟨hm, hg⟩ := hr'
    rcases List.mem_append.1 hm with y | y
    · have hlow := hk.low r (hs.subset y)
      have ht : tkB (rollF x) r.s = true := by
        unfold rollF
        rcases h12 with e | e
        · rw [if_pos e]
          rcases hn with z | z
          · omega
          · rw [z]; exact tkB_self _
        · rw [if_neg (by omega)]
          exact tkB_all _
      rw [ht, decide_eq_true (show r.q < st.s.last + 1 by omega)] at hg
      cases hg
    · rw [List.mem_singleton.1 y] at hq
      exact hq rfl
  · rw [List.filter_append]
    have e : [msgR (st.s.last + 1) now x].filter (fun y => !(decide (y.q < st.s.last + 1) && tkB (rollF x) y.s)) = [msgR (st.s.last + 1) now x] := by
      rw [List.filter_cons_of_pos (by simp [msgR])]
      rfl
    rw [e, List.getLast?_append]
    rfl
/-- one id, posted again -/
theorem pub_twice {p : Pn.Pln} {m size now later : Int} {x : Po} {st : Str} (hp : PPos p) (hl : 0 ≤ st.s.last) (hi : st.ids = []) (h0 : (pubP p m size now x st).1.2.2 = 0) (ha : (pubP p m size now x st).1.2.1 = false) :
    (inI later 0 1099511627776 = false → (pubP p m size later x (pubP p m size now x st).2).1.2.2 = 1) ∧
    (inI later 0 1099511627776 = true → x.i.size ≠ 0 → 0 < pv p 7 → later - pv p 7 ≤ now → pubP p m size later x (pubP p m size now x st).2 = (((pubP p m size now x st).1.1, true, 0), (pubP p m size now x st).2)) ∧
    (inI later 0 1099511627776 = true → ¬ (x.i.size ≠ 0 ∧ 0 < pv p 7 ∧ later - pv p 7 ≤ now) → (pubP p m size later x (pubP p m size now x st).2).1.2.1 = false ∧ ((pubP p m size later x (pubP p m size now x st).2).1.2.2 = 0 → (pubP p m size later x (pubP p m size now x st).2).1.1 = (pubP p m size now x st).1.1 + 1)) := by
  obtain ⟨hpr, h1, h2, h3, _⟩ := pub_new h0 ha
  rw [hi] at h3
  have hpl : inI later 0 1099511627776 = true → preE p later x = 0 := fun h => by
    unfold preE at hpr ⊢
    by_cases z : (inI now 0 1099511627776 && (decide (-1 ≤ x.x) && inI x.ro 0 2)) = false
    · rw [if_pos z] at hpr; cases hpr
    · rw [if_neg z] at hpr
      have z : (inI now 0 1099511627776 && (decide (-1 ≤ x.x) && inI x.ro 0 2)) = true := by simpa using z
      rw [Bool.and_eq_true] at z
      rw [if_neg (by rw [h, z.2]; decide)]
      exact hpr
  have hn := pub_num (p := p) (m := m) (size := size) (now := later) (x := x) (st := (pubP p m size now x st).2)
  rw [h2] at hn
  rw [h1]
  generalize (pubP p m size now x st).2 = st1 at *
  have hseen : x.i.size ≠ 0 → seenQ st1.ids x.i (later - pv p 7) = if later - pv p 7 ≤ now then st.s.last + 1 else 0 := fun z => by
    rw [h3]
    unfold idsP seenQ
    rw [if_neg z]
    simp
  refine ⟨fun h => ?_, fun h a b c => ?_, fun h a => ?_⟩
  · have hp1 : preE p later x = 1 := by
      unfold preE
      rw [if_pos (by rw [h]; rfl)]
    unfold pubP
    rw [if_pos (by rw [hp1]; decide)]
    exact hp1
  · unfold pubP
    have hs := hseen a
    rw [if_pos c] at hs
    have hag : againB p later x st1.ids = true := by
      unfold againB
      rw [hs, decide_eq_true a, decide_eq_true (show pv p 7 ≠ 0 by omega), decide_eq_true (show 0 < st.s.last + 1 by omega)]
      rfl
    rw [if_neg (by rw [hpl h]; simp), if_pos hag, hs]
  · have hag : againB p later x st1.ids = false := by
      unfold againB
      by_cases z1 : x.i.size = 0
      · rw [decide_eq_false (p := x.i.size ≠ 0) (by omega)]; rfl
      · by_cases z2 : pv p 7 = 0
        · rw [decide_eq_false (p := pv p 7 ≠ 0) (by omega)]; simp
        · have := hp.pos 7
          have hs := hseen z1
          rw [if_neg (fun y => a ⟨z1, by omega, y⟩)] at hs
          rw [hs, decide_eq_false (p := (0 : Int) < 0) (by omega)]
          simp
    have hfa : (pubP p m size later x st1).1.2.1 = false := by
      unfold pubP
      rw [if_neg (by rw [hpl h]; simp), if_neg (by rw [hag]; simp)]
      split
      · rfl
      · split
        · rfl
        · unfold putP
          split
          · rfl
          · split
            · rfl
            · split <;> rfl
    exact ⟨hfa, fun z => hn.2.1 z hfa⟩
end Go.Proofs.YtmccpkpeimejhahGreatDoor.Dk

namespace Go.Proofs.YtmccpkpeimejhahGreatDoor.Dk
open Go

/-- room is made, with as many rounds as it takes -/
def roomR (p : Pn.Pln) (m size now : Int) (x : Po) (es : List Pap) (s : Sto) : Int × List Pap × Sto := roomF p m size now x (s.l.length + 1) es s
theorem era_less {es : List Pap} {s : Sto} {m size q now : Int} (h0 : doE es s m size (eraR q now) = 0) (hm : ∃ r ∈ s.l, r.q = q) : (doS es s m size (eraR q now)).l.length < s.l.length := by
  rw [era_did h0]
  obtain ⟨r, hr, e⟩ := hm
  exact filter_less ⟨r, hr, by simp [e]⟩
section
variable {p : Pn.Pln} {m size now q : Int} {x : Po} {es : List Pap} {s : Sto}
theorem roomF_fuel (hp : PPos p) (hz : ¬ (pv p 1 ≠ 0 ∧ pv p 1 < (szP x : Int))) : ∀ (k k' : Nat) (es : List Pap) (s : Sto), s.l.length < k → s.l.length < k' → roomF p m size now x k es s = roomF p m size now x k' es s
  | 0, _, _, _, h, _ => absurd h (Nat.not_lt_zero _)
  | _ + 1, 0, _, _, _, h => absurd h (Nat.not_lt_zero _)
  | k + 1, k' + 1, es, s, h, h' => by
    unfold roomF
    by_cases c : (crowdB p s.l x || fullB p s.l x) = false
    · rw [if_pos c, if_pos c]
    · rw [if_neg c, if_neg c]
      by_cases d : pv p 5 = 1
      · rw [if_pos d, if_pos d]
      · rw [if_neg d, if_neg d]
        by_cases e : doE es s m size (eraR (goQ p s.l x) now) = 0
        · rw [if_neg (by rw [e]; simp), if_neg (by rw [e]; simp)]
          have := era_less e (go_in hp hz c)
          exact roomF_fuel hp hz k k' _ _ (by omega) (by omega)
        · rw [if_pos e, if_pos e]
theorem room_no (c : (crowdB p s.l x || fullB p s.l x) = false) : roomR p m size now x es s = (0, es, s) := by
  unfold roomR roomF
  rw [if_pos c]
theorem room_new (c : ¬ (crowdB p s.l x || fullB p s.l x) = false) (d : pv p 5 = 1) : roomR p m size now x es s = (8, es, s) := by
  unfold roomR roomF
  rw [if_neg c, if_pos d]
theorem room_bad (c : ¬ (crowdB p s.l x || fullB p s.l x) = false) (d : pv p 5 ≠ 1) (e : doE es s m size (eraR (goQ p s.l x) now) ≠ 0) : roomR p m size now x es s = (doE es s m size (eraR (goQ p s.l x) now), es, s) := by
  unfold roomR roomF
  rw [if_neg c, if_neg d, if_pos e]
theorem room_on (hp : PPos p) (hz : ¬ (pv p 1 ≠ 0 ∧ pv p 1 < (szP x : Int))) (c : ¬ (crowdB p s.l x || fullB p s.l x) = false) (d : pv p 5 ≠ 1) (e : doE es s m size (eraR (goQ p s.l x) now) = 0) :
    roomR p m size now x es s = roomR p m size now x (doL es s m size (eraR (goQ p s.l x) now)) (doS es s m size (eraR (goQ p s.l x) now)) := by
  have := era_less e (go_in hp hz c)
  unfold roomR
  rw [roomF, if_neg c, if_neg d, if_neg (by rw [e]; simp)]
  exact roomF_fuel hp hz _ _ _ _ (by omega) (by omega)
theorem crowd_kept {a b : List Rc} (h : a.Sublist b) (c : crowdB p b x = false) : crowdB p a x = false := by
  have := sameN_sub h x.s
  unfold crowdB at c ⊢
  cases hp : decide (pv p 3 ≠ 0) with
  | false => rfl
  | true =>
    rw [hp] at c
    simp only [Bool.true_and, decide_eq_false_iff_not] at c ⊢
    omega
theorem era_sub (h0 : doE es s m size (eraR q now) = 0) : (doS es s m size (eraR q now)).l.Sublist s.l := by
  rw [era_did h0]
  exact List.filter_sublist
end
/-- a subject takes itself alone -/
theorem tk_subject {f s : ByteArray} (hf : errS false f = 0) (hs : errS false s = 0) : tkB f s = decide (s = f) := by
  unfold tkB
  have h := coverL_plain (Pl.toks f) (Pl.toks s) (subject_signs hf) (fun t ht => (subject_signs hs t ht).1)
  by_cases e : s = f
  · subst e
    rw [decide_eq_true rfl]
    exact h.2 rfl
  · rw [decide_eq_false e]
    cases hc : coverL (Pl.toks f) (Pl.toks s) with
    | false => rfl
    | true => exact absurd (toks_inj (h.1 hc)).symm e
/-- the number of the first message that a filter takes -/
def nxQ (f : ByteArray) (l : List Rc) : Int := ((nextO f l 0).map (·.q)).getD 0
theorem find_like {α : Type} {p q : α → Bool} : ∀ {l : List α}, (∀ x ∈ l, p x = q x) → l.find? p = l.find? q
  | [], _ => rfl
  | x :: l, h => by
    have h0 := h x (List.mem_cons_self ..)
    have hr := find_like (l := l) (fun y hy => h y (List.mem_cons_of_mem _ hy))
    rw [List.find?_cons, List.find?_cons, h0, hr]
theorem nx_subject {s : Sto} (h : s.Ok) {f : ByteArray} (hf : errS false f = 0) : nxQ f s.l = firstS s.l f := by
  unfold nxQ firstS nextO
  congr 2
  refine find_like (fun r hr => ?_)
  have h1 := h.seq hr
  rw [tk_subject hf (right_msg (h.msg r hr).2 (h.msg r hr).1), decide_eq_true (p := (0 : Int) ≤ r.q) (by omega), Bool.and_true]
theorem nx_all {s : Sto} (h : s.Ok) : nxQ ⟨#[62]⟩ s.l = firstQ s.l := by
  unfold nxQ nextO
  cases hl : s.l with
  | nil => rfl
  | cons r l =>
    have h1 := h.seq (x := r) (by rw [hl]; exact List.mem_cons_self ..)
    rw [List.find?_cons, tkB_all, decide_eq_true (p := (0 : Int) ≤ r.q) (by omega)]
    rfl
theorem sameN_cnt (l : List Rc) (s : ByteArray) : sameN l s = cntN l s := by
  unfold sameN cntN
  rw [List.countP_eq_length_filter]
/-- what is found of a subject -/
theorem found_one {l : List Rc} {es : List Ent} (h : Cnt l es) {f : ByteArray} (hf : errS false f = 0) (hl : ∀ r ∈ l, errS false r.s = 0) : foundL es f = if sameN l f = 0 then [] else [(f, (sameN l f : Int))] := by
  unfold foundL findL
  rw [if_pos (subject_filter hf), sameN_cnt]
  refine ord_ext (h.good.1.sublist List.filter_sublist) ?_ (fun e => ?_)
  · split
    · exact List.Pairwise.nil
    · exact List.pairwise_singleton _ _
  · rw [List.mem_filter, h.mem]
    constructor
    · rintro ⟨⟨a, b⟩, c⟩
      have hs : errS false e.1 = 0 := by
        have hc : 0 < (l.filter fun r => decide (r.s = e.1)).length := a
        obtain ⟨r, hr⟩ := List.exists_mem_of_length_pos hc
        obtain ⟨h1, h2⟩ := List.mem_filter.1 hr
        rw [← of_decide_eq_true h2]
        exact hl r h1
      rw [matchB_subjects hf hs] at c
      have e1 : f = e.1 := eqB_iff.1 c
      rw [e1, if_neg (by omega), List.mem_singleton]
      exact Prod.ext rfl b
    · intro hm
      split at hm
      · cases hm
      · rename_i hn
        rw [List.mem_singleton] at hm
        subst hm
        exact ⟨⟨by show 0 < cntN l f; omega, rfl⟩, matchB_self hf⟩

/-- the last message of an id -/
def lastK (ids : List Kn) (i : ByteArray) : Option Kn := ids.foldl (fun o k => if k.i = i then some k else o) none
def knQ (o : Option Kn) (f : Int) : Int := match o with
  | none => 0
  | some k => if f ≤ k.a then k.q else 0
/-- an id's last message is the one that is known, if any is -/
structure Lasts (ids : List Kn) : Prop where
  seen : ∀ i f, seenQ ids i f = knQ (lastK ids i) f
  some' : ∀ k ∈ ids, k.i.size ≠ 0
theorem Lasts.nil : Lasts [] := ⟨fun _ _ => rfl, fun k hk => by cases hk⟩
theorem seenQ_snoc (ids : List Kn) (k : Kn) (i : ByteArray) (f : Int) : seenQ (ids ++ [k]) i f = if k.i = i ∧ f ≤ k.a then k.q else seenQ ids i f := by
  unfold seenQ
  rw [List.foldl_append]
  rfl
theorem lastK_snoc (ids : List Kn) (k : Kn) (i : ByteArray) : lastK (ids ++ [k]) i = if k.i = i then some k else lastK ids i := by
  unfold lastK
  rw [List.foldl_append]
  rfl
theorem lastK_at {i : ByteArray} {k : Kn} : ∀ (ids : List Kn) (o : Option Kn), ids.foldl (fun o k => if k.i = i then some k else o) o = some k → (k ∈ ids ∧ k.i = i) ∨ o = some k
  | [], _, h => .inr h
  | j :: ids, o, h => by
    rcases lastK_at ids _ h with y | y
    · exact .inl ⟨List.mem_cons_of_mem _ y.1, y.2⟩
    · have z : (if j.i = i then some j else o) = some k := y
      split at z
      · rename_i e
        cases z
        exact .inl ⟨List.mem_cons_self .., e⟩
      · exact .inr z
theorem lastK_mem {i : ByteArray} {k : Kn} {ids : List Kn} (h : lastK ids i = some k) : k ∈ ids ∧ k.i = i := by
  rcases lastK_at ids none h with y | y
  · exact y
  · cases y
theorem Lasts.more {ids : List Kn} (h : Lasts ids) (hq : ∀ k ∈ ids, 1 ≤ k.q) {i : ByteArray} {now W q : Int} (hi : i.size ≠ 0) (hW : 0 ≤ W) (hn : ¬ 0 < seenQ ids i (now - W)) : Lasts (ids ++ [⟨i, now, q⟩]) := by
  refine ⟨fun j f => ?_, fun k hk => ?_⟩
  · rw [seenQ_snoc, lastK_snoc]
    by_cases e : i = j
    · subst e
      rw [if_pos (show (⟨i, now, q⟩ : Kn).i = i from rfl)]
      show (if i = i ∧ f ≤ now then q else seenQ ids i f) = if f ≤ now then q else 0
      by_cases c : f ≤ now
      · rw [if_pos ⟨rfl, c⟩, if_pos c]
      · rw [if_neg (fun z => c z.2), if_neg c, h.seen]
        rw [h.seen] at hn
        cases hl : lastK ids i with
        | none => rfl
        | some k =>
          rw [hl] at hn
          have h1 := hq k (lastK_mem hl).1
          unfold knQ at hn ⊢
          simp only at hn ⊢
          by_cases d : now - W ≤ k.a
          · rw [if_pos d] at hn; omega
          · rw [if_neg (by omega)]
    · rw [if_neg (fun z => e z.1), if_neg e]
      exact h.seen j f
  · rcases List.mem_append.1 hk with y | y
    · exact h.some' k y
    · rw [List.mem_singleton.1 y]; exact hi
/-- what the program keeps of the ids -/
def mids (P : Pn.Pln) (ids : List Kn) : List Kn := if pv P 7 = 0 then [] else ids

/- ages -/
theorem ageF_fuel {p : Pn.Pln} {m size now : Int} : ∀ (k k' : Nat) (n : Int) (es : List Pap) (s : Sto), s.l.length < k → s.l.length < k' → ageF p m size now k n es s = ageF p m size now k' n es s
  | 0, _, _, _, _, h, _ => absurd h (Nat.not_lt_zero _)
  | _ + 1, 0, _, _, _, _, h => absurd h (Nat.not_lt_zero _)
  | k + 1, k' + 1, n, es, s, h, h' => by
    unfold ageF
    cases ho : oldQ s.l (now - pv p 2) with
    | none => rfl
    | some r =>
      simp only
      by_cases e : doE es s m size (eraR r.q now) = 0
      · rw [if_neg (by rw [e]; simp), if_neg (by rw [e]; simp)]
        have := era_less e ⟨r, List.mem_of_find?_eq_some ho, rfl⟩
        exact ageF_fuel k k' _ _ _ (by omega) (by omega)
      · rw [if_pos e, if_pos e]
def ageR (p : Pn.Pln) (m size now n : Int) (es : List Pap) (s : Sto) : (Int × Int) × List Pap × Sto := ageF p m size now (s.l.length + 1) n es s
section
variable {p : Pn.Pln} {m size now n : Int} {es : List Pap} {s : Sto}
theorem age_no (h : oldQ s.l (now - pv p 2) = none) : ageR p m size now n es s = ((n, 0), es, s) := by
  unfold ageR ageF
  rw [h]
theorem age_bad {r : Rc} (h : oldQ s.l (now - pv p 2) = some r) (e : doE es s m size (eraR r.q now) ≠ 0) : ageR p m size now n es s = ((n, doE es s m size (eraR r.q now)), es, s) := by
  unfold ageR ageF
  rw [h]
  simp only
  rw [if_pos e]
theorem age_on {r : Rc} (h : oldQ s.l (now - pv p 2) = some r) (e : doE es s m size (eraR r.q now) = 0) : ageR p m size now n es s = ageR p m size now (n + 1) (doL es s m size (eraR r.q now)) (doS es s m size (eraR r.q now)) := by
  have := era_less e ⟨r, List.mem_of_find?_eq_some h, rfl⟩
  unfold ageR
  rw [ageF, h]
  simp only
  rw [if_neg (by rw [e]; simp)]
  exact ageF_fuel _ _ _ _ _ (by omega) (by omega)
/-- gone through to the i-th message: what is ahead of it isn't old -/
def Gon (t : Int) (l : List Rc) (i : Nat) (s : Sto) : Prop := ∃ A, (∀ r ∈ A, ¬ r.t < t) ∧ s.l = A ++ l.drop i
theorem Gon.start (t : Int) (s : Sto) : Gon t s.l 0 s := ⟨[], (fun r hr => by cases hr), by simp⟩
theorem find_past {f : Rc → Bool} : ∀ {A B : List Rc}, (∀ r ∈ A, f r = false) → (A ++ B).find? f = B.find? f
  | [], _, _ => rfl
  | a :: A, B, h => by
    rw [List.cons_append, List.find?_cons, h a (List.mem_cons_self ..)]
    exact find_past (fun r hr => h r (List.mem_cons_of_mem _ hr))
theorem Gon.past {t : Int} {l : List Rc} {i : Nat} (h : Gon t l i s) : oldQ s.l t = oldQ (l.drop i) t := by
  obtain ⟨A, h1, h2⟩ := h
  unfold oldQ
  rw [h2, find_past (fun r hr => decide_eq_false (h1 r hr))]
theorem Gon.end' {t : Int} {l : List Rc} (h : Gon t l l.length s) : oldQ s.l t = none := by
  rw [h.past, List.drop_length]
  rfl
theorem Gon.young {t : Int} {l : List Rc} {i : Nat} (h : Gon t l i s) (hi : i < l.length) (ht : ¬ (rc l i).t < t) : Gon t l (i + 1) s := by
  obtain ⟨A, h1, h2⟩ := h
  refine ⟨A ++ [rc l i], fun r hr => ?_, by rw [h2, drop_rc hi]; simp⟩
  rcases List.mem_append.1 hr with y | y
  · exact h1 r y
  · rw [List.mem_singleton.1 y]; exact ht
theorem Gon.old {t : Int} {l : List Rc} {i : Nat} (h : Gon t l i s) (hi : i < l.length) (ht : (rc l i).t < t) : oldQ s.l t = some (rc l i) := by
  rw [h.past, drop_rc hi]
  unfold oldQ
  rw [List.find?_cons_of_pos (by simpa using ht)]
theorem Gon.gone {t : Int} {l : List Rc} {i : Nat} (h : Gon t l i s) (hk : s.Ok) (hi : i < l.length) (e : doE es s m size (eraR (rc l i).q now) = 0) : Gon t l (i + 1) (doS es s m size (eraR (rc l i).q now)) := by
  obtain ⟨A, h1, h2⟩ := h
  refine ⟨A, h1, ?_⟩
  have hr := hk.rise
  rw [era_did e]
  show s.l.filter _ = _
  rw [h2, drop_rc hi] at hr ⊢
  obtain ⟨p1, p2, p3⟩ := List.pairwise_append.1 hr
  obtain ⟨p4, p5⟩ := List.pairwise_cons.1 p2
  rw [List.filter_append, List.filter_cons, if_neg (by simp)]
  congr 1
  · exact List.filter_eq_self.2 (fun r hm => by
      have := p3 r hm (rc l i) (List.mem_cons_self ..)
      simp; omega)
  · exact List.filter_eq_self.2 (fun r hm => by
      have := p4 r hm
      simp; omega)
end
end Go.Proofs.YtmccpkpeimejhahGreatDoor.Dk

namespace Go.Proofs.YtmccpkpeimejhahGreatDoor.Dk
open Go.RowKit

/-- how an element of the map reads: a number and a time -/
def pubElem (v : Value) : Option (DataW Unit × List MemPlace) := match v with
  | .agg xs => match xs.toList with
    | [.int .i64 q, .int .i64 a] => some (.agg [.lit (.int .i64 q), .lit (.int .i64 a)], [])
    | _ => none
  | _ => none
theorem pubElem_mk (q a : Int) : pubElem (.agg #[.int .i64 q, .int .i64 a]) = some (.agg [.lit (.int .i64 q), .lit (.int .i64 a)], []) := rfl
theorem pubElem_inv {v : Value} {z : DataW Unit × List MemPlace} (h : pubElem v = some z) : ∃ q a : Int, v = .agg #[.int .i64 q, .int .i64 a] ∧ z = (.agg [.lit (.int .i64 q), .lit (.int .i64 a)], []) := by
  unfold pubElem at h
  split at h
  · rename_i xs
    split at h
    · rename_i q a e
      cases h
      refine ⟨q, a, ?_, rfl⟩
      rw [← Array.toArray_toList (xs := xs), e]
    · cases h
  · cases h
theorem zeroK (w : World) : (zeroValue 92).run Tryz.prog w = .ok (.agg #[.int .i64 0, .int .i64 0]) w := by kernel_rfl
/-- the map of the ids, nil or not -/
def KMap (w : World) (mb : Option Nat) (ids : List Kn) : Prop := (mb = none ∧ ids = []) ∨ ∃ b D, mb = some b ∧ w.ownsMap Tryz.prog 9 pubElem b ids.length D ∧
  ∀ i : ByteArray, i.size ≤ maxLen → (lastK ids i = none → Maps.has D (kS i) = false) ∧ ∀ k, lastK ids i = some k → Maps.has D (kS i) = true ∧ ∀ zd, D.atKey (kS i) zd = .agg [.lit (.int .i64 k.q), .lit (.int .i64 k.a)]
theorem KMap.none (w : World) : KMap w .none [] := .inl ⟨rfl, rfl⟩
theorem KMap.made (w : World) : KMap (w.alloc (.map #[] 0)) (some w.heap.size) [] := .inr ⟨_, .map [], rfl, World.ownsMap_made _ _ _ _, fun i _ => ⟨fun _ => by simp [Maps.has], fun k hk => by cases hk⟩⟩
theorem KMap.chg {A : Nat → Prop} {w w' : World} {mb : Option Nat} {ids : List Kn} (h : KMap w mb ids) (hc : Chg A w w') (hn : ∀ b, mb = some b → ¬ A b) : KMap w' mb ids := by
  rcases h with h | ⟨b, D, rfl, h, h2⟩
  · exact .inl h
  · refine .inr ⟨b, D, rfl, ?_, h2⟩
    have hl := h.lt
    obtain ⟨es, clock, hb, r⟩ := h
    exact ⟨es, clock, (hc.block b hl (hn b rfl)).trans hb, r⟩
theorem KMap.lt {w : World} {b : Nat} {ids : List Kn} (h : KMap w (some b) ids) : b < w.heap.size := by
  rcases h with ⟨h, _⟩ | ⟨b', D, e, h, _⟩
  · cases h
  · cases e; exact h.lt
/-- asked for an id -/
theorem KMap.look {w : World} {mb : Option Nat} {ids : List Kn} (h : KMap w mb ids) (i : ByteArray) (hi : i.size ≤ maxLen) :
    ∃ q a b, (Instr.lookup 61 (.map mb) (.string i) true).run Tryz.prog w = .ok (.tuple #[.agg #[.int .i64 q, .int .i64 a], .bool b]) w ∧ (b = false → lastK ids i = Option.none) ∧ (b = true → ∃ k, lastK ids i = some k ∧ k.q = q ∧ k.a = a) := by
  rcases h with ⟨rfl, rfl⟩ | ⟨b, D, rfl, h, h2⟩
  · exact ⟨0, 0, false, Maps.look_nil true lawS Tryz.underlying61 (zeroK w) (keyS hi), fun _ => rfl, fun z => by cases z⟩
  · obtain ⟨v, ps, hr, hv⟩ := h.look_ok lawS Tryz.underlying61 (zeroK w) (pubElem_mk 0 0) (keyS hi)
    obtain ⟨q, a, rfl, hz⟩ := pubElem_inv hv
    obtain ⟨g1, g2⟩ := h2 i hi
    refine ⟨q, a, _, hr, fun hb => ?_, fun hb => ?_⟩
    · cases hl : lastK ids i with
      | none => rfl
      | some k => rw [(g2 k hl).1] at hb; cases hb
    · cases hl : lastK ids i with
      | none => rw [g1 hl] at hb; cases hb
      | some k =>
        refine ⟨k, rfl, ?_⟩
        have e := congrArg Prod.fst hz
        simp only [(g2 k hl).2, DataW.agg.injEq, List.cons.injEq, DataW.lit.injEq, Lit.int.injEq, true_and, and_true] at e
        exact e
/-- an id is kept -/
theorem KMap.store {w : World} {b : Nat} {ids : List Kn} (h : KMap w (some b) ids) (hn : ids.length < maxLen) (i : ByteArray) (hi : i.size ≤ maxLen) (q a : Int) :
    ∃ w', (Instr.mapUpdate 61 (.map (some b)) (.string i) (.agg #[.int .i64 q, .int .i64 a])).run Tryz.prog w = .ok () w' ∧ KMap w' (some b) (ids ++ [⟨i, a, q⟩]) ∧ Chg (fun k => k = b) w w' := by
  rcases h with ⟨h, _⟩ | ⟨b', D, e, h, h2⟩
  · cases h
  · cases e
    obtain ⟨w', hr, h3, h4⟩ := h.store lawS Tryz.underlying61 hn (keyS hi) (pubElem_mk q a)
    have hD := h.tidy lawS
    refine ⟨w', hr, .inr ⟨b, _, rfl, by rw [List.length_append, List.length_singleton]; exact h3, fun j hj => ?_⟩, ?_⟩
    · rw [lastK_snoc]
      by_cases e : i = j
      · subst e
        rw [if_pos (show (⟨i, a, q⟩ : Kn).i = i from rfl)]
        refine ⟨(fun z => by cases z), fun k hk => ?_⟩
        cases hk
        exact ⟨Maps.has_put_same hD.isMap (kS_key _) _, fun zd => Maps.atKey_put_same hD.isMap (kS_key _) _ _⟩
      · rw [if_neg (show ¬ (⟨i, a, q⟩ : Kn).i = j from e)]
        obtain ⟨g1, g2⟩ := h2 j hj
        refine ⟨fun z => ?_, fun k hk => ⟨?_, fun zd => ?_⟩⟩
        · rw [Maps.has_put_other (kS_ne (fun z => e z.symm))]; exact g1 z
        · rw [Maps.has_put_other (kS_ne (fun z => e z.symm))]; exact (g2 k hk).1
        · rw [Maps.atKey_put_other (kS_ne (fun z => e z.symm))]; exact (g2 k hk).2 zd
    · exact (Chg.of_grown h4.grown).mono (fun k _ z => (Option.some.inj z).symm)
end Go.Proofs.YtmccpkpeimejhahGreatDoor.Dk
