/-
  A store's counts: there is such an index; each message's subject is right. No walk.
  What more is asked of the program's store: Subjects.
  A stream, pure: the ways that the program goes: room in two loops, ages in one going through, ids by their last message alone. No program.
  The program's map of ids in memory: each id's last message, its number and its time. No walk.
  The program's stream in memory: a plan, a vault and a map of ids in a block of its own; over any disk and any store. No walk.
-/
import Derived.Test.YtohjipnkoiifhagGreatDoorJointPapPbPapPnRowPlRowPsPapPcRowPrPapPwPapSPapTPapVaRowVWorksV
import Derived.Test.YtohjipnkoiifhagGreatDoorJointPapPeWalkY1WalkY2PapCPapEPapWRowT
import Derived.Test.YtohjipnkoiifhagGreatDoorJointRowEWalkI1WalkI2
import Derived.Test.YtohjipnkoiifhagGreatDoorJointWalkC3WalkC4
import Derived.Test.YtohjipnkoiifhagGreatDoorJointOvRWorksSPapRaPapRbPapRfPapRcRowPvWorksROsPPapRdRowPtRowPu
namespace Go.Proofs.YtohjipnkoiifhagGreatDoor.Dk
open Go.RowKit

theorem right_msg {r : Rc} (h : chkR r = 0) (h1 : r.k = 1) : errS false r.s = 0 := by
  have e := chkV_eq r.k r.q r.t r.s r.h r.d
  have e2 : chkV r.k r.q r.t r.s r.h r.d = 0 := h
  rw [e2] at e
  by_cases hb : Pk.inB r.k r.q r.t = false
  · rw [if_pos hb] at e; cases e
  · rw [if_neg hb, if_pos h1] at e
    unfold msgE at e
    by_cases z : errS false r.s ≠ 0
    · rw [if_pos z] at e; exact e.symm
    · exact Classical.byContradiction z
theorem Sto.Ok.cnt {s : Sto} (h : s.Ok) : ∃ es, Cnt s.l es := cnt_ex _ s.l rfl (fun x hx => ⟨right_msg (h.msg x hx).2 (h.msg x hx).1, by have := (h.small hx).1; omega⟩) h.names
end Go.Proofs.YtohjipnkoiifhagGreatDoor.Dk

namespace Go.Proofs.YtohjipnkoiifhagGreatDoor.Dk
open Go.RowKit

structure STells (SH : World → Nat → Nat → (Nat → Prop) → Sto → Prop) : Prop where
  subjects : ∀ {w B q F s} (f : ByteArray) {es : List Ent}, f.size ≤ 140737488355328 → SH w B q F s → s.Ok → B ≤ w.heap.size → Cnt s.l es →
    Calls Tryz.prog 19 #[.pointer (some ⟨q, 0, none⟩), .string f] w fun e w' => ∃ v', e = .returned (.tuple #[v', .int .i64 (errS true f)]) ∧ Arr w' w.heap.size v' (foundL es f) ∧ Below w.heap.size w w'
end Go.Proofs.YtohjipnkoiifhagGreatDoor.Dk

namespace Go.Proofs.YtohjipnkoiifhagGreatDoor.Dk
open Go

/-- room is made, with as many rounds as it takes -/
def roomR (p : Pn.Pln) (m size now : Int) (x : Po) (es : List Pap) (s : Sto) : Int × List Pap × Sto := roomF p m size now x (s.l.length + 1) es s
theorem era_less {es : List Pap} {s : Sto} {m size q now : Int} (h0 : doE es s m size (eraR q now) = 0) (hm : ∃ r ∈ s.l, r.q = q) : (doS es s m size (eraR q now)).l.length < s.l.length := by
  rw [era_did h0]
  obtain ⟨r, hr, e⟩ := hm
  exact filter_less ⟨r, hr, by simp [e]⟩
section
variable {p : Pn.Pln} {m size now q : Int} {x : Po} {es : List Pap} {s : Sto}
theorem roomF_fuel (hp : PPos p) (hz : ¬ (pv p 1 ≠ 0 ∧ pv p 1 < (szP x : Int))) : ∀ (k k' : Nat) (es : List Pap) (s : Sto), s.l.length < k → s.l.length < k' → roomF p m size now x k es s = roomF p m size now x k' es s
  | 0, _, _, _, h, _ => absurd h (Nat.not_lt_zero _)
  | _ + 1, 0, _, _, _, h => absurd h (Nat.not_lt_zero _)
  | k + 1, k' + 1, es, s, h, h' => by
    unfold roomF
    by_cases c : (crowdB p s.l x || fullB p s.l x) = false
    · rw [if_pos c, if_pos c]
    · rw [if_neg c, if_neg c]
      by_cases d : pv p 5 = 1
      · rw [if_pos d, if_pos d]
      · rw [if_neg d, if_neg d]
        by_cases e : doE es s m size (eraR (goQ p s.l x) now) = 0
        · rw [if_neg (by rw [e]; simp), if_neg (by rw [e]; simp)]
          have := era_less e (go_in hp hz c)
          exact roomF_fuel hp hz k k' _ _ (by omega) (by omega)
        · rw [if_pos e, if_pos e]
theorem room_no (c : (crowdB p s.l x || fullB p s.l x) = false) : roomR p m size now x es s = (0, es, s) := by
  unfold roomR roomF
  rw [if_pos c]
theorem room_new (c : ¬ (crowdB p s.l x || fullB p s.l x) = false) (d : pv p 5 = 1) : roomR p m size now x es s = (8, es, s) := by
  unfold roomR roomF
  rw [if_neg c, if_pos d]
theorem room_bad (c : ¬ (crowdB p s.l x || fullB p s.l x) = false) (d : pv p 5 ≠ 1) (e : doE es s m size (eraR (goQ p s.l x) now) ≠ 0) : roomR p m size now x es s = (doE es s m size (eraR (goQ p s.l x) now), es, s) := by
  unfold roomR roomF
  rw [if_neg c, if_neg d, if_pos e]
theorem room_on (hp : PPos p) (hz : ¬ (pv p 1 ≠ 0 ∧ pv p 1 < (szP x : Int))) (c : ¬ (crowdB p s.l x || fullB p s.l x) = false) (d : pv p 5 ≠ 1) (e : doE es s m size (eraR (goQ p s.l x) now) = 0) :
    roomR p m size now x es s = roomR p m size now x (doL es s m size (eraR (goQ p s.l x) now)) (doS es s m size (eraR (goQ p s.l x) now)) := by
  have := era_less e (go_in hp hz c)
  unfold roomR
  rw [roomF, if_neg c, if_neg d, if_neg (by rw [e]; simp)]
  exact roomF_fuel hp hz _ _ _ _ (by omega) (by omega)
theorem crowd_kept {a b : List Rc} (h : a.Sublist b) (c : crowdB p b x = false) : crowdB p a x = false := by
  have := sameN_sub h x.s
  unfold crowdB at c ⊢
  cases hp : decide (pv p 3 ≠ 0) with
  | false => rfl
  | true =>
    rw [hp] at c
    simp only [Bool.true_and, decide_eq_false_iff_not] at c ⊢
    omega
theorem era_sub (h0 : doE es s m size (eraR q now) = 0) : (doS es s m size (eraR q now)).l.Sublist s.l := by
  rw [era_did h0]
  exact List.filter_sublist
end
/-- a subject takes itself alone -/
theorem tk_subject {f s : ByteArray} (hf : errS false f = 0) (hs : errS false s = 0) : tkB f s = decide (s = f) := by
  unfold tkB
  have h := coverL_plain (Pl.toks f) (Pl.toks s) (subject_signs hf) (fun t ht => (subject_signs hs t ht).1)
  by_cases e : s = f
  · subst e
    rw [decide_eq_true rfl]
    exact h.2 rfl
  · rw [decide_eq_false e]
    cases hc : coverL (Pl.toks f) (Pl.toks s) with
    | false => rfl
    | true => exact absurd (toks_inj (h.1 hc)).symm e
/-- the number of the first message that a filter takes -/
def nxQ (f : ByteArray) (l : List Rc) : Int := ((nextO f l 0).map (·.q)).getD 0
theorem find_like {α : Type} {p q : α → Bool} : ∀ {l : List α}, (∀ x ∈ l, p x = q x) → l.find? p = l.find? q
  | [], _ => rfl
  | x :: l, h => by
    have h0 := h x (List.mem_cons_self ..)
    have hr := find_like (l := l) (fun y hy => h y (List.mem_cons_of_mem _ hy))
    rw [List.find?_cons, List.find?_cons, h0, hr]
theorem nx_subject {s : Sto} (h : s.Ok) {f : ByteArray} (hf : errS false f = 0) : nxQ f s.l = firstS s.l f := by
  unfold nxQ firstS nextO
  congr 2
  refine find_like (fun r hr => ?_)
  have h1 := h.seq hr
  rw [tk_subject hf (right_msg (h.msg r hr).2 (h.msg r hr).1), decide_eq_true (p := (0 : Int) ≤ r.q) (by omega), Bool.and_true]
theorem nx_all {s : Sto} (h : s.Ok) : nxQ ⟨#[62]⟩ s.l = firstQ s.l := by
  unfold nxQ nextO
  cases hl : s.l with
  | nil => rfl
  | cons r l =>
    have h1 := h.seq (x := r) (by rw [hl]; exact List.mem_cons_self ..)
    rw [List.find?_cons, tkB_all, decide_eq_true (p := (0 : Int) ≤ r.q) (by omega)]
    rfl
theorem sameN_cnt (l : List Rc) (s : ByteArray) : sameN l s = cntN l s := by
  unfold sameN cntN
  rw [List.countP_eq_length_filter]
/-- what is found of a subject -/
theorem found_one {l : List Rc} {es : List Ent} (h : Cnt l es) {f : ByteArray} (hf : errS false f = 0) (hl : ∀ r ∈ l, errS false r.s = 0) : foundL es f = if sameN l f = 0 then [] else [(f, (sameN l f : Int))] := by
  unfold foundL findL
  rw [if_pos (subject_filter hf), sameN_cnt]
  refine ord_ext (h.good.1.sublist List.filter_sublist) ?_ (fun e => ?_)
  · split
    · exact List.Pairwise.nil
    · exact List.pairwise_singleton _ _
  · rw [List.mem_filter, h.mem]
    constructor
    · rintro ⟨⟨a, b⟩, c⟩
      have hs : errS false e.1 = 0 := by
        have hc : 0 < (l.filter fun r => decide (r.s = e.1)).length := a
        obtain ⟨r, hr⟩ := List.exists_mem_of_length_pos hc
        obtain ⟨h1, h2⟩ := List.mem_filter.1 hr
        rw [← of_decide_eq_true h2]
        exact hl r h1
      rw [matchB_subjects hf hs] at c
      have e1 : f = e.1 := eqB_iff.1 c
      rw [e1, if_neg (by omega), List.mem_singleton]
      exact Prod.ext rfl b
    · intro hm
      split at hm
      · cases hm
      · rename_i hn
        rw [List.mem_singleton] at hm
        subst hm
        exact ⟨⟨by show 0 < cntN l f; omega, rfl⟩, matchB_self hf⟩

/-- the last message of an id -/
def lastK (ids : List Kn) (i : ByteArray) : Option Kn := ids.foldl (fun o k => if k.i = i then some k else o) none
def knQ (o : Option Kn) (f : Int) : Int := match o with
  | none => 0
  | some k => if f ≤ k.a then k.q else 0
/-- an id's last message is the one that is known, if any is -/
structure Lasts (ids : List Kn) : Prop where
  seen : ∀ i f, seenQ ids i f = knQ (lastK ids i) f
  some' : ∀ k ∈ ids, k.i.size ≠ 0
theorem Lasts.nil : Lasts [] := ⟨fun _ _ => rfl, fun k hk => by cases hk⟩
theorem seenQ_snoc (ids : List Kn) (k : Kn) (i : ByteArray) (f : Int) : seenQ (ids ++ [k]) i f = if k.i = i ∧ f ≤ k.a then k.q else seenQ ids i f := by
  unfold seenQ
  rw [List.foldl_append]
  rfl
theorem lastK_snoc (ids : List Kn) (k : Kn) (i : ByteArray) : lastK (ids ++ [k]) i = if k.i = i then some k else lastK ids i := by
  unfold lastK
  rw [List.foldl_append]
  rfl
theorem lastK_at {i : ByteArray} {k : Kn} : ∀ (ids : List Kn) (o : Option Kn), ids.foldl (fun o k => if k.i = i then some k else o) o = some k → (k ∈ ids ∧ k.i = i) ∨ o = some k
  | [], _, h => .inr h
  | j :: ids, o, h => by
    rcases lastK_at ids _ h with y | y
    · exact .inl ⟨List.mem_cons_of_mem _ y.1, y.2⟩
    · have z : (if j.i = i then some j else o) = some k := y
      split at z
      · rename_i e
        cases z
        exact .inl ⟨List.mem_cons_self .., e⟩
      · exact .inr z
theorem lastK_mem {i : ByteArray} {k : Kn} {ids : List Kn} (h : lastK ids i = some k) : k ∈ ids ∧ k.i = i := by
  rcases lastK_at ids none h with y | y
  · exact y
  · cases y
theorem Lasts.more {ids : List Kn} (h : Lasts ids) (hq : ∀ k ∈ ids, 1 ≤ k.q) {i : ByteArray} {now W q : Int} (hi : i.size ≠ 0) (hW : 0 ≤ W) (hn : ¬ 0 < seenQ ids i (now - W)) : Lasts (ids ++ [⟨i, now, q⟩]) := by
  refine ⟨fun j f => ?_, fun k hk => ?_⟩
  · rw [seenQ_snoc, lastK_snoc]
    by_cases e : i = j
    · subst e
      rw [if_pos (show (⟨i, now, q⟩ : Kn).i = i from rfl)]
      show (if i = i ∧ f ≤ now then q else seenQ ids i f) = if f ≤ now then q else 0
      by_cases c : f ≤ now
      · rw [if_pos ⟨rfl, c⟩, if_pos c]
      · rw [if_neg (fun z => c z.2), if_neg c, h.seen]
        rw [h.seen] at hn
        cases hl : lastK ids i with
        | none => rfl
        | some k =>
          rw [hl] at hn
          have h1 := hq k (lastK_mem hl).1
          unfold knQ at hn ⊢
          simp only at hn ⊢
          by_cases d : now - W ≤ k.a
          · rw [if_pos d] at hn; omega
          · rw [if_neg (by omega)]
    · rw [if_neg (fun z => e z.1), if_neg e]
      exact h.seen j f
  · rcases List.mem_append.1 hk with y | y
    · exact h.some' k y
    · rw [List.mem_singleton.1 y]; exact hi
/-- what the program keeps of the ids -/
def mids (P : Pn.Pln) (ids : List Kn) : List Kn := if pv P 7 = 0 then [] else ids

/- ages -/
theorem ageF_fuel {p : Pn.Pln} {m size now : Int} : ∀ (k k' : Nat) (n : Int) (es : List Pap) (s : Sto), s.l.length < k → s.l.length < k' → ageF p m size now k n es s = ageF p m size now k' n es s
  | 0, _, _, _, _, h, _ => absurd h (Nat.not_lt_zero _)
  | _ + 1, 0, _, _, _, _, h => absurd h (Nat.not_lt_zero _)
  | k + 1, k' + 1, n, es, s, h, h' => by
    unfold ageF
    cases ho : oldQ s.l (now - pv p 2) with
    | none => rfl
    | some r =>
      simp only
      by_cases e : doE es s m size (eraR r.q now) = 0
      · rw [if_neg (by rw [e]; simp), if_neg (by rw [e]; simp)]
        have := era_less e ⟨r, List.mem_of_find?_eq_some ho, rfl⟩
        exact ageF_fuel k k' _ _ _ (by omega) (by omega)
      · rw [if_pos e, if_pos e]
def ageR (p : Pn.Pln) (m size now n : Int) (es : List Pap) (s : Sto) : (Int × Int) × List Pap × Sto := ageF p m size now (s.l.length + 1) n es s
section
variable {p : Pn.Pln} {m size now n : Int} {es : List Pap} {s : Sto}
theorem age_no (h : oldQ s.l (now - pv p 2) = none) : ageR p m size now n es s = ((n, 0), es, s) := by
  unfold ageR ageF
  rw [h]
theorem age_bad {r : Rc} (h : oldQ s.l (now - pv p 2) = some r) (e : doE es s m size (eraR r.q now) ≠ 0) : ageR p m size now n es s = ((n, doE es s m size (eraR r.q now)), es, s) := by
  unfold ageR ageF
  rw [h]
  simp only
  rw [if_pos e]
theorem age_on {r : Rc} (h : oldQ s.l (now - pv p 2) = some r) (e : doE es s m size (eraR r.q now) = 0) : ageR p m size now n es s = ageR p m size now (n + 1) (doL es s m size (eraR r.q now)) (doS es s m size (eraR r.q now)) := by
  have := era_less e ⟨r, List.mem_of_find?_eq_some h, rfl⟩
  unfold ageR
  rw [ageF, h]
  simp only
  rw [if_neg (by rw [e]; simp)]
  exact ageF_fuel _ _ _ _ _ (by omega) (by omega)
/-- gone through to the i-th message: what is ahead of it isn't old -/
def Gon (t : Int) (l : List Rc) (i : Nat) (s : Sto) : Prop := ∃ A, (∀ r ∈ A, ¬ r.t < t) ∧ s.l = A ++ l.drop i
theorem Gon.start (t : Int) (s : Sto) : Gon t s.l 0 s := ⟨[], (fun r hr => by cases hr), by simp⟩
theorem find_past {f : Rc → Bool} : ∀ {A B : List Rc}, (∀ r ∈ A, f r = false) → (A ++ B).find? f = B.find? f
  | [], _, _ => rfl
  | a :: A, B, h => by
    rw [List.cons_append, List.find?_cons, h a (List.mem_cons_self ..)]
    exact find_past (fun r hr => h r (List.mem_cons_of_mem _ hr))
theorem Gon.past {t : Int} {l : List Rc} {i : Nat} (h : Gon t l i s) : oldQ s.l t = oldQ (l.drop i) t := by
  obtain ⟨A, h1, h2⟩ := h
  unfold oldQ
  rw [h2, find_past (fun r hr => decide_eq_false (h1 r hr))]
theorem Gon.end' {t : Int} {l : List Rc} (h : Gon t l l.length s) : oldQ s.l t = none := by
  rw [h.past, List.drop_length]
  rfl
theorem Gon.young {t : Int} {l : List Rc} {i : Nat} (h : Gon t l i s) (hi : i < l.length) (ht : ¬ (rc l i).t < t) : Gon t l (i + 1) s := by
  obtain ⟨A, h1, h2⟩ := h
  refine ⟨A ++ [rc l i], fun r hr => ?_, by rw [h2, drop_rc hi]; simp⟩
  rcases List.mem_append.1 hr with y | y
  · exact h1 r y
  · rw [List.mem_singleton.1 y]; exact ht
theorem Gon.old {t : Int} {l : List Rc} {i : Nat} (h : Gon t l i s) (hi : i < l.length) (ht : (rc l i).t < t) : oldQ s.l t = some (rc l i) := by
  rw [h.past, drop_rc hi]
  unfold oldQ
  rw [List.find?_cons_of_pos (by simpa using ht)]
theorem Gon.gone {t : Int} {l : List Rc} {i : Nat} (h : Gon t l i s) (hk : s.Ok) (hi : i < l.length) (e : doE es s m size (eraR (rc l i).q now) = 0) : Gon t l (i + 1) (doS es s m size (eraR (rc l i).q now)) := by
  obtain ⟨A, h1, h2⟩ := h
  refine ⟨A, h1, ?_⟩
  have hr := hk.rise
  rw [era_did e]
  show s.l.filter _ = _
  rw [h2, drop_rc hi] at hr ⊢
  obtain ⟨p1, p2, p3⟩ := List.pairwise_append.1 hr
  obtain ⟨p4, p5⟩ := List.pairwise_cons.1 p2
  rw [List.filter_append, List.filter_cons, if_neg (by simp)]
  congr 1
  · exact List.filter_eq_self.2 (fun r hm => by
      have := p3 r hm (rc l i) (List.mem_cons_self ..)
      simp; omega)
  · exact List.filter_eq_self.2 (fun r hm => by
      have := p4 r hm
      simp; omega)
end
end Go.Proofs.YtohjipnkoiifhagGreatDoor.Dk

namespace Go.Proofs.YtohjipnkoiifhagGreatDoor.Dk
open Go.RowKit

/-- how an element of the map reads: a number and a time -/
def pubElem (v : Value) : Option (DataW Unit × List MemPlace) := match v with
  | .agg xs => match xs.toList with
    | [.int .i64 q, .int .i64 a] => some (.agg [.lit (.int .i64 q), .lit (.int .i64 a)], [])
    | _ => none
  | _ => none
theorem pubElem_mk (q a : Int) : pubElem (.agg #[.int .i64 q, .int .i64 a]) = some (.agg [.lit (.int .i64 q), .lit (.int .i64 a)], []) := rfl
theorem pubElem_inv {v : Value} {z : DataW Unit × List MemPlace} (h : pubElem v = some z) : ∃ q a : Int, v = .agg #[.int .i64 q, .int .i64 a] ∧ z = (.agg [.lit (.int .i64 q), .lit (.int .i64 a)], []) := by
  unfold pubElem at h
  split at h
  · rename_i xs
    split at h
    · rename_i q a e
      cases h
      refine ⟨q, a, ?_, rfl⟩
      rw [← Array.toArray_toList (xs := xs), e]
    · cases h
  · cases h
theorem zeroK (w : World) : (zeroValue 124).run Tryz.prog w = .ok (.agg #[.int .i64 0, .int .i64 0]) w := by kernel_rfl
/-- the map of the ids, nil or not -/
def KMap (w : World) (mb : Option Nat) (ids : List Kn) : Prop := (mb = none ∧ ids = []) ∨ ∃ b D, mb = some b ∧ w.ownsMap Tryz.prog 9 pubElem b ids.length D ∧
  ∀ i : ByteArray, i.size ≤ maxLen → (lastK ids i = none → Maps.has D (kS i) = false) ∧ ∀ k, lastK ids i = some k → Maps.has D (kS i) = true ∧ ∀ zd, D.atKey (kS i) zd = .agg [.lit (.int .i64 k.q), .lit (.int .i64 k.a)]
theorem KMap.none (w : World) : KMap w .none [] := .inl ⟨rfl, rfl⟩
theorem KMap.made (w : World) : KMap (w.alloc (.map #[] 0)) (some w.heap.size) [] := .inr ⟨_, .map [], rfl, World.ownsMap_made _ _ _ _, fun i _ => ⟨fun _ => by simp [Maps.has], fun k hk => by cases hk⟩⟩
theorem KMap.chg {A : Nat → Prop} {w w' : World} {mb : Option Nat} {ids : List Kn} (h : KMap w mb ids) (hc : Chg A w w') (hn : ∀ b, mb = some b → ¬ A b) : KMap w' mb ids := by
  rcases h with h | ⟨b, D, rfl, h, h2⟩
  · exact .inl h
  · refine .inr ⟨b, D, rfl, ?_, h2⟩
    have hl := h.lt
    obtain ⟨es, clock, hb, r⟩ := h
    exact ⟨es, clock, (hc.block b hl (hn b rfl)).trans hb, r⟩
theorem KMap.lt {w : World} {b : Nat} {ids : List Kn} (h : KMap w (some b) ids) : b < w.heap.size := by
  rcases h with ⟨h, _⟩ | ⟨b', D, e, h, _⟩
  · cases h
  · cases e; exact h.lt
/-- asked for an id -/
theorem KMap.look {w : World} {mb : Option Nat} {ids : List Kn} (h : KMap w mb ids) (i : ByteArray) (hi : i.size ≤ maxLen) :
    ∃ q a b, (Instr.lookup 78 (.map mb) (.string i) true).run Tryz.prog w = .ok (.tuple #[.agg #[.int .i64 q, .int .i64 a], .bool b]) w ∧ (b = false → lastK ids i = Option.none) ∧ (b = true → ∃ k, lastK ids i = some k ∧ k.q = q ∧ k.a = a) := by
  rcases h with ⟨rfl, rfl⟩ | ⟨b, D, rfl, h, h2⟩
  · exact ⟨0, 0, false, Maps.look_nil true lawS Tryz.underlying78 (zeroK w) (keyS hi), fun _ => rfl, fun z => by cases z⟩
  · obtain ⟨v, ps, hr, hv⟩ := h.look_ok lawS Tryz.underlying78 (zeroK w) (pubElem_mk 0 0) (keyS hi)
    obtain ⟨q, a, rfl, hz⟩ := pubElem_inv hv
    obtain ⟨g1, g2⟩ := h2 i hi
    refine ⟨q, a, _, hr, fun hb => ?_, fun hb => ?_⟩
    · cases hl : lastK ids i with
      | none => rfl
      | some k => rw [(g2 k hl).1] at hb; cases hb
    · cases hl : lastK ids i with
      | none => rw [g1 hl] at hb; cases hb
      | some k =>
        refine ⟨k, rfl, ?_⟩
        have e := congrArg Prod.fst hz
        simp only [(g2 k hl).2, DataW.agg.injEq, List.cons.injEq, DataW.lit.injEq, Lit.int.injEq, true_and, and_true] at e
        exact e
/-- an id is kept -/
theorem KMap.store {w : World} {b : Nat} {ids : List Kn} (h : KMap w (some b) ids) (hn : ids.length < maxLen) (i : ByteArray) (hi : i.size ≤ maxLen) (q a : Int) :
    ∃ w', (Instr.mapUpdate 78 (.map (some b)) (.string i) (.agg #[.int .i64 q, .int .i64 a])).run Tryz.prog w = .ok () w' ∧ KMap w' (some b) (ids ++ [⟨i, a, q⟩]) ∧ Chg (fun k => k = b) w w' := by
  rcases h with ⟨h, _⟩ | ⟨b', D, e, h, h2⟩
  · cases h
  · cases e
    obtain ⟨w', hr, h3, h4⟩ := h.store lawS Tryz.underlying78 hn (keyS hi) (pubElem_mk q a)
    have hD := h.tidy lawS
    refine ⟨w', hr, .inr ⟨b, _, rfl, by rw [List.length_append, List.length_singleton]; exact h3, fun j hj => ?_⟩, ?_⟩
    · rw [lastK_snoc]
      by_cases e : i = j
      · subst e
        rw [if_pos (show (⟨i, a, q⟩ : Kn).i = i from rfl)]
        refine ⟨(fun z => by cases z), fun k hk => ?_⟩
        cases hk
        exact ⟨Maps.has_put_same hD.isMap (kS_key _) _, fun zd => Maps.atKey_put_same hD.isMap (kS_key _) _ _⟩
      · rw [if_neg (show ¬ (⟨i, a, q⟩ : Kn).i = j from e)]
        obtain ⟨g1, g2⟩ := h2 j hj
        refine ⟨fun z => ?_, fun k hk => ⟨?_, fun zd => ?_⟩⟩
        · rw [Maps.has_put_other (kS_ne (fun z => e z.symm))]; exact g1 z
        · rw [Maps.has_put_other (kS_ne (fun z => e z.symm))]; exact (g2 k hk).1
        · rw [Maps.atKey_put_other (kS_ne (fun z => e z.symm))]; exact (g2 k hk).2 zd
    · exact (Chg.of_grown h4.grown).mono (fun k _ z => (Option.some.inj z).symm)
end Go.Proofs.YtohjipnkoiifhagGreatDoor.Dk

namespace Go.Proofs.YtohjipnkoiifhagGreatDoor.Dk
open Go.RowKit

abbrev PBx (w : World) (x : Nat) (P : Pn.Pln) (a : Option Addr) (c : Nat) : Prop := PB w x P.n a P.f.length c (nth P.v 0) (nth P.v 1) (nth P.v 2) (nth P.v 3) (nth P.v 4) (nth P.v 5) (nth P.v 6) (nth P.v 7)
/-- the blocks of a stream: those of its vault, the row of its filters, the map -/
def smF (FV : Nat → Prop) (a : Option Addr) (mb : Option Nat) (k : Nat) : Prop := FV k ∨ (∃ z, a = some z ∧ k = z.block) ∨ mb = some k
/-- a stream at block x -/
structure Stm (Has : World → Nat → Nat → (Nat → Prop) → Int → List Pap → Prop) (SH : World → Nat → Nat → (Nat → Prop) → Sto → Prop) (w : World) (B x : Nat) (FV : Nat → Prop) (a : Option Addr) (c : Nat) (mb : Option Nat) (P : Pn.Pln) (m size : Int) (st : Str) : Prop where
  vault : VHof Has SH 10 w B x FV m size st.es st.s
  plan : PBx w x P a c
  ids : w.cell? ⟨x, 14, none⟩ = some (.map mb)
  row : SlS w a P.f
  rowB : ∀ z, a = some z → B ≤ z.block ∧ z.block < w.heap.size ∧ ¬ FV z.block
  cap : P.f.length ≤ c
  map : KMap w mb (mids P st.ids)
  mapB : ∀ b, mb = some b → B ≤ b ∧ b < w.heap.size ∧ ¬ FV b ∧ ∀ z, a = some z → z.block ≠ b
  lasts : Lasts (mids P st.ids)
  few : (st.ids.length : Int) ≤ st.s.last
  small : SmallP P
section
variable {Has : World → Nat → Nat → (Nat → Prop) → Int → List Pap → Prop} {SH : World → Nat → Nat → (Nat → Prop) → Sto → Prop} {w w' : World} {B x : Nat} {FV A : Nat → Prop} {a : Option Addr} {c : Nat} {mb : Option Nat} {P : Pn.Pln} {m size : Int} {st : Str} {es' : List Pap} {s' : Sto}
theorem VHof.blk {o : Nat} {F : Nat → Prop} {es : List Pap} {s : Sto} (h : VHof Has SH o w B x F m size es s) : F x ∧ B ≤ x ∧ x < w.heap.size ∧ ∀ j, w.frozen? ⟨x, j, none⟩ = false := by
  obtain ⟨q, g, c, FL, G, h1, h2⟩ := h
  exact ⟨(h2 x).2 (.inl rfl), h1.base, h1.lt, h1.free⟩
theorem VHof.own {o : Nat} {F : Nat → Prop} {es : List Pap} {s : Sto} (H : More Has) (S : SVault SH) (h : VHof Has SH o w B x F m size es s) : ∀ k, F k → B ≤ k ∧ k < w.heap.size := fun k hk => by
  obtain ⟨q, g, c, FL, G, h1, h2⟩ := h
  exact h1.own H S k ((h2 k).1 hk)
theorem VHof.chg {o : Nat} {F : Nat → Prop} {es : List Pap} {s : Sto} (H : More Has) (S : SVault SH) (h : VHof Has SH o w B x F m size es s) (hc : Chg A w w') (hn : ∀ k, F k → ¬ A k) : VHof Has SH o w' B x F m size es s := by
  obtain ⟨q, g, c, FL, G, h1, h2⟩ := h
  exact ⟨q, g, c, FL, G, h1.chg H S hc (fun k hk => hn k ((h2 k).2 hk)), h2⟩
/-- another cell of the vault's block is written -/
theorem VHof.beside {o j : Nat} {F : Nat → Prop} {es : List Pap} {s : Sto} (H : More Has) (S : SVault SH) (h : VHof Has SH o w B x F m size es s) (hj : j < o ∨ o + 4 ≤ j) (v : Value) : VHof Has SH o (w.setCell ⟨x, j, none⟩ v) B x F m size es s := by
  obtain ⟨q, g, c, FL, G, h1, h2⟩ := h
  have cs : Chg (fun k => k = x) w (w.setCell ⟨x, j, none⟩ v) := (Chg.refl _ _).setCell (A := fun k => k = x) (p := ⟨x, j, none⟩) (.inl rfl) _
  refine ⟨q, g, c, FL, G, ⟨(LHof.looks H g size).chg h1.log cs (fun k hk z => by subst z; exact h1.xd hk), S.chg h1.chest cs (fun k hk z => by subst z; exact h1.xg hk), h1.base, Nat.lt_of_lt_of_le h1.lt cs.size, ?_, ?_, ?_, ?_, fun i => ?_, h1.ap, h1.xd, h1.xg⟩, h2⟩
  · rw [World.cell?_setCell_other _ _ _ _ (by simp <;> omega)]; exact h1.c0
  · rw [World.cell?_setCell_other _ _ _ _ (by simp <;> omega)]; exact h1.c1
  · rw [World.cell?_setCell_other _ _ _ _ (by simp <;> omega)]; exact h1.c2
  · rw [World.cell?_setCell_other _ _ _ _ (by simp <;> omega)]; exact h1.c3
  · rw [World.frozen?_setCell]; exact h1.free i
theorem pb_same {b : Nat} {n : ByteArray} {l : Nat} {x0 x1 x2 x3 x4 x5 x6 x7 : Int} (h : PB w b n a l c x0 x1 x2 x3 x4 x5 x6 x7) (hs : w.heap.size ≤ w'.heap.size) (hc : ∀ j, j < 10 → w'.cell? ⟨b, j, none⟩ = w.cell? ⟨b, j, none⟩) : PB w' b n a l c x0 x1 x2 x3 x4 x5 x6 x7 :=
  ⟨Nat.lt_of_lt_of_le h.lt hs, by rw [hc 0 (by omega)]; exact h.c0, by rw [hc 1 (by omega)]; exact h.c1, by rw [hc 2 (by omega)]; exact h.c2, by rw [hc 3 (by omega)]; exact h.c3, by rw [hc 4 (by omega)]; exact h.c4, by rw [hc 5 (by omega)]; exact h.c5, by rw [hc 6 (by omega)]; exact h.c6, by rw [hc 7 (by omega)]; exact h.c7, by rw [hc 8 (by omega)]; exact h.c8, by rw [hc 9 (by omega)]; exact h.c9⟩
theorem sls_chg {l : List ByteArray} (h : SlS w a l) (hc : Chg A w w') (hn : ∀ z, a = some z → ¬ A z.block) : SlS w' a l := fun k hk => by
  obtain ⟨b, o, h1, h2, h3⟩ := h k hk
  exact ⟨b, o, h1, Nat.lt_of_lt_of_le h2 hc.size, by rw [hc.cell (p := ⟨b, o + k, none⟩) h2 (hn ⟨b, o, none⟩ h1)]; exact h3⟩
theorem Stm.own (H : More Has) (S : SVault SH) (h : Stm Has SH w B x FV a c mb P m size st) : ∀ k, smF FV a mb k → B ≤ k ∧ k < w.heap.size := by
  rintro k (z | ⟨z, e, rfl⟩ | z)
  · exact h.vault.own H S k z
  · exact ⟨(h.rowB z e).1, (h.rowB z e).2.1⟩
  · exact ⟨(h.mapB k z).1, (h.mapB k z).2.1⟩
theorem Stm.chg (H : More Has) (S : SVault SH) (h : Stm Has SH w B x FV a c mb P m size st) (hc : Chg A w w') (hn : ∀ k, smF FV a mb k → ¬ A k) : Stm Has SH w' B x FV a c mb P m size st := by
  obtain ⟨hx, _, hl, _⟩ := h.vault.blk
  have hx' := hn x (.inl hx)
  have e : ∀ j, w'.cell? ⟨x, j, none⟩ = w.cell? ⟨x, j, none⟩ := fun j => hc.cell (p := ⟨x, j, none⟩) hl hx'
  exact ⟨h.vault.chg H S hc (fun k hk => hn k (.inl hk)), pb_same h.plan hc.size (fun j _ => e j), (e 14).trans h.ids, sls_chg h.row hc (fun z hz => hn _ (.inr (.inl ⟨z, hz, rfl⟩))), fun z hz => ⟨(h.rowB z hz).1, Nat.lt_of_lt_of_le (h.rowB z hz).2.1 hc.size, (h.rowB z hz).2.2⟩, h.cap, h.map.chg hc (fun b hb => hn b (.inr (.inr hb))), fun b hb => ⟨(h.mapB b hb).1, Nat.lt_of_lt_of_le (h.mapB b hb).2.1 hc.size, (h.mapB b hb).2.2⟩, h.lasts, h.few, h.small⟩
theorem Stm.below (H : More Has) (S : SVault SH) (h : Stm Has SH w B x FV a c mb P m size st) (hb : Below w.heap.size w w') : Stm Has SH w' B x FV a c mb P m size st := h.chg H S (A := fun _ => False) (Chg.of_below hb) (fun _ _ z => z)
/-- the vault is changed -/
theorem Stm.did (h : Stm Has SH w B x FV a c mb P m size st) (hl : st.s.last ≤ s'.last) (hd : DidO Has SH 10 w w' B x FV m size es' s') : ∃ FV', Stm Has SH w' B x FV' a c mb P m size ⟨es', s', st.ids⟩ ∧ Chg FV w w' ∧ ∀ k, FV' k → FV k ∨ w.heap.size ≤ k := by
  obtain ⟨⟨FV', k1, hc, ho⟩, hs⟩ := hd
  refine ⟨FV', ⟨k1, pb_same h.plan hc.size (fun j hj => hs j (.inl hj)), (hs 14 (.inr (by omega))).trans h.ids, sls_chg h.row hc (fun z hz => (h.rowB z hz).2.2), fun z hz => ⟨(h.rowB z hz).1, Nat.lt_of_lt_of_le (h.rowB z hz).2.1 hc.size, fun y => ?_⟩, h.cap, h.map.chg hc (fun b hb => (h.mapB b hb).2.2.1), fun b hb => ⟨(h.mapB b hb).1, Nat.lt_of_lt_of_le (h.mapB b hb).2.1 hc.size, fun y => ?_, (h.mapB b hb).2.2.2⟩, h.lasts, Int.le_trans h.few hl, h.small⟩, hc, ho⟩
  · rcases ho _ y with u | u
    · exact (h.rowB z hz).2.2 u
    · have := (h.rowB z hz).2.1; omega
  · rcases ho _ y with u | u
    · exact (h.mapB b hb).2.2.1 u
    · have := (h.mapB b hb).2.1; omega
/-- the map's cell is written -/
theorem Stm.put (H : More Has) (S : SVault SH) (h : Stm Has SH w B x FV a c mb P m size st) {mb' : Option Nat} {ids' : List Kn} (hm : KMap w mb' (mids P ids')) (hb : ∀ b, mb' = some b → B ≤ b ∧ b < w.heap.size ∧ ¬ FV b ∧ ∀ z, a = some z → z.block ≠ b) (hL : Lasts (mids P ids')) (hf : (ids'.length : Int) ≤ st.s.last) : Stm Has SH (w.setCell ⟨x, 14, none⟩ (.map mb')) B x FV a c mb' P m size ⟨st.es, st.s, ids'⟩ := by
  obtain ⟨hx, _, hl, _⟩ := h.vault.blk
  have cs : Chg (fun k => k = x) w (w.setCell ⟨x, 14, none⟩ (.map mb')) := (Chg.refl _ _).setCell (A := fun k => k = x) (p := ⟨x, 14, none⟩) (.inl rfl) _
  exact ⟨h.vault.beside H S (.inr (by omega)) _, pb_same h.plan cs.size (fun j hj => World.cell?_setCell_other _ _ _ _ (by simp <;> omega)), World.cell?_setCell_same _ _ _ h.ids, sls_chg h.row cs (fun z hz y => (h.rowB z hz).2.2 (y ▸ hx)), fun z hz => ⟨(h.rowB z hz).1, Nat.lt_of_lt_of_le (h.rowB z hz).2.1 cs.size, (h.rowB z hz).2.2⟩, h.cap, hm.chg cs (fun b hb' y => (hb b hb').2.2.1 (y ▸ hx)), fun b hb' => ⟨(hb b hb').1, Nat.lt_of_lt_of_le (hb b hb').2.1 cs.size, (hb b hb').2.2⟩, hL, hf, h.small⟩
end
/-- the program's stream -/
def RHof (Has : World → Nat → Nat → (Nat → Prop) → Int → List Pap → Prop) (SH : World → Nat → Nat → (Nat → Prop) → Sto → Prop) (w : World) (B x : Nat) (F : Nat → Prop) (P : Pn.Pln) (m size : Int) (st : Str) : Prop := ∃ FV a c mb, Stm Has SH w B x FV a c mb P m size st ∧ ∀ k, F k ↔ smF FV a mb k
/-- a stream on its way from w to wr; F0 are the blocks that were its own at w; the blocks Cs are none of its own -/
def Rst (Has : World → Nat → Nat → (Nat → Prop) → Int → List Pap → Prop) (SH : World → Nat → Nat → (Nat → Prop) → Sto → Prop) (F0 Cs : Nat → Prop) (w wr : World) (B x : Nat) (a : Option Addr) (c : Nat) (mb : Option Nat) (P : Pn.Pln) (m size : Int) (st : Str) : Prop :=
  ∃ FV, Stm Has SH wr B x FV a c mb P m size st ∧ Chg F0 w wr ∧ (∀ k, smF FV a mb k → F0 k ∨ w.heap.size ≤ k) ∧ ∀ k, Cs k → k < wr.heap.size ∧ ¬ smF FV a mb k
section
variable {Has : World → Nat → Nat → (Nat → Prop) → Int → List Pap → Prop} {SH : World → Nat → Nat → (Nat → Prop) → Sto → Prop} {F F0 Cs Cs' : Nat → Prop} {w wr w' : World} {B x : Nat} {a : Option Addr} {c : Nat} {mb : Option Nat} {P : Pn.Pln} {m size : Int} {st : Str} {es' : List Pap} {s' : Sto}
theorem RHof.begin (h : RHof Has SH w B x F P m size st) : ∃ a c mb, Rst Has SH F (fun _ => False) w w B x a c mb P m size st ∧ ∀ Cs wr mb' st', Rst Has SH F Cs w wr B x a c mb' P m size st' → DidR (RHof Has SH) w wr B x F P m size st' := by
  obtain ⟨FV, a, c, mb, h1, h2⟩ := h
  refine ⟨a, c, mb, ⟨FV, h1, Chg.refl _ _, fun k z => .inl ((h2 k).2 z), fun _ z => z.elim⟩, fun Cs wr mb' st' hr => ?_⟩
  obtain ⟨FV', r1, r2, r3, _⟩ := hr
  exact ⟨_, ⟨FV', a, c, mb', r1, fun k => Iff.rfl⟩, r2, r3⟩
theorem Rst.room (h : Rst Has SH F0 Cs w wr B x a c mb P m size st) : w.heap.size ≤ wr.heap.size := by
  obtain ⟨_, _, h2, _⟩ := h
  exact h2.size
theorem Rst.plan (h : Rst Has SH F0 Cs w wr B x a c mb P m size st) : PBx wr x P a c := by
  obtain ⟨_, h1, _⟩ := h
  exact h1.plan
theorem Rst.lt (h : Rst Has SH F0 Cs w wr B x a c mb P m size st) : x < wr.heap.size := h.plan.lt
theorem Rst.ids (h : Rst Has SH F0 Cs w wr B x a c mb P m size st) : wr.cell? ⟨x, 14, none⟩ = some (.map mb) ∧ wr.frozen? ⟨x, 14, none⟩ = false := by
  obtain ⟨_, h1, _⟩ := h
  exact ⟨h1.ids, h1.vault.blk.2.2.2 14⟩
theorem Rst.mine (H : More Has) (S : SVault SH) (h : Rst Has SH F0 Cs w wr B x a c mb P m size st) (hb : Below wr.heap.size wr w') (hn : ∀ k, Cs' k → Cs k ∨ wr.heap.size ≤ k ∧ k < w'.heap.size) : Rst Has SH F0 Cs' w w' B x a c mb P m size st := by
  obtain ⟨FV, h1, h2, h3, h4⟩ := h
  refine ⟨FV, h1.below H S hb, h2.trans (Chg.of_below hb), h3, fun k hk => ?_⟩
  rcases hn k hk with y | y
  · exact ⟨Nat.lt_of_lt_of_le (h4 k y).1 hb.size, (h4 k y).2⟩
  · exact ⟨y.2, fun z => by have := (h1.own H S k z).2; omega⟩
theorem Rst.below (H : More Has) (S : SVault SH) (h : Rst Has SH F0 Cs w wr B x a c mb P m size st) (hb : Below wr.heap.size wr w') : Rst Has SH F0 Cs w w' B x a c mb P m size st := h.mine H S hb (fun _ z => .inl z)
theorem Rst.stay (h : Rst Has SH F0 Cs w wr B x a c mb P m size st) (hb : Below wr.heap.size wr w') : Stay Cs wr w' := by
  obtain ⟨FV, _, _, _, h4⟩ := h
  exact ⟨hb.size, fun k hk => hb.block k (h4 k hk).1⟩
/-- a call on the vault -/
theorem Rst.did (h : Rst Has SH F0 Cs w wr B x a c mb P m size st) (hl : st.s.last ≤ s'.last) {fn : FuncId} {args : Array Value} {Q : Ending → World → Prop}
    (hc : ∀ FV, VHof Has SH 10 wr B x FV m size st.es st.s → Calls Tryz.prog fn args wr fun e w' => Q e w' ∧ DidO Has SH 10 wr w' B x FV m size es' s') :
    Calls Tryz.prog fn args wr fun e w' => Q e w' ∧ Rst Has SH F0 Cs w w' B x a c mb P m size ⟨es', s', st.ids⟩ ∧ Stay Cs wr w' := by
  have hr := h.room
  obtain ⟨FV, h1, h2, h3, h4⟩ := h
  refine (hc FV h1.vault).mono ?_
  rintro e w' ⟨hq, hu⟩
  obtain ⟨FV', a1, a2, a3⟩ := h1.did hl hu
  refine ⟨hq, ⟨FV', a1, chg_more h2 a2 (fun i hi z => ?_), fun k hk => ?_, fun k hk => ⟨Nat.lt_of_lt_of_le (h4 k hk).1 a2.size, fun z => ?_⟩⟩, a2.size, fun k hk => a2.block k (h4 k hk).1 (fun z => (h4 k hk).2 (.inl z))⟩
  · rcases h3 i (.inl z) with y | y
    · exact y
    · omega
  · rcases hk with z | z
    · rcases a3 k z with y | y
      · exact h3 k (.inl y)
      · exact .inr (Nat.le_trans hr y)
    · exact h3 k (.inr z)
  · rcases z with z | z
    · rcases a3 k z with y | y
      · exact (h4 k hk).2 (.inl y)
      · have := (h4 k hk).1; omega
    · exact (h4 k hk).2 (.inr z)
/-- a call that looks at the vault -/
theorem Rst.look (h : Rst Has SH F0 Cs w wr B x a c mb P m size st) : ∃ FV, VHof Has SH 10 wr B x FV m size st.es st.s := by
  obtain ⟨FV, h1, _⟩ := h
  exact ⟨FV, h1.vault⟩
end
end Go.Proofs.YtohjipnkoiifhagGreatDoor.Dk
