/-
  How many messages of each subject there are, as an index, pure: what Put and Drop make of its entries. No walk.
  The numbers of an index of counts add up to the number of messages. No walk.
-/
import Derived.Test.YtcdajajekmichafDoorPlainI
import Derived.Test.YtcdajajekmichafDoorJointPapSPapT
namespace Go.Proofs.YtcdajajekmichafDoor
open Go.RowKit

theorem en_is {es : List Ent} {y : Ent} (h : y ∈ es) : ∃ j, j < es.length ∧ en es j = y := by
  obtain ⟨j, hj, e⟩ := List.getElem_of_mem h
  exact ⟨j, hj, by rw [en_get hj]; exact e⟩
theorem ent_at {es : List Ent} (h : Ord es) {s : ByteArray} {y : Ent} (hy : y ∈ es) (e : y.1 = s) : hasAt es s = true ∧ y = en es (place es s) := by
  obtain ⟨j, hj, rfl⟩ := en_is hy
  obtain ⟨h1, h2⟩ := has_hit h hj e
  exact ⟨h1, by rw [h2]⟩
/-- strictly in order: the members say all -/
theorem ord_ext : ∀ {a b : List Ent}, Ord a → Ord b → (∀ e, e ∈ a ↔ e ∈ b) → a = b
  | [], [], _, _, _ => rfl
  | [], y :: b, _, _, h => absurd ((h y).2 (List.mem_cons_self ..)) (by simp)
  | x :: a, [], _, _, h => absurd ((h x).1 (List.mem_cons_self ..)) (by simp)
  | x :: a, y :: b, ha, hb, h => by
    have ha1 := List.pairwise_cons.1 ha
    have hb1 := List.pairwise_cons.1 hb
    have hxy : x = y := by
      rcases List.mem_cons.1 ((h x).1 (List.mem_cons_self ..)) with z | z
      · exact z
      · rcases List.mem_cons.1 ((h y).2 (List.mem_cons_self ..)) with u | u
        · exact u.symm
        · have := el_trans (hb1.1 x z) (ha1.1 y u)
          rw [el_irrefl] at this; cases this
    subst hxy
    have hx : ∀ {c : List Ent}, (∀ e ∈ c, el x.1 e.1 = true) → x ∉ c := fun hc z => by have := hc x z; rw [el_irrefl] at this; cases this
    rw [ord_ext ha1.2 hb1.2 (fun e => ?_)]
    constructor
    · intro z
      rcases List.mem_cons.1 ((h e).1 (List.mem_cons_of_mem _ z)) with u | u
      · subst u; exact absurd z (hx ha1.1)
      · exact u
    · intro z
      rcases List.mem_cons.1 ((h e).2 (List.mem_cons_of_mem _ z)) with u | u
      · subst u; exact absurd z (hx hb1.1)
      · exact u
theorem mem_put {es : List Ent} (h : Good es) {s : ByteArray} (n : Int) (hs : errS false s = 0) (hr : hasAt es s = true ∨ es.length < 100) (x : Ent) : x ∈ putL es s n ↔ x = (s, n) ∨ (x ∈ es ∧ x.1 ≠ s) := by
  unfold putL
  rw [if_pos hs]
  cases hh : hasAt es s
  · rw [if_neg (by simp), if_neg (by rcases hr with z | z; rw [hh] at z; cases z; omega)]
    have hne : ∀ y ∈ es, y.1 ≠ s := fun y hy e => by have := (ent_at h.1 hy e).1; rw [hh] at this; cases this
    have e : x ∈ insL es (place es s) (s, n) ↔ x = (s, n) ∨ x ∈ es := by
      unfold insL
      rw [List.mem_append, List.mem_cons]
      have := List.take_append_drop (place es s) es
      constructor
      · rintro (z | z | z)
        · exact .inr (List.mem_of_mem_take z)
        · exact .inl z
        · exact .inr (List.mem_of_mem_drop z)
      · rintro (z | z)
        · exact .inr (.inl z)
        · rw [← this] at z
          rcases List.mem_append.1 z with y | y
          · exact .inl y
          · exact .inr (.inr y)
    rw [e]
    constructor
    · rintro (z | z)
      · exact .inl z
      · exact .inr ⟨z, hne x z⟩
    · rintro (z | z)
      · exact .inl z
      · exact .inr z.1
  · rw [if_pos rfl]
    obtain ⟨p1, p2⟩ := has_at hh
    constructor
    · intro z
      obtain ⟨j, hj, e⟩ := List.getElem_of_mem z
      rw [List.length_set] at hj
      rw [List.getElem_set] at e
      by_cases hp : place es s = j
      · rw [if_pos hp] at e; exact .inl e.symm
      · rw [if_neg hp] at e
        refine .inr ⟨by rw [← e]; exact List.getElem_mem hj, fun q => hp ?_⟩
        exact (place_hit h.1 hj (by rw [en_get hj, e]; exact q)).symm
    · rintro (z | ⟨z, q⟩)
      · rw [z]; exact List.mem_set p1 _
      · obtain ⟨j, hj, e⟩ := List.getElem_of_mem z
        have hp : ¬ place es s = j := fun hp => q (by rw [← e, ← en_get hj, ← hp]; exact p2)
        have : (es.set (place es s) (s, n))[j]'(by rw [List.length_set]; exact hj) = x := by rw [List.getElem_set, if_neg hp]; exact e
        rw [← this]
        exact List.getElem_mem _
theorem mem_drop {es : List Ent} (h : Good es) {s : ByteArray} (hs : errS false s = 0) (x : Ent) : x ∈ dropL es s ↔ x ∈ es ∧ x.1 ≠ s := by
  unfold dropL
  rw [if_pos hs]
  cases hh : hasAt es s
  · rw [if_neg (by simp)]
    exact ⟨fun z => ⟨z, fun e => by have := (ent_at h.1 z e).1; rw [hh] at this; cases this⟩, fun z => z.1⟩
  · rw [if_pos rfl]
    obtain ⟨p1, p2⟩ := has_at hh
    have hsp : es = es.take (place es s) ++ en es (place es s) :: es.drop (place es s + 1) := by
      rw [en_get p1, ← List.drop_eq_getElem_cons p1, List.take_append_drop]
    constructor
    · intro z
      refine ⟨mem_del z, fun e => ?_⟩
      have ho := h.1
      unfold Ord at ho
      rw [hsp, List.pairwise_append, List.pairwise_cons] at ho
      obtain ⟨_, ⟨o2, _⟩, o3⟩ := ho
      unfold delL at z
      rcases List.mem_append.1 z with y | y
      · have := o3 x y (en es (place es s)) (List.mem_cons_self ..)
        rw [e, p2, el_irrefl] at this; cases this
      · have := o2 x y
        rw [e, p2, el_irrefl] at this; cases this
    · rintro ⟨z, q⟩
      rw [hsp] at z
      unfold delL
      rcases List.mem_append.1 z with y | y
      · exact List.mem_append.2 (.inl y)
      · rcases List.mem_cons.1 y with u | u
        · exact absurd (by rw [u]; exact p2) q
        · exact List.mem_append.2 (.inr u)
/-- how many messages of a subject -/
def cntN (l : List Dk.Rc) (s : ByteArray) : Nat := (l.filter fun r => decide (r.s = s)).length
theorem cntN_append (a b : List Dk.Rc) (s : ByteArray) : cntN (a ++ b) s = cntN a s + cntN b s := by unfold cntN; rw [List.filter_append, List.length_append]
theorem cntN_one (r : Dk.Rc) (s : ByteArray) : cntN [r] s = if r.s = s then 1 else 0 := by
  unfold cntN
  by_cases h : r.s = s
  · rw [if_pos h]; simp [h]
  · rw [if_neg h]; simp [h]
theorem cntN_has (l : List Dk.Rc) (s : ByteArray) : Dk.hasS l s = decide (0 < cntN l s) := by
  unfold Dk.hasS cntN
  rw [Bool.eq_iff_iff, List.any_eq_true, decide_eq_true_eq, List.length_pos_iff_exists_mem]
  constructor
  · rintro ⟨x, h1, h2⟩
    exact ⟨x, List.mem_filter.2 ⟨h1, h2⟩⟩
  · rintro ⟨x, h1⟩
    obtain ⟨h1, h2⟩ := List.mem_filter.1 h1
    exact ⟨x, h1, h2⟩
/-- an index of them -/
structure Cnt (l : List Dk.Rc) (es : List Ent) : Prop where
  good : Good es
  mem : ∀ e : Ent, e ∈ es ↔ 0 < cntN l e.1 ∧ e.2 = (cntN l e.1 : Int)
theorem Cnt.nil : Cnt [] [] := ⟨good_nil, fun e => by simp [cntN]⟩
theorem Cnt.same {l : List Dk.Rc} {a b : List Ent} (h : Cnt l a) (g : Cnt l b) : a = b := ord_ext h.good.1 g.good.1 (fun e => by rw [h.mem, g.mem])
theorem Cnt.has {l : List Dk.Rc} {es : List Ent} (h : Cnt l es) (s : ByteArray) : hasAt es s = decide (0 < cntN l s) := by
  rw [Bool.eq_iff_iff, decide_eq_true_eq]
  constructor
  · intro z
    obtain ⟨p1, p2⟩ := has_at z
    have := ((h.mem _).1 (en_mem p1)).1
    rw [p2] at this
    exact this
  · intro z
    exact (ent_at h.good.1 ((h.mem (s, (cntN l s : Int))).2 ⟨z, rfl⟩) rfl).1
theorem Cnt.get {l : List Dk.Rc} {es : List Ent} (h : Cnt l es) {s : ByteArray} (hs : errS false s = 0) : getN es s = (cntN l s : Int) := by
  unfold getN
  rw [if_pos hs, h.has]
  by_cases z : 0 < cntN l s
  · rw [decide_eq_true z, if_pos rfl]
    have := (ent_at h.good.1 ((h.mem (s, (cntN l s : Int))).2 ⟨z, rfl⟩) rfl).2
    rw [← this]
  · rw [decide_eq_false z, if_neg (by simp)]
    omega
theorem Cnt.put {l : List Dk.Rc} {es : List Ent} (h : Cnt l es) (r : Dk.Rc) (hs : errS false r.s = 0) (hz : r.s.size ≤ 140737488355328) (hr : 0 < cntN l r.s ∨ es.length < 100) : Cnt (l ++ [r]) (putL es r.s ((cntN l r.s : Int) + 1)) := by
  refine ⟨good_put h.good _ hz, fun e => ?_⟩
  rw [mem_put h.good _ hs (by rw [h.has]; simpa using hr), h.mem, cntN_append, cntN_one]
  by_cases q : e.1 = r.s
  · rw [if_pos q.symm, q]
    constructor
    · rintro (z | z)
      · rw [z]; exact ⟨by omega, by simp⟩
      · exact absurd rfl z.2
    · rintro ⟨_, z⟩
      exact .inl (Prod.ext q (by rw [z]; simp))
  · rw [if_neg (fun z => q z.symm), Nat.add_zero]
    constructor
    · rintro (z | z)
      · exact absurd (by rw [z]) q
      · exact z.1
    · intro z; exact .inr ⟨z, q⟩
/-- one message less -/
theorem Cnt.less {A B : List Dk.Rc} {x : Dk.Rc} {es : List Ent} (h : Cnt (A ++ x :: B) es) (hs : errS false x.s = 0) (hz : x.s.size ≤ 140737488355328) : (cntN (A ++ B) x.s = 0 → Cnt (A ++ B) (dropL es x.s)) ∧ Cnt (A ++ B) (if cntN (A ++ B) x.s = 0 then dropL es x.s else putL es x.s (cntN (A ++ B) x.s : Int)) := by
  have hc : ∀ s, cntN (A ++ x :: B) s = cntN (A ++ B) s + (if x.s = s then 1 else 0) := fun s => by
    rw [show A ++ x :: B = A ++ ([x] ++ B) from rfl, cntN_append, cntN_append, cntN_append, cntN_one]
    omega
  have hd : cntN (A ++ B) x.s = 0 → Cnt (A ++ B) (dropL es x.s) := fun h0 => by
    refine ⟨good_drop h.good _, fun e => ?_⟩
    rw [mem_drop h.good hs, h.mem, hc]
    by_cases q : e.1 = x.s
    · rw [q, h0]; simp
    · rw [if_neg (fun z => q z.symm), Nat.add_zero]
      exact ⟨fun z => z.1, fun z => ⟨z, q⟩⟩
  refine ⟨hd, ?_⟩
  by_cases h0 : cntN (A ++ B) x.s = 0
  · rw [if_pos h0]; exact hd h0
  · rw [if_neg h0]
    refine ⟨good_put h.good _ hz, fun e => ?_⟩
    rw [mem_put h.good _ hs (.inl (by rw [h.has, hc, if_pos rfl]; simp)), h.mem, hc]
    by_cases q : e.1 = x.s
    · rw [q]
      constructor
      · rintro (z | z)
        · rw [z]; exact ⟨by omega, rfl⟩
        · exact absurd rfl z.2
      · rintro ⟨_, z⟩
        exact .inl (Prod.ext q z)
    · rw [if_neg (fun z => q z.symm), Nat.add_zero]
      constructor
      · rintro (z | z)
        · exact absurd (by rw [z]) q
        · exact z.1
      · intro z; exact .inr ⟨z, q⟩
/-- as many entries as subjects -/
theorem Cnt.len {l : List Dk.Rc} {es : List Ent} (h : Cnt l es) : es.length = Dk.nameN l := by
  have hn : (es.map (·.1)).Nodup := by
    have := h.good.1
    unfold Ord at this
    rw [List.Nodup, List.pairwise_map]
    exact this.imp (fun {a b} hab e => by rw [e, el_irrefl] at hab; cases hab)
  have hm : ∀ s, s ∈ es.map (·.1) ↔ s ∈ Dk.nameL l := fun s => by
    rw [Dk.nameL_mem, cntN_has, decide_eq_true_eq, List.mem_map]
    constructor
    · rintro ⟨e, he, rfl⟩
      exact ((h.mem e).1 he).1
    · intro z
      exact ⟨(s, (cntN l s : Int)), (h.mem _).2 ⟨z, rfl⟩, rfl⟩
  rw [Dk.nameN_len, ← List.length_map (f := fun e : Ent => e.1)]
  exact Nat.le_antisymm (Dk.nodup_le _ _ hn (fun s hs => (hm s).1 hs)) (Dk.nodup_le _ _ (Dk.nameL_nodup l) (fun s hs => (hm s).2 hs))
end Go.Proofs.YtcdajajekmichafDoor

namespace Go.Proofs.YtcdajajekmichafDoor
open Go.RowKit

def foundL (es : List Ent) (f : ByteArray) : List Ent := if errS true f = 0 then findL es f else []
def sumE : List Ent → Int
  | [] => 0
  | e :: es => e.2 + sumE es
theorem sumE_append : ∀ a b : List Ent, sumE (a ++ b) = sumE a + sumE b
  | [], b => by simp [sumE]
  | e :: a, b => by rw [List.cons_append, sumE, sumE, sumE_append a b, Int.add_assoc]
theorem sumE_take {es : List Ent} {k : Nat} (h : k < es.length) : sumE (es.take (k + 1)) = sumE (es.take k) + (en es k).2 := by
  rw [List.take_succ_eq_append_getElem h, sumE_append]
  have : en es k = es[k] := by unfold en; rw [List.getElem?_eq_getElem h]; rfl
  rw [this]
  simp [sumE]
theorem sumE_pos : ∀ {es : List Ent}, (∀ e ∈ es, 0 ≤ e.2) → 0 ≤ sumE es
  | [], _ => Int.le_refl _
  | e :: es, h => by
    have h1 := h e (List.mem_cons_self ..)
    have h2 := sumE_pos (es := es) (fun x hx => h x (List.mem_cons_of_mem _ hx))
    rw [sumE]; omega
theorem sumE_front {es : List Ent} (h : ∀ e ∈ es, 0 ≤ e.2) (k : Nat) : 0 ≤ sumE (es.take k) ∧ sumE (es.take k) ≤ sumE es := by
  have h1 := sumE_pos (es := es.take k) (fun x hx => h x (List.mem_of_mem_take hx))
  have h2 := sumE_pos (es := es.drop k) (fun x hx => h x (List.mem_of_mem_drop hx))
  have h3 := sumE_append (es.take k) (es.drop k)
  rw [List.take_append_drop] at h3
  omega
/-- over names, each once -/
def sumN (l : List Dk.Rc) : List ByteArray → Nat
  | [] => 0
  | s :: N => cntN l s + sumN l N
theorem sumN_none {r : Dk.Rc} {l : List Dk.Rc} : ∀ {N : List ByteArray}, r.s ∉ N → sumN (r :: l) N = sumN l N
  | [], _ => rfl
  | s :: N, h => by
    have h1 : ¬ r.s = s := fun e => h (by rw [e]; exact List.mem_cons_self ..)
    rw [sumN, sumN, sumN_none (N := N) (fun z => h (List.mem_cons_of_mem _ z)), show r :: l = [r] ++ l from rfl, cntN_append, cntN_one, if_neg h1, Nat.zero_add]
theorem sumN_one {r : Dk.Rc} {l : List Dk.Rc} : ∀ {N : List ByteArray}, N.Nodup → r.s ∈ N → sumN (r :: l) N = sumN l N + 1
  | [], _, h => by cases h
  | s :: N, hn, h => by
    obtain ⟨h1, h2⟩ := List.nodup_cons.1 hn
    rw [sumN, sumN, show r :: l = [r] ++ l from rfl, cntN_append, cntN_one]
    by_cases e : r.s = s
    · rw [if_pos e, show [r] ++ l = r :: l from rfl, sumN_none (by rw [e]; exact h1)]
      omega
    · rw [if_neg e, show [r] ++ l = r :: l from rfl, sumN_one h2 (by
        rcases List.mem_cons.1 h with z | z
        · exact absurd z e
        · exact z)]
      omega
theorem sumN_nil : ∀ N : List ByteArray, sumN [] N = 0
  | [] => rfl
  | s :: N => by rw [sumN, sumN_nil N]; rfl
theorem sumN_all {N : List ByteArray} (hn : N.Nodup) : ∀ {l : List Dk.Rc}, (∀ r ∈ l, r.s ∈ N) → sumN l N = l.length
  | [], _ => sumN_nil N
  | r :: l, h => by
    rw [sumN_one hn (h r (List.mem_cons_self ..)), sumN_all hn (fun x hx => h x (List.mem_cons_of_mem _ hx))]
    rfl
theorem sumE_N {l : List Dk.Rc} : ∀ {es : List Ent}, (∀ e ∈ es, e.2 = (cntN l e.1 : Int)) → sumE es = (sumN l (es.map (·.1)) : Int)
  | [], _ => rfl
  | e :: es, h => by
    rw [sumE, List.map_cons, sumN, sumE_N (fun x hx => h x (List.mem_cons_of_mem _ hx)), h e (List.mem_cons_self ..)]
    omega
theorem Cnt.sum {l : List Dk.Rc} {es : List Ent} (h : Cnt l es) : sumE es = (l.length : Int) := by
  have hn : (es.map (·.1)).Nodup := by
    have := h.good.1
    unfold Ord at this
    rw [List.Nodup, List.pairwise_map]
    exact this.imp (fun {a b} hab e => by rw [e, el_irrefl] at hab; cases hab)
  rw [sumE_N (fun e he => ((h.mem e).1 he).2), sumN_all hn (fun r hr => ?_)]
  refine List.mem_map.2 ⟨(r.s, (cntN l r.s : Int)), (h.mem _).2 ⟨?_, rfl⟩, rfl⟩
  have := cntN_has l r.s
  have h2 : Dk.hasS l r.s = true := by
    unfold Dk.hasS
    exact List.any_eq_true.2 ⟨r, hr, by simp⟩
  rw [h2] at this
  simpa using this.symm
theorem Cnt.pos {l : List Dk.Rc} {es : List Ent} (h : Cnt l es) : ∀ e ∈ es, 0 ≤ e.2 := fun e he => by
  rw [((h.mem e).1 he).2]; omega
theorem cnt_ex : ∀ (n : Nat) (l : List Dk.Rc), l.length = n → (∀ x ∈ l, errS false x.s = 0 ∧ x.s.size ≤ 140737488355328) → Dk.nameN l ≤ 100 → ∃ es, Cnt l es
  | 0, l, hn, _, _ => by
    obtain rfl := List.length_eq_zero_iff.1 hn
    exact ⟨[], Cnt.nil⟩
  | n + 1, l, hn, h, h100 => by
    rcases List.eq_nil_or_concat l with rfl | ⟨L, b, rfl⟩
    · cases hn
    · rw [List.concat_eq_append] at hn h h100 ⊢
      rw [Dk.nameN_snoc] at h100
      rw [List.length_append] at hn
      have hn : L.length = n := by simpa using hn
      obtain ⟨es, hc⟩ := cnt_ex n L hn (fun x hx => h x (List.mem_append.2 (.inl hx))) (by omega)
      have hb := h b (List.mem_append.2 (.inr (List.mem_singleton.2 rfl)))
      refine ⟨_, hc.put b hb.1 hb.2 ?_⟩
      by_cases z : Dk.hasS L b.s = true
      · left
        rw [cntN_has] at z
        simpa using z
      · right
        rw [if_neg z] at h100
        rw [hc.len]
        omega
theorem gt_right : errS true ⟨#[62]⟩ = 0 := by decide +kernel
theorem gt_toks : Pl.toks ⟨#[62]⟩ = [⟨#[62]⟩] := by decide +kernel
theorem toks_some (s : ByteArray) : ∃ t ts, Pl.toks s = t :: ts := by
  have h := Pl.toks_data s
  cases hs : Pl.toks s with
  | cons t ts => exact ⟨t, ts, rfl⟩
  | nil =>
    rw [hs] at h
    exact absurd h.symm (Pl.pcs_ne _)
theorem Cnt.found_all {l : List Dk.Rc} {es : List Ent} (h : Cnt l es) : foundL es ⟨#[62]⟩ = es := by
  unfold foundL findL
  rw [if_pos gt_right]
  refine List.filter_eq_self.2 (fun e he => ?_)
  have hs := (h.good.2.2 e he).1
  obtain ⟨t, ts, ht⟩ := toks_some e.1
  unfold matchB
  rw [gt_right, hs, gt_toks, ht]
  simp [coverL, gtB]
end Go.Proofs.YtcdajajekmichafDoor
