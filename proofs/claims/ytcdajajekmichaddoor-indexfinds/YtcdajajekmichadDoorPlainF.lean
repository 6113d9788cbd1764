/-
  Plain laws behind IndexFinds: the index holds just the subjects that were put, each with the place of a name; what is dropped is gone; finding counts right. No walk.
-/
import Derived.Test.YtcdajajekmichadDoorWalkF
namespace Go.Proofs.YtcdajajekmichadDoor
open Go.RowKit

structure Inv (Sx : Nat → ByteArray) (n : Nat) (es : List Ent) (th : List ByteArray) : Prop where
  good : Good es
  perm : (es.map (·.1)).Perm th
  num : ∀ e ∈ es, ∃ i : Nat, i < n ∧ e.2 = (i : Int) ∧ Sx i = e.1
theorem fst_nodup {es : List Ent} (h : Good es) : (es.map (·.1)).Nodup := by
  have := h.1
  unfold Ord at this
  rw [List.nodup_iff_pairwise_ne, List.pairwise_map]
  exact this.imp (fun h e => by rw [e, el_irrefl] at h; cases h)
theorem has_mem {es : List Ent} (h : Good es) (s : ByteArray) : hasAt es s = true ↔ s ∈ es.map (·.1) := by
  constructor
  · intro q
    obtain ⟨h1, h2⟩ := has_at q
    rw [← h2]
    exact List.mem_map.2 ⟨_, en_mem h1, rfl⟩
  · intro q
    obtain ⟨e, he, e2⟩ := List.mem_map.1 q
    obtain ⟨j, hj, ej⟩ := List.mem_iff_getElem.1 he
    exact (has_hit h.1 hj (by rw [en_get hj, ej, e2])).1
section
variable {Sx : Nat → ByteArray} {n : Nat} {es : List Ent} {th : List ByteArray}
theorem Inv.len (h : Inv Sx n es th) : th.length = es.length := by rw [← h.perm.length_eq, List.length_map]
theorem Inv.has (h : Inv Sx n es th) (s : ByteArray) : hasAt es s = th.any (fun t => eqB s t) := by
  rw [Bool.eq_iff_iff, has_mem h.good, h.perm.mem_iff, List.any_eq_true]
  constructor
  · intro q; exact ⟨s, q, eqB_self s⟩
  · rintro ⟨t, ht, e⟩; rw [eqB_iff.1 e]; exact ht
theorem Inv.nil : Inv Sx n [] [] := ⟨good_nil, List.Perm.refl _, fun e h => by simp at h⟩
theorem Inv.nodup (h : Inv Sx n es th) : th.Nodup := h.perm.nodup_iff.1 (fst_nodup h.good)
theorem Inv.put_has (h : Inv Sx n es th) {k : Nat} (hk : k < n) {s : ByteArray} (e : Sx k = s) (hz : s.size ≤ 140737488355328) (he : errS false s = 0) (hh : hasAt es s = true) : Inv Sx n (putL es s k) th := by
  have hp : putL es s k = es.set (place es s) (s, (k : Int)) := (Go.Proofs.YtcdajajekmichadDoor.put_has he hh).2
  refine ⟨good_put h.good _ hz, ?_, ?_⟩
  · rw [hp]
    obtain ⟨h1, h2⟩ := has_at hh
    rw [List.map_set]
    have : (es.map (·.1)).set (place es s) s = es.map (·.1) := by
      apply List.ext_getElem
      · simp
      · intro i h3 h4
        rw [List.getElem_set]
        split
        · rename_i q
          subst q
          rw [List.getElem_map]
          have := h2
          rw [en_get h1] at this
          exact this.symm
        · rfl
    rw [this]
    exact h.perm
  · rw [hp]
    intro x hx
    rcases List.mem_or_eq_of_mem_set hx with q | q
    · exact h.num x q
    · rw [q]; exact ⟨k, hk, rfl, e⟩
theorem Inv.put_new (h : Inv Sx n es th) {k : Nat} (hk : k < n) {s : ByteArray} (e : Sx k = s) (hz : s.size ≤ 140737488355328) (he : errS false s = 0) (hh : hasAt es s = false) (hl : ¬ 100 ≤ es.length) : Inv Sx n (putL es s k) (th ++ [s]) := by
  have hp : putL es s k = insL es (place es s) (s, (k : Int)) := (Go.Proofs.YtcdajajekmichadDoor.put_new he hh hl).2
  refine ⟨good_put h.good _ hz, ?_, ?_⟩
  · rw [hp]
    unfold insL
    rw [List.map_append, List.map_cons]
    have h1 : (es.take (place es s)).map (·.1) ++ (es.drop (place es s)).map (·.1) = es.map (·.1) := by rw [← List.map_append, List.take_append_drop]
    refine List.Perm.trans List.perm_middle ?_
    rw [h1]
    exact (h.perm.cons s).trans (List.perm_append_singleton s th).symm
  · rw [hp]
    intro x hx
    rcases mem_ins hx with q | q
    · rw [q]; exact ⟨k, hk, rfl, e⟩
    · exact h.num x q
theorem Inv.drop (h : Inv Sx n es th) {i : Nat} (hi : i < th.length) : seeE es th[i] = 0 ∧ Inv Sx n (dropL es th[i]) (th.take i ++ th.drop (i + 1)) ∧ seeE (dropL es th[i]) th[i] = 4 ∧ th[i].size ≤ 140737488355328 := by
  have hm : th[i] ∈ es.map (·.1) := h.perm.mem_iff.2 (List.getElem_mem hi)
  have hh := (has_mem h.good th[i]).2 hm
  obtain ⟨e, he, e2⟩ := List.mem_map.1 hm
  obtain ⟨g1, g2⟩ := h.good.2.2 e he
  have g1' : errS false th[i] = 0 := by rw [← e2]; exact g1
  have hd : dropL es th[i] = delL es (place es th[i]) := by unfold dropL; rw [if_pos g1', if_pos hh]
  obtain ⟨p1, p2⟩ := has_at hh
  have hperm : ((dropL es th[i]).map (·.1)).Perm (th.take i ++ th.drop (i + 1)) := by
    have q1 : (es.map (·.1)).Perm (th[i] :: (dropL es th[i]).map (·.1)) := by
      rw [hd]
      unfold delL
      have : es = es.take (place es th[i]) ++ es[place es th[i]] :: es.drop (place es th[i] + 1) := by rw [← List.drop_eq_getElem_cons p1, List.take_append_drop]
      have e3 : es.map (·.1) = (es.take (place es th[i])).map (·.1) ++ th[i] :: (es.drop (place es th[i] + 1)).map (·.1) := by
        conv => lhs; rw [this]
        rw [List.map_append, List.map_cons, ← en_get p1, p2]
      rw [e3, List.map_append]
      exact List.perm_middle
    have q2 : th.Perm (th[i] :: (th.take i ++ th.drop (i + 1))) := by
      have : th = th.take i ++ th[i] :: th.drop (i + 1) := by rw [← List.drop_eq_getElem_cons hi, List.take_append_drop]
      conv => lhs; rw [this]
      exact List.perm_middle
    exact ((q1.symm.trans h.perm).trans q2).cons_inv
  have hgd := good_drop h.good th[i]
  refine ⟨by unfold seeE; rw [if_pos g1', if_pos hh], ⟨hgd, hperm, fun x hx => ?_⟩, ?_, by rw [← e2]; exact g2⟩
  · rw [hd] at hx
    exact h.num x (mem_del hx)
  · have hn : hasAt (dropL es th[i]) th[i] = false := by
      cases q : hasAt (dropL es th[i]) th[i]
      · rfl
      · have z := (has_mem hgd _).1 q
        have z2 := hperm.mem_iff.1 z
        have nd := h.nodup
        have : th = th.take i ++ th[i] :: th.drop (i + 1) := by rw [← List.drop_eq_getElem_cons hi, List.take_append_drop]
        rw [this] at nd
        have z3 := (List.perm_middle.nodup_iff).1 nd
        exact absurd z2 (List.nodup_cons.1 z3).1
    unfold seeE
    rw [if_pos g1', hn]
    simp
theorem Inv.found (h : Inv Sx n es th) (f : ByteArray) : (findL es f).length = (th.filter (fun s => matchB f s)).length := by
  have q := (h.perm.filter (fun s => matchB f s)).length_eq
  rw [← q]
  unfold findL
  rw [List.filter_map, List.length_map]
  rfl
theorem Inv.hit (h : Inv Sx n es th) {f s : ByteArray} (hs : s ∈ th) (hm : matchB f s = true) : ∃ j, j < (findL es f).length ∧ (en (findL es f) j).1 = s := by
  obtain ⟨e, he, e2⟩ := List.mem_map.1 (h.perm.mem_iff.2 hs)
  have hin : e ∈ findL es f := by
    unfold findL
    rw [List.mem_filter]
    exact ⟨he, by rw [e2]; exact hm⟩
  obtain ⟨j, hj, ej⟩ := List.mem_iff_getElem.1 hin
  exact ⟨j, hj, by rw [en_get hj, ej, e2]⟩
theorem Inv.nums (h : Inv Sx n es th) (f : ByteArray) : ∀ e ∈ findL es f, ∃ i : Nat, i < n ∧ e.2 = (i : Int) ∧ Sx i = e.1 := fun e he => h.num e (List.mem_filter.1 he).1
theorem Inv.few (h : Inv Sx n es th) {s : ByteArray} (hs : s ∈ th) : s.size ≤ 140737488355328 := by
  obtain ⟨e, he, e2⟩ := List.mem_map.1 (h.perm.mem_iff.2 hs)
  rw [← e2]
  exact (h.good.2.2 e he).2
end
/-- the first calls of the law, at the subject a.b -/
def ab : ByteArray := ⟨#[97, 46, 98]⟩
theorem ab_ok : errS false ab = 0 := by decide
theorem ab_put : putE [] ab = 0 ∧ putL [] ab 7 = [(ab, 7)] := by
  refine put_new ab_ok rfl (by simp)
theorem ab_has : hasAt [(ab, 7)] ab = true ∧ place [(ab, 7)] ab = 0 := by
  refine has_hit (List.pairwise_singleton _ _) (j := 0) (by simp) rfl
theorem ab_get : getN [(ab, 7)] ab = 7 ∧ seeE [(ab, 7)] ab = 0 := by
  unfold getN seeE
  rw [if_pos ab_ok, if_pos ab_has.1, if_pos ab_ok, if_pos ab_has.1, ab_has.2]
  exact ⟨rfl, rfl⟩
theorem ab_drop : dropL [(ab, 7)] ab = [] := by
  unfold dropL
  rw [if_pos ab_ok, if_pos ab_has.1, ab_has.2]
  rfl
theorem ab_good : Good [(ab, 7)] := by
  have := good_put good_nil (s := ab) 7 (by decide)
  rw [ab_put.2] at this
  exact this
end Go.Proofs.YtcdajajekmichadDoor
