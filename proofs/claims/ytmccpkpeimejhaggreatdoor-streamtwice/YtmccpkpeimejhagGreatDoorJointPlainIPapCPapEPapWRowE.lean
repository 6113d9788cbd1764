/-
  Plain laws of an index as a list of entries that lies in the order of their tokens: where a subject belongs, what Put, Drop, Get, Find make of the list. No walk.
  How many messages of each subject there are, as an index, pure: what Put and Drop make of its entries. No walk.
  The numbers of an index of counts add up to the number of messages. No walk.
  A store whose messages lie by their numbers, pure: where a number is, what is erased there, what a purge leaves. No walk.
  Rows of entries in memory (a text and a number each), what an index keeps, and which blocks a call may have written. No walk.
-/
import Derived.Test.YtmccpkpeimejhagGreatDoorJointWalkSplitWalk2Plain2Plain5PlainK
import Derived.Test.YtmccpkpeimejhagGreatDoorJointWalkLEPapFWalkL4WalkL5PapS
import Derived.Test.YtmccpkpeimejhagGreatDoorJointPapTPapVaRowVWorksVOvR
import Derived.Laws.IdiomCopy
import Derived.Lib.Overlaps
import Derived.Lib.AppendZerosOnto
import Derived.Laws.NewBlocks
namespace Go.Proofs.YtmccpkpeimejhagGreatDoor
open Go.RowKit

/-- the order of texts -/
def ltS (a b : ByteArray) : Bool := Op.bytesLess a.toList b.toList
theorem bl_irrefl : ∀ x : List UInt8, Op.bytesLess x x = false
  | [] => rfl
  | a :: x => by simp [Op.bytesLess, bl_irrefl x]
theorem bl_trans : ∀ x y z : List UInt8, Op.bytesLess x y = true → Op.bytesLess y z = true → Op.bytesLess x z = true
  | _, [], _, h, _ => by simp [Op.bytesLess] at h
  | _, _ :: _, [], _, h => by simp [Op.bytesLess] at h
  | [], _ :: _, _ :: _, _, _ => by simp [Op.bytesLess]
  | a :: x, b :: y, c :: z, h, g => by
    simp only [Op.bytesLess, Bool.or_eq_true, Bool.and_eq_true, decide_eq_true_eq, beq_iff_eq] at h g ⊢
    rcases h with h | ⟨rfl, h⟩
    · rcases g with g | ⟨rfl, g⟩
      · exact .inl (UInt8.lt_trans h g)
      · exact .inl h
    · rcases g with g | ⟨rfl, g⟩
      · exact .inl g
      · exact .inr ⟨rfl, bl_trans x y z h g⟩
theorem bl_total : ∀ x y : List UInt8, Op.bytesLess x y = true ∨ x = y ∨ Op.bytesLess y x = true
  | [], [] => .inr (.inl rfl)
  | [], _ :: _ => .inl (by simp [Op.bytesLess])
  | _ :: _, [] => .inr (.inr (by simp [Op.bytesLess]))
  | a :: x, b :: y => by
    simp only [Op.bytesLess, Bool.or_eq_true, Bool.and_eq_true, decide_eq_true_eq, beq_iff_eq, List.cons.injEq]
    by_cases e : a = b
    · subst e
      rcases bl_total x y with h | h | h
      · exact .inl (.inr ⟨rfl, h⟩)
      · exact .inr (.inl ⟨rfl, h⟩)
      · exact .inr (.inr (.inr ⟨rfl, h⟩))
    · have : a < b ∨ b < a := by
        simp only [UInt8.lt_iff_toNat_lt]
        have : a.toNat ≠ b.toNat := fun h => e (UInt8.toNat_inj.1 h)
        omega
      rcases this with h | h
      · exact .inl (.inl h)
      · exact .inr (.inr (.inl h))
theorem ltS_irrefl (a : ByteArray) : ltS a a = false := bl_irrefl _
theorem ltS_trans {a b c : ByteArray} (h : ltS a b = true) (g : ltS b c = true) : ltS a c = true := bl_trans _ _ _ h g
theorem ltS_total {a b : ByteArray} (h : eqB a b = false) : ltS a b = true ∨ ltS b a = true := by
  rcases bl_total a.toList b.toList with h1 | h1 | h1
  · exact .inl h1
  · unfold eqB at h; rw [h1] at h; simp at h
  · exact .inr h1

/-- the order of rows of tokens: the shorter row first, if it is the beginning of the other one -/
def bef : List ByteArray → List ByteArray → Bool
  | _, [] => false
  | [], _ :: _ => true
  | a :: f, b :: g => if eqB a b then bef f g else ltS a b
def cmpS (a b : ByteArray) : Int := if ltS a b then -1 else if eqB a b then 0 else 1
def cmpL : List ByteArray → List ByteArray → Int
  | [], [] => 0
  | [], _ :: _ => -1
  | _ :: _, [] => 1
  | a :: f, b :: g => if eqB a b then cmpL f g else if ltS a b then -1 else 1
theorem cmpS_eq {a b : ByteArray} (h : eqB a b = true) : cmpS a b = 0 := by
  have := eqB_iff.1 h; subst this
  simp [cmpS, ltS_irrefl, eqB_self]
theorem cmpL_bef : ∀ f g : List ByteArray, decide (cmpL f g < 0) = bef f g
  | [], [] => rfl
  | [], _ :: _ => rfl
  | _ :: _, [] => rfl
  | a :: f, b :: g => by
    unfold cmpL bef
    split
    · exact cmpL_bef f g
    · cases ltS a b <;> rfl
theorem cmpL_zero : ∀ f g : List ByteArray, cmpL f g = 0 ↔ f = g
  | [], [] => by simp [cmpL]
  | [], _ :: _ => by simp [cmpL]
  | _ :: _, [] => by simp [cmpL]
  | a :: f, b :: g => by
    unfold cmpL
    split
    · rename_i h
      rw [cmpL_zero f g, eqB_iff.1 h]
      simp
    · rename_i h
      have hn : ¬ (a :: f = b :: g) := fun e => h (by rw [(List.cons.inj e).1]; exact eqB_self b)
      refine ⟨fun e => ?_, fun e => absurd e hn⟩
      split at e <;> omega
theorem cmpL_range : ∀ f g : List ByteArray, -1 ≤ cmpL f g ∧ cmpL f g ≤ 1
  | [], [] => by simp [cmpL]
  | [], _ :: _ => by simp [cmpL]
  | _ :: _, [] => by simp [cmpL]
  | a :: f, b :: g => by
    unfold cmpL
    split
    · exact cmpL_range f g
    · split <;> omega
theorem bef_irrefl : ∀ f : List ByteArray, bef f f = false
  | [] => rfl
  | a :: f => by rw [bef, if_pos (eqB_self a)]; exact bef_irrefl f
theorem bef_trans : ∀ f g h : List ByteArray, bef f g = true → bef g h = true → bef f h = true
  | _, [], _, h, _ => by simp [bef] at h
  | _, _ :: _, [], _, h => by simp [bef] at h
  | [], _ :: _, _ :: _, _, _ => rfl
  | a :: f, b :: g, c :: h, h1, h2 => by
    unfold bef at h1 h2 ⊢
    cases e1 : eqB a b
    · rw [if_neg (by rw [e1]; simp)] at h1
      cases e2 : eqB b c
      · rw [if_neg (by rw [e2]; simp)] at h2
        have h3 := ltS_trans h1 h2
        have : eqB a c = false := by
          cases e : eqB a c
          · rfl
          · rw [eqB_iff.1 e, ltS_irrefl] at h3; cases h3
        rw [if_neg (by rw [this]; simp)]
        exact h3
      · have := eqB_iff.1 e2; subst this
        rw [if_neg (by rw [e1]; simp)]
        exact h1
    · have := eqB_iff.1 e1; subst this
      rw [if_pos e1] at h1
      cases e2 : eqB a c
      · rw [if_neg (by rw [e2]; simp)] at h2
        rw [if_neg (by simp)]
        exact h2
      · rw [if_pos e2] at h2
        rw [if_pos rfl]
        exact bef_trans f g h h1 h2
theorem bef_total : ∀ f g : List ByteArray, bef f g = true ∨ f = g ∨ bef g f = true
  | [], [] => .inr (.inl rfl)
  | [], _ :: _ => .inl rfl
  | _ :: _, [] => .inr (.inr rfl)
  | a :: f, b :: g => by
    unfold bef
    cases e : eqB a b
    · have e' : eqB b a = false := by
        cases e2 : eqB b a
        · rfl
        · rw [eqB_iff.1 e2, eqB_self] at e; cases e
      rw [if_neg (by simp), e', if_neg (by simp)]
      rcases ltS_total e with h | h
      · exact .inl h
      · exact .inr (.inr h)
    · have := eqB_iff.1 e; subst this
      rw [if_pos rfl, if_pos e]
      rcases bef_total f g with h | h | h
      · exact .inl h
      · exact .inr (.inl (by rw [h]))
      · exact .inr (.inr h)

abbrev Ent := ByteArray × Int
/-- the k-th entry -/
def en (l : List Ent) (k : Nat) : Ent := l[k]?.getD (ByteArray.empty, 0)
def el (e s : ByteArray) : Bool := bef (Pl.toks e) (Pl.toks s)
def Ord (es : List Ent) : Prop := es.Pairwise fun a b => el a.1 b.1 = true
def Good (es : List Ent) : Prop := Ord es ∧ es.length ≤ 100 ∧ ∀ e ∈ es, errS false e.1 = 0 ∧ e.1.size ≤ 140737488355328
/-- where a subject is, or belongs -/
def place : List Ent → ByteArray → Nat
  | [], _ => 0
  | e :: es, s => if el e.1 s then place es s + 1 else 0
def hasAt (es : List Ent) (s : ByteArray) : Bool := decide (place es s < es.length) && eqB (en es (place es s)).1 s

theorem en_mem {es : List Ent} {k : Nat} (h : k < es.length) : en es k ∈ es := by
  unfold en; rw [List.getElem?_eq_getElem h]; exact List.getElem_mem h
theorem en_get {es : List Ent} {k : Nat} (h : k < es.length) : en es k = es[k] := by
  unfold en; rw [List.getElem?_eq_getElem h]; rfl
theorem el_irrefl (s : ByteArray) : el s s = false := bef_irrefl _
theorem el_trans {a b c : ByteArray} (h : el a b = true) (g : el b c = true) : el a c = true := bef_trans _ _ _ h g
theorem el_eq {a b : ByteArray} (h : el a b = false) (g : el b a = false) : a = b := by
  rcases bef_total (Pl.toks a) (Pl.toks b) with x | x | x
  · unfold el at h; rw [x] at h; cases h
  · exact toks_inj x
  · unfold el at g; rw [x] at g; cases g
theorem place_le : ∀ (es : List Ent) (s : ByteArray), place es s ≤ es.length
  | [], _ => Nat.le_refl _
  | e :: es, s => by
    unfold place
    have := place_le es s
    split <;> simp <;> omega
theorem place_lt : ∀ (es : List Ent) (s : ByteArray) (j : Nat), j < place es s → el (en es j).1 s = true
  | [], _, j, h => absurd h (Nat.not_lt_zero j)
  | e :: es, s, j, h => by
    unfold place at h
    split at h
    · rename_i he
      cases j with
      | zero => exact he
      | succ j => exact place_lt es s j (by omega)
    · omega
theorem place_at : ∀ (es : List Ent) (s : ByteArray), place es s < es.length → el (en es (place es s)).1 s = false
  | [], _, h => absurd h (Nat.not_lt_zero _)
  | e :: es, s, h => by
    unfold place at h ⊢
    split at h
    · rename_i he
      rw [if_pos he]
      exact place_at es s (by simpa using h)
    · rename_i he
      rw [if_neg he]
      exact Bool.eq_false_iff.2 he
theorem ord_lt {es : List Ent} (h : Ord es) {i j : Nat} (hij : i < j) (hj : j < es.length) : el (en es i).1 (en es j).1 = true := by
  rw [en_get (by omega), en_get hj]
  exact List.pairwise_iff_getElem.1 h i j (by omega) hj hij
theorem place_ge {es : List Ent} (h : Ord es) (s : ByteArray) (j : Nat) (h1 : place es s ≤ j) (h2 : j < es.length) : el (en es j).1 s = false := by
  have ha := place_at es s (by omega)
  rcases Nat.eq_or_lt_of_le h1 with e | hlt
  · rw [← e]; exact ha
  · cases e : el (en es j).1 s
    · rfl
    · rw [el_trans (ord_lt h hlt h2) e] at ha; cases ha
theorem place_is {es : List Ent} {s : ByteArray} {i : Nat} (hi : i ≤ es.length) (h1 : ∀ j, j < i → el (en es j).1 s = true) (h2 : ∀ j, i ≤ j → j < es.length → el (en es j).1 s = false) : i = place es s := by
  rcases Nat.lt_trichotomy i (place es s) with h | h | h
  · have a := place_lt es s i h
    have := place_le es s
    rw [h2 i (Nat.le_refl _) (by omega)] at a; cases a
  · exact h
  · have a := place_at es s (by omega)
    rw [h1 _ h] at a; cases a
theorem place_hit {es : List Ent} (h : Ord es) {s : ByteArray} {j : Nat} (hj : j < es.length) (e : (en es j).1 = s) : j = place es s := by
  refine place_is (by omega) (fun i hi => ?_) (fun i hi hl => ?_)
  · rw [← e]; exact ord_lt h hi hj
  · rcases Nat.eq_or_lt_of_le hi with q | q
    · rw [← q, e]; exact el_irrefl s
    · cases x : el (en es i).1 s
      · rfl
      · have := el_trans (ord_lt h q hl) x
        rw [e, el_irrefl] at this; cases this
theorem has_hit {es : List Ent} (h : Ord es) {s : ByteArray} {j : Nat} (hj : j < es.length) (e : (en es j).1 = s) : hasAt es s = true ∧ place es s = j := by
  have p := place_hit h hj e
  refine ⟨?_, p.symm⟩
  unfold hasAt
  rw [← p, e, eqB_self]
  simp [hj]
theorem has_none {es : List Ent} {s : ByteArray} (h : ∀ j, j < es.length → eqB (en es j).1 s = false) : hasAt es s = false := by
  unfold hasAt
  by_cases hp : place es s < es.length
  · rw [h _ hp]; simp
  · simp [hp]
theorem has_at {es : List Ent} {s : ByteArray} (h : hasAt es s = true) : place es s < es.length ∧ (en es (place es s)).1 = s := by
  unfold hasAt at h
  simp only [Bool.and_eq_true, decide_eq_true_eq] at h
  exact ⟨h.1, eqB_iff.1 h.2⟩
theorem has_cmp {es : List Ent} (s : ByteArray) (h : place es s < es.length) : hasAt es s = decide (cmpL (Pl.toks (en es (place es s)).1) (Pl.toks s) = 0) := by
  unfold hasAt
  rw [Bool.eq_iff_iff]
  simp only [Bool.and_eq_true, decide_eq_true_eq, cmpL_zero]
  exact ⟨fun x => by rw [eqB_iff.1 x.2], fun x => ⟨h, eqB_iff.2 (toks_inj x)⟩⟩

/-- what Put makes of the list, where there is room or the subject is there -/
def insL (es : List Ent) (p : Nat) (e : Ent) : List Ent := es.take p ++ e :: es.drop p
def delL (es : List Ent) (p : Nat) : List Ent := es.take p ++ es.drop (p + 1)
def putE (es : List Ent) (s : ByteArray) : Int := if errS false s = 0 then (if hasAt es s then 0 else if 100 ≤ es.length then 8 else 0) else errS false s
def putL (es : List Ent) (s : ByteArray) (n : Int) : List Ent := if errS false s = 0 then (if hasAt es s then es.set (place es s) (s, n) else if 100 ≤ es.length then es else insL es (place es s) (s, n)) else es
def seeE (es : List Ent) (s : ByteArray) : Int := if errS false s = 0 then (if hasAt es s then 0 else 4) else errS false s
def dropL (es : List Ent) (s : ByteArray) : List Ent := if errS false s = 0 then (if hasAt es s then delL es (place es s) else es) else es
def getN (es : List Ent) (s : ByteArray) : Int := if errS false s = 0 then (if hasAt es s then (en es (place es s)).2 else 0) else 0
def findL (es : List Ent) (f : ByteArray) : List Ent := es.filter fun e => matchB f e.1

theorem insL_length {es : List Ent} {p : Nat} {e : Ent} (h : p ≤ es.length) : (insL es p e).length = es.length + 1 := by
  simp [insL]; omega
theorem delL_length {es : List Ent} {p : Nat} (h : p < es.length) : (delL es p).length = es.length - 1 := by
  simp [delL]; omega
theorem ord_ins {es : List Ent} (h : Ord es) {s : ByteArray} (n : Int) (hn : hasAt es s = false) : Ord (insL es (place es s) (s, n)) := by
  have hb : ∀ j, place es s ≤ j → j < es.length → el s (en es j).1 = true := by
    intro j h1 h2
    have a := place_ge h s j h1 h2
    rcases bef_total (Pl.toks s) (Pl.toks (en es j).1) with x | x | x
    · exact x
    · rw [(has_hit h h2 (toks_inj x).symm).1] at hn; cases hn
    · unfold el at a; rw [x] at a; cases a
  unfold Ord insL
  rw [List.pairwise_append]
  refine ⟨h.sublist (List.take_sublist _ _), ?_, ?_⟩
  · rw [List.pairwise_cons]
    refine ⟨fun a ha => ?_, h.sublist (List.drop_sublist _ _)⟩
    obtain ⟨j, hj, e⟩ := List.mem_iff_getElem.1 ha
    rw [List.getElem_drop] at e
    have hl : place es s + j < es.length := by simpa using (by simp at hj; omega : place es s + j < es.length)
    have := hb (place es s + j) (by omega) hl
    rw [en_get hl, e] at this
    exact this
  · intro a ha b hb'
    obtain ⟨i, hi, e⟩ := List.mem_iff_getElem.1 ha
    rw [List.getElem_take] at e
    have hi2 : i < place es s ∧ i < es.length := by simp at hi; omega
    have h1 := place_lt es s i hi2.1
    rw [en_get hi2.2, e] at h1
    rcases List.mem_cons.1 hb' with q | q
    · rw [q]; exact h1
    · obtain ⟨j, hj, e2⟩ := List.mem_iff_getElem.1 q
      rw [List.getElem_drop] at e2
      have hl : place es s + j < es.length := by simp at hj; omega
      have := hb (place es s + j) (by omega) hl
      rw [en_get hl, e2] at this
      exact el_trans h1 this
theorem ord_set {es : List Ent} (h : Ord es) {s : ByteArray} (n : Int) (hs : hasAt es s = true) : Ord (es.set (place es s) (s, n)) := by
  obtain ⟨h1, h2⟩ := has_at hs
  unfold Ord
  rw [List.pairwise_iff_getElem]
  intro i j hi hj hij
  rw [List.length_set] at hi hj
  have hk := ord_lt h hij hj
  rw [en_get hi, en_get hj] at hk
  rw [en_get h1] at h2
  rw [List.getElem_set, List.getElem_set]
  split
  · rename_i q
    subst q
    rw [if_neg (by omega)]
    rw [h2] at hk
    exact hk
  · split
    · rename_i q
      subst q
      rw [h2] at hk
      exact hk
    · exact hk
theorem ord_del {es : List Ent} (h : Ord es) (p : Nat) : Ord (delL es p) := by
  have e : delL es p = es.eraseIdx p := by
    unfold delL; rw [List.eraseIdx_eq_take_drop_succ]
  rw [e]
  exact List.Pairwise.sublist (List.eraseIdx_sublist _ _) h
theorem mem_ins {es : List Ent} {p : Nat} {e x : Ent} (h : x ∈ insL es p e) : x = e ∨ x ∈ es := by
  unfold insL at h
  rcases List.mem_append.1 h with h | h
  · exact .inr (List.mem_of_mem_take h)
  · rcases List.mem_cons.1 h with h | h
    · exact .inl h
    · exact .inr (List.mem_of_mem_drop h)
theorem mem_del {es : List Ent} {p : Nat} {x : Ent} (h : x ∈ delL es p) : x ∈ es := by
  unfold delL at h
  rcases List.mem_append.1 h with h | h
  · exact List.mem_of_mem_take h
  · exact List.mem_of_mem_drop h
theorem good_put {es : List Ent} (h : Good es) {s : ByteArray} (n : Int) (hz : s.size ≤ 140737488355328) : Good (putL es s n) := by
  obtain ⟨h1, h2, h3⟩ := h
  unfold putL
  split
  · rename_i he
    split
    · rename_i hh
      refine ⟨ord_set h1 n hh, by rw [List.length_set]; exact h2, fun e hm => ?_⟩
      rcases List.mem_or_eq_of_mem_set hm with q | q
      · exact h3 e q
      · rw [q]; exact ⟨he, hz⟩
    · rename_i hh
      split
      · exact ⟨h1, h2, h3⟩
      · refine ⟨ord_ins h1 n (Bool.eq_false_iff.2 hh), by rw [insL_length (place_le _ _)]; omega, fun e hm => ?_⟩
        rcases mem_ins hm with q | q
        · rw [q]; exact ⟨he, hz⟩
        · exact h3 e q
  · exact ⟨h1, h2, h3⟩
theorem good_drop {es : List Ent} (h : Good es) (s : ByteArray) : Good (dropL es s) := by
  obtain ⟨h1, h2, h3⟩ := h
  unfold dropL
  split
  · split
    · rename_i hh
      have := (has_at hh).1
      exact ⟨ord_del h1 _, by rw [delL_length this]; omega, fun e hm => h3 e (mem_del hm)⟩
    · exact ⟨h1, h2, h3⟩
  · exact ⟨h1, h2, h3⟩
theorem good_nil : Good [] := ⟨List.Pairwise.nil, by simp, fun e h => by simp at h⟩
end Go.Proofs.YtmccpkpeimejhagGreatDoor

namespace Go.Proofs.YtmccpkpeimejhagGreatDoor
open Go.RowKit

theorem en_is {es : List Ent} {y : Ent} (h : y ∈ es) : ∃ j, j < es.length ∧ en es j = y := by
  obtain ⟨j, hj, e⟩ := List.getElem_of_mem h
  exact ⟨j, hj, by rw [en_get hj]; exact e⟩
theorem ent_at {es : List Ent} (h : Ord es) {s : ByteArray} {y : Ent} (hy : y ∈ es) (e : y.1 = s) : hasAt es s = true ∧ y = en es (place es s) := by
  obtain ⟨j, hj, rfl⟩ := en_is hy
  obtain ⟨h1, h2⟩ := has_hit h hj e
  exact ⟨h1, by rw [h2]⟩
/-- strictly in order: the members say all -/
theorem ord_ext : ∀ {a b : List Ent}, Ord a → Ord b → (∀ e, e ∈ a ↔ e ∈ b) → a = b
  | [], [], _, _, _ => rfl
  | [], y :: b, _, _, h => absurd ((h y).2 (List.mem_cons_self ..)) (by simp)
  | x :: a, [], _, _, h => absurd ((h x).1 (List.mem_cons_self ..)) (by simp)
  | x :: a, y :: b, ha, hb, h => by
    have ha1 := List.pairwise_cons.1 ha
    have hb1 := List.pairwise_cons.1 hb
    have hxy : x = y := by
      rcases List.mem_cons.1 ((h x).1 (List.mem_cons_self ..)) with z | z
      · exact z
      · rcases List.mem_cons.1 ((h y).2 (List.mem_cons_self ..)) with u | u
        · exact u.symm
        · have := el_trans (hb1.1 x z) (ha1.1 y u)
          rw [el_irrefl] at this; cases this
    subst hxy
    have hx : ∀ {c : List Ent}, (∀ e ∈ c, el x.1 e.1 = true) → x ∉ c := fun hc z => by have := hc x z; rw [el_irrefl] at this; cases this
    rw [ord_ext ha1.2 hb1.2 (fun e => ?_)]
    constructor
    · intro z
      rcases List.mem_cons.1 ((h e).1 (List.mem_cons_of_mem _ z)) with u | u
      · subst u; exact absurd z (hx ha1.1)
      · exact u
    · intro z
      rcases List.mem_cons.1 ((h e).2 (List.mem_cons_of_mem _ z)) with u | u
      · subst u; exact absurd z (hx hb1.1)
      · exact u
theorem mem_put {es : List Ent} (h : Good es) {s : ByteArray} (n : Int) (hs : errS false s = 0) (hr : hasAt es s = true ∨ es.length < 100) (x : Ent) : x ∈ putL es s n ↔ x = (s, n) ∨ (x ∈ es ∧ x.1 ≠ s) := by
  unfold putL
  rw [if_pos hs]
  cases hh : hasAt es s
  · rw [if_neg (by simp), if_neg (by rcases hr with z | z; rw [hh] at z; cases z; omega)]
    have hne : ∀ y ∈ es, y.1 ≠ s := fun y hy e => by have := (ent_at h.1 hy e).1; rw [hh] at this; cases this
    have e : x ∈ insL es (place es s) (s, n) ↔ x = (s, n) ∨ x ∈ es := by
      unfold insL
      rw [List.mem_append, List.mem_cons]
      have := List.take_append_drop (place es s) es
      constructor
      · rintro (z | z | z)
        · exact .inr (List.mem_of_mem_take z)
        · exact .inl z
        · exact .inr (List.mem_of_mem_drop z)
      · rintro (z | z)
        · exact .inr (.inl z)
        · rw [← this] at z
          rcases List.mem_append.1 z with y | y
          · exact .inl y
          · exact .inr (.inr y)
    rw [e]
    constructor
    · rintro (z | z)
      · exact .inl z
      · exact .inr ⟨z, hne x z⟩
    · rintro (z | z)
      · exact .inl z
      · exact .inr z.1
  · rw [if_pos rfl]
    obtain ⟨p1, p2⟩ := has_at hh
    constructor
    · intro z
      obtain ⟨j, hj, e⟩ := List.getElem_of_mem z
      rw [List.length_set] at hj
      rw [List.getElem_set] at e
      by_cases hp : place es s = j
      · rw [if_pos hp] at e; exact .inl e.symm
      · rw [if_neg hp] at e
        refine .inr ⟨by rw [← e]; exact List.getElem_mem hj, fun q => hp ?_⟩
        exact (place_hit h.1 hj (by rw [en_get hj, e]; exact q)).symm
    · rintro (z | ⟨z, q⟩)
      · rw [z]; exact List.mem_set p1 _
      · obtain ⟨j, hj, e⟩ := List.getElem_of_mem z
        have hp : ¬ place es s = j := fun hp => q (by rw [← e, ← en_get hj, ← hp]; exact p2)
        have : (es.set (place es s) (s, n))[j]'(by rw [List.length_set]; exact hj) = x := by rw [List.getElem_set, if_neg hp]; exact e
        rw [← this]
        exact List.getElem_mem _
theorem mem_drop {es : List Ent} (h : Good es) {s : ByteArray} (hs : errS false s = 0) (x : Ent) : x ∈ dropL es s ↔ x ∈ es ∧ x.1 ≠ s := by
  unfold dropL
  rw [if_pos hs]
  cases hh : hasAt es s
  · rw [if_neg (by simp)]
    exact ⟨fun z => ⟨z, fun e => by have := (ent_at h.1 z e).1; rw [hh] at this; cases this⟩, fun z => z.1⟩
  · rw [if_pos rfl]
    obtain ⟨p1, p2⟩ := has_at hh
    have hsp : es = es.take (place es s) ++ en es (place es s) :: es.drop (place es s + 1) := by
      rw [en_get p1, ← List.drop_eq_getElem_cons p1, List.take_append_drop]
    constructor
    · intro z
      refine ⟨mem_del z, fun e => ?_⟩
      have ho := h.1
      unfold Ord at ho
      rw [hsp, List.pairwise_append, List.pairwise_cons] at ho
      obtain ⟨_, ⟨o2, _⟩, o3⟩ := ho
      unfold delL at z
      rcases List.mem_append.1 z with y | y
      · have := o3 x y (en es (place es s)) (List.mem_cons_self ..)
        rw [e, p2, el_irrefl] at this; cases this
      · have := o2 x y
        rw [e, p2, el_irrefl] at this; cases this
    · rintro ⟨z, q⟩
      rw [hsp] at z
      unfold delL
      rcases List.mem_append.1 z with y | y
      · exact List.mem_append.2 (.inl y)
      · rcases List.mem_cons.1 y with u | u
        · exact absurd (by rw [u]; exact p2) q
        · exact List.mem_append.2 (.inr u)
/-- how many messages of a subject -/
def cntN (l : List Dk.Rc) (s : ByteArray) : Nat := (l.filter fun r => decide (r.s = s)).length
theorem cntN_append (a b : List Dk.Rc) (s : ByteArray) : cntN (a ++ b) s = cntN a s + cntN b s := by unfold cntN; rw [List.filter_append, List.length_append]
theorem cntN_one (r : Dk.Rc) (s : ByteArray) : cntN [r] s = if r.s = s then 1 else 0 := by
  unfold cntN
  by_cases h : r.s = s
  · rw [if_pos h]; simp [h]
  · rw [if_neg h]; simp [h]
theorem cntN_has (l : List Dk.Rc) (s : ByteArray) : Dk.hasS l s = decide (0 < cntN l s) := by
  unfold Dk.hasS cntN
  rw [Bool.eq_iff_iff, List.any_eq_true, decide_eq_true_eq, List.length_pos_iff_exists_mem]
  constructor
  · rintro ⟨x, h1, h2⟩
    exact ⟨x, List.mem_filter.2 ⟨h1, h2⟩⟩
  · rintro ⟨x, h1⟩
    obtain ⟨h1, h2⟩ := List.mem_filter.1 h1
    exact ⟨x, h1, h2⟩
/-- an index of them -/
structure Cnt (l : List Dk.Rc) (es : List Ent) : Prop where
  good : Good es
  mem : ∀ e : Ent, e ∈ es ↔ 0 < cntN l e.1 ∧ e.2 = (cntN l e.1 : Int)
theorem Cnt.nil : Cnt [] [] := ⟨good_nil, fun e => by simp [cntN]⟩
theorem Cnt.same {l : List Dk.Rc} {a b : List Ent} (h : Cnt l a) (g : Cnt l b) : a = b := ord_ext h.good.1 g.good.1 (fun e => by rw [h.mem, g.mem])
theorem Cnt.has {l : List Dk.Rc} {es : List Ent} (h : Cnt l es) (s : ByteArray) : hasAt es s = decide (0 < cntN l s) := by
  rw [Bool.eq_iff_iff, decide_eq_true_eq]
  constructor
  · intro z
    obtain ⟨p1, p2⟩ := has_at z
    have := ((h.mem _).1 (en_mem p1)).1
    rw [p2] at this
    exact this
  · intro z
    exact (ent_at h.good.1 ((h.mem (s, (cntN l s : Int))).2 ⟨z, rfl⟩) rfl).1
theorem Cnt.get {l : List Dk.Rc} {es : List Ent} (h : Cnt l es) {s : ByteArray} (hs : errS false s = 0) : getN es s = (cntN l s : Int) := by
  unfold getN
  rw [if_pos hs, h.has]
  by_cases z : 0 < cntN l s
  · rw [decide_eq_true z, if_pos rfl]
    have := (ent_at h.good.1 ((h.mem (s, (cntN l s : Int))).2 ⟨z, rfl⟩) rfl).2
    rw [← this]
  · rw [decide_eq_false z, if_neg (by simp)]
    omega
theorem Cnt.put {l : List Dk.Rc} {es : List Ent} (h : Cnt l es) (r : Dk.Rc) (hs : errS false r.s = 0) (hz : r.s.size ≤ 140737488355328) (hr : 0 < cntN l r.s ∨ es.length < 100) : Cnt (l ++ [r]) (putL es r.s ((cntN l r.s : Int) + 1)) := by
  refine ⟨good_put h.good _ hz, fun e => ?_⟩
  rw [mem_put h.good _ hs (by rw [h.has]; simpa using hr), h.mem, cntN_append, cntN_one]
  by_cases q : e.1 = r.s
  · rw [if_pos q.symm, q]
    constructor
    · rintro (z | z)
      · rw [z]; exact ⟨by omega, by simp⟩
      · exact absurd rfl z.2
    · rintro ⟨_, z⟩
      exact .inl (Prod.ext q (by rw [z]; simp))
  · rw [if_neg (fun z => q z.symm), Nat.add_zero]
    constructor
    · rintro (z | z)
      · exact absurd (by rw [z]) q
      · exact z.1
    · intro z; exact .inr ⟨z, q⟩
/-- one message less -/
theorem Cnt.less {A B : List Dk.Rc} {x : Dk.Rc} {es : List Ent} (h : Cnt (A ++ x :: B) es) (hs : errS false x.s = 0) (hz : x.s.size ≤ 140737488355328) : (cntN (A ++ B) x.s = 0 → Cnt (A ++ B) (dropL es x.s)) ∧ Cnt (A ++ B) (if cntN (A ++ B) x.s = 0 then dropL es x.s else putL es x.s (cntN (A ++ B) x.s : Int)) := by
  have hc : ∀ s, cntN (A ++ x :: B) s = cntN (A ++ B) s + (if x.s = s then 1 else 0) := fun s => by
    rw [show A ++ x :: B = A ++ ([x] ++ B) from rfl, cntN_append, cntN_append, cntN_append, cntN_one]
    omega
  have hd : cntN (A ++ B) x.s = 0 → Cnt (A ++ B) (dropL es x.s) := fun h0 => by
    refine ⟨good_drop h.good _, fun e => ?_⟩
    rw [mem_drop h.good hs, h.mem, hc]
    by_cases q : e.1 = x.s
    · rw [q, h0]; simp
    · rw [if_neg (fun z => q z.symm), Nat.add_zero]
      exact ⟨fun z => z.1, fun z => ⟨z, q⟩⟩
  refine ⟨hd, ?_⟩
  by_cases h0 : cntN (A ++ B) x.s = 0
  · rw [if_pos h0]; exact hd h0
  · rw [if_neg h0]
    refine ⟨good_put h.good _ hz, fun e => ?_⟩
    rw [mem_put h.good _ hs (.inl (by rw [h.has, hc, if_pos rfl]; simp)), h.mem, hc]
    by_cases q : e.1 = x.s
    · rw [q]
      constructor
      · rintro (z | z)
        · rw [z]; exact ⟨by omega, rfl⟩
        · exact absurd rfl z.2
      · rintro ⟨_, z⟩
        exact .inl (Prod.ext q z)
    · rw [if_neg (fun z => q z.symm), Nat.add_zero]
      constructor
      · rintro (z | z)
        · exact absurd (by rw [z]) q
        · exact z.1
      · intro z; exact .inr ⟨z, q⟩
/-- as many entries as subjects -/
theorem Cnt.len {l : List Dk.Rc} {es : List Ent} (h : Cnt l es) : es.length = Dk.nameN l := by
  have hn : (es.map (·.1)).Nodup := by
    have := h.good.1
    unfold Ord at this
    rw [List.Nodup, List.pairwise_map]
    exact this.imp (fun {a b} hab e => by rw [e, el_irrefl] at hab; cases hab)
  have hm : ∀ s, s ∈ es.map (·.1) ↔ s ∈ Dk.nameL l := fun s => by
    rw [Dk.nameL_mem, cntN_has, decide_eq_true_eq, List.mem_map]
    constructor
    · rintro ⟨e, he, rfl⟩
      exact ((h.mem e).1 he).1
    · intro z
      exact ⟨(s, (cntN l s : Int)), (h.mem _).2 ⟨z, rfl⟩, rfl⟩
  rw [Dk.nameN_len, ← List.length_map (f := fun e : Ent => e.1)]
  exact Nat.le_antisymm (Dk.nodup_le _ _ hn (fun s hs => (hm s).1 hs)) (Dk.nodup_le _ _ (Dk.nameL_nodup l) (fun s hs => (hm s).2 hs))
end Go.Proofs.YtmccpkpeimejhagGreatDoor

namespace Go.Proofs.YtmccpkpeimejhagGreatDoor
open Go.RowKit

def foundL (es : List Ent) (f : ByteArray) : List Ent := if errS true f = 0 then findL es f else []
def sumE : List Ent → Int
  | [] => 0
  | e :: es => e.2 + sumE es
theorem sumE_append : ∀ a b : List Ent, sumE (a ++ b) = sumE a + sumE b
  | [], b => by simp [sumE]
  | e :: a, b => by rw [List.cons_append, sumE, sumE, sumE_append a b, Int.add_assoc]
theorem sumE_take {es : List Ent} {k : Nat} (h : k < es.length) : sumE (es.take (k + 1)) = sumE (es.take k) + (en es k).2 := by
  rw [List.take_succ_eq_append_getElem h, sumE_append]
  have : en es k = es[k] := by unfold en; rw [List.getElem?_eq_getElem h]; rfl
  rw [this]
  simp [sumE]
theorem sumE_pos : ∀ {es : List Ent}, (∀ e ∈ es, 0 ≤ e.2) → 0 ≤ sumE es
  | [], _ => Int.le_refl _
  | e :: es, h => by
    have h1 := h e (List.mem_cons_self ..)
    have h2 := sumE_pos (es := es) (fun x hx => h x (List.mem_cons_of_mem _ hx))
    rw [sumE]; omega
theorem sumE_front {es : List Ent} (h : ∀ e ∈ es, 0 ≤ e.2) (k : Nat) : 0 ≤ sumE (es.take k) ∧ sumE (es.take k) ≤ sumE es := by
  have h1 := sumE_pos (es := es.take k) (fun x hx => h x (List.mem_of_mem_take hx))
  have h2 := sumE_pos (es := es.drop k) (fun x hx => h x (List.mem_of_mem_drop hx))
  have h3 := sumE_append (es.take k) (es.drop k)
  rw [List.take_append_drop] at h3
  omega
/-- over names, each once -/
def sumN (l : List Dk.Rc) : List ByteArray → Nat
  | [] => 0
  | s :: N => cntN l s + sumN l N
theorem sumN_none {r : Dk.Rc} {l : List Dk.Rc} : ∀ {N : List ByteArray}, r.s ∉ N → sumN (r :: l) N = sumN l N
  | [], _ => rfl
  | s :: N, h => by
    have h1 : ¬ r.s = s := fun e => h (by rw [e]; exact List.mem_cons_self ..)
    rw [sumN, sumN, sumN_none (N := N) (fun z => h (List.mem_cons_of_mem _ z)), show r :: l = [r] ++ l from rfl, cntN_append, cntN_one, if_neg h1, Nat.zero_add]
theorem sumN_one {r : Dk.Rc} {l : List Dk.Rc} : ∀ {N : List ByteArray}, N.Nodup → r.s ∈ N → sumN (r :: l) N = sumN l N + 1
  | [], _, h => by cases h
  | s :: N, hn, h => by
    obtain ⟨h1, h2⟩ := List.nodup_cons.1 hn
    rw [sumN, sumN, show r :: l = [r] ++ l from rfl, cntN_append, cntN_one]
    by_cases e : r.s = s
    · rw [if_pos e, show [r] ++ l = r :: l from rfl, sumN_none (by rw [e]; exact h1)]
      omega
    · rw [if_neg e, show [r] ++ l = r :: l from rfl, sumN_one h2 (by
        rcases List.mem_cons.1 h with z | z
        · exact absurd z e
        · exact z)]
      omega
theorem sumN_nil : ∀ N : List ByteArray, sumN [] N = 0
  | [] => rfl
  | s :: N => by rw [sumN, sumN_nil N]; rfl
theorem sumN_all {N : List ByteArray} (hn : N.Nodup) : ∀ {l : List Dk.Rc}, (∀ r ∈ l, r.s ∈ N) → sumN l N = l.length
  | [], _ => sumN_nil N
  | r :: l, h => by
    rw [sumN_one hn (h r (List.mem_cons_self ..)), sumN_all hn (fun x hx => h x (List.mem_cons_of_mem _ hx))]
    rfl
theorem sumE_N {l : List Dk.Rc} : ∀ {es : List Ent}, (∀ e ∈ es, e.2 = (cntN l e.1 : Int)) → sumE es = (sumN l (es.map (·.1)) : Int)
  | [], _ => rfl
  | e :: es, h => by
    rw [sumE, List.map_cons, sumN, sumE_N (fun x hx => h x (List.mem_cons_of_mem _ hx)), h e (List.mem_cons_self ..)]
    omega
theorem Cnt.sum {l : List Dk.Rc} {es : List Ent} (h : Cnt l es) : sumE es = (l.length : Int) := by
  have hn : (es.map (·.1)).Nodup := by
    have := h.good.1
    unfold Ord at this
    rw [List.Nodup, List.pairwise_map]
    exact this.imp (fun {a b} hab e => by rw [e, el_irrefl] at hab; cases hab)
  rw [sumE_N (fun e he => ((h.mem e).1 he).2), sumN_all hn (fun r hr => ?_)]
  refine List.mem_map.2 ⟨(r.s, (cntN l r.s : Int)), (h.mem _).2 ⟨?_, rfl⟩, rfl⟩
  have := cntN_has l r.s
  have h2 : Dk.hasS l r.s = true := by
    unfold Dk.hasS
    exact List.any_eq_true.2 ⟨r, hr, by simp⟩
  rw [h2] at this
  simpa using this.symm
theorem Cnt.pos {l : List Dk.Rc} {es : List Ent} (h : Cnt l es) : ∀ e ∈ es, 0 ≤ e.2 := fun e he => by
  rw [((h.mem e).1 he).2]; omega
theorem cnt_ex : ∀ (n : Nat) (l : List Dk.Rc), l.length = n → (∀ x ∈ l, errS false x.s = 0 ∧ x.s.size ≤ 140737488355328) → Dk.nameN l ≤ 100 → ∃ es, Cnt l es
  | 0, l, hn, _, _ => by
    obtain rfl := List.length_eq_zero_iff.1 hn
    exact ⟨[], Cnt.nil⟩
  | n + 1, l, hn, h, h100 => by
    rcases List.eq_nil_or_concat l with rfl | ⟨L, b, rfl⟩
    · cases hn
    · rw [List.concat_eq_append] at hn h h100 ⊢
      rw [Dk.nameN_snoc] at h100
      rw [List.length_append] at hn
      have hn : L.length = n := by simpa using hn
      obtain ⟨es, hc⟩ := cnt_ex n L hn (fun x hx => h x (List.mem_append.2 (.inl hx))) (by omega)
      have hb := h b (List.mem_append.2 (.inr (List.mem_singleton.2 rfl)))
      refine ⟨_, hc.put b hb.1 hb.2 ?_⟩
      by_cases z : Dk.hasS L b.s = true
      · left
        rw [cntN_has] at z
        simpa using z
      · right
        rw [if_neg z] at h100
        rw [hc.len]
        omega
theorem gt_right : errS true ⟨#[62]⟩ = 0 := by decide +kernel
theorem gt_toks : Pl.toks ⟨#[62]⟩ = [⟨#[62]⟩] := by decide +kernel
theorem toks_some (s : ByteArray) : ∃ t ts, Pl.toks s = t :: ts := by
  have h := Pl.toks_data s
  cases hs : Pl.toks s with
  | cons t ts => exact ⟨t, ts, rfl⟩
  | nil =>
    rw [hs] at h
    exact absurd h.symm (Pl.pcs_ne _)
theorem Cnt.found_all {l : List Dk.Rc} {es : List Ent} (h : Cnt l es) : foundL es ⟨#[62]⟩ = es := by
  unfold foundL findL
  rw [if_pos gt_right]
  refine List.filter_eq_self.2 (fun e he => ?_)
  have hs := (h.good.2.2 e he).1
  obtain ⟨t, ts, ht⟩ := toks_some e.1
  unfold matchB
  rw [gt_right, hs, gt_toks, ht]
  simp [coverL, gtB]
end Go.Proofs.YtmccpkpeimejhagGreatDoor

namespace Go.Proofs.YtmccpkpeimejhagGreatDoor.Dk
open Go.RowKit

/-- how many messages have a lower number -/
def pq : List Rc → Int → Nat
  | [], _ => 0
  | r :: l, n => if r.q < n then pq l n + 1 else 0
def RiseQ (l : List Rc) : Prop := l.Pairwise fun a b => a.q < b.q
theorem pq_le : ∀ (l : List Rc) (n : Int), pq l n ≤ l.length
  | [], _ => Nat.le_refl _
  | r :: l, n => by
    have := pq_le l n
    rw [pq, List.length_cons]
    split <;> omega
theorem rc_mem {l : List Rc} {k : Nat} (h : k < l.length) : rc l k ∈ l := by rw [rc_get h]; exact List.getElem_mem h
theorem pq_lt : ∀ (l : List Rc) (n : Int) (k : Nat), k < pq l n → (rc l k).q < n
  | [], n, k, h => by simp [pq] at h
  | r :: l, n, k, h => by
    rw [pq] at h
    by_cases hr : r.q < n
    · rw [if_pos hr] at h
      match k, h with
      | 0, _ => exact hr
      | k + 1, h => exact pq_lt l n k (by omega)
    · rw [if_neg hr] at h; omega
theorem pq_at : ∀ (l : List Rc) (n : Int), pq l n < l.length → n ≤ (rc l (pq l n)).q
  | [], n, h => by simp [pq] at h
  | r :: l, n, h => by
    rw [pq] at h ⊢
    by_cases hr : r.q < n
    · rw [if_pos hr] at h ⊢
      have := pq_at l n (by rw [List.length_cons] at h; omega)
      exact this
    · rw [if_neg hr]
      have e : rc (r :: l) 0 = r := rfl
      rw [e]; omega
theorem rise_lt {l : List Rc} (h : RiseQ l) {i j : Nat} (hij : i < j) (hj : j < l.length) : (rc l i).q < (rc l j).q := by
  rw [rc_get (by omega), rc_get hj]
  exact List.pairwise_iff_getElem.1 h i j (by omega) hj hij
theorem pq_ge {l : List Rc} (h : RiseQ l) (n : Int) (k : Nat) (h1 : pq l n ≤ k) (h2 : k < l.length) : n ≤ (rc l k).q := by
  have ha := pq_at l n (by omega)
  rcases Nat.eq_or_lt_of_le h1 with e | e
  · rw [← e]; exact ha
  · have := rise_lt h e h2; omega
theorem pq_is {l : List Rc} {n : Int} {i : Nat} (hi : i ≤ l.length) (h1 : ∀ j, j < i → (rc l j).q < n) (h2 : ∀ j, i ≤ j → j < l.length → n ≤ (rc l j).q) : i = pq l n := by
  rcases Nat.lt_trichotomy i (pq l n) with h | h | h
  · have a := pq_lt l n i h
    have := pq_le l n
    have := h2 i (Nat.le_refl _) (by omega)
    omega
  · exact h
  · have a := pq_at l n (by omega)
    have := h1 (pq l n) h
    omega
theorem seq_at {l : List Rc} (h : RiseQ l) (n : Int) : seqB l n = (decide (pq l n < l.length) && decide ((rc l (pq l n)).q = n)) := by
  unfold seqB
  rw [Bool.eq_iff_iff, List.any_eq_true, Bool.and_eq_true, decide_eq_true_eq, decide_eq_true_eq]
  constructor
  · rintro ⟨x, hx, e⟩
    have e : x.q = n := of_decide_eq_true e
    obtain ⟨j, hj, rfl⟩ := List.getElem_of_mem hx
    rw [← rc_get hj] at e
    have hp : pq l n = j := by
      refine (pq_is (by omega) (fun i hi => ?_) (fun i hi hl => ?_)).symm
      · have := rise_lt h hi hj; omega
      · rcases Nat.eq_or_lt_of_le hi with z | z
        · rw [← z]; omega
        · have := rise_lt h z hl; omega
    rw [hp]
    exact ⟨hj, e⟩
  · rintro ⟨h1, h2⟩
    exact ⟨_, rc_mem h1, by rw [h2]; simp⟩
theorem seq_miss {l : List Rc} (h : RiseQ l) {n : Int} (hp : pq l n < l.length) : seqB l n = decide ((rc l (pq l n)).q = n) := by
  rw [seq_at h, decide_eq_true hp, Bool.true_and]
theorem seq_end {l : List Rc} (h : RiseQ l) {n : Int} (hp : ¬ pq l n < l.length) : seqB l n = false := by
  rw [seq_at h, decide_eq_false hp, Bool.false_and]
theorem seq_hit {l : List Rc} (h : RiseQ l) {n : Int} (hs : seqB l n = true) : pq l n < l.length ∧ (rc l (pq l n)).q = n := by
  rw [seq_at h, Bool.and_eq_true, decide_eq_true_eq, decide_eq_true_eq] at hs
  exact hs
theorem split_at {l : List Rc} {k : Nat} (h : k < l.length) : l = l.take k ++ rc l k :: l.drop (k + 1) := by
  rw [rc_get h, ← List.drop_eq_getElem_cons h, List.take_append_drop]
theorem get_hit {l : List Rc} (h : RiseQ l) {n : Int} (hs : seqB l n = true) : getO l n = some (rc l (pq l n)) := by
  obtain ⟨h1, h2⟩ := seq_hit h hs
  unfold getO
  rw [List.find?_eq_some_iff_getElem]
  refine ⟨by rw [h2]; simp, pq l n, h1, (rc_get h1).symm, fun j hj => ?_⟩
  have := pq_lt l n j hj
  rw [rc_get (by omega)] at this
  simp only [Bool.not_eq_true', decide_eq_false_iff_not]
  omega
theorem get_none {l : List Rc} {n : Int} (hs : seqB l n = false) : getO l n = none := by
  unfold getO
  rw [List.find?_eq_none]
  intro x hx
  unfold seqB at hs
  rw [List.any_eq_false] at hs
  exact hs x hx
theorem find_same {p q : Rc → Bool} : ∀ {l : List Rc}, (∀ x ∈ l, p x = q x) → l.find? p = l.find? q
  | [], _ => rfl
  | x :: l, h => by
    rw [List.find?_cons, List.find?_cons, h x (List.mem_cons_self ..), find_same (l := l) (fun y hy => h y (List.mem_cons_of_mem _ hy))]
theorem nextO_drop {l : List Rc} (h : RiseQ l) (f : ByteArray) (n : Int) : nextO f l n = (l.drop (pq l n)).find? fun r => tkB f r.s := by
  unfold nextO
  have e : l.find? (fun r => tkB f r.s && decide (n ≤ r.q)) = ((l.take (pq l n)) ++ (l.drop (pq l n))).find? (fun r => tkB f r.s && decide (n ≤ r.q)) := by rw [List.take_append_drop]
  rw [e, List.find?_append]
  have e1 : (l.take (pq l n)).find? (fun r => tkB f r.s && decide (n ≤ r.q)) = none := by
    rw [List.find?_eq_none]
    intro x hx
    obtain ⟨j, hj, rfl⟩ := List.getElem_of_mem hx
    rw [List.length_take] at hj
    have := pq_lt l n j (by omega)
    rw [rc_get (by omega)] at this
    rw [List.getElem_take]
    simp only [Bool.and_eq_true, decide_eq_true_eq, not_and]
    intro _
    omega
  rw [e1, Option.none_or]
  refine find_same (fun x hx => ?_)
  obtain ⟨j, hj, rfl⟩ := List.getElem_of_mem hx
  rw [List.length_drop] at hj
  rw [List.getElem_drop]
  have := pq_ge h n (pq l n + j) (by omega) (by omega)
  rw [rc_get (by omega)] at this
  rw [decide_eq_true this, Bool.and_true]
/-- the message of that number is gone -/
def delR (l : List Rc) (i : Nat) : List Rc := l.take i ++ l.drop (i + 1)
theorem delR_length {l : List Rc} {i : Nat} (h : i < l.length) : (delR l i).length = l.length - 1 := by
  unfold delR
  rw [List.length_append, List.length_take, List.length_drop]
  omega
theorem erase_is {l : List Rc} (h : RiseQ l) {n : Int} (hs : seqB l n = true) : l.filter (fun x => !decide (x.q = n)) = delR l (pq l n) := by
  obtain ⟨h1, h2⟩ := seq_hit h hs
  unfold delR
  have e := congrArg (List.filter fun x : Rc => !decide (x.q = n)) (split_at h1)
  rw [e, List.filter_append, List.filter_cons, h2]
  simp only [decide_true, Bool.not_true, Bool.false_eq_true, if_false]
  congr 1
  · refine List.filter_eq_self.2 (fun x hx => ?_)
    obtain ⟨j, hj, rfl⟩ := List.getElem_of_mem hx
    rw [List.length_take] at hj
    have := pq_lt l n j (by omega)
    rw [rc_get (by omega)] at this
    rw [List.getElem_take]
    simp only [Bool.not_eq_true', decide_eq_false_iff_not]
    omega
  · refine List.filter_eq_self.2 (fun x hx => ?_)
    obtain ⟨j, hj, rfl⟩ := List.getElem_of_mem hx
    rw [List.length_drop] at hj
    have := rise_lt h (i := pq l n) (j := pq l n + 1 + j) (by omega) (by omega)
    rw [rc_get (l := l) (k := pq l n + 1 + j) (by omega)] at this
    rw [List.getElem_drop]
    simp only [Bool.not_eq_true', decide_eq_false_iff_not]
    omega
/-- what a purge leaves of messages that all have a lower number -/
def leftL (f : ByteArray) (l : List Rc) : List Rc := l.filter fun x => !tkB f x.s
theorem left_take {f : ByteArray} {l : List Rc} {k : Nat} (h : k < l.length) : leftL f (l.take (k + 1)) = leftL f (l.take k) ++ (if tkB f (rc l k).s then [] else [rc l k]) := by
  unfold leftL
  rw [List.take_succ_eq_append_getElem h, ← rc_get h, List.filter_append]
  cases e : tkB f (rc l k).s <;> simp [e]
theorem left_len (f : ByteArray) (l : List Rc) : (leftL f l).length ≤ l.length := List.length_filter_le _ _
theorem purge_is {l : List Rc} (h : RiseQ l) (f : ByteArray) (n : Int) : l.filter (fun x => !(decide (x.q < n) && tkB f x.s)) = leftL f (l.take (pq l n)) ++ l.drop (pq l n) := by
  have e := congrArg (List.filter fun x : Rc => !(decide (x.q < n) && tkB f x.s)) (List.take_append_drop (pq l n) l).symm
  rw [e, List.filter_append]
  congr 1
  · unfold leftL
    refine List.filter_congr (fun x hx => ?_)
    obtain ⟨j, hj, rfl⟩ := List.getElem_of_mem hx
    rw [List.length_take] at hj
    have := pq_lt l n j (by omega)
    rw [rc_get (by omega)] at this
    rw [List.getElem_take, decide_eq_true this, Bool.true_and]
  · refine List.filter_eq_self.2 (fun x hx => ?_)
    obtain ⟨j, hj, rfl⟩ := List.getElem_of_mem hx
    rw [List.length_drop] at hj
    have := pq_ge h n (pq l n + j) (by omega) (by omega)
    rw [rc_get (by omega)] at this
    rw [List.getElem_drop, decide_eq_false (by omega), Bool.false_and]
    rfl
/-- one message less, as the program counts it off -/
def offL (es : List Ent) (n : Int) (s : ByteArray) : List Ent := if 1 < n then putL es s (n - 1) else dropL es s
theorem Cnt.off {A B : List Rc} {x : Rc} {es : List Ent} (h : Cnt (A ++ x :: B) es) (hs : errS false x.s = 0) (hz : x.s.size ≤ 140737488355328) : Cnt (A ++ B) (offL es (getN es x.s) x.s) := by
  have hc : cntN (A ++ x :: B) x.s = cntN (A ++ B) x.s + 1 := by
    rw [show A ++ x :: B = A ++ ([x] ++ B) from rfl, cntN_append, cntN_append, cntN_append, cntN_one, if_pos rfl]
    omega
  have h2 := (h.less hs hz).2
  unfold offL
  rw [h.get hs, hc]
  by_cases h0 : cntN (A ++ B) x.s = 0
  · rw [if_pos h0] at h2
    rw [if_neg (by omega)]
    exact h2
  · rw [if_neg h0] at h2
    rw [if_pos (by omega), show ((cntN (A ++ B) x.s + 1 : Nat) : Int) - 1 = (cntN (A ++ B) x.s : Int) by omega]
    exact h2
end Go.Proofs.YtmccpkpeimejhagGreatDoor.Dk

namespace Go.Proofs.YtmccpkpeimejhagGreatDoor
open Go.RowKit

/-- the cells of a row of entries -/
def cel : List Ent → List Value
  | [] => []
  | e :: r => .string e.1 :: .int .i64 e.2 :: cel r
theorem cel_length : ∀ es : List Ent, (cel es).length = es.length * 2
  | [] => rfl
  | e :: r => by simp [cel, cel_length r]; omega
theorem cel_append : ∀ a b : List Ent, cel (a ++ b) = cel a ++ cel b
  | [], _ => rfl
  | e :: a, b => by simp [cel, cel_append a b]
theorem cel_take : ∀ (es : List Ent) (k : Nat), cel (es.take k) = (cel es).take (k * 2)
  | [], k => by simp [cel]
  | e :: r, 0 => by simp [cel]
  | e :: r, k + 1 => by rw [show (k + 1) * 2 = k * 2 + 1 + 1 by omega]; simp [cel, cel_take r k]
theorem cel_drop : ∀ (es : List Ent) (k : Nat), cel (es.drop k) = (cel es).drop (k * 2)
  | [], k => by simp [cel]
  | e :: r, 0 => by simp [cel]
  | e :: r, k + 1 => by rw [show (k + 1) * 2 = k * 2 + 1 + 1 by omega]; simp [cel, cel_drop r k]
theorem cel_text : ∀ (es : List Ent) (k : Nat), k < es.length → (cel es)[k * 2]? = some (.string (en es k).1)
  | [], k, h => absurd h (Nat.not_lt_zero k)
  | e :: r, 0, _ => rfl
  | e :: r, k + 1, h => by
    rw [show (k + 1) * 2 = k * 2 + 1 + 1 by omega]
    simp only [cel, List.getElem?_cons_succ]
    exact cel_text r k (by simpa using h)
theorem cel_num : ∀ (es : List Ent) (k : Nat), k < es.length → (cel es)[k * 2 + 1]? = some (.int .i64 (en es k).2)
  | [], k, h => absurd h (Nat.not_lt_zero k)
  | e :: r, 0, _ => rfl
  | e :: r, k + 1, h => by
    rw [show (k + 1) * 2 + 1 = k * 2 + 1 + 1 + 1 by omega]
    simp only [cel, List.getElem?_cons_succ]
    exact cel_num r k (by simpa using h)
theorem cel_one : ∀ (es : List Ent), ∀ v ∈ cel es, v.oneCell' = true
  | [], v, h => by simp [cel] at h
  | e :: r, v, h => by
    simp only [cel, List.mem_cons] at h
    rcases h with h | h | h
    · subst h; rfl
    · subst h; rfl
    · exact cel_one r v h
theorem cel_set : ∀ (es : List Ent) (k : Nat) (s : ByteArray) (n : Int), k < es.length → (en es k).1 = s → cel (es.set k (s, n)) = (cel es).set (k * 2 + 1) (.int .i64 n)
  | [], k, _, _, h, _ => absurd h (Nat.not_lt_zero k)
  | e :: r, 0, s, n, _, q => by
    have : e.1 = s := q
    simp [cel, this]
  | e :: r, k + 1, s, n, h, q => by
    rw [show (k + 1) * 2 + 1 = k * 2 + 1 + 1 + 1 by omega]
    simp only [List.set_cons_succ, cel]
    rw [cel_set r k s n (by simpa using h) q]
theorem cel_inj : ∀ a b : List Ent, cel a = cel b → a = b
  | [], [], _ => rfl
  | [], _ :: _, h => by simp [cel] at h
  | _ :: _, [], h => by simp [cel] at h
  | (s, n) :: a, (t, m) :: b, h => by
    simp only [cel, List.cons.injEq, Value.string.injEq, Value.int.injEq, true_and] at h
    obtain ⟨h1, h2, h3⟩ := h
    rw [h1, h2, cel_inj a b h3]

theorem infoE : (Tryz.prog.info? 59).map (fun i => (i.zero, i.size, i.bytes)) = some (some (.agg #[.string ByteArray.empty, .int .i64 0]), 2, 24) := by kernel_rfl
/-- a row of entries that is the program's own from block B on -/
def Arr (w : World) (B : Nat) (v : Value) (es : List Ent) : Prop := w.ownsRow B 59 2 v es.length (cel es)
theorem Arr.empty (w : World) (B : Nat) : Arr w B (.slice none 0 0) [] := World.ownsRow_nil w B _ 2
theorem Arr.shape {w : World} {B : Nat} {v : Value} {es : List Ent} (h : Arr w B v es) : ∃ a cap, v = .slice a es.length cap ∧ es.length ≤ cap ∧ cap ≤ maxLen ∧ ∀ g, v.ownBlock = some g → a = some ⟨g, 0, none⟩ ∧ B ≤ g ∧ g < w.heap.size := by
  rcases h.2 with ⟨h1, h2⟩ | ⟨g, cap, cur, h1, h2, h3, h4, h5, h6, h7⟩
  · exact ⟨none, 0, by rw [h1, h2], by omega, by simp [maxLen], fun g hg => by rw [h1] at hg; simp [Value.ownBlock] at hg⟩
  · exact ⟨_, cap, h1, h4, h5, fun k hk => by
      have := h.lt k hk
      rw [h1] at hk
      simp only [Value.ownBlock, Option.some.injEq] at hk
      subst hk
      exact ⟨rfl, this⟩⟩
theorem Arr.there {w : World} {B : Nat} {v : Value} {es : List Ent} (h : Arr w B v es) (hn : 0 < es.length) : ∃ g cap, v = .slice (some ⟨g, 0, none⟩) es.length cap ∧ es.length ≤ cap ∧ cap ≤ maxLen ∧ B ≤ g ∧ g < w.heap.size := by
  rcases h.2 with ⟨h1, h2⟩ | ⟨g, cap, cur, h1, h2, h3, h4, h5, h6, h7⟩
  · omega
  · exact ⟨g, cap, h1, h4, h5, h.lt g (by rw [h1]; rfl)⟩
theorem Arr.text {w : World} {B g cap : Nat} {es : List Ent} (h : Arr w B (.slice (some ⟨g, 0, none⟩) es.length cap) es) {k : Nat} (hk : k < es.length) : w.cell? ⟨g, k * 2, none⟩ = some (.string (en es k).1) := by
  rw [World.ownsRow.cellAt h _ (by omega)]
  exact cel_text es k hk
theorem Arr.num {w : World} {B g cap : Nat} {es : List Ent} (h : Arr w B (.slice (some ⟨g, 0, none⟩) es.length cap) es) {k : Nat} (hk : k < es.length) : w.cell? ⟨g, k * 2 + 1, none⟩ = some (.int .i64 (en es k).2) := by
  rw [World.ownsRow.cellAt h _ (by omega)]
  exact cel_num es k hk
theorem Arr.cell {w : World} {B g cap : Nat} {es : List Ent} (h : Arr w B (.slice (some ⟨g, 0, none⟩) es.length cap) es) (j : Nat) (u : Value) (hj : (cel es)[j]? = some u) : w.cell? ⟨g, j, none⟩ = some u := by
  have hl : j < es.length * 2 := by
    rw [← cel_length]
    rcases Nat.lt_or_ge j (cel es).length with q | q
    · exact q
    · rw [List.getElem?_eq_none q] at hj; cases hj
  rw [World.ownsRow.cellAt h _ hl]
  exact hj
theorem Arr.below {w w' : World} {B : Nat} {v : Value} {es : List Ent} (h : Arr w B v es) (hb : Below w.heap.size w w') : Arr w' B v es := by
  refine ⟨h.1, ?_⟩
  rcases h.2 with q | ⟨g, cap, cur, h1, h2, h3, r⟩
  · exact .inl q
  · refine .inr ⟨g, cap, cur, h1, h2, ?_, r⟩
    rw [hb.block g (h.lt g (by rw [h1]; rfl)).2]
    exact h3

/-- which blocks may have been written; new ones may be there -/
structure Chg (A : Nat → Prop) (w w' : World) : Prop where
  os : w'.os = w.os
  tape : w'.tape = w.tape
  output : w'.output = w.output
  size : w.heap.size ≤ w'.heap.size
  block : ∀ k, k < w.heap.size → ¬ A k → w'.heap[k]? = w.heap[k]?
theorem Chg.refl (A : Nat → Prop) (w : World) : Chg A w w := ⟨rfl, rfl, rfl, Nat.le_refl _, fun _ _ _ => rfl⟩
theorem Chg.trans {A : Nat → Prop} {a b c : World} (h : Chg A a b) (k : Chg A b c) : Chg A a c :=
  ⟨k.os.trans h.os, k.tape.trans h.tape, k.output.trans h.output, Nat.le_trans h.size k.size, fun i hi hn => (k.block i (by have := h.size; omega) hn).trans (h.block i hi hn)⟩
theorem Chg.mono {A A' : Nat → Prop} {a b : World} (h : Chg A a b) (hA : ∀ k, k < a.heap.size → A k → A' k) : Chg A' a b :=
  ⟨h.os, h.tape, h.output, h.size, fun k hk hn => h.block k hk (fun q => hn (hA k hk q))⟩
theorem Chg.of_below {A : Nat → Prop} {w w' : World} (h : Below w.heap.size w w') : Chg A w w' := ⟨h.os, h.tape, h.output, h.size, fun k hk _ => h.block k hk⟩
theorem Chg.of_grown {w w' : World} {row : Option Nat} (h : w.grownBy w' row) : Chg (fun k => row = some k) w w' := ⟨h.os, h.tape, h.output, h.size, fun k hk hn => h.block k hk (fun e => hn e.symm)⟩
theorem Chg.setCell {A : Nat → Prop} {a w : World} (h : Chg A a w) {p : Addr} (hp : A p.block ∨ a.heap.size ≤ p.block) (u : Value) : Chg A a (w.setCell p u) := by
  refine ⟨h.os, h.tape, h.output, by simpa [World.setCell] using h.size, fun k hk hn => ?_⟩
  rw [Below.heap_setCell _ _ _ _ (fun e => by subst e; rcases hp with q | q; exact hn q; omega)]
  exact h.block k hk hn
theorem Chg.below {A : Nat → Prop} {B : Nat} {w w' : World} (h : Chg A w w') (hB : B ≤ w.heap.size) (hA : ∀ k, k < B → ¬ A k) : Below B w w' := ⟨h.os, h.tape, h.output, h.size, fun k hk => h.block k (by omega) (hA k hk)⟩
theorem Chg.cell {A : Nat → Prop} {w w' : World} (h : Chg A w w') {p : Addr} (hp : p.block < w.heap.size) (hn : ¬ A p.block) : w'.cell? p = w.cell? p := World.cell?_of_block (w := w) (h.block p.block hp hn)
theorem Chg.frozen {A : Nat → Prop} {w w' : World} (h : Chg A w w') {p : Addr} (hp : p.block < w.heap.size) (hn : ¬ A p.block) : w'.frozen? p = w.frozen? p := World.frozen?_of_block (w := w) (h.block p.block hp hn)
theorem Arr.chg {A : Nat → Prop} {w w' : World} {B : Nat} {v : Value} {es : List Ent} (h : Arr w B v es) (hb : Chg A w w') (hn : ∀ g, v.ownBlock = some g → ¬ A g) : Arr w' B v es := by
  refine ⟨h.1, ?_⟩
  rcases h.2 with q | ⟨g, cap, cur, h1, h2, h3, r⟩
  · exact .inl q
  · refine .inr ⟨g, cap, cur, h1, h2, ?_, r⟩
    rw [hb.block g (h.lt g (by rw [h1]; rfl)).2 (hn g (by rw [h1]; rfl))]
    exact h3

/-- an index, or the document's: cell o of the block p holds the slice v of the entries es -/
structure KeepsO (o : Nat) (w : World) (B p : Nat) (v : Value) (es : List Ent) : Prop where
  cell : w.cell? ⟨p, o, none⟩ = some v
  free : w.frozen? ⟨p, o, none⟩ = false
  base : B ≤ p
  lt : p < w.heap.size
  arr : Arr w B v es
  apart : v.ownBlock ≠ some p
abbrev Keeps (w : World) (B p : Nat) (v : Value) (es : List Ent) : Prop := KeepsO 0 w B p v es
def foot (p : Nat) (v : Value) (k : Nat) : Prop := k = p ∨ v.ownBlock = some k
theorem KeepsO.below {o : Nat} {w w' : World} {B p : Nat} {v : Value} {es : List Ent} (h : KeepsO o w B p v es) (hb : Below w.heap.size w w') : KeepsO o w' B p v es :=
  ⟨by rw [hb.cell (p := ⟨p, o, none⟩) h.lt]; exact h.cell, by rw [hb.frozen (p := ⟨p, o, none⟩) h.lt]; exact h.free, h.base, by have := hb.size; have := h.lt; omega, h.arr.below hb, h.apart⟩
theorem KeepsO.chg {o : Nat} {A : Nat → Prop} {w w' : World} {B p : Nat} {v : Value} {es : List Ent} (h : KeepsO o w B p v es) (hb : Chg A w w') (hn : ∀ k, foot p v k → ¬ A k) : KeepsO o w' B p v es :=
  ⟨by rw [hb.cell (p := ⟨p, o, none⟩) h.lt (hn p (.inl rfl))]; exact h.cell, by rw [hb.frozen (p := ⟨p, o, none⟩) h.lt (hn p (.inl rfl))]; exact h.free, h.base, by have := hb.size; have := h.lt; omega, h.arr.chg hb (fun g hg => hn g (.inr hg)), h.apart⟩
/-- of the block p all cells but o are as they were -/
structure Side (o p : Nat) (w w' : World) : Prop where
  cell : ∀ j, j ≠ o → w'.cell? ⟨p, j, none⟩ = w.cell? ⟨p, j, none⟩
  free : ∀ j, w'.frozen? ⟨p, j, none⟩ = w.frozen? ⟨p, j, none⟩
theorem Side.trans {o p : Nat} {a b c : World} (h : Side o p a b) (k : Side o p b c) : Side o p a c := ⟨fun j hj => (k.cell j hj).trans (h.cell j hj), fun j => (k.free j).trans (h.free j)⟩
theorem Side.chg {o p : Nat} {A : Nat → Prop} {w w' : World} (h : Chg A w w') (hp : p < w.heap.size) (hn : ¬ A p) : Side o p w w' := ⟨fun j _ => h.cell (p := ⟨p, j, none⟩) hp hn, fun j => h.frozen (p := ⟨p, j, none⟩) hp hn⟩
theorem Side.below {o p : Nat} {w w' : World} (h : Below w.heap.size w w') (hp : p < w.heap.size) : Side o p w w' := Side.chg (A := fun _ => False) (Chg.of_below h) hp (fun z => z)
theorem Side.set {o p : Nat} {w : World} (v : Value) : Side o p w (w.setCell ⟨p, o, none⟩ v) := ⟨fun j hj => by rw [World.cell?_setCell_other _ _ _ _ (by simp <;> omega)], fun j => World.frozen?_setCell _ _ _ _⟩
theorem Side.other {o p g j : Nat} {w : World} (v : Value) (h : g ≠ p) : Side o p w (w.setCell ⟨g, j, none⟩ v) := ⟨fun i hi => by rw [World.cell?_setCell_other _ _ _ _ (by simp <;> omega)], fun i => World.frozen?_setCell _ _ _ _⟩
/-- the new slice is stored in the block -/
theorem KeepsO.store {o : Nat} {w w' : World} {B p : Nat} {v v' : Value} {es es' : List Ent} (h : KeepsO o w B p v es) (hb : Chg (fun k => v.ownBlock = some k) w w') (ha : Arr w' B v' es') (hv : ∀ g, v'.ownBlock = some g → v.ownBlock = some g ∨ w.heap.size ≤ g) :
    KeepsO o (w'.setCell ⟨p, o, none⟩ v') B p v' es' ∧ Chg (foot p v) w (w'.setCell ⟨p, o, none⟩ v') := by
  have hne : v'.ownBlock ≠ some p := fun e => by
    rcases hv p e with q | q
    · exact h.apart q
    · have := h.lt; omega
  have hc : w'.cell? ⟨p, o, none⟩ = some v := by rw [hb.cell (p := ⟨p, o, none⟩) h.lt h.apart]; exact h.cell
  refine ⟨⟨World.cell?_setCell_same _ _ _ hc, ?_, h.base, ?_, ?_, hne⟩, ?_⟩
  · rw [World.frozen?_setCell, hb.frozen (p := ⟨p, o, none⟩) h.lt h.apart]; exact h.free
  · have := hb.size; have := h.lt; simp [World.setCell]; omega
  · refine ha.chg (A := fun k => k = p) (Chg.setCell (A := fun k => k = p) (p := ⟨p, o, none⟩) (Chg.refl _ _) (.inl rfl) _) (fun g hg e => ?_)
    subst e
    exact hne hg
  · exact (hb.mono (fun k _ q => .inr q)).setCell (.inl (.inl rfl)) _
/-- the number of an entry is stored -/
theorem KeepsO.number {o : Nat} {w : World} {B p g cap : Nat} {es : List Ent} (h : KeepsO o w B p (.slice (some ⟨g, 0, none⟩) es.length cap) es) {k : Nat} (hk : k < es.length) {s : ByteArray} (hs : (en es k).1 = s) (n : Int) :
    KeepsO o (w.setCell ⟨g, k * 2 + 1, none⟩ (.int .i64 n)) B p (.slice (some ⟨g, 0, none⟩) es.length cap) (es.set k (s, n)) ∧ Chg (foot p (.slice (some ⟨g, 0, none⟩) es.length cap)) w (w.setCell ⟨g, k * 2 + 1, none⟩ (.int .i64 n)) := by
  have hgp : g ≠ p := fun e => h.apart (by rw [e]; rfl)
  have hst := (World.ownsRow.stored h.arr (k * 2 + 1) (.int .i64 n)).1
  refine ⟨⟨?_, ?_, h.base, ?_, ?_, h.apart⟩, ?_⟩
  · rw [World.cell?_setCell_other _ _ _ _ (by simp <;> omega)]
    exact h.cell
  · rw [World.frozen?_setCell]; exact h.free
  · have := h.lt; simpa [World.setCell] using this
  · unfold Arr
    rw [List.length_set, cel_set es k s n hk hs]
    exact hst
  · exact (Chg.refl _ _).setCell (.inl (.inr rfl)) _
end Go.Proofs.YtmccpkpeimejhagGreatDoor
