/-
  Plain laws of an index as a list of entries that lies in the order of their tokens: where a subject belongs, what Put, Drop, Get, Find make of the list. No walk.
-/
import Derived.Test.YtcdajajekmichafDoorPlainK
namespace Go.Proofs.YtcdajajekmichafDoor
open Go.RowKit

/-- the order of texts -/
def ltS (a b : ByteArray) : Bool := Op.bytesLess a.toList b.toList
theorem bl_irrefl : ∀ x : List UInt8, Op.bytesLess x x = false
  | [] => rfl
  | a :: x => by simp [Op.bytesLess, bl_irrefl x]
theorem bl_trans : ∀ x y z : List UInt8, Op.bytesLess x y = true → Op.bytesLess y z = true → Op.bytesLess x z = true
  | _, [], _, h, _ => by simp [Op.bytesLess] at h
  | _, _ :: _, [], _, h => by simp [Op.bytesLess] at h
  | [], _ :: _, _ :: _, _, _ => by simp [Op.bytesLess]
  | a :: x, b :: y, c :: z, h, g => by
    simp only [Op.bytesLess, Bool.or_eq_true, Bool.and_eq_true, decide_eq_true_eq, beq_iff_eq] at h g ⊢
    rcases h with h | ⟨rfl, h⟩
    · rcases g with g | ⟨rfl, g⟩
      · exact .inl (UInt8.lt_trans h g)
      · exact .inl h
    · rcases g with g | ⟨rfl, g⟩
      · exact .inl g
      · exact .inr ⟨rfl, bl_trans x y z h g⟩
theorem bl_total : ∀ x y : List UInt8, Op.bytesLess x y = true ∨ x = y ∨ Op.bytesLess y x = true
  | [], [] => .inr (.inl rfl)
  | [], _ :: _ => .inl (by simp [Op.bytesLess])
  | _ :: _, [] => .inr (.inr (by simp [Op.bytesLess]))
  | a :: x, b :: y => by
    simp only [Op.bytesLess, Bool.or_eq_true, Bool.and_eq_true, decide_eq_true_eq, beq_iff_eq, List.cons.injEq]
    by_cases e : a = b
    · subst e
      rcases bl_total x y with h | h | h
      · exact .inl (.inr ⟨rfl, h⟩)
      · exact .inr (.inl ⟨rfl, h⟩)
      · exact .inr (.inr (.inr ⟨rfl, h⟩))
    · have : a < b ∨ b < a := by
        simp only [UInt8.lt_iff_toNat_lt]
        have : a.toNat ≠ b.toNat := fun h => e (UInt8.toNat_inj.1 h)
        omega
      rcases this with h | h
      · exact .inl (.inl h)
      · exact .inr (.inr (.inl h))
theorem ltS_irrefl (a : ByteArray) : ltS a a = false := bl_irrefl _
theorem ltS_trans {a b c : ByteArray} (h : ltS a b = true) (g : ltS b c = true) : ltS a c = true := bl_trans _ _ _ h g
theorem ltS_total {a b : ByteArray} (h : eqB a b = false) : ltS a b = true ∨ ltS b a = true := by
  rcases bl_total a.toList b.toList with h1 | h1 | h1
  · exact .inl h1
  · unfold eqB at h; rw [h1] at h; simp at h
  · exact .inr h1

/-- the order of rows of tokens: the shorter row first, if it is the beginning of the other one -/
def bef : List ByteArray → List ByteArray → Bool
  | _, [] => false
  | [], _ :: _ => true
  | a :: f, b :: g => if eqB a b then bef f g else ltS a b
def cmpS (a b : ByteArray) : Int := if ltS a b then -1 else if eqB a b then 0 else 1
def cmpL : List ByteArray → List ByteArray → Int
  | [], [] => 0
  | [], _ :: _ => -1
  | _ :: _, [] => 1
  | a :: f, b :: g => if eqB a b then cmpL f g else if ltS a b then -1 else 1
theorem cmpS_eq {a b : ByteArray} (h : eqB a b = true) : cmpS a b = 0 := by
  have := eqB_iff.1 h; subst this
  simp [cmpS, ltS_irrefl, eqB_self]
theorem cmpL_bef : ∀ f g : List ByteArray, decide (cmpL f g < 0) = bef f g
  | [], [] => rfl
  | [], _ :: _ => rfl
  | _ :: _, [] => rfl
  | a :: f, b :: g => by
    unfold cmpL bef
    split
    · exact cmpL_bef f g
    · cases ltS a b <;> rfl
theorem cmpL_zero : ∀ f g : List ByteArray, cmpL f g = 0 ↔ f = g
  | [], [] => by simp [cmpL]
  | [], _ :: _ => by simp [cmpL]
  | _ :: _, [] => by simp [cmpL]
  | a :: f, b :: g => by
    unfold cmpL
    split
    · rename_i h
      rw [cmpL_zero f g, eqB_iff.1 h]
      simp
    · rename_i h
      have hn : ¬ (a :: f = b :: g) := fun e => h (by rw [(List.cons.inj e).1]; exact eqB_self b)
      refine ⟨fun e => ?_, fun e => absurd e hn⟩
      split at e <;> omega
theorem cmpL_range : ∀ f g : List ByteArray, -1 ≤ cmpL f g ∧ cmpL f g ≤ 1
  | [], [] => by simp [cmpL]
  | [], _ :: _ => by simp [cmpL]
  | _ :: _, [] => by simp [cmpL]
  | a :: f, b :: g => by
    unfold cmpL
    split
    · exact cmpL_range f g
    · split <;> omega
theorem bef_irrefl : ∀ f : List ByteArray, bef f f = false
  | [] => rfl
  | a :: f => by rw [bef, if_pos (eqB_self a)]; exact bef_irrefl f
theorem bef_trans : ∀ f g h : List ByteArray, bef f g = true → bef g h = true → bef f h = true
  | _, [], _, h, _ => by simp [bef] at h
  | _, _ :: _, [], _, h => by simp [bef] at h
  | [], _ :: _, _ :: _, _, _ => rfl
  | a :: f, b :: g, c :: h, h1, h2 => by
    unfold bef at h1 h2 ⊢
    cases e1 : eqB a b
    · rw [if_neg (by rw [e1]; simp)] at h1
      cases e2 : eqB b c
      · rw [if_neg (by rw [e2]; simp)] at h2
        have h3 := ltS_trans h1 h2
        have : eqB a c = false := by
          cases e : eqB a c
          · rfl
          · rw [eqB_iff.1 e, ltS_irrefl] at h3; cases h3
        rw [if_neg (by rw [this]; simp)]
        exact h3
      · have := eqB_iff.1 e2; subst this
        rw [if_neg (by rw [e1]; simp)]
        exact h1
    · have := eqB_iff.1 e1; subst this
      rw [if_pos e1] at h1
      cases e2 : eqB a c
      · rw [if_neg (by rw [e2]; simp)] at h2
        rw [if_neg (by simp)]
        exact h2
      · rw [if_pos e2] at h2
        rw [if_pos rfl]
        exact bef_trans f g h h1 h2
theorem bef_total : ∀ f g : List ByteArray, bef f g = true ∨ f = g ∨ bef g f = true
  | [], [] => .inr (.inl rfl)
  | [], _ :: _ => .inl rfl
  | _ :: _, [] => .inr (.inr rfl)
  | a :: f, b :: g => by
    unfold bef
    cases e : eqB a b
    · have e' : eqB b a = false := by
        cases e2 : eqB b a
        · rfl
        · rw [eqB_iff.1 e2, eqB_self] at e; cases e
      rw [if_neg (by simp), e', if_neg (by simp)]
      rcases ltS_total e with h | h
      · exact .inl h
      · exact .inr (.inr h)
    · have := eqB_iff.1 e; subst this
      rw [if_pos rfl, if_pos e]
      rcases bef_total f g with h | h | h
      · exact .inl h
      · exact .inr (.inl (by rw [h]))
      · exact .inr (.inr h)

abbrev Ent := ByteArray × Int
/-- the k-th entry -/
def en (l : List Ent) (k : Nat) : Ent := l[k]?.getD (ByteArray.empty, 0)
def el (e s : ByteArray) : Bool := bef (Pl.toks e) (Pl.toks s)
def Ord (es : List Ent) : Prop := es.Pairwise fun a b => el a.1 b.1 = true
def Good (es : List Ent) : Prop := Ord es ∧ es.length ≤ 100 ∧ ∀ e ∈ es, errS false e.1 = 0 ∧ e.1.size ≤ 140737488355328
/-- where a subject is, or belongs -/
def place : List Ent → ByteArray → Nat
  | [], _ => 0
  | e :: es, s => if el e.1 s then place es s + 1 else 0
def hasAt (es : List Ent) (s : ByteArray) : Bool := decide (place es s < es.length) && eqB (en es (place es s)).1 s

theorem en_mem {es : List Ent} {k : Nat} (h : k < es.length) : en es k ∈ es := by
  unfold en; rw [List.getElem?_eq_getElem h]; exact List.getElem_mem h
theorem en_get {es : List Ent} {k : Nat} (h : k < es.length) : en es k = es[k] := by
  unfold en; rw [List.getElem?_eq_getElem h]; rfl
theorem el_irrefl (s : ByteArray) : el s s = false := bef_irrefl _
theorem el_trans {a b c : ByteArray} (h : el a b = true) (g : el b c = true) : el a c = true := bef_trans _ _ _ h g
theorem el_eq {a b : ByteArray} (h : el a b = false) (g : el b a = false) : a = b := by
  rcases bef_total (Pl.toks a) (Pl.toks b) with x | x | x
  · unfold el at h; rw [x] at h; cases h
  · exact toks_inj x
  · unfold el at g; rw [x] at g; cases g
theorem place_le : ∀ (es : List Ent) (s : ByteArray), place es s ≤ es.length
  | [], _ => Nat.le_refl _
  | e :: es, s => by
    unfold place
    have := place_le es s
    split <;> simp <;> omega
theorem place_lt : ∀ (es : List Ent) (s : ByteArray) (j : Nat), j < place es s → el (en es j).1 s = true
  | [], _, j, h => absurd h (Nat.not_lt_zero j)
  | e :: es, s, j, h => by
    unfold place at h
    split at h
    · rename_i he
      cases j with
      | zero => exact he
      | succ j => exact place_lt es s j (by omega)
    · omega
theorem place_at : ∀ (es : List Ent) (s : ByteArray), place es s < es.length → el (en es (place es s)).1 s = false
  | [], _, h => absurd h (Nat.not_lt_zero _)
  | e :: es, s, h => by
    unfold place at h ⊢
    split at h
    · rename_i he
      rw [if_pos he]
      exact place_at es s (by simpa using h)
    · rename_i he
      rw [if_neg he]
      exact Bool.eq_false_iff.2 he
theorem ord_lt {es : List Ent} (h : Ord es) {i j : Nat} (hij : i < j) (hj : j < es.length) : el (en es i).1 (en es j).1 = true := by
  rw [en_get (by omega), en_get hj]
  exact List.pairwise_iff_getElem.1 h i j (by omega) hj hij
theorem place_ge {es : List Ent} (h : Ord es) (s : ByteArray) (j : Nat) (h1 : place es s ≤ j) (h2 : j < es.length) : el (en es j).1 s = false := by
  have ha := place_at es s (by omega)
  rcases Nat.eq_or_lt_of_le h1 with e | hlt
  · rw [← e]; exact ha
  · cases e : el (en es j).1 s
    · rfl
    · rw [el_trans (ord_lt h hlt h2) e] at ha; cases ha
theorem place_is {es : List Ent} {s : ByteArray} {i : Nat} (hi : i ≤ es.length) (h1 : ∀ j, j < i → el (en es j).1 s = true) (h2 : ∀ j, i ≤ j → j < es.length → el (en es j).1 s = false) : i = place es s := by
  rcases Nat.lt_trichotomy i (place es s) with h | h | h
  · have a := place_lt es s i h
    have := place_le es s
    rw [h2 i (Nat.le_refl _) (by omega)] at a; cases a
  · exact h
  · have a := place_at es s (by omega)
    rw [h1 _ h] at a; cases a
theorem place_hit {es : List Ent} (h : Ord es) {s : ByteArray} {j : Nat} (hj : j < es.length) (e : (en es j).1 = s) : j = place es s := by
  refine place_is (by omega) (fun i hi => ?_) (fun i hi hl => ?_)
  · rw [← e]; exact ord_lt h hi hj
  · rcases Nat.eq_or_lt_of_le hi with q | q
    · rw [← q, e]; exact el_irrefl s
    · cases x : el (en es i).1 s
      · rfl
      · have := el_trans (ord_lt h q hl) x
        rw [e, el_irrefl] at this; cases this
theorem has_hit {es : List Ent} (h : Ord es) {s : ByteArray} {j : Nat} (hj : j < es.length) (e : (en es j).1 = s) : hasAt es s = true ∧ place es s = j := by
  have p := place_hit h hj e
  refine ⟨?_, p.symm⟩
  unfold hasAt
  rw [← p, e, eqB_self]
  simp [hj]
theorem has_none {es : List Ent} {s : ByteArray} (h : ∀ j, j < es.length → eqB (en es j).1 s = false) : hasAt es s = false := by
  unfold hasAt
  by_cases hp : place es s < es.length
  · rw [h _ hp]; simp
  · simp [hp]
theorem has_at {es : List Ent} {s : ByteArray} (h : hasAt es s = true) : place es s < es.length ∧ (en es (place es s)).1 = s := by
  unfold hasAt at h
  simp only [Bool.and_eq_true, decide_eq_true_eq] at h
  exact ⟨h.1, eqB_iff.1 h.2⟩
theorem has_cmp {es : List Ent} (s : ByteArray) (h : place es s < es.length) : hasAt es s = decide (cmpL (Pl.toks (en es (place es s)).1) (Pl.toks s) = 0) := by
  unfold hasAt
  rw [Bool.eq_iff_iff]
  simp only [Bool.and_eq_true, decide_eq_true_eq, cmpL_zero]
  exact ⟨fun x => by rw [eqB_iff.1 x.2], fun x => ⟨h, eqB_iff.2 (toks_inj x)⟩⟩

/-- what Put makes of the list, where there is room or the subject is there -/
def insL (es : List Ent) (p : Nat) (e : Ent) : List Ent := es.take p ++ e :: es.drop p
def delL (es : List Ent) (p : Nat) : List Ent := es.take p ++ es.drop (p + 1)
def putE (es : List Ent) (s : ByteArray) : Int := if errS false s = 0 then (if hasAt es s then 0 else if 100 ≤ es.length then 8 else 0) else errS false s
def putL (es : List Ent) (s : ByteArray) (n : Int) : List Ent := if errS false s = 0 then (if hasAt es s then es.set (place es s) (s, n) else if 100 ≤ es.length then es else insL es (place es s) (s, n)) else es
def seeE (es : List Ent) (s : ByteArray) : Int := if errS false s = 0 then (if hasAt es s then 0 else 4) else errS false s
def dropL (es : List Ent) (s : ByteArray) : List Ent := if errS false s = 0 then (if hasAt es s then delL es (place es s) else es) else es
def getN (es : List Ent) (s : ByteArray) : Int := if errS false s = 0 then (if hasAt es s then (en es (place es s)).2 else 0) else 0
def findL (es : List Ent) (f : ByteArray) : List Ent := es.filter fun e => matchB f e.1

theorem insL_length {es : List Ent} {p : Nat} {e : Ent} (h : p ≤ es.length) : (insL es p e).length = es.length + 1 := by
  simp [insL]; omega
theorem delL_length {es : List Ent} {p : Nat} (h : p < es.length) : (delL es p).length = es.length - 1 := by
  simp [delL]; omega
theorem ord_ins {es : List Ent} (h : Ord es) {s : ByteArray} (n : Int) (hn : hasAt es s = false) : Ord (insL es (place es s) (s, n)) := by
  have hb : ∀ j, place es s ≤ j → j < es.length → el s (en es j).1 = true := by
    intro j h1 h2
    have a := place_ge h s j h1 h2
    rcases bef_total (Pl.toks s) (Pl.toks (en es j).1) with x | x | x
    · exact x
    · rw [(has_hit h h2 (toks_inj x).symm).1] at hn; cases hn
    · unfold el at a; rw [x] at a; cases a
  unfold Ord insL
  rw [List.pairwise_append]
  refine ⟨h.sublist (List.take_sublist _ _), ?_, ?_⟩
  · rw [List.pairwise_cons]
    refine ⟨fun a ha => ?_, h.sublist (List.drop_sublist _ _)⟩
    obtain ⟨j, hj, e⟩ := List.mem_iff_getElem.1 ha
    rw [List.getElem_drop] at e
    have hl : place es s + j < es.length := by simpa using (by simp at hj; omega : place es s + j < es.length)
    have := hb (place es s + j) (by omega) hl
    rw [en_get hl, e] at this
    exact this
  · intro a ha b hb'
    obtain ⟨i, hi, e⟩ := List.mem_iff_getElem.1 ha
    rw [List.getElem_take] at e
    have hi2 : i < place es s ∧ i < es.length := by simp at hi; omega
    have h1 := place_lt es s i hi2.1
    rw [en_get hi2.2, e] at h1
    rcases List.mem_cons.1 hb' with q | q
    · rw [q]; exact h1
    · obtain ⟨j, hj, e2⟩ := List.mem_iff_getElem.1 q
      rw [List.getElem_drop] at e2
      have hl : place es s + j < es.length := by simp at hj; omega
      have := hb (place es s + j) (by omega) hl
      rw [en_get hl, e2] at this
      exact el_trans h1 this
theorem ord_set {es : List Ent} (h : Ord es) {s : ByteArray} (n : Int) (hs : hasAt es s = true) : Ord (es.set (place es s) (s, n)) := by
  obtain ⟨h1, h2⟩ := has_at hs
  unfold Ord
  rw [List.pairwise_iff_getElem]
  intro i j hi hj hij
  rw [List.length_set] at hi hj
  have hk := ord_lt h hij hj
  rw [en_get hi, en_get hj] at hk
  rw [en_get h1] at h2
  rw [List.getElem_set, List.getElem_set]
  split
  · rename_i q
    subst q
    rw [if_neg (by omega)]
    rw [h2] at hk
    exact hk
  · split
    · rename_i q
      subst q
      rw [h2] at hk
      exact hk
    · exact hk
theorem ord_del {es : List Ent} (h : Ord es) (p : Nat) : Ord (delL es p) := by
  have e : delL es p = es.eraseIdx p := by
    unfold delL; rw [List.eraseIdx_eq_take_drop_succ]
  rw [e]
  exact List.Pairwise.sublist (List.eraseIdx_sublist _ _) h
theorem mem_ins {es : List Ent} {p : Nat} {e x : Ent} (h : x ∈ insL es p e) : x = e ∨ x ∈ es := by
  unfold insL at h
  rcases List.mem_append.1 h with h | h
  · exact .inr (List.mem_of_mem_take h)
  · rcases List.mem_cons.1 h with h | h
    · exact .inl h
    · exact .inr (List.mem_of_mem_drop h)
theorem mem_del {es : List Ent} {p : Nat} {x : Ent} (h : x ∈ delL es p) : x ∈ es := by
  unfold delL at h
  rcases List.mem_append.1 h with h | h
  · exact List.mem_of_mem_take h
  · exact List.mem_of_mem_drop h
theorem good_put {es : List Ent} (h : Good es) {s : ByteArray} (n : Int) (hz : s.size ≤ 140737488355328) : Good (putL es s n) := by
  obtain ⟨h1, h2, h3⟩ := h
  unfold putL
  split
  · rename_i he
    split
    · rename_i hh
      refine ⟨ord_set h1 n hh, by rw [List.length_set]; exact h2, fun e hm => ?_⟩
      rcases List.mem_or_eq_of_mem_set hm with q | q
      · exact h3 e q
      · rw [q]; exact ⟨he, hz⟩
    · rename_i hh
      split
      · exact ⟨h1, h2, h3⟩
      · refine ⟨ord_ins h1 n (Bool.eq_false_iff.2 hh), by rw [insL_length (place_le _ _)]; omega, fun e hm => ?_⟩
        rcases mem_ins hm with q | q
        · rw [q]; exact ⟨he, hz⟩
        · exact h3 e q
  · exact ⟨h1, h2, h3⟩
theorem good_drop {es : List Ent} (h : Good es) (s : ByteArray) : Good (dropL es s) := by
  obtain ⟨h1, h2, h3⟩ := h
  unfold dropL
  split
  · split
    · rename_i hh
      have := (has_at hh).1
      exact ⟨ord_del h1 _, by rw [delL_length this]; omega, fun e hm => h3 e (mem_del hm)⟩
    · exact ⟨h1, h2, h3⟩
  · exact ⟨h1, h2, h3⟩
theorem good_nil : Good [] := ⟨List.Pairwise.nil, by simp, fun e h => by simp at h⟩
end Go.Proofs.YtcdajajekmichafDoor
