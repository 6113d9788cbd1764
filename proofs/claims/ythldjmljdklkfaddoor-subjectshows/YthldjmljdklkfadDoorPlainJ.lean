/-
  Plain facts on the subject that two filters show: its tokens, and that both take it. No walk.
-/
import Derived.Test.YthldjmljdklkfadDoorPlainK
import Derived.Lib.Join
namespace Go.Proofs.YthldjmljdklkfadDoor
open Go.RowKit

/-- a token that is no wildcard -/
def xOf (a : List ByteArray) (k : Nat) : Option ByteArray := if k < a.length ∧ stB (tk a k) = false ∧ gtB (tk a k) = false then some (tk a k) else none
def pickO (x y : Option ByteArray) : ByteArray := match x with
  | some t => t
  | none => match y with
    | some t => t
    | none => ⟨#[120]⟩
def pickT (a b : List ByteArray) (k : Nat) : ByteArray := pickO (xOf a k) (xOf b k)
def shownL (a b : List ByteArray) : List ByteArray := (List.range (max a.length b.length)).map (pickT a b)
def shownS (a b : List ByteArray) : ByteArray := ⟨(Lib.join ((shownL a b).map (·.data.toList)) [46]).toArray⟩

theorem xOf_succ (x : ByteArray) (a : List ByteArray) (k : Nat) : xOf (x :: a) (k + 1) = xOf a k := by
  unfold xOf
  have e : tk (x :: a) (k + 1) = tk a k := by simp [tk]
  rw [e]
  simp
theorem xOf_nil (k : Nat) : xOf [] k = none := by simp [xOf]
theorem xOf_zero (x : ByteArray) (a : List ByteArray) : xOf (x :: a) 0 = if stB x = false ∧ gtB x = false then some x else none := by
  simp [xOf, tk]
theorem shown_cons (x y : ByteArray) (a b : List ByteArray) : shownL (x :: a) (y :: b) = pickO (xOf (x :: a) 0) (xOf (y :: b) 0) :: shownL a b := by
  unfold shownL
  rw [List.length_cons, List.length_cons, show max (a.length + 1) (b.length + 1) = max a.length b.length + 1 by omega, List.range_succ_eq_map, List.map_cons, List.map_map]
  congr 1
  apply List.map_congr_left
  intro k _
  simp [pickT, xOf_succ, Nat.succ_eq_add_one]
theorem shown_left (x : ByteArray) (a : List ByteArray) : shownL (x :: a) [] = pickO (xOf (x :: a) 0) none :: shownL a [] := by
  unfold shownL
  rw [List.length_cons, List.length_nil, show max (a.length + 1) 0 = max a.length 0 + 1 by omega, List.range_succ_eq_map, List.map_cons, List.map_map]
  congr 1
  apply List.map_congr_left
  intro k _
  simp [pickT, xOf_succ, xOf_nil, Nat.succ_eq_add_one]
theorem shown_right (y : ByteArray) (b : List ByteArray) : shownL [] (y :: b) = pickO none (xOf (y :: b) 0) :: shownL [] b := by
  unfold shownL
  rw [List.length_cons, List.length_nil, show max 0 (b.length + 1) = max 0 b.length + 1 by omega, List.range_succ_eq_map, List.map_cons, List.map_map]
  congr 1
  apply List.map_congr_left
  intro k _
  simp [pickT, xOf_succ, xOf_nil, Nat.succ_eq_add_one]
theorem x_gt : gtB ⟨#[120]⟩ = false := by decide +kernel
/-- what is picked is no sign for all that is left -/
theorem pick_gt (x y : ByteArray) (a b : List ByteArray) : gtB (pickO (xOf (x :: a) 0) (xOf (y :: b) 0)) = false := by
  rw [xOf_zero, xOf_zero]
  by_cases h : stB x = false ∧ gtB x = false
  · rw [if_pos h]; exact h.2
  · rw [if_neg h]
    by_cases g : stB y = false ∧ gtB y = false
    · rw [if_pos g]; exact g.2
    · rw [if_neg g]; exact x_gt
theorem pick_gt1 (x : ByteArray) (a : List ByteArray) : gtB (pickO (xOf (x :: a) 0) none) = false := by
  rw [xOf_zero]
  by_cases h : stB x = false ∧ gtB x = false
  · rw [if_pos h]; exact h.2
  · rw [if_neg h]; exact x_gt
theorem pick_gt2 (y : ByteArray) (b : List ByteArray) : gtB (pickO none (xOf (y :: b) 0)) = false := by
  rw [xOf_zero]
  by_cases h : stB y = false ∧ gtB y = false
  · rw [if_pos h]; exact h.2
  · rw [if_neg h]; exact x_gt
theorem left_takes {x : ByteArray} {a : List ByteArray} (y : Option ByteArray) (h : gtB x = false) : stB x = true ∨ x = pickO (xOf (x :: a) 0) y := by
  rw [xOf_zero]
  cases e : stB x with
  | true => exact Or.inl rfl
  | false => rw [if_pos ⟨rfl, h⟩]; exact Or.inr rfl
theorem alone_left : ∀ a : List ByteArray, coverL a (shownL a []) = true
  | [] => rfl
  | x :: a => by
    rw [shown_left, coverL_cons]
    cases h : gtB x with
    | true => exact Or.inl rfl
    | false => exact Or.inr ⟨pick_gt1 x a, left_takes none h, alone_left a⟩
theorem alone_right : ∀ b : List ByteArray, coverL b (shownL [] b) = true
  | [] => rfl
  | y :: b => by
    rw [shown_right, coverL_cons]
    cases h : gtB y with
    | true => exact Or.inl rfl
    | false =>
      refine Or.inr ⟨pick_gt2 y b, ?_, alone_right b⟩
      rw [xOf_zero]
      cases e : stB y with
      | true => exact Or.inl rfl
      | false => rw [if_pos ⟨rfl, h⟩]; exact Or.inr rfl
theorem shown_left_takes : ∀ (a b : List ByteArray), lastOnly b → meetL a b = true → coverL a (shownL a b) = true
  | [], b, _, h => by obtain rfl := meetL_nil.1 h; rfl
  | x :: a, [], _, h => by cases h
  | x :: a, y :: b, q, h => by
    rw [shown_cons, coverL_cons]
    rw [meetL_cons] at h
    cases hx : gtB x with
    | true => exact Or.inl rfl
    | false =>
      refine Or.inr ⟨pick_gt x y a b, left_takes _ hx, ?_⟩
      rcases h with h | h | ⟨_, h⟩
      · rw [hx] at h; cases h
      · rw [q.1 h]; exact alone_left a
      · exact shown_left_takes a b q.2 h
theorem shown_right_takes : ∀ (a b : List ByteArray), lastOnly a → meetL a b = true → coverL b (shownL a b) = true
  | [], b, _, h => by obtain rfl := meetL_nil.1 h; rfl
  | x :: a, [], _, h => by cases h
  | x :: a, y :: b, q, h => by
    rw [shown_cons, coverL_cons]
    rw [meetL_cons] at h
    cases hy : gtB y with
    | true => exact Or.inl rfl
    | false =>
      refine Or.inr ⟨pick_gt x y a b, ?_, ?_⟩
      · rw [xOf_zero, xOf_zero]
        cases e : stB y with
        | true => exact Or.inl rfl
        | false =>
          refine Or.inr ?_
          by_cases g : stB x = false ∧ gtB x = false
          · rw [if_pos g]
            rcases h with h | h | ⟨h | h | h, _⟩
            · rw [g.2] at h; cases h
            · rw [hy] at h; cases h
            · exact h.symm
            · rw [g.1] at h; cases h
            · rw [e] at h; cases h
          · rw [if_neg g, if_pos ⟨rfl, hy⟩]; rfl
      · rcases h with h | h | ⟨_, h⟩
        · rw [q.1 h]; exact alone_right b
        · rw [hy] at h; cases h
        · exact shown_right_takes a b q.2 h

/-- pieces that are joined are cut again -/
theorem pcs_join : ∀ (ps : List (List UInt8)), ps ≠ [] → (∀ p ∈ ps, p.count 46 = 0) → Pl.pcs (Lib.join ps [46]) = ps
  | [], h, _ => absurd rfl h
  | [p], _, h => by rw [Lib.join_one, Pl.pcs_none (h p (by simp))]
  | p :: q :: r, _, h => by
    have e : Lib.join (p :: q :: r) [46] = p ++ 46 :: Lib.join (q :: r) [46] := by
      simp [Lib.join, List.intercalate]
    rw [e, Pl.pcs_hit _ _ (h p (by simp)), pcs_join (q :: r) (by simp) (fun x hx => h x (by simp [hx]))]
theorem plain_dots {t : ByteArray} (h : isPlainB t = true) : t.data.toList.count 46 = 0 := by
  unfold isPlainB Pl.plainB at h
  simp only [Bool.and_eq_true, List.all_eq_true] at h
  rw [List.count_eq_zero]
  intro hm
  have := h.2.2 46 hm
  revert this
  decide
theorem x_plain : isPlainB ⟨#[120]⟩ = true := by decide
/-- of a right filter a token that is no wildcard is plain -/
theorem xOf_plain {f t : ByteArray} (h : errS true f = 0) {k : Nat} (e : xOf (Pl.toks f) k = some t) : isPlainB t = true := by
  unfold xOf at e
  split at e
  · rename_i hk
    cases e
    have := tok_of h hk.1
    unfold Pl.tokOk at this
    have h1 : ((tk (Pl.toks f) k).data.toList == [42]) = false := by
      have := hk.2.1
      unfold stB at this
      rwa [ByteArray.toList_eq] at this
    have h2 : ((tk (Pl.toks f) k).data.toList == [62]) = false := by
      have := hk.2.2
      unfold gtB at this
      rwa [ByteArray.toList_eq] at this
    rw [h1, h2] at this
    simpa [isPlainB] using this
  · cases e
theorem pick_plain {f g : ByteArray} (h : errS true f = 0) (h2 : errS true g = 0) (k : Nat) : isPlainB (pickT (Pl.toks f) (Pl.toks g) k) = true := by
  unfold pickT pickO
  cases e : xOf (Pl.toks f) k with
  | some t => exact xOf_plain h e
  | none =>
    cases e2 : xOf (Pl.toks g) k with
    | some t => exact xOf_plain h2 e2
    | none => exact x_plain
theorem shown_plain {f g : ByteArray} (h : errS true f = 0) (h2 : errS true g = 0) : ∀ t ∈ shownL (Pl.toks f) (Pl.toks g), isPlainB t = true := by
  intro t ht
  obtain ⟨k, _, rfl⟩ := List.mem_map.1 ht
  exact pick_plain h h2 k
theorem shown_toks {f g : ByteArray} (h : errS true f = 0) (h2 : errS true g = 0) : Pl.toks (shownS (Pl.toks f) (Pl.toks g)) = shownL (Pl.toks f) (Pl.toks g) := by
  have hne : shownL (Pl.toks f) (Pl.toks g) ≠ [] := by
    intro e
    have := congrArg List.length e
    simp only [shownL, List.length_map, List.length_range, List.length_nil] at this
    have h3 : (Pl.toks f).length ≠ 0 := fun e => toks_ne f (List.length_eq_zero_iff.1 e)
    omega
  have e : (Pl.toks (shownS (Pl.toks f) (Pl.toks g))).map (·.data.toList) = (shownL (Pl.toks f) (Pl.toks g)).map (·.data.toList) := by
    rw [Pl.toks_data]
    show Pl.pcs (Lib.join ((shownL (Pl.toks f) (Pl.toks g)).map (·.data.toList)) [46]) = _
    refine pcs_join _ (by simpa using hne) ?_
    intro p hp
    obtain ⟨t, ht, rfl⟩ := List.mem_map.1 hp
    exact plain_dots (shown_plain h h2 t ht)
  exact List.map_inj_right (fun a b hab => WideShapes.bytes_inj hab) |>.1 e
theorem shown_subject {f g : ByteArray} (h : errS true f = 0) (h2 : errS true g = 0) : errS false (shownS (Pl.toks f) (Pl.toks g)) = 0 := by
  have hm : manyB (shownS (Pl.toks f) (Pl.toks g)) = false := by
    unfold manyB
    rw [shown_toks h h2, shownL, List.length_map, List.length_range]
    have := few h
    have := few h2
    simp
    omega
  refine subj_good hm fun k hk => ?_
  rw [shown_toks h h2] at hk ⊢
  have e : tk (shownL (Pl.toks f) (Pl.toks g)) k = (shownL (Pl.toks f) (Pl.toks g))[k] := by simp [tk, List.getElem?_eq_getElem hk]
  rw [e]
  exact shown_plain h h2 _ (List.getElem_mem hk)
theorem shown_match {f g : ByteArray} (h : overlapB f g = true) : matchB f (shownS (Pl.toks f) (Pl.toks g)) = true ∧ matchB g (shownS (Pl.toks f) (Pl.toks g)) = true := by
  unfold overlapB at h
  simp only [Bool.and_eq_true] at h
  have h1 : errS true f = 0 := by simpa using h.1.1
  have h2 : errS true g = 0 := by simpa using h.1.2
  unfold matchB
  rw [shown_subject h1 h2, shown_toks h1 h2, h1, h2, shown_left_takes _ _ (filter_last h2) h.2, shown_right_takes _ _ (filter_last h1) h.2]
  exact ⟨rfl, rfl⟩
end Go.Proofs.YthldjmljdklkfadDoor
