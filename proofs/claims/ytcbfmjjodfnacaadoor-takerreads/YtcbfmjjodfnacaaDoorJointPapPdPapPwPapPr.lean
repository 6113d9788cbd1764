/-
  A text that is cut at a byte, as it grows at the end. No program.
  The words of a plan's numbers, one by one. No program.
  How far the words of a plan were read. No program.
-/
import Derived.Test.YtcbfmjjodfnacaaDoorJointPlainPapPa
import Derived.Test.YtcbfmjjodfnacaaDoorJointPapPbPapPc
import Derived.Test.YtcbfmjjodfnacaaDoorPapD
namespace Go.Proofs.YtcbfmjjodfnacaaDoor.Pn
open Go

theorem cut_length (b : UInt8) : ∀ l : List UInt8, (cut b l).length = l.count b + 1
  | [] => rfl
  | c :: r => by
    unfold cut
    by_cases h : c = b
    · rw [if_pos h, h]; simp [cut_length b r]
    · rw [if_neg h, List.length_modifyHead, cut_length b r, List.count_cons_of_ne h]
theorem cut_short (b : UInt8) : ∀ (l : List UInt8) (p : List UInt8), p ∈ cut b l → p.length ≤ l.length
  | [], p, h => by simp [cut] at h; subst h; simp
  | c :: r, p, h => by
    have ih := cut_short b r
    unfold cut at h
    by_cases e : c = b
    · rw [if_pos e] at h
      rcases List.mem_cons.1 h with h | h
      · subst h; simp
      · have := ih p h; simp; omega
    · rw [if_neg e] at h
      cases q : cut b r with
      | nil => rw [q] at h; simp at h
      | cons x y =>
        rw [q] at h ih
        simp only [List.modifyHead_cons, List.mem_cons] at h
        rcases h with h | h
        · subst h
          have := ih x (by simp)
          simp; omega
        · have := ih p (by simp [h])
          simp; omega
/-- the pieces grow at the end: a dot opens a new one -/
theorem cut_snoc_at (b : UInt8) : ∀ l : List UInt8, cut b (l ++ [b]) = cut b l ++ [[]]
  | [] => by simp [cut]
  | c :: r => by
    rw [List.cons_append]
    unfold cut
    by_cases e : c = b
    · rw [if_pos e, if_pos e, cut_snoc_at b r]; rfl
    · rw [if_neg e, if_neg e, cut_snoc_at b r]
      have := cut_ne b r
      cases q : cut b r with
      | nil => exact absurd q this
      | cons x y => rfl
/-- another byte joins the last one -/
theorem cut_snoc (b : UInt8) : ∀ (l : List UInt8) (c : UInt8), c ≠ b → ∀ (i : List (List UInt8)) (t : List UInt8), cut b l = i ++ [t] → cut b (l ++ [c]) = i ++ [t ++ [c]]
  | [], c, h, i, t, e => by
    simp only [cut] at e
    cases i with
    | nil => simp at e; subst e; simp [cut, h]
    | cons a bb => simp at e
  | d :: r, c, h, i, t, e => by
    rw [List.cons_append]
    unfold cut at e ⊢
    by_cases q : d = b
    · rw [if_pos q] at e ⊢
      cases i with
      | nil =>
        simp at e
        exact absurd e.2 (cut_ne b r)
      | cons a bb =>
        simp only [List.cons_append, List.cons.injEq] at e ⊢
        exact ⟨e.1, cut_snoc b r c h bb t e.2⟩
    · rw [if_neg q] at e ⊢
      have hr := cut_ne b r
      cases g : cut b r with
      | nil => exact absurd g hr
      | cons x y =>
        rw [g] at e
        simp only [List.modifyHead_cons] at e
        cases i with
        | nil =>
          simp only [List.nil_append, List.cons.injEq] at e
          obtain ⟨e1, e2⟩ := e
          subst e2
          rw [cut_snoc b r c h [] x (by rw [g]; rfl)]
          subst e1
          rfl
        | cons a bb =>
          simp only [List.cons_append, List.cons.injEq] at e
          obtain ⟨e1, e2⟩ := e
          rw [cut_snoc b r c h (x :: bb) t (by rw [g, e2]; rfl)]
          subst e1
          rfl
end Go.Proofs.YtcbfmjjodfnacaaDoor.Pn

namespace Go.Proofs.YtcbfmjjodfnacaaDoor
open Go

/-- the words of a plan's numbers, as they lie -/
def wd (i : Nat) : ByteArray := Pn.bs ((Pn.words8[i]?).getD [])
namespace Pn
theorem wordsT_take {v : List Int} (h8 : v.length = 8) {i : Nat} (hi : i < 8) : wordsT (words8.take (i + 1)) (v.take (i + 1)) = wordsT (words8.take i) (v.take i) ++ (if Dk.nth v i = 0 then [] else [(wd i).data.toList ++ 61 :: Lib.itoa (Dk.nth v i)]) := by
  have key : ∀ (ws : List (List UInt8)) (v : List Int) (i : Nat), i < ws.length → i < v.length → wordsT (ws.take (i + 1)) (v.take (i + 1)) = wordsT (ws.take i) (v.take i) ++ (if Dk.nth v i = 0 then [] else [(ws[i]?).getD [] ++ 61 :: Lib.itoa (Dk.nth v i)]) := by
    intro ws
    induction ws with
    | nil => intro v i h; simp at h
    | cons w ws ih =>
      intro v i h1 h2
      cases v with
      | nil => simp at h2
      | cons x v =>
        cases i with
        | zero =>
          simp only [List.take_succ_cons, List.take_zero, wordsT, Dk.nth]
          by_cases e : x = 0
          · simp [e]
          · simp [e]
        | succ i =>
          have := ih v i (by simpa using h1) (by simpa using h2)
          simp only [List.take_succ_cons, wordsT]
          have en : Dk.nth (x :: v) (i + 1) = Dk.nth v i := rfl
          rw [en, this]
          by_cases e : x = 0
          · rw [if_pos e, if_pos e]; simp
          · rw [if_neg e, if_neg e]; simp
  have := key words8 v i hi (by omega)
  rw [this]
  unfold wd
  rw [list_bs]
theorem comma_iff (f : ByteArray) : f.data.toList.contains 44 = decide (1 < (cut 44 f.data.toList).length) := by
  rw [cut_length, Bool.eq_iff_iff, decide_eq_true_eq, List.contains_iff_mem, ← List.count_pos_iff]
  omega
theorem nth_at {v : List Int} {i : Nat} (h : i < v.length) : Dk.nth v i ∈ v := by unfold Dk.nth; rw [List.getElem?_eq_getElem h]; exact List.getElem_mem h
end Pn
end Go.Proofs.YtcbfmjjodfnacaaDoor

namespace Go.Proofs.YtcbfmjjodfnacaaDoor
open Go

namespace Pn
/-- how far the words were read -/
def Rel (all : List (List UInt8)) (i : Nat) (rest : List (List UInt8)) (v : List Int) : Prop := rdN words8 all = (rdN (words8.drop i) rest).map (fun u => v.take i ++ u) ∧ v.length = 8 ∧ i ≤ 8 ∧ ∀ j, i ≤ j → j < 8 → Dk.nth v j = 0
theorem Rel.start (all : List (List UInt8)) : Rel all 0 all [0, 0, 0, 0, 0, 0, 0, 0] := by
  refine ⟨?_, rfl, by omega, fun j _ hj => ?_⟩
  · simp
  · have : j = 0 ∨ j = 1 ∨ j = 2 ∨ j = 3 ∨ j = 4 ∨ j = 5 ∨ j = 6 ∨ j = 7 := by omega
    rcases this with rfl | rfl | rfl | rfl | rfl | rfl | rfl | rfl <;> rfl
theorem take_nth {v : List Int} {i : Nat} (h : i < v.length) : v.take (i + 1) = v.take i ++ [Dk.nth v i] := by
  rw [List.take_succ_eq_append_getElem h]
  unfold Dk.nth
  rw [List.getElem?_eq_getElem h]
  rfl
theorem drop_word {i : Nat} (h : i < 8) : words8.drop i = (wd i).data.toList :: words8.drop (i + 1) := by
  have h2 : i < words8.length := h
  rw [List.drop_eq_getElem_cons h2]
  unfold wd
  rw [list_bs, List.getElem?_eq_getElem h2]
  rfl
theorem Rel.skip {all : List (List UInt8)} {i : Nat} {t : List UInt8} {ts : List (List UInt8)} {v : List Int} (h : Rel all i (t :: ts) v) (hi : i < 8) (hp : ¬ ((wd i).data.toList ++ [61]).isPrefixOf t = true) : Rel all (i + 1) (t :: ts) v := by
  obtain ⟨h1, h2, h3, h4⟩ := h
  refine ⟨?_, h2, by omega, fun j hj hj8 => h4 j (by omega) hj8⟩
  rw [h1, drop_word hi, rdN, if_neg hp, Option.map_map, take_nth (by omega), h4 i (Nat.le_refl _) hi]
  congr 1
  funext u
  simp
theorem Rel.bad {all : List (List UInt8)} {i : Nat} {t : List UInt8} {ts : List (List UInt8)} {v : List Int} (h : Rel all i (t :: ts) v) (hi : i < 8) (hp : ((wd i).data.toList ++ [61]).isPrefixOf t = true) (hd : digV (t.drop ((wd i).data.toList.length + 1)) < 1) : rdN words8 all = none := by
  obtain ⟨h1, _⟩ := h
  rw [h1, drop_word hi, rdN, if_pos hp, if_pos hd]
  rfl
theorem nth_set {v : List Int} {i j : Nat} {x : Int} (h : i < v.length) : Dk.nth (v.set i x) j = if i = j then x else Dk.nth v j := by
  unfold Dk.nth
  rw [List.getElem?_set]
  by_cases e : i = j
  · rw [if_pos e, if_pos e, if_pos (by omega)]; rfl
  · rw [if_neg e, if_neg e]
theorem Rel.took {all : List (List UInt8)} {i : Nat} {t : List UInt8} {ts : List (List UInt8)} {v : List Int} (h : Rel all i (t :: ts) v) (hi : i < 8) (hp : ((wd i).data.toList ++ [61]).isPrefixOf t = true) (hd : ¬ digV (t.drop ((wd i).data.toList.length + 1)) < 1) : Rel all (i + 1) ts (v.set i (digV (t.drop ((wd i).data.toList.length + 1)))) := by
  obtain ⟨h1, h2, h3, h4⟩ := h
  refine ⟨?_, by rw [List.length_set]; exact h2, by omega, fun j hj hj8 => by rw [nth_set (by omega), if_neg (by omega)]; exact h4 j (by omega) hj8⟩
  rw [h1, drop_word hi, rdN, if_pos hp, if_neg hd, Option.map_map, take_nth (by rw [List.length_set]; omega), nth_set (by omega), if_pos rfl, List.take_set_of_le (Nat.le_refl _)]
  congr 1
  funext u
  simp
theorem Rel.over {all : List (List UInt8)} {t : List UInt8} {ts : List (List UInt8)} {v : List Int} (h : Rel all 8 (t :: ts) v) : rdN words8 all = none := by
  obtain ⟨h1, _⟩ := h
  rw [h1]
  rfl
theorem Rel.done {all : List (List UInt8)} {i : Nat} {v : List Int} (h : Rel all i [] v) : rdN words8 all = some v := by
  obtain ⟨h1, h2, h3, h4⟩ := h
  have key : ∀ (n i : Nat), i + n = 8 → (∀ j, i ≤ j → j < 8 → Dk.nth v j = 0) → rdN (words8.drop i) [] = some (v.drop i) := by
    intro n
    induction n with
    | zero =>
      intro i hi _
      have e8 : i = 8 := by omega
      subst e8
      rw [show words8.drop 8 = [] from rfl, show v.drop 8 = [] from List.drop_of_length_le (by omega)]
      rfl
    | succ n ih =>
      intro i hi hz
      rw [drop_word (by omega), rdN, ih (i + 1) (by omega) (fun j hj hj8 => hz j (by omega) hj8), List.drop_eq_getElem_cons (show i < v.length by omega)]
      have := hz i (Nat.le_refl _) (by omega)
      unfold Dk.nth at this
      rw [List.getElem?_eq_getElem (show i < v.length by omega)] at this
      simp at this
      simp [this]
  rw [h1, key (8 - i) i (by omega) h4]
  simp
end Pn
end Go.Proofs.YtcbfmjjodfnacaaDoor
