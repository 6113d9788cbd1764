/-
  The law PullsCount, pure: how many messages are asked for in all. No walk.
-/
import Derived.Test.YtbflhmkapfodiaaPapPul
namespace Go.Proofs.Ytbflhmkapfodiaa.Dk
open Go.RowKit

/-- how many messages are asked for -/
def sumB : List Pul → Int
  | [] => 0
  | p :: r => p.b + sumB r
theorem sumB_append : ∀ a b : List Pul, sumB (a ++ b) = sumB a + sumB b
  | [], b => by simp [sumB]
  | p :: a, b => by simp [sumB, sumB_append a b]; omega
theorem sumB_in : ∀ l : List Pul, (∀ p ∈ l, 1 ≤ p.b ∧ p.b ≤ 50) → (l.length : Int) ≤ sumB l ∧ sumB l ≤ 50 * (l.length : Int)
  | [], _ => by simp [sumB]
  | p :: r, h => by
    have h1 := h p (by simp)
    have h2 := sumB_in r (fun x hx => h x (by simp [hx]))
    simp only [sumB, List.length_cons]
    omega
/-- none of them ever ends -/
def NoEnd (l : List Pul) : Prop := ∀ p ∈ l, p.t = 0
theorem NoEnd.keep {l : List Pul} (h : NoEnd l) (now : Int) : keepP now l = l := by
  unfold keepP
  rw [List.filter_eq_self]
  intro p hp
  unfold endB
  rw [h p hp]
  rfl
theorem NoEnd.serv {l : List Pul} (h : NoEnd l) : NoEnd (servP l) := by
  cases l with
  | nil => exact h
  | cons p r =>
    intro x hx
    have hx2 : x ∈ (if p.b - 1 = 0 then r else ⟨p.b - 1, p.t, p.nw⟩ :: r) := hx
    clear hx
    by_cases q : p.b - 1 = 0
    · rw [if_pos q] at hx2
      exact h x (by simp [hx2])
    · rw [if_neg q] at hx2
      rcases List.mem_cons.1 hx2 with z | z
      · subst z; exact h p (by simp)
      · exact h x (by simp [z])
theorem sumB_serv {l : List Pul} (h : 0 < l.length) : sumB (servP l) = sumB l - 1 := by
  cases l with
  | nil => simp at h
  | cons p r =>
    show sumB (if p.b - 1 = 0 then r else ⟨p.b - 1, p.t, p.nw⟩ :: r) = _
    split
    · simp only [sumB]; omega
    · simp only [sumB]; omega
end Go.Proofs.Ytbflhmkapfodiaa.Dk
