/-
  A queue of pulls, pure: what each call makes of it. No walk.
-/
import Derived.Test.YtbflhmkapfodiaaPapD
namespace Go.Proofs.Ytbflhmkapfodiaa.Dk
open Go.RowKit

/-- a pull: how many it still asks for, till when, whether it waits -/
structure Pul where
  b : Int
  t : Int
  nw : Bool
def tmB (n : Int) : Bool := decide (0 ≤ n) && decide (n ≤ 1099511627776)
def pulB (p : Pul) : Bool := decide (1 ≤ p.b) && decide (p.b ≤ 50) && tmB p.t
/-- has it ended? -/
def endB (now : Int) (p : Pul) : Bool := (p.t != 0) && decide (p.t ≤ now)
def keepP (now : Int) (l : List Pul) : List Pul := l.filter (fun p => !endB now p)
def askE (now : Int) (p : Pul) (l : List Pul) : Int := if tmB now = true ∧ pulB p = true then (if 10 ≤ (keepP now l).length then 8 else 0) else 1
def askL (now : Int) (p : Pul) (l : List Pul) : List Pul := if tmB now = true ∧ pulB p = true then (if 10 ≤ (keepP now l).length then keepP now l else keepP now l ++ [p]) else l
/-- the first one is served -/
def servP : List Pul → List Pul
  | [] => []
  | p :: r => if p.b - 1 = 0 then r else ⟨p.b - 1, p.t, p.nw⟩ :: r
def atE (now : Int) : Int := if tmB now = true then 0 else 1
def atL (now : Int) (l : List Pul) : List Pul := if tmB now = true then keepP now l else l
def takB (now : Int) (l : List Pul) : Bool := tmB now && decide (0 < (keepP now l).length)
def takL (now : Int) (l : List Pul) : List Pul := if tmB now = true then servP (keepP now l) else l
def stayP (l : List Pul) : List Pul := l.filter (fun p => !p.nw)
def idlN (now : Int) (l : List Pul) : Int := if tmB now = true then ((keepP now l).length : Int) - ((stayP (keepP now l)).length : Int) else 0
def idlL (now : Int) (l : List Pul) : List Pul := if tmB now = true then stayP (keepP now l) else l
def watN (now : Int) (l : List Pul) : Int := if tmB now = true then ((keepP now l).length : Int) else 0
/-- what every call keeps -/
structure QOk (l : List Pul) : Prop where
  few : l.length ≤ 10
  one : ∀ p ∈ l, 1 ≤ p.b ∧ p.b ≤ 50
theorem QOk.nil : QOk [] := ⟨by simp, fun p h => by simp at h⟩
theorem QOk.filter {l : List Pul} (h : QOk l) (f : Pul → Bool) : QOk (l.filter f) := ⟨Nat.le_trans (List.length_filter_le _ _) h.few, fun p hp => h.one p ((List.mem_filter.1 hp).1)⟩
theorem QOk.keep {l : List Pul} (h : QOk l) (now : Int) : QOk (keepP now l) := h.filter _
theorem QOk.at {l : List Pul} (h : QOk l) (now : Int) : QOk (atL now l) := by
  unfold atL; split
  · exact h.keep now
  · exact h
theorem QOk.ask {l : List Pul} (h : QOk l) (now : Int) (p : Pul) : QOk (askL now p l) := by
  unfold askL
  split
  · rename_i q
    split
    · exact h.keep now
    · refine ⟨by rw [List.length_append, List.length_singleton]; omega, fun x hx => ?_⟩
      rcases List.mem_append.1 hx with z | z
      · exact (h.keep now).one x z
      · rw [List.mem_singleton] at z
        subst z
        have := q.2
        unfold pulB at this
        simp only [Bool.and_eq_true, decide_eq_true_eq] at this
        omega
  · exact h
theorem QOk.serv {l : List Pul} (h : QOk l) : QOk (servP l) := by
  cases l with
  | nil => exact h
  | cons p r =>
    have h1 := h.one p (by simp)
    have h2 := h.few
    rw [List.length_cons] at h2
    show QOk (if p.b - 1 = 0 then r else ⟨p.b - 1, p.t, p.nw⟩ :: r)
    split
    · exact ⟨by omega, fun x hx => h.one x (by simp [hx])⟩
    · refine ⟨by simpa using h.few, fun x hx => ?_⟩
      rcases List.mem_cons.1 hx with z | z
      · subst z
        show 1 ≤ p.b - 1 ∧ p.b - 1 ≤ 50
        omega
      · exact h.one x (by simp [z])
theorem QOk.take {l : List Pul} (h : QOk l) (now : Int) : QOk (takL now l) := by
  unfold takL; split
  · exact (h.keep now).serv
  · exact h
theorem QOk.idle {l : List Pul} (h : QOk l) (now : Int) : QOk (idlL now l) := by
  unfold idlL; split
  · exact (h.keep now).filter _
  · exact h
end Go.Proofs.Ytbflhmkapfodiaa.Dk
