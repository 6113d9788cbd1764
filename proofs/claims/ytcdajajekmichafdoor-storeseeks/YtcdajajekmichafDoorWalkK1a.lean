/-
  Contract of rillkeep.is at subject.Match.
-/
import Derived.Test.YtcdajajekmichafDoorWalk5a
namespace Go.Proofs.YtcdajajekmichafDoor
open Go.RowKit

theorem pair_zero {a b : Int} : (pairErr a b == 0) = ((a == 0) && (b == 0)) := by
  unfold pairErr
  rw [Bool.eq_iff_iff]
  split <;> simp_all
theorem isMatch_any (f s : ByteArray) (w : World) (hf : f.size ≤ 140737488355328) (hs : s.size ≤ 140737488355328) :
    Calls Tryd.prog 12 #[.func (Fn.func 13) #[] #[], .string f, .string s] w fun e w' => e = .returned (.bool (matchB f s)) ∧ Below w.heap.size w w' := by
  cases hp : (pairErr (errS true f) (errS false s) == 0)
  · have R : matchB f s = false := by unfold matchB; rw [← pair_zero, hp]; rfl
    have HR := hide R
    clear R
    go_enter Tryd.func12, Tryd.ntmps12
    go_wp2_with (go_at_call 13; refine (match_any f s _ hf hs).mono ?_; rintro e w1 ⟨rfl, hb⟩)
    go_ret
    exact ⟨ret_is (unhide HR), hb⟩
  · go_enter Tryd.func12, Tryd.ntmps12
    go_wp2_with (go_at_call 13; refine (match_any f s _ hf hs).mono ?_; rintro e w1 ⟨rfl, hb⟩)
    go_ret
    exact ⟨rfl, hb⟩
/-- the same, with the answer known -/
theorem isMatch_at {f s : ByteArray} {a : Bool} (h : matchB f s = a) (w : World) (hf : f.size ≤ 140737488355328) (hs : s.size ≤ 140737488355328) :
    Calls Tryd.prog 12 #[.func (Fn.func 13) #[] #[], .string f, .string s] w fun e w' => e = .returned (.bool a) ∧ Below w.heap.size w w' := by
  subst h; exact isMatch_any f s w hf hs
end Go.Proofs.YtcdajajekmichafDoor
