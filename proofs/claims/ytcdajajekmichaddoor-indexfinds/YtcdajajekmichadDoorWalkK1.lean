/-
  Contracts of rillkeep's helpers: is (the three questions as function values), known.
-/
import Derived.Test.YtcdajajekmichadDoorWalk5
import Derived.Test.YtcdajajekmichadDoorWalkK1a
namespace Go.Proofs.YtcdajajekmichadDoor
open Go.RowKit

theorem isOverlap_any (f s : ByteArray) (w : World) (hf : f.size ≤ 140737488355328) (hs : s.size ≤ 140737488355328) :
    Calls Tryd.prog 11 #[.func (Fn.func 13) #[] #[], .string f, .string s] w fun e w' => e = .returned (.bool (overlapB f s)) ∧ Below w.heap.size w w' := by
  cases hp : (pairErr (errS true f) (errS true s) == 0)
  · have R : overlapB f s = false := by unfold overlapB; rw [← pair_zero, hp]; rfl
    have HR := hide R
    clear R
    go_enter Tryd.func11, Tryd.ntmps11
    go_wp2_with (go_at_call 13; refine (overlap_any f s _ hf hs).mono ?_; rintro e w1 ⟨rfl, hb⟩)
    go_ret
    exact ⟨ret_is (unhide HR), hb⟩
  · go_enter Tryd.func11, Tryd.ntmps11
    go_wp2_with (go_at_call 13; refine (overlap_any f s _ hf hs).mono ?_; rintro e w1 ⟨rfl, hb⟩)
    go_ret
    exact ⟨rfl, hb⟩
theorem isCovers_any (f s : ByteArray) (w : World) (hf : f.size ≤ 140737488355328) (hs : s.size ≤ 140737488355328) :
    Calls Tryd.prog 11 #[.func (Fn.func 12) #[] #[], .string f, .string s] w fun e w' => e = .returned (.bool (coversB f s)) ∧ Below w.heap.size w w' := by
  cases hp : (pairErr (errS true f) (errS true s) == 0)
  · have R : coversB f s = false := by unfold coversB; rw [← pair_zero, hp]; rfl
    have HR := hide R
    clear R
    go_enter Tryd.func11, Tryd.ntmps11
    go_wp2_with (go_at_call 12; refine (covers_any f s _ hf hs).mono ?_; rintro e w1 ⟨rfl, hb⟩)
    go_ret
    exact ⟨ret_is (unhide HR), hb⟩
  · go_enter Tryd.func11, Tryd.ntmps11
    go_wp2_with (go_at_call 12; refine (covers_any f s _ hf hs).mono ?_; rintro e w1 ⟨rfl, hb⟩)
    go_ret
    exact ⟨rfl, hb⟩
theorem isOverlap_at {f s : ByteArray} {a : Bool} (h : overlapB f s = a) (w : World) (hf : f.size ≤ 140737488355328) (hs : s.size ≤ 140737488355328) :
    Calls Tryd.prog 11 #[.func (Fn.func 13) #[] #[], .string f, .string s] w fun e w' => e = .returned (.bool a) ∧ Below w.heap.size w w' := by
  subst h; exact isOverlap_any f s w hf hs
theorem isCovers_at {f s : ByteArray} {a : Bool} (h : coversB f s = a) (w : World) (hf : f.size ≤ 140737488355328) (hs : s.size ≤ 140737488355328) :
    Calls Tryd.prog 11 #[.func (Fn.func 12) #[] #[], .string f, .string s] w fun e w' => e = .returned (.bool a) ∧ Below w.heap.size w w' := by
  subst h; exact isCovers_any f s w hf hs
/-- the three questions under one name -/
def askB (n : Nat) (f s : ByteArray) : Bool := if n = 14 then matchB f s else if n = 13 then overlapB f s else coversB f s
theorem ask_match (f s : ByteArray) : askB 14 f s = matchB f s := rfl
theorem ask_overlap (f s : ByteArray) : askB 13 f s = overlapB f s := rfl
theorem ask_covers (f s : ByteArray) : askB 12 f s = coversB f s := rfl
theorem is_any (n : Nat) (hn : n = 14 ∨ n = 13 ∨ n = 12) (f s : ByteArray) (w : World) (hf : f.size ≤ 140737488355328) (hs : s.size ≤ 140737488355328) :
    Calls Tryd.prog 11 #[.func (Fn.func n) #[] #[], .string f, .string s] w fun e w' => e = .returned (.bool (askB n f s)) ∧ Below w.heap.size w w' := by
  rcases hn with rfl | rfl | rfl
  · exact isMatch_any f s w hf hs
  · exact isOverlap_any f s w hf hs
  · exact isCovers_any f s w hf hs
theorem known1 : matchB ⟨#[97, 46, 42, 46, 62]⟩ ⟨#[97, 46, 98, 46, 99]⟩ = true := by decide +kernel
theorem known2 : matchB ⟨#[97, 46, 42]⟩ ⟨#[97]⟩ = false := by decide +kernel
theorem known3 : overlapB ⟨#[97, 46, 42]⟩ ⟨#[42, 46, 98]⟩ = true := by decide +kernel
theorem known4 : coversB ⟨#[97, 46, 62]⟩ ⟨#[97, 46, 42, 46, 98]⟩ = true := by decide +kernel
set_option maxHeartbeats 400000 in
theorem known_any (w : World) :
    Calls Tryd.prog 8 #[] w fun e w' => e = .returned (.bool true) ∧ Below w.heap.size w w' := by
  go_enter Tryd.func8, Tryd.ntmps8
  go_wp2_with fail
  refine (isMatch_at known1 _ (by decide) (by decide)).mono ?_
  rintro e w1 ⟨rfl, b1⟩
  go_wp2_with fail
  refine (isMatch_at known2 _ (by decide) (by decide)).mono ?_
  rintro e w2 ⟨rfl, b2⟩
  go_wp2_with fail
  refine (isOverlap_at known3 _ (by decide) (by decide)).mono ?_
  rintro e w3 ⟨rfl, b3⟩
  go_wp2_with fail
  refine (isCovers_at known4 _ (by decide) (by decide)).mono ?_
  rintro e w4 ⟨rfl, b4⟩
  go_wp2
  go_ret
  exact ⟨rfl, bstep (bstep (bstep b1 b2) b3) b4⟩
end Go.Proofs.YtcdajajekmichadDoor
