/-
  strings.CutPrefix: where the front is there, and where it isn't.
  Contracts of the landed package plan: numbers that are read.
-/
import Derived.Test.YtohjipnkoiifhagDoorJointBase0RowZ
import Derived.Test.YtohjipnkoiifhagDoorPapPf
import Derived.Test.YtohjipnkoiifhagDoorShelfT
import Derived.Test.YtohjipnkoiifhagDoorWalkY1
import Derived.Test.YtohjipnkoiifhagDoorShelfA
import Derived.Lib.SmallJoins
import Derived.BigQuiet
namespace Go.Proofs.YtohjipnkoiifhagDoor
open Go.RowKit

theorem cutPrefix_hit (t p : ByteArray) (w : World) (h : p.data.toList.isPrefixOf t.data.toList = true) :
    Calls Tryd.prog 54 #[.string t, .string p] w fun e w' => e = .returned (.tuple #[.string (Pn.bs (t.data.toList.drop p.size)), .bool true]) ∧ w' = w := by
  have e1 : Lib.hasPrefix t.data.toList p.data.toList = true := h
  have e2 : Lib.trimPrefix t.data.toList p.data.toList = t.data.toList.drop p.size := by
    unfold Lib.trimPrefix
    rw [e1, if_pos rfl]
    congr 1
  have := Tryd.strings_CutPrefix t p w
  rw [e1, e2] at this
  exact this
theorem cutPrefix_miss (t p : ByteArray) (w : World) (h : ¬ p.data.toList.isPrefixOf t.data.toList = true) :
    Calls Tryd.prog 54 #[.string t, .string p] w fun e w' => e = .returned (.tuple #[.string t, .bool false]) ∧ w' = w := by
  have e1 : Lib.hasPrefix t.data.toList p.data.toList = false := by
    unfold Lib.hasPrefix
    simpa using h
  have e2 : Lib.trimPrefix t.data.toList p.data.toList = t.data.toList := by
    unfold Lib.trimPrefix
    rw [e1]
    rfl
  have := Tryd.strings_CutPrefix t p w
  rw [e1, e2] at this
  exact this
end Go.Proofs.YtohjipnkoiifhagDoor

namespace Go.Proofs.YtohjipnkoiifhagDoor
open Go.RowKit

theorem atoi_at (s : ByteArray) (w : World) (h : Pn.numB s.data.toList = true) :
    Calls Tryd.prog 74 #[.string s] w fun e w' => e = .returned (.tuple #[.int .i64 (Pn.digV s.data.toList), .nilIface]) ∧ Below w.heap.size w w' := by
  have hl := (Pn.numB_yes h).2.2.1
  have e : s.data.toList.length = s.size := by simp
  refine (Tryd.strconv_Atoi s _ (by omega) (Pn.numB_atoi h) w).mono ?_
  rintro e w' ⟨rfl, t, rfl⟩
  exact ⟨rfl, Joins.below_bytesWorld _ _ _ _ (Nat.le_refl _)⟩
set_option maxHeartbeats 1000000 in
/-- ReadNumber of what is none -/
theorem readNum_no (s : ByteArray) (w : World) (hs : s.size ≤ 140737488355328) (h : Pn.numB s.data.toList = false) :
    Calls Tryd.prog 55 #[.string s] w fun e w' => e = .returned (.tuple #[.int .i64 0, .bool false]) ∧ w' = w := by
  have PN := hide (fun W => isNumber_any s W hs)
  rw [h] at PN
  clear h
  go_enter Tryd.func55, Tryd.ntmps55
  go_wp2_with (first | (go_at_call 73; refine (unhide PN _).mono ?_; rintro e w6 ⟨rfl, rfl⟩))
  go_ret2
  exact ⟨rfl, rfl⟩
set_option maxHeartbeats 1000000 in
/-- ReadNumber of a number -/
theorem readNum_yes (s : ByteArray) (w : World) (h : Pn.numB s.data.toList = true) :
    Calls Tryd.prog 55 #[.string s] w fun e w' => e = .returned (.tuple #[.int .i64 (Pn.digV s.data.toList), .bool true]) ∧ Below w.heap.size w w' := by
  have hl := (Pn.numB_yes h).2.2.1
  have e : s.data.toList.length = s.size := by simp
  have PN := hide (fun W => isNumber_any s W (by omega))
  have PA := hide (atoi_at s w h)
  rw [h] at PN
  obtain ⟨x, hx⟩ : ∃ x, Pn.digV s.data.toList = x := ⟨_, rfl⟩
  rw [hx] at PA ⊢
  clear h hx hl e
  go_enter Tryd.func55, Tryd.ntmps55
  go_wp2_with (first | (go_at_call 73; refine (unhide PN _).mono ?_; rintro e w6 ⟨rfl, rfl⟩))
  refine (unhide PA).mono ?_
  rintro e w7 ⟨rfl, b7⟩
  have B7 := hide (fun n => below_drewN b7 n)
  clear PA PN b7
  go_wp2
  go_quiet (fail)
  go_wp2
  go_ret2
  exact ⟨rfl, unhide B7 _⟩
end Go.Proofs.YtohjipnkoiifhagDoor
