/-
  Contracts of the landed package plan: numbers that are read.
-/
import Derived.Test.YtcbfmjjodfnacaaDoorWalkY1
import Derived.Test.YtcbfmjjodfnacaaDoorShelfA
import Derived.Lib.SmallJoins
import Derived.BigQuiet
namespace Go.Proofs.YtcbfmjjodfnacaaDoor
open Go.RowKit

theorem atoi_at (s : ByteArray) (w : World) (h : Pn.numB s.data.toList = true) :
    Calls Tryd.prog 91 #[.string s] w fun e w' => e = .returned (.tuple #[.int .i64 (Pn.digV s.data.toList), .nilIface]) ∧ Below w.heap.size w w' := by
  have hl := (Pn.numB_yes h).2.2.1
  have e : s.data.toList.length = s.size := by simp
  refine (Tryd.strconv_Atoi s _ (by omega) (Pn.numB_atoi h) w).mono ?_
  rintro e w' ⟨rfl, t, rfl⟩
  exact ⟨rfl, Joins.below_bytesWorld _ _ _ _ (Nat.le_refl _)⟩
set_option maxHeartbeats 1000000 in
/-- ReadNumber of what is none -/
theorem readNum_no (s : ByteArray) (w : World) (hs : s.size ≤ 140737488355328) (h : Pn.numB s.data.toList = false) :
    Calls Tryd.prog 82 #[.string s] w fun e w' => e = .returned (.tuple #[.int .i64 0, .bool false]) ∧ w' = w := by
  have PN := hide (fun W => isNumber_any s W hs)
  rw [h] at PN
  clear h
  go_enter Tryd.func82, Tryd.ntmps82
  go_wp2_with (first | (go_at_call 90; refine (unhide PN _).mono ?_; rintro e w6 ⟨rfl, rfl⟩))
  go_ret2
  exact ⟨rfl, rfl⟩
set_option maxHeartbeats 1000000 in
/-- ReadNumber of a number -/
theorem readNum_yes (s : ByteArray) (w : World) (h : Pn.numB s.data.toList = true) :
    Calls Tryd.prog 82 #[.string s] w fun e w' => e = .returned (.tuple #[.int .i64 (Pn.digV s.data.toList), .bool true]) ∧ Below w.heap.size w w' := by
  have hl := (Pn.numB_yes h).2.2.1
  have e : s.data.toList.length = s.size := by simp
  have PN := hide (fun W => isNumber_any s W (by omega))
  have PA := hide (atoi_at s w h)
  rw [h] at PN
  obtain ⟨x, hx⟩ : ∃ x, Pn.digV s.data.toList = x := ⟨_, rfl⟩
  rw [hx] at PA ⊢
  clear h hx hl e
  go_enter Tryd.func82, Tryd.ntmps82
  go_wp2_with (first | (go_at_call 90; refine (unhide PN _).mono ?_; rintro e w6 ⟨rfl, rfl⟩))
  refine (unhide PA).mono ?_
  rintro e w7 ⟨rfl, b7⟩
  have B7 := hide (fun n => below_drewN b7 n)
  clear PA PN b7
  go_wp2
  go_quiet (fail)
  go_wp2
  go_ret2
  exact ⟨rfl, unhide B7 _⟩
end Go.Proofs.YtcbfmjjodfnacaaDoor
