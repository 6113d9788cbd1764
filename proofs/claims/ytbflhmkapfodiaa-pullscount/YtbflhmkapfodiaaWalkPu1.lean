/-
  Contracts of pulls.isTime, isPull, and of the closures of forgetEnded and Idle.
-/
import Derived.Test.YtbflhmkapfodiaaRowPul
namespace Go.Proofs.Ytbflhmkapfodiaa.Dk
open Go.RowKit

set_option maxHeartbeats 1000000 in
theorem ptime_any (n : Int) (w : World) : Calls Try.prog 15 #[.int .i64 n] w fun e w' => e = .returned (.bool (tmB n)) ∧ w' = w := by
  by_cases h0 : 0 ≤ n
  · have g0 : decide ((0 : Int) ≤ n) = true := decide_eq_true h0
    have HV : Hid (tmB n = decide (n ≤ 1099511627776)) := hide (by unfold tmB; rw [g0, Bool.true_and])
    go_enter Try.func15, Try.ntmps15
    go_wp2_with fail
    go_ret
    rw [unhide HV]
    exact ⟨rfl, rfl⟩
  · have g0 : decide ((0 : Int) ≤ n) = false := decide_eq_false h0
    have HV : Hid (tmB n = false) := hide (by unfold tmB; rw [g0, Bool.false_and])
    go_enter Try.func15, Try.ntmps15
    go_wp2_with fail
    go_ret
    rw [unhide HV]
    exact ⟨rfl, rfl⟩
set_option maxHeartbeats 1000000 in
theorem ispull_any (p : Pul) (w : World) : Calls Try.prog 16 #[pulV p] w fun e w' => e = .returned (.bool (pulB p)) ∧ Below w.heap.size w w' := by
  have B0 := hide (show Below w.heap.size w (w.alloc (pulO p)) from (Below.refl _ _).alloc (Nat.le_refl _) _)
  have HT := hide (ptime_any p.t)
  by_cases h0 : 1 ≤ p.b
  · have g0 : decide ((1 : Int) ≤ p.b) = true := decide_eq_true h0
    by_cases h1 : p.b ≤ 50
    · have g1 : decide (p.b ≤ (50 : Int)) = true := decide_eq_true h1
      have HV : Hid (pulB p = tmB p.t) := hide (by unfold pulB; rw [g0, g1, Bool.true_and, Bool.true_and])
      go_enter Try.func16, Try.ntmps16
      go_wp2_with fail
      refine (unhide HT _).mono ?_
      rintro e w1 ⟨rfl, hw⟩
      rw [hw]
      clear hw
      go_wp2_with fail
      go_ret
      rw [unhide HV]
      exact ⟨rfl, unhide B0⟩
    · have g1 : decide (p.b ≤ (50 : Int)) = false := decide_eq_false h1
      have HV : Hid (pulB p = false) := hide (by unfold pulB; rw [g0, g1, Bool.true_and, Bool.false_and])
      go_enter Try.func16, Try.ntmps16
      go_wp2_with fail
      go_ret
      rw [unhide HV]
      exact ⟨rfl, unhide B0⟩
  · have g0 : decide ((1 : Int) ≤ p.b) = false := decide_eq_false h0
    have HV : Hid (pulB p = false) := hide (by unfold pulB; rw [g0, Bool.false_and, Bool.false_and])
    go_enter Try.func16, Try.ntmps16
    go_wp2_with fail
    go_ret
    rw [unhide HV]
    exact ⟨rfl, unhide B0⟩
set_option maxHeartbeats 1000000 in
theorem idle1_any (p : Pul) (w : World) : Calls Try.prog 22 #[pulV p] w fun e w' => e = .returned (.bool p.nw) ∧ Below w.heap.size w w' := by
  have B0 := hide (show Below w.heap.size w (w.alloc (pulO p)) from (Below.refl _ _).alloc (Nat.le_refl _) _)
  go_enter Try.func22, Try.ntmps22
  go_wp2_with fail
  go_ret
  exact ⟨rfl, unhide B0⟩
set_option maxHeartbeats 1000000 in
theorem forget1_any (p : Pul) (now : Int) (b : Nat) (w : World) (hb : w.cell? ⟨b, 0, none⟩ = some (.int .i64 now)) (hl : b < w.heap.size) :
    Calls Try.prog 23 #[pulV p, .pointer (some ⟨b, 0, none⟩)] w fun e w' => e = .returned (.bool (endB now p)) ∧ Below w.heap.size w w' := by
  have B0 := hide (show Below w.heap.size w (w.alloc (pulO p)) from (Below.refl _ _).alloc (Nat.le_refl _) _)
  have h2 : (w.alloc (pulO p)).cell? ⟨b, 0, none⟩ = some (.int .i64 now) := by rw [World.cell?_alloc_lt _ _ _ hl]; exact hb
  cases g0 : (p.t != 0) with
  | true =>
    have HV : Hid (endB now p = decide (p.t ≤ now)) := hide (by unfold endB; rw [g0, Bool.true_and])
    go_enter Try.func23, Try.ntmps23
    go_wp2_with fail
    go_ret
    rw [unhide HV]
    exact ⟨rfl, unhide B0⟩
  | false =>
    have HV : Hid (endB now p = false) := hide (by unfold endB; rw [g0, Bool.false_and])
    go_enter Try.func23, Try.ntmps23
    go_wp2_with fail
    go_ret
    rw [unhide HV]
    exact ⟨rfl, unhide B0⟩
end Go.Proofs.Ytbflhmkapfodiaa.Dk
