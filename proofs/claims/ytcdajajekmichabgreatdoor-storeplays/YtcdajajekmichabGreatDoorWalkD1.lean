/-
  Contract of rillref.Record: what is wrong with a record.
-/
import Derived.Test.YtcdajajekmichabGreatDoorJointWalk3Walk4
import Derived.Test.YtcdajajekmichabGreatDoorJointWalkC3WalkC6
namespace Go.Proofs.YtcdajajekmichabGreatDoor
open Go.RowKit

theorem cat_none (a b : ByteArray) : ((a ++ b).toList = []) = (a.size + b.size = 0) := by rw [tl_nil, ByteArray.size_append]
theorem inI_three (k q t : Int) : Pk.inB k q t = (inI k 1 4 && (inI q 1 1099511627776 && inI t 0 1099511627776)) := by
  unfold Pk.inB inI
  cases decide (1 ≤ k) <;> cases decide (k ≤ 4) <;> cases decide (1 ≤ q) <;> cases decide (q ≤ 1099511627776) <;> rfl

set_option maxRecDepth 100000 in
set_option maxHeartbeats 1000000 in
theorem rrecord_out (k q t : Int) (s h d : ByteArray) (w : World) (hI : Pk.inB k q t = false) :
    Calls Tryz.prog 44 #[.agg #[.int .i64 k, .int .i64 q, .int .i64 t, .string s, .string h, .string d]] w fun e w' => e = .returned (.int .i64 (chkV k q t s h d)) ∧ Below w.heap.size w w' := by
  have R0 := hide (RB.new w k q t s h d 43)
  have B0 : Hid (Below w.heap.size w (w.alloc (.cells #[.int .i64 k, .int .i64 q, .int .i64 t, .string s, .string h, .string d] 43))) := hide ((Below.refl _ _).alloc (Nat.le_refl _) _)
  have M : Hid (chkV k q t s h d = 1) := hide (chk_out hI)
  rw [inI_three] at hI
  cases i1 : inI k 1 4 with
  | false =>
    have I1 := hide i1
    have I2 := hide i1
    have I3 := hide i1
    clear hI i1
    go_enter Tryz.func44, Tryz.ntmps44
    go_wp2_with (go_at_call 8; refine (in_any _ _ _ _).mono ?_; rintro e w' ⟨rfl, rfl⟩; first | rw [unhide I1] | rw [unhide I2] | rw [unhide I3])
    go_ret
    exact ⟨ret_int (unhide M).symm, unhide B0⟩
  | true =>
    cases i2 : inI q 1 1099511627776 with
    | false =>
      have I1 := hide i1
      have I2 := hide i2
      have I3 := hide i1
      clear hI i1 i2
      go_enter Tryz.func44, Tryz.ntmps44
      go_wp2_with (go_at_call 8; refine (in_any _ _ _ _).mono ?_; rintro e w' ⟨rfl, rfl⟩; first | rw [unhide I1] | rw [unhide I2] | rw [unhide I3])
      go_ret
      exact ⟨ret_int (unhide M).symm, unhide B0⟩
    | true =>
      cases i3 : inI t 0 1099511627776 with
      | false =>
        have I1 := hide i1
        have I2 := hide i2
        have I3 := hide i3
        clear hI i1 i2 i3
        go_enter Tryz.func44, Tryz.ntmps44
        go_wp2_with (go_at_call 8; refine (in_any _ _ _ _).mono ?_; rintro e w' ⟨rfl, rfl⟩; first | rw [unhide I1] | rw [unhide I2] | rw [unhide I3])
        go_ret
        exact ⟨ret_int (unhide M).symm, unhide B0⟩
      | true => rw [i1, i2, i3] at hI; cases hI

set_option maxRecDepth 100000 in
set_option maxHeartbeats 1000000 in
theorem rrecord_in (k q t : Int) (s h d : ByteArray) (w : World) (hs : s.size ≤ 140737488355328) (hh : h.size ≤ 140737488355328) (hd : d.size ≤ 140737488355328) (hI : Pk.inB k q t = true) :
    Calls Tryz.prog 44 #[.agg #[.int .i64 k, .int .i64 q, .int .i64 t, .string s, .string h, .string d]] w fun e w' => e = .returned (.int .i64 (chkV k q t s h d)) ∧ Below w.heap.size w w' := by
  have R0 := hide (RB.new w k q t s h d 43)
  have B0 : Hid (Below w.heap.size w (w.alloc (.cells #[.int .i64 k, .int .i64 q, .int .i64 t, .string s, .string h, .string d] 43))) := hide ((Below.refl _ _).alloc (Nat.le_refl _) _)
  have c1 : ¬ 9223372036854775807 < h.size + d.size := by omega
  have c2 : ¬ 9223372036854775807 < s.size + h.size := by omega
  have c3 : ¬ 9223372036854775807 < s.size + h.size + d.size := by omega
  have M := hide (chk_in (s := s) (h := h) (d := d) hI)
  obtain ⟨j1, j2, -, -, -, -⟩ := Pk.inB_iff.1 hI
  rw [inI_three] at hI
  obtain ⟨i1, i2, i3⟩ : inI k 1 4 = true ∧ inI q 1 1099511627776 = true ∧ inI t 0 1099511627776 = true := by simpa [Bool.and_eq_true] using hI
  have I1 := hide i1
  have I2 := hide i2
  have I3 := hide i3
  clear hI i1 i2 i3
  by_cases k1 : k = 1
  · subst k1
    obtain ⟨E, hE⟩ : ∃ E, E = errS false s := ⟨_, rfl⟩
    have CS : Hid (∀ W : World, Calls Tryz.prog 82 #[.string s] W fun e w' => e = .returned (.int .i64 E) ∧ Below W.heap.size W w') := hide (fun W => by rw [hE]; exact rsubject_any s W hs)
    have N : Hid (chkV 1 q t s h d = if E ≠ 0 then E else if 256 < h.size + d.size then 2 else 0) := hide (by rw [unhide M, if_pos rfl]; unfold msgE; rw [← hE])
    clear hE M
    go_enter Tryz.func44, Tryz.ntmps44
    go_wp2_with (go_at_call 8; refine (in_any _ _ _ _).mono ?_; rintro e w' ⟨rfl, rfl⟩; first | rw [unhide I1] | rw [unhide I2] | rw [unhide I3])
    refine (unhide CS _).mono ?_
    rintro e w1 ⟨rfl, b1⟩
    have R1 := (unhide R0).next b1
    have d4 := R1.c4
    have d5 := R1.c5
    have B1 := hide (bstep (unhide B0) b1)
    clear R1 R0 B0 b1
    go_wp2_with fail
    all_goals go_ret
    all_goals refine ⟨ret_int ?_, unhide B1⟩
    all_goals rw [unhide N]
    all_goals clear N CS d4 d5 B1 I1 I2 I3
    all_goals simp only [bne_iff_ne, ne_eq, bne_eq_false_iff_eq] at *
    all_goals split
    all_goals first | rfl | omega | (split <;> omega)
  by_cases k3 : k = 3
  · subst k3
    obtain ⟨E, hE⟩ : ∃ E, E = errS true s := ⟨_, rfl⟩
    have CS : Hid (∀ W : World, Calls Tryz.prog 83 #[.string s] W fun e w' => e = .returned (.int .i64 E) ∧ Below W.heap.size W w') := hide (fun W => by rw [hE]; exact rfilter_any s W hs)
    have N : Hid (chkV 3 q t s h d = if E ≠ 0 then E else if h.size + d.size = 0 then 0 else 1) := hide (by rw [unhide M, if_neg (by decide), if_pos rfl]; unfold purE; rw [← hE])
    clear hE M k1
    go_enter Tryz.func44, Tryz.ntmps44
    go_wp2_with (go_at_call 8; refine (in_any _ _ _ _).mono ?_; rintro e w' ⟨rfl, rfl⟩; first | rw [unhide I1] | rw [unhide I2] | rw [unhide I3])
    refine (unhide CS _).mono ?_
    rintro e w1 ⟨rfl, b1⟩
    have R1 := (unhide R0).next b1
    have d4 := R1.c4
    have d5 := R1.c5
    have B1 := hide (bstep (unhide B0) b1)
    clear R1 R0 B0 b1
    go_wp2_with fail
    all_goals go_ret
    all_goals refine ⟨ret_int ?_, unhide B1⟩
    all_goals rw [unhide N]
    all_goals clear N CS d4 d5 B1 I1 I2 I3
    all_goals simp only [tl_emp, ByteArray.size_append, Bool.not_eq_true', Bool.not_eq_false', decide_eq_true_eq, decide_eq_false_iff_not, bne_iff_ne, ne_eq, bne_eq_false_iff_eq] at *
    all_goals split
    all_goals first | rfl | omega | (split <;> omega)
  · have N : Hid (chkV k q t s h d = if s.size + (h.size + d.size) = 0 then 0 else 1) := hide (by rw [unhide M, if_neg k1, if_neg k3]; rfl)
    have n1 : (k == 1) = false := by simp; omega
    have n3 : (k == 3) = false := by simp; omega
    clear M k1 k3
    go_enter Tryz.func44, Tryz.ntmps44
    go_wp2_with (go_at_call 8; refine (in_any _ _ _ _).mono ?_; rintro e w' ⟨rfl, rfl⟩; first | rw [unhide I1] | rw [unhide I2] | rw [unhide I3])
    all_goals go_ret
    all_goals refine ⟨ret_int ?_, unhide B0⟩
    all_goals rw [unhide N]
    all_goals clear N R0 B0 I1 I2 I3
    all_goals simp only [tl_emp, ByteArray.size_append, Bool.not_eq_true', Bool.not_eq_false', decide_eq_true_eq, decide_eq_false_iff_not] at *
    all_goals first | (rw [if_pos (by omega)]; done) | (rw [if_neg (by omega)]; done)

theorem rrecord_any (k q t : Int) (s h d : ByteArray) (w : World) (hs : s.size ≤ 140737488355328) (hh : h.size ≤ 140737488355328) (hd : d.size ≤ 140737488355328) :
    Calls Tryz.prog 44 #[.agg #[.int .i64 k, .int .i64 q, .int .i64 t, .string s, .string h, .string d]] w fun e w' => e = .returned (.int .i64 (chkV k q t s h d)) ∧ Below w.heap.size w w' := by
  cases hI : Pk.inB k q t with
  | false => exact rrecord_out k q t s h d w hI
  | true => exact rrecord_in k q t s h d w hs hh hd hI
end Go.Proofs.YtcdajajekmichabGreatDoor
