/-
  Contract of record.bodyOf: a record's body.
  Contracts of record.checkMessage, checkPurge, checkBare and Check: they answer what is wrong with a record.
  Contract of record.Encode: what is wrong with the record, or its bytes.
  The program's log: its disk, Blocks, the last block, Sync, Append, over what is asked of any disk.
-/
import Derived.Test.YtmccpkpeimejhahGreatDoorJointWalkN2WalkN3RowBWalkC1
import Derived.Test.YtmccpkpeimejhahGreatDoorJointWalkSplitWalk2Plain2Plain5
import Derived.Test.YtmccpkpeimejhahGreatDoorJointWorksFRowMWalkM1WalkM2
import Derived.StillTailTactics
namespace Go.Proofs.YtmccpkpeimejhahGreatDoor
open Go.RowKit

set_option maxRecDepth 100000 in
set_option maxHeartbeats 200000 in
theorem bodyof_any (k q t : Int) (s h d : ByteArray) (w : World) (hk0 : 1 ≤ k) (hk : k ≤ 4) (hq : q ≤ 1099511627776) (ht : t ≤ 1099511627776) (hs : s.size ≤ 1000) (hh : h.size ≤ 1000) (hd : d.size ≤ 1000) :
    Calls Tryz.prog 115 #[.agg #[.int .i64 k, .int .i64 q, .int .i64 t, .string s, .string h, .string d]] w fun e w' => e = .returned (.string (bs (Pk.bod ⟨k, q, t, s.data.toList, h.data.toList, d.data.toList⟩))) ∧ Below w.heap.size w w' := by
  obtain ⟨X0, hX0⟩ : ∃ X, X = bs [UInt8.ofNat k.toNat] := ⟨_, rfl⟩
  obtain ⟨X1, hX1⟩ : ∃ X, X = bs (Pk.enc q.toNat) := ⟨_, rfl⟩
  obtain ⟨X2, hX2⟩ : ∃ X, X = bs (Pk.enc t.toNat) := ⟨_, rfl⟩
  obtain ⟨X3, hX3⟩ : ∃ X, X = bs (Pk.txt s.data.toList) := ⟨_, rfl⟩
  obtain ⟨X4, hX4⟩ : ∃ X, X = bs (Pk.txt h.data.toList) := ⟨_, rfl⟩
  obtain ⟨X5, hX5⟩ : ∃ X, X = bs (Pk.txt d.data.toList) := ⟨_, rfl⟩
  have z0 : X0.size ≤ 1 := by rw [hX0, bs_size]; simp
  have z1 : X1.size ≤ 9 := by rw [hX1]; exact enc_size hq
  have z2 : X2.size ≤ 9 := by rw [hX2]; exact enc_size ht
  have z3 : X3.size ≤ 1009 := by rw [hX3]; exact txt_few hs
  have z4 : X4.size ≤ 1009 := by rw [hX4]; exact txt_few hh
  have z5 : X5.size ≤ 1009 := by rw [hX5]; exact txt_few hd
  have c1 : ¬ 9223372036854775807 < X1.size + X2.size := by omega
  have c2 : ¬ 9223372036854775807 < X0.size + (X1.size + X2.size) := by omega
  have c3 : ¬ 9223372036854775807 < X0.size + (X1.size + X2.size) + X3.size := by omega
  have c4 : ¬ 9223372036854775807 < X0.size + (X1.size + X2.size) + X3.size + X4.size := by omega
  have c5 : ¬ 9223372036854775807 < X0.size + (X1.size + X2.size) + X3.size + X4.size + X5.size := by omega
  have E := hide (bod_cat k q t s h d)
  rw [← hX0, ← hX1, ← hX2, ← hX3, ← hX4, ← hX5] at E
  have C1 : Hid (∀ W : World, Calls Tryz.prog 138 #[.int .i64 q] W fun e w' => e = .returned (.string X1) ∧ Below W.heap.size W w') := hide (fun W => by rw [hX1]; exact number_any q W (by omega))
  have C2 : Hid (∀ W : World, Calls Tryz.prog 138 #[.int .i64 t] W fun e w' => e = .returned (.string X2) ∧ Below W.heap.size W w') := hide (fun W => by rw [hX2]; exact number_any t W (by omega))
  have C3 : Hid (∀ W : World, Calls Tryz.prog 116 #[.string s] W fun e w' => e = .returned (.string X3) ∧ Below W.heap.size W w') := hide (fun W => by rw [hX3]; exact text_any s W (by omega))
  have C4 : Hid (∀ W : World, Calls Tryz.prog 116 #[.string h] W fun e w' => e = .returned (.string X4) ∧ Below W.heap.size W w') := hide (fun W => by rw [hX4]; exact text_any h W (by omega))
  have C5 : Hid (∀ W : World, Calls Tryz.prog 116 #[.string d] W fun e w' => e = .returned (.string X5) ∧ Below W.heap.size W w') := hide (fun W => by rw [hX5]; exact text_any d W (by omega))
  have hcv := hide (conv_one' (w.alloc (.cells #[.int .i64 k, .int .i64 q, .int .i64 t, .string s, .string h, .string d] 42)) k k.toNat (by omega) (by omega))
  rw [← hX0] at hcv
  clear hX0 hX1 hX2 hX3 hX4 hX5
  go_enter Tryz.func115, Tryz.ntmps115
  go_wp2_with fail
  have hcv2 := unhide hcv
  rw [show (w.alloc (.cells #[.int .i64 k, .int .i64 q, .int .i64 t, .string s, .string h, .string d] 42)).heap.size = w.heap.size + 1 from by simp] at hcv2
  rw [hcv2]
  clear hcv2 hcv
  go_wp2_with fail
  have B0 : Hid (Below w.heap.size w ((w.alloc (.cells #[.int .i64 k, .int .i64 q, .int .i64 t, .string s, .string h, .string d] 42)).alloc (.cells #[.int .u8 k] 5))) := hide (((Below.refl _ _).alloc (Nat.le_refl _) _).alloc (by simp) _)
  have R0 := hide ((RB.new w k q t s h d 42).alloc (.cells #[.int .u8 k] 5)).drew
  go_region_held3 (fun w' => w'.cell? ⟨w.heap.size, 1, none⟩ = some (.int .i64 q) ∧ w'.cell? ⟨w.heap.size, 2, none⟩ = some (.int .i64 t)) (first | (refine ⟨?_, ?_⟩ <;> assumption) | go_keep)
    (first
      | (go_at_call 138; refine (unhide C1 _).mono ?_; rintro e w2 ⟨rfl, b2⟩; have R2 := hide ((unhide R0).next b2); have d1 := (unhide R2).c1; have d2 := (unhide R2).c2; clear C1)
      | (go_at_call 138; refine (unhide C2 _).mono ?_; rintro e w3 ⟨rfl, b3⟩; have R3 := hide ((unhide R2).next b3); have e1 := (unhide R3).c1; have e2 := (unhide R3).c2; clear C2))
  have B3 := hide (bstep (bstep (unhide B0).drew b2) b3)
  have R4 := hide (unhide R3).drew
  have l3 := (unhide R4).c3
  have l4 := (unhide R4).c4
  have l5 := (unhide R4).c5
  clear b2 b3 d1 d2 e1 e2 B0 R0 R2 R3
  go_wp2_with fail
  go_region_held3 (fun w' => w'.cell? ⟨w.heap.size, 3, none⟩ = some (.string s) ∧ w'.cell? ⟨w.heap.size, 4, none⟩ = some (.string h) ∧ w'.cell? ⟨w.heap.size, 5, none⟩ = some (.string d)) (first | (refine ⟨?_, ?_, ?_⟩ <;> assumption) | go_keep)
    (first
      | (go_at_call 116; refine (unhide C3 _).mono ?_; rintro e w5 ⟨rfl, b5⟩; have R5 := hide ((unhide R4).next b5); have d3 := (unhide R5).c3; have d4 := (unhide R5).c4; have d5 := (unhide R5).c5; clear C3)
      | (go_at_call 116; refine (unhide C4 _).mono ?_; rintro e w6 ⟨rfl, b6⟩; have R6 := hide ((unhide R5).next b6); have e3 := (unhide R6).c3; have e4 := (unhide R6).c4; have e5 := (unhide R6).c5; clear C4)
      | (go_at_call 116; refine (unhide C5 _).mono ?_; rintro e w7 ⟨rfl, b7⟩; have R7 := hide ((unhide R6).next b7); have f3 := (unhide R7).c3; have f4 := (unhide R7).c4; have f5 := (unhide R7).c5; clear C5))
  go_wp2_with fail
  go_ret
  exact ⟨by rw [← unhide E]; rfl, bstep (bstep (bstep (unhide B3).drew b5) b6) b7⟩
end Go.Proofs.YtmccpkpeimejhahGreatDoor

namespace Go.Proofs.YtmccpkpeimejhahGreatDoor
open Go.RowKit

def msgE (s h d : ByteArray) : Int := if errS false s ≠ 0 then errS false s else if 256 < h.size + d.size then 2 else 0
def purE (s h d : ByteArray) : Int := if errS true s ≠ 0 then errS true s else if h.size + d.size = 0 then 0 else 1
def barE (s h d : ByteArray) : Int := if s.size + (h.size + d.size) = 0 then 0 else 1
def chkV (k q t : Int) (s h d : ByteArray) : Int := Pk.chk ⟨k, q, t, s.data.toList, h.data.toList, d.data.toList⟩
theorem len_size (s : ByteArray) : s.data.toList.length = s.size := by simp
theorem tl_nil (s : ByteArray) : (s.toList = []) = (s.size = 0) := by
  rw [ByteArray.toList_eq, ← len_size, List.length_eq_zero_iff]
theorem tl_emp (s : ByteArray) : s.toList.isEmpty = decide (s.size = 0) := by
  rw [ByteArray.toList_eq, ← len_size, Bool.eq_iff_iff, List.isEmpty_iff, decide_eq_true_eq, List.length_eq_zero_iff]
theorem chkV_eq (k q t : Int) (s h d : ByteArray) : chkV k q t s h d = if Pk.inB k q t = false then 1 else if k = 1 then msgE s h d else if k = 3 then purE s h d else barE s h d := by
  unfold chkV Pk.chk msgE purE barE errS
  simp only [len_size]

set_option maxRecDepth 100000 in
set_option maxHeartbeats 400000 in
theorem ckmsg_any (k q t : Int) (s h d : ByteArray) (w : World) (hs : s.size ≤ 140737488355328) (hh : h.size ≤ 140737488355328) (hd : d.size ≤ 140737488355328) :
    Calls Tryz.prog 111 #[.agg #[.int .i64 k, .int .i64 q, .int .i64 t, .string s, .string h, .string d]] w fun e w' => e = .returned (.int .i64 (msgE s h d)) ∧ Below w.heap.size w w' := by
  obtain ⟨E, hE⟩ : ∃ E, E = errS false s := ⟨_, rfl⟩
  have C : Hid (∀ W : World, Calls Tryz.prog 34 #[.string s] W fun e w' => e = .returned (.int .i64 E) ∧ Below W.heap.size W w') := hide (fun W => by rw [hE]; exact subject_any s W hs)
  have R0 := hide (RB.new w k q t s h d 42)
  have B0 : Hid (Below w.heap.size w (w.alloc (.cells #[.int .i64 k, .int .i64 q, .int .i64 t, .string s, .string h, .string d] 42))) := hide ((Below.refl _ _).alloc (Nat.le_refl _) _)
  have M : Hid (msgE s h d = if E ≠ 0 then E else if 256 < h.size + d.size then 2 else 0) := hide (by unfold msgE; rw [← hE])
  clear hE
  go_enter Tryz.func111, Tryz.ntmps111
  go_wp2_with fail
  refine (unhide C _).mono ?_
  rintro e w1 ⟨rfl, b1⟩
  have R1 := (unhide R0).next b1
  have c4 := R1.c4
  have c5 := R1.c5
  have B1 := hide (bstep (unhide B0) b1)
  clear R1 R0 B0 b1
  go_wp2_with fail
  all_goals go_ret
  all_goals refine ⟨ret_int ?_, unhide B1⟩
  all_goals rw [unhide M]
  all_goals clear M C c4 c5 B1
  all_goals simp only [bne_iff_ne, ne_eq, bne_eq_false_iff_eq] at *
  all_goals split
  all_goals first | rfl | omega | (split <;> omega)

set_option maxRecDepth 100000 in
set_option maxHeartbeats 400000 in
theorem ckpur_any (k q t : Int) (s h d : ByteArray) (w : World) (hs : s.size ≤ 140737488355328) :
    Calls Tryz.prog 112 #[.agg #[.int .i64 k, .int .i64 q, .int .i64 t, .string s, .string h, .string d]] w fun e w' => e = .returned (.int .i64 (purE s h d)) ∧ Below w.heap.size w w' := by
  obtain ⟨E, hE⟩ : ∃ E, E = errS true s := ⟨_, rfl⟩
  have C : Hid (∀ W : World, Calls Tryz.prog 47 #[.string s] W fun e w' => e = .returned (.int .i64 E) ∧ Below W.heap.size W w') := hide (fun W => by rw [hE]; exact filter_any s W hs)
  have R0 := hide (RB.new w k q t s h d 42)
  have B0 : Hid (Below w.heap.size w (w.alloc (.cells #[.int .i64 k, .int .i64 q, .int .i64 t, .string s, .string h, .string d] 42))) := hide ((Below.refl _ _).alloc (Nat.le_refl _) _)
  have M : Hid (purE s h d = if E ≠ 0 then E else if h.size + d.size = 0 then 0 else 1) := hide (by unfold purE; rw [← hE])
  clear hE
  go_enter Tryz.func112, Tryz.ntmps112
  go_wp2_with fail
  refine (unhide C _).mono ?_
  rintro e w1 ⟨rfl, b1⟩
  have R1 := (unhide R0).next b1
  have c4 := R1.c4
  have c5 := R1.c5
  have B1 := hide (bstep (unhide B0) b1)
  clear R1 R0 B0 b1
  go_wp2_with fail
  all_goals go_ret
  all_goals refine ⟨ret_int ?_, unhide B1⟩
  all_goals rw [unhide M]
  all_goals clear M C c4 c5 B1
  all_goals simp only [tl_emp, tl_nil, Bool.not_eq_true', Bool.not_eq_false', decide_eq_true_eq, decide_eq_false_iff_not, bne_iff_ne, ne_eq, bne_eq_false_iff_eq] at *
  all_goals split
  all_goals first | rfl | omega | (split <;> omega)

set_option maxRecDepth 100000 in
set_option maxHeartbeats 400000 in
theorem ckbar_any (k q t : Int) (s h d : ByteArray) (w : World) :
    Calls Tryz.prog 113 #[.agg #[.int .i64 k, .int .i64 q, .int .i64 t, .string s, .string h, .string d]] w fun e w' => e = .returned (.int .i64 (barE s h d)) ∧ Below w.heap.size w w' := by
  have B0 : Hid (Below w.heap.size w (w.alloc (.cells #[.int .i64 k, .int .i64 q, .int .i64 t, .string s, .string h, .string d] 42))) := hide ((Below.refl _ _).alloc (Nat.le_refl _) _)
  go_enter Tryz.func113, Tryz.ntmps113
  go_wp2_with fail
  all_goals go_ret
  all_goals refine ⟨ret_int ?_, unhide B0⟩
  all_goals unfold barE
  all_goals simp only [tl_emp, tl_nil, Bool.not_eq_true', Bool.not_eq_false', decide_eq_true_eq, decide_eq_false_iff_not] at *
  all_goals first | (rw [if_pos (by omega)]; done) | (rw [if_neg (by omega)]; done)

theorem chk_out {k q t : Int} {s h d : ByteArray} (b : Pk.inB k q t = false) : chkV k q t s h d = 1 := by rw [chkV_eq, if_pos b]
theorem chk_in {k q t : Int} {s h d : ByteArray} (b : Pk.inB k q t = true) : chkV k q t s h d = if k = 1 then msgE s h d else if k = 3 then purE s h d else barE s h d := by rw [chkV_eq, if_neg (by rw [b]; decide)]
theorem inB_false {k q t : Int} : Pk.inB k q t = false ↔ ¬ (1 ≤ k ∧ k ≤ 4 ∧ 1 ≤ q ∧ q ≤ 1099511627776 ∧ 0 ≤ t ∧ t ≤ 1099511627776) := by
  rw [← Pk.inB_iff]; simp

set_option maxRecDepth 100000 in
set_option maxHeartbeats 400000 in
theorem check_any (k q t : Int) (s h d : ByteArray) (w : World) (hs : s.size ≤ 140737488355328) (hh : h.size ≤ 140737488355328) (hd : d.size ≤ 140737488355328) :
    Calls Tryz.prog 79 #[.agg #[.int .i64 k, .int .i64 q, .int .i64 t, .string s, .string h, .string d]] w fun e w' => e = .returned (.int .i64 (chkV k q t s h d)) ∧ Below w.heap.size w w' := by
  have B0 : Hid (Below w.heap.size w (w.alloc (.cells #[.int .i64 k, .int .i64 q, .int .i64 t, .string s, .string h, .string d] 42))) := hide ((Below.refl _ _).alloc (Nat.le_refl _) _)
  by_cases hq : 1 ≤ q ∧ q ≤ 1099511627776 ∧ 0 ≤ t ∧ t ≤ 1099511627776
  · obtain ⟨q1, q2, q3, q4⟩ := hq
    by_cases k1 : k = 1
    · have M : Hid (chkV k q t s h d = msgE s h d) := hide (by rw [chk_in (Pk.inB_iff.2 (by omega)), if_pos k1])
      subst k1
      go_enter Tryz.func79, Tryz.ntmps79
      go_wp2_with fail
      refine (ckmsg_any _ _ _ _ _ _ _ hs hh hd).mono ?_
      rintro e w1 ⟨rfl, b1⟩
      go_wp2_with fail
      go_ret
      exact ⟨ret_int (unhide M).symm, bstep (unhide B0) b1⟩
    by_cases k3 : k = 3
    · have M : Hid (chkV k q t s h d = purE s h d) := hide (by rw [chk_in (Pk.inB_iff.2 (by omega)), if_neg k1, if_pos k3])
      clear k1
      subst k3
      go_enter Tryz.func79, Tryz.ntmps79
      go_wp2_with fail
      refine (ckpur_any _ _ _ _ _ _ _ hs).mono ?_
      rintro e w1 ⟨rfl, b1⟩
      go_wp2_with fail
      go_ret
      exact ⟨ret_int (unhide M).symm, bstep (unhide B0) b1⟩
    by_cases k2 : k = 2
    · have M : Hid (chkV k q t s h d = barE s h d) := hide (by rw [chk_in (Pk.inB_iff.2 (by omega)), if_neg k1, if_neg k3])
      clear k1 k3
      subst k2
      go_enter Tryz.func79, Tryz.ntmps79
      go_wp2_with fail
      refine (ckbar_any _ _ _ _ _ _ _).mono ?_
      rintro e w1 ⟨rfl, b1⟩
      go_wp2_with fail
      go_ret
      exact ⟨ret_int (unhide M).symm, bstep (unhide B0) b1⟩
    by_cases k4 : k = 4
    · have M : Hid (chkV k q t s h d = barE s h d) := hide (by rw [chk_in (Pk.inB_iff.2 (by omega)), if_neg k1, if_neg k3])
      clear k1 k3 k2
      subst k4
      go_enter Tryz.func79, Tryz.ntmps79
      go_wp2_with fail
      refine (ckbar_any _ _ _ _ _ _ _).mono ?_
      rintro e w1 ⟨rfl, b1⟩
      go_wp2_with fail
      go_ret
      exact ⟨ret_int (unhide M).symm, bstep (unhide B0) b1⟩
    have M : Hid (chkV k q t s h d = 1) := hide (chk_out (inB_false.2 (by omega)))
    have n1 : (k == 1) = false := by simp; omega
    have n2 : (k == 2) = false := by simp; omega
    have n3 : (k == 3) = false := by simp; omega
    have n4 : (k == 4) = false := by simp; omega
    clear k1 k2 k3 k4
    go_enter Tryz.func79, Tryz.ntmps79
    go_wp2_with fail
    go_ret
    exact ⟨ret_int (unhide M).symm, unhide B0⟩
  · have M : Hid (chkV k q t s h d = 1) := hide (chk_out (inB_false.2 (by omega)))
    have HQ := hide hq
    clear hq
    go_enter Tryz.func79, Tryz.ntmps79
    go_wp2_with fail
    all_goals first
      | (go_ret; exact ⟨ret_int (unhide M).symm, unhide B0⟩)
      | (exfalso; have := unhide HQ; omega)
end Go.Proofs.YtmccpkpeimejhahGreatDoor

namespace Go.Proofs.YtmccpkpeimejhahGreatDoor
open Go.RowKit

/-- what an encoding answers -/
def encV (k q t : Int) (s h d : ByteArray) : Value :=
  .tuple #[.string (if chkV k q t s h d = 0 then bs (Pk.cod ⟨k, q, t, s.data.toList, h.data.toList, d.data.toList⟩) else ⟨#[]⟩), .int .i64 (chkV k q t s h d)]
theorem encV_bad {k q t : Int} {s h d : ByteArray} {E : Int} (hE : chkV k q t s h d = E) (h0 : E ≠ 0) : encV k q t s h d = .tuple #[.string ⟨#[]⟩, .int .i64 E] := by
  unfold encV; rw [hE, if_neg h0]
theorem encV_good {k q t : Int} {s h d : ByteArray} (hE : chkV k q t s h d = 0) : encV k q t s h d = .tuple #[.string (bs (Pk.cod ⟨k, q, t, s.data.toList, h.data.toList, d.data.toList⟩)), .int .i64 0] := by
  unfold encV; rw [hE, if_pos rfl]

set_option maxRecDepth 100000 in
set_option maxHeartbeats 400000 in
theorem encode_any (k q t : Int) (s h d : ByteArray) (w : World) (hs : s.size ≤ 140737488355328) (hh : h.size ≤ 140737488355328) (hd : d.size ≤ 140737488355328) :
    Calls Tryz.prog 82 #[.agg #[.int .i64 k, .int .i64 q, .int .i64 t, .string s, .string h, .string d]] w fun e w' => e = .returned (encV k q t s h d) ∧ Below w.heap.size w w' := by
  obtain ⟨E, hE⟩ : ∃ E, chkV k q t s h d = E := ⟨_, rfl⟩
  have R0 := hide (RB.new w k q t s h d 42)
  have B0 : Hid (Below w.heap.size w (w.alloc (.cells #[.int .i64 k, .int .i64 q, .int .i64 t, .string s, .string h, .string d] 42))) := hide ((Below.refl _ _).alloc (Nat.le_refl _) _)
  by_cases h0 : E = 0
  · subst h0
    obtain ⟨k1, k2, q1, q2, t1, t2, s1, s2⟩ := Pk.chk_len (r := ⟨k, q, t, s.data.toList, h.data.toList, d.data.toList⟩) hE
    simp only [len_size] at s1 s2
    obtain ⟨B, hB⟩ : ∃ B, B = bs (Pk.bod ⟨k, q, t, s.data.toList, h.data.toList, d.data.toList⟩) := ⟨_, rfl⟩
    have zB : B.size ≤ 1024 := by rw [hB, bs_size]; exact (Pk.bod_len hE).2
    obtain ⟨X, hX⟩ : ∃ X, X = bs (Pk.txt B.data.toList) := ⟨_, rfl⟩
    obtain ⟨Y, hY⟩ : ∃ Y, Y = bs (Pk.le4 (Pk.crc B.data.toList)) := ⟨_, rfl⟩
    have zX : X.size ≤ 1033 := by
      rw [hX, bs_size, Pk.txt, List.length_append, len_size]
      have := Pk.enc_nine (n := B.size) (by omega)
      omega
    have zY : Y.size = 4 := by rw [hY, bs_size]; rfl
    have zC : ¬ 9223372036854775807 < X.size + Y.size := by omega
    have HE := hide hE
    have R : Hid (encV k q t s h d = .tuple #[.string (X ++ Y), .int .i64 0]) := hide (by
      rw [encV_good hE, hX, hY, cat_bs, hB, bs_list]; rfl)
    have CB : Hid (∀ W : World, Calls Tryz.prog 115 #[.agg #[.int .i64 k, .int .i64 q, .int .i64 t, .string s, .string h, .string d]] W fun e w' => e = .returned (.string B) ∧ Below W.heap.size W w') :=
      hide (fun W => by rw [hB]; exact bodyof_any k q t s h d W k1 k2 q2 t2 (by omega) (by omega) (by omega))
    have CX : Hid (∀ W : World, Calls Tryz.prog 116 #[.string B] W fun e w' => e = .returned (.string X) ∧ Below W.heap.size W w') := hide (fun W => by rw [hX]; exact text_any B W (by omega))
    have CY : Hid (∀ W : World, Calls Tryz.prog 117 #[.string B] W fun e w' => e = .returned (.string Y) ∧ Below W.heap.size W w') := hide (fun W => by rw [hY]; exact sumof_any B W (by omega))
    clear hE hB hX hY
    go_enter Tryz.func82, Tryz.ntmps82
    go_wp2_with fail
    refine (check_any _ _ _ _ _ _ _ hs hh hd).mono ?_
    rintro e w1 ⟨rfl, b1⟩
    rw [unhide HE]
    have R1 := (unhide R0).next b1
    have B1 := hide (bstep (unhide B0) b1)
    obtain ⟨_, c0, c1, c2, c3, c4, c5, _⟩ := R1
    clear R0 B0 b1
    go_wp2_with fail
    refine (unhide CB _).mono ?_
    rintro e w2 ⟨rfl, b2⟩
    clear c0 c1 c2 c3 c4 c5
    go_wp2_with fail
    refine (unhide CX _).mono ?_
    rintro e w3 ⟨rfl, b3⟩
    go_wp2_with fail
    refine (unhide CY _).mono ?_
    rintro e w4 ⟨rfl, b4⟩
    go_wp2_with fail
    go_ret2
    exact ⟨by rw [unhide R]; rfl, bstep (bstep (bstep (unhide B1) b2) b3) b4⟩
  · have R := hide (encV_bad hE h0)
    have HE := hide hE
    have h1 : (E != 0) = true := by simpa using h0
    clear hE h0
    go_enter Tryz.func82, Tryz.ntmps82
    go_wp2_with fail
    refine (check_any _ _ _ _ _ _ _ hs hh hd).mono ?_
    rintro e w1 ⟨rfl, b1⟩
    rw [unhide HE]
    go_wp2_with fail
    go_ret2
    exact ⟨by rw [unhide R]; rfl, bstep (unhide B0) b1⟩
end Go.Proofs.YtmccpkpeimejhahGreatDoor

namespace Go.Proofs.YtmccpkpeimejhahGreatDoor.Dk
open Go.RowKit

section
variable {Has : World → Nat → Nat → (Nat → Prop) → Int → List Pap → Prop} {w : World} {B q g : Nat} {size : Int} {F : Nat → Prop} {m : Int} {es : List Pap}
set_option maxRecDepth 100000 in
set_option maxHeartbeats 1000000 in
theorem lfiles_any (c0 : w.cell? ⟨g, 0, none⟩ = some (.pointer (some ⟨q, 0, none⟩))) :
    Calls Tryz.prog 86 #[.pointer (some ⟨g, 0, none⟩)] w fun e w' => e = .returned (.pointer (some ⟨q, 0, none⟩)) ∧ w = w' := by
  go_enter Tryz.func86, Tryz.ntmps86
  go_wp2_with fail
  go_ret
  exact ⟨rfl, rfl⟩

set_option maxRecDepth 100000 in
set_option maxHeartbeats 1000000 in
theorem lblocks_new (HS : Lists Has) (h : Has w B q F m es) (ht : Tidy m es) (hm : m ≤ 65536) (hB : B ≤ w.heap.size) (c0 : w.cell? ⟨g, 0, none⟩ = some (.pointer (some ⟨q, 0, none⟩))) :
    Calls Tryz.prog 118 #[.pointer (some ⟨g, 0, none⟩)] w fun e w' => ∃ a c, e = .returned (.slice a es.length c) ∧ (es.length ≤ c ∧ c ≤ maxLen) ∧ SlI w' a (numL es) ∧ (∀ z, a = some z → w.heap.size ≤ z.block ∧ z.block < w'.heap.size) ∧ Below w.heap.size w w' := by
  have PL := hide (HS.list h ht hm hB)
  have PF := hide (lfiles_any c0)
  clear h ht
  go_enter Tryz.func118, Tryz.ntmps118
  go_wp2_with fail
  refine (unhide PF).mono ?_
  rintro e w1 ⟨rfl, rfl⟩
  go_wp2_with fail
  refine (unhide PL).mono ?_
  rintro e w2 ⟨a, c, rfl, p2⟩
  have P2 := hide p2
  clear p2 PL PF
  go_wp2_with fail
  go_ret
  exact ⟨a, c, rfl, unhide P2⟩

set_option maxRecDepth 100000 in
set_option maxHeartbeats 1000000 in
theorem llast_any (HS : Lists Has) (h : Has w B q F m es) (ht : Tidy m es) (hm : m ≤ 65536) (hB : B ≤ w.heap.size) (c0 : w.cell? ⟨g, 0, none⟩ = some (.pointer (some ⟨q, 0, none⟩))) :
    Calls Tryz.prog 83 #[.pointer (some ⟨g, 0, none⟩)] w fun e w' => e = .returned (.int .i64 (lastN es)) ∧ Below w.heap.size w w' := by
  have hfew := ht.few
  have PL := hide (lblocks_new (g := g) HS h ht hm hB c0)
  clear h ht
  go_enter Tryz.func83, Tryz.ntmps83
  go_wp2_with fail
  refine (unhide PL).mono ?_
  rintro e w1 ⟨a, c, rfl, _, s1, _, b1⟩
  have B1 := hide b1
  clear PL b1
  by_cases hz : es.length = 0
  · have HN := hide (lastN_none hz)
    obtain rfl : es = [] := List.eq_nil_of_length_eq_zero hz
    clear s1 hz
    go_wp2_with fail
    go_ret
    exact ⟨rfl, unhide B1⟩
  · obtain ⟨k, hk1⟩ : ∃ k, k + 1 = es.length := ⟨es.length - 1, by omega⟩
    have hk2 : k < es.length := by omega
    have HN := hide (lastN_some hk1)
    have hw : IntKind.i64.wrap ((es.length : Int) - 1) = (k : Int) := by rw [IntKind.wrap_i64]; omega
    have hz' : ((es.length : Int) == 0) = false := by rw [beq_eq_false_iff_ne]; omega
    obtain ⟨ba, oa, rfl, hba, n1⟩ := s1.num hk2
    clear hk1 hz s1
    go_wp2_with fail
    go_ret
    rw [unhide HN]
    exact ⟨rfl, unhide B1⟩

set_option maxRecDepth 100000 in
set_option maxHeartbeats 1000000 in
theorem lsync_has (H : More Has) (HS : Lists Has) (h : Has w B q F m es) (ht : Tidy m es) (hm : m ≤ 65536) (hB : B ≤ w.heap.size) (c0 : w.cell? ⟨g, 0, none⟩ = some (.pointer (some ⟨q, 0, none⟩))) (hg : g < w.heap.size ∧ ¬ F g) :
    Calls Tryz.prog 62 #[.pointer (some ⟨g, 0, none⟩)] w fun e w' => e = .returned (.int .i64 0) ∧ Did Has w w' B q F m (lsyncL es) := by
  have R0 := Run.start (Cs := fun k => k = g) h (fun k hk => by subst hk; exact hg)
  have PL := hide (llast_any (g := g) HS h ht hm hB c0)
  have U0 := hide R0
  have HT := hide ht
  clear h ht R0
  go_enter Tryz.func62, Tryz.ntmps62
  go_wp2_with fail
  refine (unhide PL).mono ?_
  rintro e w1 ⟨rfl, b1⟩
  obtain ⟨r1, k1⟩ := (unhide U0).below H.works b1
  have d0 := (k1.cell (C := g) (j := 0) rfl).trans c0
  clear PL b1 k1 c0 U0
  by_cases hz : es.length = 0
  · have E1 : Hid (Did Has w w1 B q F m (lsyncL es)) := hide (by rw [lsync_nil hz]; exact r1.done)
    have hN := lastN_none hz
    clear r1 hz
    rw [hN]
    go_wp2_with fail
    go_ret
    exact ⟨rfl, unhide E1⟩
  · obtain ⟨k, hk1⟩ : ∃ k, k + 1 = es.length := ⟨es.length - 1, by omega⟩
    have hk2 : k < es.length := by omega
    have hN := lastN_some hk1
    have hnl := (unhide HT).each _ (pa_mem hk2)
    have hn1 : 0 ≤ (pa es k).n ∧ (pa es k).n ≤ 1099511627776 := by simpa [inI] using hnl.1
    have hwn := wf_of hnl.1
    have hneg : ¬ (pa es k).n < 0 := by omega
    have PF := hide (lfiles_any d0)
    have PS := hide (r1.did (fun F' hF => H.works.sync (pa es k).n hwn hF (unhide HT) hm (Nat.le_trans hB r1.room)))
    rw [has_pa (unhide HT) hk2, ← lsync_last hk1] at PS
    rw [hN]
    clear hk1 hz r1 hnl hN hwn
    go_wp2_with fail
    refine (unhide PF).mono ?_
    rintro e w2 ⟨rfl, rfl⟩
    go_wp2_with fail
    refine (unhide PS).mono ?_
    rintro e w3 ⟨rfl, r3, _⟩
    have E3 := hide r3.done
    clear r3 PS PF
    go_wp2_with fail
    go_ret
    exact ⟨rfl, unhide E3⟩

theorem fills_pa {k : Nat} (h : k + 1 = es.length) (s : ByteArray) : fills es size s = (decide (0 < (pa es k).text.size) && decide (size < ((pa es k).text.size : Int) + (s.size : Int))) := by unfold fills; rw [pa_last h]

set_option maxRecDepth 100000 in
set_option maxHeartbeats 1000000 in
theorem lfits_any (HS : Lists Has) (s : ByteArray) (hs : s.size ≤ 140737488355328) {k : Nat} (hk1 : k + 1 = es.length) (h : Has w B q F m es) (ht : Tidy m es) (hm : m ≤ 65536) (hB : B ≤ w.heap.size) (c0 : w.cell? ⟨g, 0, none⟩ = some (.pointer (some ⟨q, 0, none⟩))) (c1 : w.cell? ⟨g, 1, none⟩ = some (.int .i64 size)) (hg : g < w.heap.size) :
    Calls Tryz.prog 84 #[.pointer (some ⟨g, 0, none⟩), .int .i64 (pa es k).n, .string s] w fun e w' => e = .returned (.bool (!fills es size s)) ∧ Below w.heap.size w w' := by
  have hk2 : k < es.length := by omega
  have hfit := ht.fits
  have hu := used_mem (pa_mem hk2)
  have hnl := ht.each _ (pa_mem hk2)
  have PF := hide (lfiles_any c0)
  have PR := hide (HS.reads (pa es k).n (wf_of hnl.1) h ht hm hB)
  rw [readV_pa ht hk2] at PR
  have HFl := hide (fills_pa (size := size) hk1 s)
  obtain ⟨n, hn⟩ : ∃ n, n = (pa es k).n := ⟨_, rfl⟩
  obtain ⟨tx, htx⟩ : ∃ tx, tx = (pa es k).text := ⟨_, rfl⟩
  rw [← htx] at PR hu HFl
  rw [← hn] at PR ⊢
  have hw3 : IntKind.i64.wrap ((tx.size : Int) + (s.size : Int)) = (tx.size : Int) + (s.size : Int) := by rw [IntKind.wrap_i64]; omega
  clear h ht hnl hn htx hk1 hk2
  go_enter Tryz.func84, Tryz.ntmps84
  go_wp2_with fail
  refine (unhide PF).mono ?_
  rintro e w1 ⟨rfl, rfl⟩
  go_wp2_with fail
  refine (unhide PR).mono ?_
  rintro e w2 ⟨rfl, b2⟩
  have d1 := (b2.cell (p := ⟨g, 1, none⟩) hg).trans c1
  have B2 := hide b2
  clear b2 PR PF c0 c1
  by_cases hz : 0 < tx.size
  · have hf0 : ¬ tx.toList = [] := by rw [tl_nil]; omega
    have hf1 : (!tx.toList.isEmpty) = true := by rw [tl_emp, decide_eq_false (by omega)]; rfl
    have hf2 : tx.toList.isEmpty = false := by rw [tl_emp, decide_eq_false (by omega)]
    by_cases hl : size < (tx.size : Int) + (s.size : Int)
    · have hd : decide ((tx.size : Int) + (s.size : Int) ≤ size) = false := decide_eq_false (by omega)
      go_wp2_with fail
      go_ret
      rw [unhide HFl, decide_eq_true (p := 0 < tx.size) (by omega), decide_eq_true (p := size < (tx.size : Int) + (s.size : Int)) (by omega)]
      exact ⟨rfl, unhide B2⟩
    · have hd : decide ((tx.size : Int) + (s.size : Int) ≤ size) = true := decide_eq_true (by omega)
      go_wp2_with fail
      go_ret
      rw [unhide HFl, decide_eq_true (p := 0 < tx.size) (by omega), decide_eq_false (p := size < (tx.size : Int) + (s.size : Int)) (by omega)]
      exact ⟨rfl, unhide B2⟩
  · have hf0 : tx.toList = [] := by rw [tl_nil]; omega
    have hf2 : tx.toList.isEmpty = true := by rw [tl_emp, decide_eq_true (by omega)]
    go_wp2_with fail
    go_ret
    rw [unhide HFl, decide_eq_false (p := 0 < tx.size) (by omega)]
    exact ⟨rfl, unhide B2⟩

set_option maxRecDepth 100000 in
set_option maxHeartbeats 1000000 in
theorem lbegin_has (H : More Has) (HS : Lists Has) (s : ByteArray) (hs : s.size ≤ 140737488355328) (h : Has w B q F m es) (ht : Tidy m es) (hm : m ≤ 65536) (hB : B ≤ w.heap.size) (c0 : w.cell? ⟨g, 0, none⟩ = some (.pointer (some ⟨q, 0, none⟩))) (hg : g < w.heap.size ∧ ¬ F g) :
    Calls Tryz.prog 85 #[.pointer (some ⟨g, 0, none⟩), .int .i64 (lastN es), .string s] w fun e w' => e = .returned (.int .i64 (appE es m (nextN es) s)) ∧ Did Has w w' B q F m (begL es m s) := by
  have R0 := Run.start (Cs := fun k => k = g) h (fun k hk => by subst hk; exact hg)
  have hlast : -1 ≤ lastN es ∧ lastN es ≤ 1099511627776 := by
    by_cases hz : es.length = 0
    · rw [lastN_none hz]; omega
    · obtain ⟨k, hk1⟩ : ∃ k, k + 1 = es.length := ⟨es.length - 1, by omega⟩
      rw [lastN_some hk1]
      have hnl := ht.each _ (pa_mem (show k < es.length by omega))
      have hn1 : 0 ≤ (pa es k).n ∧ (pa es k).n ≤ 1099511627776 := by simpa [inI] using hnl.1
      omega
  have HN := hide (next_lastN es)
  obtain ⟨n, hn⟩ : ∃ n, n = lastN es := ⟨_, rfl⟩
  rw [← hn] at hlast HN ⊢
  have hw : IntKind.i64.wrap (n + 1) = n + 1 := by rw [IntKind.wrap_i64]; omega
  have PF := hide (lfiles_any c0)
  have PT := hide (HS.tries (n + 1) s h ht hm hs hB)
  have U0 := hide R0
  have HT := hide ht
  obtain ⟨E, hE⟩ : ∃ E, appE es m (n + 1) s = E := ⟨_, rfl⟩
  rw [hE] at PT
  have HB1 : Hid (E = 0 → begL es m s = appL (lsyncL es) m (n + 1) s ∧ appE (lsyncL es) m (n + 1) s = 0) := hide (fun z => by
    rw [z] at hE
    refine ⟨?_, by rw [appE_lsync]; exact hE⟩
    rw [begL_ok (by rw [unhide HN]; exact hE), unhide HN])
  have HB2 : Hid (E ≠ 0 → begL es m s = es) := hide (fun z => begL_not (by rw [unhide HN, hE]; exact z))
  have HE : Hid (appE es m (nextN es) s = E) := hide (by rw [unhide HN]; exact hE)
  clear h ht R0 hn hE
  go_enter Tryz.func85, Tryz.ntmps85
  go_wp2_with fail
  refine (unhide PF).mono ?_
  rintro e w1 ⟨rfl, rfl⟩
  go_wp2_with fail
  refine (unhide PT).mono ?_
  rintro e w2 ⟨rfl, b2⟩
  obtain ⟨r2, k2⟩ := (unhide U0).below H.works b2
  have d0 := (k2.cell (C := g) (j := 0) rfl).trans c0
  clear PT PF b2 k2 c0 U0
  by_cases h0 : E = 0
  · obtain ⟨e1, e2⟩ := unhide HB1 h0
    subst h0
    have PS := hide (r2.didc (fun F' hF hC => lsync_has (g := g) H HS hF (unhide HT) hm (Nat.le_trans hB r2.room) d0 (hC g rfl)))
    have HT3 := hide (unhide HT).lsync
    have hb2 := r2.room
    clear r2 HB1 HB2
    go_wp2_with fail
    refine (unhide PS).mono ?_
    rintro e w3 ⟨rfl, r3, k3⟩
    have f0 := (k3.cell (C := g) (j := 0) rfl).trans d0
    have PF := hide (lfiles_any f0)
    have PA := hide (r3.did (fun F' hF => H.works.append (n + 1) s hF (unhide HT3) hm hs (Nat.le_trans hB r3.room)))
    rw [e2, ← e1] at PA
    clear r3 k3 PS d0
    go_wp2_with fail
    refine (unhide PF).mono ?_
    rintro e w4 ⟨rfl, rfl⟩
    go_wp2_with fail
    refine (unhide PA).mono ?_
    rintro e w5 ⟨rfl, r5, _⟩
    have E5 := hide r5.done
    clear r5 PA PF
    go_wp2_with fail
    go_ret
    rw [unhide HE]
    exact ⟨rfl, unhide E5⟩
  · have hE' : (E != 0) = true := by simpa using h0
    have E2 : Hid (Did Has w w2 B q F m (begL es m s)) := hide (by rw [unhide HB2 h0]; exact r2.done)
    clear r2 HB1 HB2
    go_wp2_with fail
    go_ret
    rw [unhide HE]
    exact ⟨rfl, unhide E2⟩

theorem enc_bad {r : Rc} {E : Int} (h : chkR r = E) (h0 : E ≠ 0) : encV r.k r.q r.t r.s r.h r.d = .tuple #[.string ⟨#[]⟩, .int .i64 E] := encV_bad h h0
theorem enc_good {r : Rc} (h : chkR r = 0) : encV r.k r.q r.t r.s r.h r.d = .tuple #[.string (codT r), .int .i64 0] := encV_good h

set_option maxRecDepth 100000 in
set_option maxHeartbeats 1000000 in
theorem lappend_has (H : More Has) (HS : Lists Has) (r : Rc) (hs : Small r) (h : Has w B q F m es) (ht : Tidy m es) (hm : m ≤ 65536) (hB : B ≤ w.heap.size) (c0 : w.cell? ⟨g, 0, none⟩ = some (.pointer (some ⟨q, 0, none⟩))) (c1 : w.cell? ⟨g, 1, none⟩ = some (.int .i64 size)) (hg : g < w.heap.size ∧ ¬ F g) :
    Calls Tryz.prog 61 #[.pointer (some ⟨g, 0, none⟩), .agg #[.int .i64 r.k, .int .i64 r.q, .int .i64 r.t, .string r.s, .string r.h, .string r.d]] w fun e w' => e = .returned (.int .i64 (logP es m size r).1) ∧ Did Has w w' B q F m (logP es m size r).2 := by
  have HT := hide ht
  have R0 := hide (RB.new w r.k r.q r.t r.s r.h r.d 42)
  have hb0 : Below w.heap.size w (w.alloc (.cells #[.int .i64 r.k, .int .i64 r.q, .int .i64 r.t, .string r.s, .string r.h, .string r.d] 42)) := (Below.refl _ _).alloc (Nat.le_refl _) _
  obtain ⟨r0, k0⟩ := (Run.start (Cs := fun k => k = g) h (fun k hk => by subst hk; exact hg)).below H.works hb0
  have U0 := hide r0
  have a0 := (k0.cell (C := g) (j := 0) rfl).trans c0
  have a1 := (k0.cell (C := g) (j := 1) rfl).trans c1
  have C1 : Hid (∀ W, Calls Tryz.prog 82 #[.agg #[.int .i64 r.k, .int .i64 r.q, .int .i64 r.t, .string r.s, .string r.h, .string r.d]] W fun e w' => e = .returned (encV r.k r.q r.t r.s r.h r.d) ∧ Below W.heap.size W w') := hide (fun W => encode_any r.k r.q r.t r.s r.h r.d W hs.s hs.h hs.d)
  obtain ⟨E, hE⟩ : ∃ E, chkR r = E := ⟨_, rfl⟩
  clear h ht hb0 r0 k0 c0 c1
  by_cases h0 : E = 0
  · have hc : chkR r = 0 := by rw [hE]; exact h0
    have hsz := codT_size hc
    rw [enc_good hc] at C1
    have HC := hide hc
    clear hE h0 hc
    obtain ⟨_, x0, x1, x2, x3, x4, x5, _⟩ := unhide R0
    go_enter Tryz.func61, Tryz.ntmps61
    go_wp2_with fail
    refine (unhide C1 _).mono ?_
    rintro e w1 ⟨rfl, b1⟩
    obtain ⟨r1, k1⟩ := (unhide U0).below H.works b1
    have d0 := (k1.cell (C := g) (j := 0) rfl).trans a0
    have d1 := (k1.cell (C := g) (j := 1) rfl).trans a1
    have PL := hide (r1.looks H.works (fun F' hF => llast_any (g := g) HS hF (unhide HT) hm (Nat.le_trans hB r1.room) d0))
    clear b1 r1 k1 a0 a1 U0 R0 x0 x1 x2 x3 x4 x5 C1
    go_wp2_with fail
    refine (unhide PL).mono ?_
    rintro e w2 ⟨rfl, r2, k2⟩
    have f0 := (k2.cell (C := g) (j := 0) rfl).trans d0
    have f1 := (k2.cell (C := g) (j := 1) rfl).trans d1
    have PB := hide (r2.didc (fun F' hF hC => lbegin_has (g := g) H HS (codT r) (by omega) hF (unhide HT) hm (Nat.le_trans hB r2.room) f0 (hC g rfl)))
    clear d0 d1 PL k2
    by_cases hz : es.length = 0
    · have HR := hide (logP_begin (m := m) (size := size) (unhide HC) (.inl hz))
      have hN := lastN_none hz
      rw [hN] at PB ⊢
      clear r2 hz hN
      go_wp2_with fail
      refine (unhide PB).mono ?_
      rintro e w3 ⟨rfl, r3, _⟩
      have E3 := hide r3.done
      clear r3 PB
      go_wp2_with fail
      go_ret
      rw [unhide HR]
      exact ⟨rfl, unhide E3⟩
    · obtain ⟨k, hk1⟩ : ∃ k, k + 1 = es.length := ⟨es.length - 1, by omega⟩
      have hk2 : k < es.length := by omega
      have hN := lastN_some hk1
      have hnl := (unhide HT).each _ (pa_mem hk2)
      have hn1 : 0 ≤ (pa es k).n ∧ (pa es k).n ≤ 1099511627776 := by simpa [inI] using hnl.1
      have hneg : ¬ (pa es k).n < 0 := by omega
      have PI := hide (r2.looks H.works (fun F' hF => lfits_any (g := g) (size := size) HS (codT r) (by omega) hk1 hF (unhide HT) hm (Nat.le_trans hB r2.room) f0 f1 (by
        obtain ⟨_, _, _, _, x⟩ := id r2
        exact (x g rfl).1)))
      have HP := hide (pa_last hk1)
      rw [hN] at PB ⊢
      clear hN hnl r2
      cases hfl : fills es size (codT r) with
      | true =>
        have HR := hide (logP_begin (m := m) (unhide HC) (.inr hfl))
        rw [hfl] at PI
        have HL1 := hide (lastN_some hk1)
        clear hfl hz hk1 PB
        go_wp2_with fail
        refine (unhide PI).mono ?_
        rintro e w3 ⟨rfl, r3, k3⟩
        have g0 := (k3.cell (C := g) (j := 0) rfl).trans f0
        have PB := hide (r3.didc (fun F' hF hC => lbegin_has (g := g) H HS (codT r) (by omega) hF (unhide HT) hm (Nat.le_trans hB r3.room) g0 (hC g rfl)))
        rw [unhide HL1] at PB
        clear r3 k3 PI f0 f1
        go_wp2_with fail
        refine (unhide PB).mono ?_
        rintro e w4 ⟨rfl, r4, _⟩
        have E4 := hide r4.done
        clear r4 PB
        go_wp2_with fail
        go_ret
        rw [unhide HR]
        exact ⟨rfl, unhide E4⟩
      | false =>
        have HR := hide (logP_last (m := m) (unhide HC) hz hfl)
        rw [unhide HP] at HR
        rw [hfl] at PI
        clear hfl hz hk1 PB
        go_wp2_with fail
        refine (unhide PI).mono ?_
        rintro e w3 ⟨rfl, r3, k3⟩
        have g0 := (k3.cell (C := g) (j := 0) rfl).trans f0
        have PF := hide (lfiles_any g0)
        have PA := hide (r3.did (fun F' hF => H.works.append (pa es k).n (codT r) hF (unhide HT) hm (by omega) (Nat.le_trans hB r3.room)))
        clear r3 k3 PI f0 f1
        go_wp2_with fail
        refine (unhide PF).mono ?_
        rintro e w4 ⟨rfl, rfl⟩
        go_wp2_with fail
        refine (unhide PA).mono ?_
        rintro e w5 ⟨rfl, r5, _⟩
        have E5 := hide r5.done
        clear r5 PA PF
        go_wp2_with fail
        go_ret
        rw [unhide HR]
        exact ⟨rfl, unhide E5⟩
  · have HR := hide (logP_bad (es := es) (m := m) (size := size) (r := r) (by rw [hE]; exact h0))
    rw [hE] at HR
    rw [enc_bad hE h0] at C1
    have h1 : (E != 0) = true := by simpa using h0
    clear hE
    obtain ⟨_, x0, x1, x2, x3, x4, x5, _⟩ := unhide R0
    go_enter Tryz.func61, Tryz.ntmps61
    go_wp2_with fail
    refine (unhide C1 _).mono ?_
    rintro e w1 ⟨rfl, b1⟩
    have E1 := hide ((unhide U0).below H.works b1).1.done
    clear b1 U0 R0 C1
    go_wp2_with fail
    go_ret
    rw [unhide HR]
    exact ⟨rfl, unhide E1⟩
end
end Go.Proofs.YtmccpkpeimejhahGreatDoor.Dk
