/-
  Contracts of record.checkMessage, checkPurge, checkBare and Check: they answer what is wrong with a record.
  Contract of record.Encode: what is wrong with the record, or its bytes.
-/
import Derived.Test.YtohjipnkoiifhagGreatDoorJointWalkSplitWalk2Plain2Plain5PlainKWalk5aWalk5PlainI
import Derived.Test.YtohjipnkoiifhagGreatDoorJointPlainSPlainR2PapGRowGPapNWorksGPapHWorksFRowBWalkC6RowY
import Derived.Test.YtohjipnkoiifhagGreatDoorJointWalkC1WalkC2RowSRowU
namespace Go.Proofs.YtohjipnkoiifhagGreatDoor
open Go.RowKit

def msgE (s h d : ByteArray) : Int := if errS false s ≠ 0 then errS false s else if 256 < h.size + d.size then 2 else 0
def purE (s h d : ByteArray) : Int := if errS true s ≠ 0 then errS true s else if h.size + d.size = 0 then 0 else 1
def barE (s h d : ByteArray) : Int := if s.size + (h.size + d.size) = 0 then 0 else 1
def chkV (k q t : Int) (s h d : ByteArray) : Int := Pk.chk ⟨k, q, t, s.data.toList, h.data.toList, d.data.toList⟩
theorem len_size (s : ByteArray) : s.data.toList.length = s.size := by simp
theorem tl_nil (s : ByteArray) : (s.toList = []) = (s.size = 0) := by
  rw [ByteArray.toList_eq, ← len_size, List.length_eq_zero_iff]
theorem tl_emp (s : ByteArray) : s.toList.isEmpty = decide (s.size = 0) := by
  rw [ByteArray.toList_eq, ← len_size, Bool.eq_iff_iff, List.isEmpty_iff, decide_eq_true_eq, List.length_eq_zero_iff]
theorem chkV_eq (k q t : Int) (s h d : ByteArray) : chkV k q t s h d = if Pk.inB k q t = false then 1 else if k = 1 then msgE s h d else if k = 3 then purE s h d else barE s h d := by
  unfold chkV Pk.chk msgE purE barE errS
  simp only [len_size]

set_option maxRecDepth 100000 in
set_option maxHeartbeats 400000 in
theorem ckmsg_any (k q t : Int) (s h d : ByteArray) (w : World) (hs : s.size ≤ 140737488355328) (hh : h.size ≤ 140737488355328) (hd : d.size ≤ 140737488355328) :
    Calls Tryz.prog 83 #[.agg #[.int .i64 k, .int .i64 q, .int .i64 t, .string s, .string h, .string d]] w fun e w' => e = .returned (.int .i64 (msgE s h d)) ∧ Below w.heap.size w w' := by
  obtain ⟨E, hE⟩ : ∃ E, E = errS false s := ⟨_, rfl⟩
  have C : Hid (∀ W : World, Calls Tryz.prog 63 #[.string s] W fun e w' => e = .returned (.int .i64 E) ∧ Below W.heap.size W w') := hide (fun W => by rw [hE]; exact subject_any s W hs)
  have R0 := hide (RB.new w k q t s h d 30)
  have B0 : Hid (Below w.heap.size w (w.alloc (.cells #[.int .i64 k, .int .i64 q, .int .i64 t, .string s, .string h, .string d] 30))) := hide ((Below.refl _ _).alloc (Nat.le_refl _) _)
  have M : Hid (msgE s h d = if E ≠ 0 then E else if 256 < h.size + d.size then 2 else 0) := hide (by unfold msgE; rw [← hE])
  clear hE
  go_enter Tryz.func83, Tryz.ntmps83
  go_wp2_with fail
  refine (unhide C _).mono ?_
  rintro e w1 ⟨rfl, b1⟩
  have R1 := (unhide R0).next b1
  have c4 := R1.c4
  have c5 := R1.c5
  have B1 := hide (bstep (unhide B0) b1)
  clear R1 R0 B0 b1
  go_wp2_with fail
  all_goals go_ret
  all_goals refine ⟨ret_int ?_, unhide B1⟩
  all_goals rw [unhide M]
  all_goals clear M C c4 c5 B1
  all_goals simp only [bne_iff_ne, ne_eq, bne_eq_false_iff_eq] at *
  all_goals split
  all_goals first | rfl | omega | (split <;> omega)

set_option maxRecDepth 100000 in
set_option maxHeartbeats 400000 in
theorem ckpur_any (k q t : Int) (s h d : ByteArray) (w : World) (hs : s.size ≤ 140737488355328) :
    Calls Tryz.prog 84 #[.agg #[.int .i64 k, .int .i64 q, .int .i64 t, .string s, .string h, .string d]] w fun e w' => e = .returned (.int .i64 (purE s h d)) ∧ Below w.heap.size w w' := by
  obtain ⟨E, hE⟩ : ∃ E, E = errS true s := ⟨_, rfl⟩
  have C : Hid (∀ W : World, Calls Tryz.prog 72 #[.string s] W fun e w' => e = .returned (.int .i64 E) ∧ Below W.heap.size W w') := hide (fun W => by rw [hE]; exact filter_any s W hs)
  have R0 := hide (RB.new w k q t s h d 30)
  have B0 : Hid (Below w.heap.size w (w.alloc (.cells #[.int .i64 k, .int .i64 q, .int .i64 t, .string s, .string h, .string d] 30))) := hide ((Below.refl _ _).alloc (Nat.le_refl _) _)
  have M : Hid (purE s h d = if E ≠ 0 then E else if h.size + d.size = 0 then 0 else 1) := hide (by unfold purE; rw [← hE])
  clear hE
  go_enter Tryz.func84, Tryz.ntmps84
  go_wp2_with fail
  refine (unhide C _).mono ?_
  rintro e w1 ⟨rfl, b1⟩
  have R1 := (unhide R0).next b1
  have c4 := R1.c4
  have c5 := R1.c5
  have B1 := hide (bstep (unhide B0) b1)
  clear R1 R0 B0 b1
  go_wp2_with fail
  all_goals go_ret
  all_goals refine ⟨ret_int ?_, unhide B1⟩
  all_goals rw [unhide M]
  all_goals clear M C c4 c5 B1
  all_goals simp only [tl_emp, tl_nil, Bool.not_eq_true', Bool.not_eq_false', decide_eq_true_eq, decide_eq_false_iff_not, bne_iff_ne, ne_eq, bne_eq_false_iff_eq] at *
  all_goals split
  all_goals first | rfl | omega | (split <;> omega)

set_option maxRecDepth 100000 in
set_option maxHeartbeats 400000 in
theorem ckbar_any (k q t : Int) (s h d : ByteArray) (w : World) :
    Calls Tryz.prog 85 #[.agg #[.int .i64 k, .int .i64 q, .int .i64 t, .string s, .string h, .string d]] w fun e w' => e = .returned (.int .i64 (barE s h d)) ∧ Below w.heap.size w w' := by
  have B0 : Hid (Below w.heap.size w (w.alloc (.cells #[.int .i64 k, .int .i64 q, .int .i64 t, .string s, .string h, .string d] 30))) := hide ((Below.refl _ _).alloc (Nat.le_refl _) _)
  go_enter Tryz.func85, Tryz.ntmps85
  go_wp2_with fail
  all_goals go_ret
  all_goals refine ⟨ret_int ?_, unhide B0⟩
  all_goals unfold barE
  all_goals simp only [tl_emp, tl_nil, Bool.not_eq_true', Bool.not_eq_false', decide_eq_true_eq, decide_eq_false_iff_not] at *
  all_goals first | (rw [if_pos (by omega)]; done) | (rw [if_neg (by omega)]; done)

theorem chk_out {k q t : Int} {s h d : ByteArray} (b : Pk.inB k q t = false) : chkV k q t s h d = 1 := by rw [chkV_eq, if_pos b]
theorem chk_in {k q t : Int} {s h d : ByteArray} (b : Pk.inB k q t = true) : chkV k q t s h d = if k = 1 then msgE s h d else if k = 3 then purE s h d else barE s h d := by rw [chkV_eq, if_neg (by rw [b]; decide)]
theorem inB_false {k q t : Int} : Pk.inB k q t = false ↔ ¬ (1 ≤ k ∧ k ≤ 4 ∧ 1 ≤ q ∧ q ≤ 1099511627776 ∧ 0 ≤ t ∧ t ≤ 1099511627776) := by
  rw [← Pk.inB_iff]; simp

set_option maxRecDepth 100000 in
set_option maxHeartbeats 400000 in
theorem check_any (k q t : Int) (s h d : ByteArray) (w : World) (hs : s.size ≤ 140737488355328) (hh : h.size ≤ 140737488355328) (hd : d.size ≤ 140737488355328) :
    Calls Tryz.prog 49 #[.agg #[.int .i64 k, .int .i64 q, .int .i64 t, .string s, .string h, .string d]] w fun e w' => e = .returned (.int .i64 (chkV k q t s h d)) ∧ Below w.heap.size w w' := by
  have B0 : Hid (Below w.heap.size w (w.alloc (.cells #[.int .i64 k, .int .i64 q, .int .i64 t, .string s, .string h, .string d] 30))) := hide ((Below.refl _ _).alloc (Nat.le_refl _) _)
  by_cases hq : 1 ≤ q ∧ q ≤ 1099511627776 ∧ 0 ≤ t ∧ t ≤ 1099511627776
  · obtain ⟨q1, q2, q3, q4⟩ := hq
    by_cases k1 : k = 1
    · have M : Hid (chkV k q t s h d = msgE s h d) := hide (by rw [chk_in (Pk.inB_iff.2 (by omega)), if_pos k1])
      subst k1
      go_enter Tryz.func49, Tryz.ntmps49
      go_wp2_with fail
      refine (ckmsg_any _ _ _ _ _ _ _ hs hh hd).mono ?_
      rintro e w1 ⟨rfl, b1⟩
      go_wp2_with fail
      go_ret
      exact ⟨ret_int (unhide M).symm, bstep (unhide B0) b1⟩
    by_cases k3 : k = 3
    · have M : Hid (chkV k q t s h d = purE s h d) := hide (by rw [chk_in (Pk.inB_iff.2 (by omega)), if_neg k1, if_pos k3])
      clear k1
      subst k3
      go_enter Tryz.func49, Tryz.ntmps49
      go_wp2_with fail
      refine (ckpur_any _ _ _ _ _ _ _ hs).mono ?_
      rintro e w1 ⟨rfl, b1⟩
      go_wp2_with fail
      go_ret
      exact ⟨ret_int (unhide M).symm, bstep (unhide B0) b1⟩
    by_cases k2 : k = 2
    · have M : Hid (chkV k q t s h d = barE s h d) := hide (by rw [chk_in (Pk.inB_iff.2 (by omega)), if_neg k1, if_neg k3])
      clear k1 k3
      subst k2
      go_enter Tryz.func49, Tryz.ntmps49
      go_wp2_with fail
      refine (ckbar_any _ _ _ _ _ _ _).mono ?_
      rintro e w1 ⟨rfl, b1⟩
      go_wp2_with fail
      go_ret
      exact ⟨ret_int (unhide M).symm, bstep (unhide B0) b1⟩
    by_cases k4 : k = 4
    · have M : Hid (chkV k q t s h d = barE s h d) := hide (by rw [chk_in (Pk.inB_iff.2 (by omega)), if_neg k1, if_neg k3])
      clear k1 k3 k2
      subst k4
      go_enter Tryz.func49, Tryz.ntmps49
      go_wp2_with fail
      refine (ckbar_any _ _ _ _ _ _ _).mono ?_
      rintro e w1 ⟨rfl, b1⟩
      go_wp2_with fail
      go_ret
      exact ⟨ret_int (unhide M).symm, bstep (unhide B0) b1⟩
    have M : Hid (chkV k q t s h d = 1) := hide (chk_out (inB_false.2 (by omega)))
    have n1 : (k == 1) = false := by simp; omega
    have n2 : (k == 2) = false := by simp; omega
    have n3 : (k == 3) = false := by simp; omega
    have n4 : (k == 4) = false := by simp; omega
    clear k1 k2 k3 k4
    go_enter Tryz.func49, Tryz.ntmps49
    go_wp2_with fail
    go_ret
    exact ⟨ret_int (unhide M).symm, unhide B0⟩
  · have M : Hid (chkV k q t s h d = 1) := hide (chk_out (inB_false.2 (by omega)))
    have HQ := hide hq
    clear hq
    go_enter Tryz.func49, Tryz.ntmps49
    go_wp2_with fail
    all_goals first
      | (go_ret; exact ⟨ret_int (unhide M).symm, unhide B0⟩)
      | (exfalso; have := unhide HQ; omega)
end Go.Proofs.YtohjipnkoiifhagGreatDoor

namespace Go.Proofs.YtohjipnkoiifhagGreatDoor
open Go.RowKit

/-- what an encoding answers -/
def encV (k q t : Int) (s h d : ByteArray) : Value :=
  .tuple #[.string (if chkV k q t s h d = 0 then bs (Pk.cod ⟨k, q, t, s.data.toList, h.data.toList, d.data.toList⟩) else ⟨#[]⟩), .int .i64 (chkV k q t s h d)]
theorem encV_bad {k q t : Int} {s h d : ByteArray} {E : Int} (hE : chkV k q t s h d = E) (h0 : E ≠ 0) : encV k q t s h d = .tuple #[.string ⟨#[]⟩, .int .i64 E] := by
  unfold encV; rw [hE, if_neg h0]
theorem encV_good {k q t : Int} {s h d : ByteArray} (hE : chkV k q t s h d = 0) : encV k q t s h d = .tuple #[.string (bs (Pk.cod ⟨k, q, t, s.data.toList, h.data.toList, d.data.toList⟩)), .int .i64 0] := by
  unfold encV; rw [hE, if_pos rfl]

set_option maxRecDepth 100000 in
set_option maxHeartbeats 400000 in
theorem encode_any (k q t : Int) (s h d : ByteArray) (w : World) (hs : s.size ≤ 140737488355328) (hh : h.size ≤ 140737488355328) (hd : d.size ≤ 140737488355328) :
    Calls Tryz.prog 52 #[.agg #[.int .i64 k, .int .i64 q, .int .i64 t, .string s, .string h, .string d]] w fun e w' => e = .returned (encV k q t s h d) ∧ Below w.heap.size w w' := by
  obtain ⟨E, hE⟩ : ∃ E, chkV k q t s h d = E := ⟨_, rfl⟩
  have R0 := hide (RB.new w k q t s h d 30)
  have B0 : Hid (Below w.heap.size w (w.alloc (.cells #[.int .i64 k, .int .i64 q, .int .i64 t, .string s, .string h, .string d] 30))) := hide ((Below.refl _ _).alloc (Nat.le_refl _) _)
  by_cases h0 : E = 0
  · subst h0
    obtain ⟨k1, k2, q1, q2, t1, t2, s1, s2⟩ := Pk.chk_len (r := ⟨k, q, t, s.data.toList, h.data.toList, d.data.toList⟩) hE
    simp only [len_size] at s1 s2
    obtain ⟨B, hB⟩ : ∃ B, B = bs (Pk.bod ⟨k, q, t, s.data.toList, h.data.toList, d.data.toList⟩) := ⟨_, rfl⟩
    have zB : B.size ≤ 1024 := by rw [hB, bs_size]; exact (Pk.bod_len hE).2
    obtain ⟨X, hX⟩ : ∃ X, X = bs (Pk.txt B.data.toList) := ⟨_, rfl⟩
    obtain ⟨Y, hY⟩ : ∃ Y, Y = bs (Pk.le4 (Pk.crc B.data.toList)) := ⟨_, rfl⟩
    have zX : X.size ≤ 1033 := by
      rw [hX, bs_size, Pk.txt, List.length_append, len_size]
      have := Pk.enc_nine (n := B.size) (by omega)
      omega
    have zY : Y.size = 4 := by rw [hY, bs_size]; rfl
    have zC : ¬ 9223372036854775807 < X.size + Y.size := by omega
    have HE := hide hE
    have R : Hid (encV k q t s h d = .tuple #[.string (X ++ Y), .int .i64 0]) := hide (by
      rw [encV_good hE, hX, hY, cat_bs, hB, bs_list]; rfl)
    have CB : Hid (∀ W : World, Calls Tryz.prog 89 #[.agg #[.int .i64 k, .int .i64 q, .int .i64 t, .string s, .string h, .string d]] W fun e w' => e = .returned (.string B) ∧ Below W.heap.size W w') :=
      hide (fun W => by rw [hB]; exact bodyof_any k q t s h d W k1 k2 q2 t2 (by omega) (by omega) (by omega))
    have CX : Hid (∀ W : World, Calls Tryz.prog 90 #[.string B] W fun e w' => e = .returned (.string X) ∧ Below W.heap.size W w') := hide (fun W => by rw [hX]; exact text_any B W (by omega))
    have CY : Hid (∀ W : World, Calls Tryz.prog 91 #[.string B] W fun e w' => e = .returned (.string Y) ∧ Below W.heap.size W w') := hide (fun W => by rw [hY]; exact sumof_any B W (by omega))
    clear hE hB hX hY
    go_enter Tryz.func52, Tryz.ntmps52
    go_wp2_with fail
    refine (check_any _ _ _ _ _ _ _ hs hh hd).mono ?_
    rintro e w1 ⟨rfl, b1⟩
    rw [unhide HE]
    have R1 := (unhide R0).next b1
    have B1 := hide (bstep (unhide B0) b1)
    obtain ⟨_, c0, c1, c2, c3, c4, c5, _⟩ := R1
    clear R0 B0 b1
    go_wp2_with fail
    refine (unhide CB _).mono ?_
    rintro e w2 ⟨rfl, b2⟩
    clear c0 c1 c2 c3 c4 c5
    go_wp2_with fail
    refine (unhide CX _).mono ?_
    rintro e w3 ⟨rfl, b3⟩
    go_wp2_with fail
    refine (unhide CY _).mono ?_
    rintro e w4 ⟨rfl, b4⟩
    go_wp2_with fail
    go_ret2
    exact ⟨by rw [unhide R]; rfl, bstep (bstep (bstep (unhide B1) b2) b3) b4⟩
  · have R := hide (encV_bad hE h0)
    have HE := hide hE
    have h1 : (E != 0) = true := by simpa using h0
    clear hE h0
    go_enter Tryz.func52, Tryz.ntmps52
    go_wp2_with fail
    refine (check_any _ _ _ _ _ _ _ hs hh hd).mono ?_
    rintro e w1 ⟨rfl, b1⟩
    rw [unhide HE]
    go_wp2_with fail
    go_ret2
    exact ⟨by rw [unhide R]; rfl, bstep (unhide B0) b1⟩
end Go.Proofs.YtohjipnkoiifhagGreatDoor
