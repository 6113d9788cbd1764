/-
  Contracts of record.checkMessage, checkPurge, checkBare and Check: they answer what is wrong with a record.
  A record that is handed back: its six cells are read as one value.
  Contract of slices.Equal at two slices that show the same records.
  What is asked of the program's store, whatever it is made of: New, Apply, All, Sums, Last, Next.
  A store's counts: there is such an index; each message's subject is right. No walk.
  What more is asked of the program's store: Subjects.
  What more is asked of the program's store: Try, Get.
  A store whose messages lie by their numbers, pure: where a number is, what is erased there, what a purge leaves. No walk.
-/
import Derived.Test.YtphhebdmfdjfeabGreatDoorJointWalkSplitWalk2
import Derived.Test.YtphhebdmfdjfeabGreatDoorJointRowGRowBRowSRowURowVRowE
import Derived.Laws.Rows
import Derived.Deep.QuietTactic
import Derived.BigQuiet
import Derived.Test.YtphhebdmfdjfeabGreatDoorJointPapSPapTPlainIPapCPapE
import Derived.Test.YtphhebdmfdjfeabGreatDoorJointBase0RowZPlainPlainNPlainRecPlainSPlainR2PapDPapLPapMPapGPapN
namespace Go.Proofs.YtphhebdmfdjfeabGreatDoor
open Go.RowKit

def msgE (s h d : ByteArray) : Int := if errS false s ≠ 0 then errS false s else if 256 < h.size + d.size then 2 else 0
def purE (s h d : ByteArray) : Int := if errS true s ≠ 0 then errS true s else if h.size + d.size = 0 then 0 else 1
def barE (s h d : ByteArray) : Int := if s.size + (h.size + d.size) = 0 then 0 else 1
def chkV (k q t : Int) (s h d : ByteArray) : Int := Pk.chk ⟨k, q, t, s.data.toList, h.data.toList, d.data.toList⟩
theorem len_size (s : ByteArray) : s.data.toList.length = s.size := by simp
theorem tl_nil (s : ByteArray) : (s.toList = []) = (s.size = 0) := by
  rw [ByteArray.toList_eq, ← len_size, List.length_eq_zero_iff]
theorem tl_emp (s : ByteArray) : s.toList.isEmpty = decide (s.size = 0) := by
  rw [ByteArray.toList_eq, ← len_size, Bool.eq_iff_iff, List.isEmpty_iff, decide_eq_true_eq, List.length_eq_zero_iff]
theorem chkV_eq (k q t : Int) (s h d : ByteArray) : chkV k q t s h d = if Pk.inB k q t = false then 1 else if k = 1 then msgE s h d else if k = 3 then purE s h d else barE s h d := by
  unfold chkV Pk.chk msgE purE barE errS
  simp only [len_size]

set_option maxRecDepth 100000 in
set_option maxHeartbeats 400000 in
theorem ckmsg_any (k q t : Int) (s h d : ByteArray) (w : World) (hs : s.size ≤ 140737488355328) (hh : h.size ≤ 140737488355328) (hd : d.size ≤ 140737488355328) :
    Calls Tryz.prog 106 #[.agg #[.int .i64 k, .int .i64 q, .int .i64 t, .string s, .string h, .string d]] w fun e w' => e = .returned (.int .i64 (msgE s h d)) ∧ Below w.heap.size w w' := by
  obtain ⟨E, hE⟩ : ∃ E, E = errS false s := ⟨_, rfl⟩
  have C : Hid (∀ W : World, Calls Tryz.prog 139 #[.string s] W fun e w' => e = .returned (.int .i64 E) ∧ Below W.heap.size W w') := hide (fun W => by rw [hE]; exact subject_any s W hs)
  have R0 := hide (RB.new w k q t s h d 43)
  have B0 : Hid (Below w.heap.size w (w.alloc (.cells #[.int .i64 k, .int .i64 q, .int .i64 t, .string s, .string h, .string d] 43))) := hide ((Below.refl _ _).alloc (Nat.le_refl _) _)
  have M : Hid (msgE s h d = if E ≠ 0 then E else if 256 < h.size + d.size then 2 else 0) := hide (by unfold msgE; rw [← hE])
  clear hE
  go_enter Tryz.func106, Tryz.ntmps106
  go_wp2_with fail
  refine (unhide C _).mono ?_
  rintro e w1 ⟨rfl, b1⟩
  have R1 := (unhide R0).next b1
  have c4 := R1.c4
  have c5 := R1.c5
  have B1 := hide (bstep (unhide B0) b1)
  clear R1 R0 B0 b1
  go_wp2_with fail
  all_goals go_ret
  all_goals refine ⟨ret_int ?_, unhide B1⟩
  all_goals rw [unhide M]
  all_goals clear M C c4 c5 B1
  all_goals simp only [bne_iff_ne, ne_eq, bne_eq_false_iff_eq] at *
  all_goals split
  all_goals first | rfl | omega | (split <;> omega)

set_option maxRecDepth 100000 in
set_option maxHeartbeats 400000 in
theorem ckpur_any (k q t : Int) (s h d : ByteArray) (w : World) (hs : s.size ≤ 140737488355328) :
    Calls Tryz.prog 107 #[.agg #[.int .i64 k, .int .i64 q, .int .i64 t, .string s, .string h, .string d]] w fun e w' => e = .returned (.int .i64 (purE s h d)) ∧ Below w.heap.size w w' := by
  obtain ⟨E, hE⟩ : ∃ E, E = errS true s := ⟨_, rfl⟩
  have C : Hid (∀ W : World, Calls Tryz.prog 140 #[.string s] W fun e w' => e = .returned (.int .i64 E) ∧ Below W.heap.size W w') := hide (fun W => by rw [hE]; exact filter_any s W hs)
  have R0 := hide (RB.new w k q t s h d 43)
  have B0 : Hid (Below w.heap.size w (w.alloc (.cells #[.int .i64 k, .int .i64 q, .int .i64 t, .string s, .string h, .string d] 43))) := hide ((Below.refl _ _).alloc (Nat.le_refl _) _)
  have M : Hid (purE s h d = if E ≠ 0 then E else if h.size + d.size = 0 then 0 else 1) := hide (by unfold purE; rw [← hE])
  clear hE
  go_enter Tryz.func107, Tryz.ntmps107
  go_wp2_with fail
  refine (unhide C _).mono ?_
  rintro e w1 ⟨rfl, b1⟩
  have R1 := (unhide R0).next b1
  have c4 := R1.c4
  have c5 := R1.c5
  have B1 := hide (bstep (unhide B0) b1)
  clear R1 R0 B0 b1
  go_wp2_with fail
  all_goals go_ret
  all_goals refine ⟨ret_int ?_, unhide B1⟩
  all_goals rw [unhide M]
  all_goals clear M C c4 c5 B1
  all_goals simp only [tl_emp, tl_nil, Bool.not_eq_true', Bool.not_eq_false', decide_eq_true_eq, decide_eq_false_iff_not, bne_iff_ne, ne_eq, bne_eq_false_iff_eq] at *
  all_goals split
  all_goals first | rfl | omega | (split <;> omega)

set_option maxRecDepth 100000 in
set_option maxHeartbeats 400000 in
theorem ckbar_any (k q t : Int) (s h d : ByteArray) (w : World) :
    Calls Tryz.prog 108 #[.agg #[.int .i64 k, .int .i64 q, .int .i64 t, .string s, .string h, .string d]] w fun e w' => e = .returned (.int .i64 (barE s h d)) ∧ Below w.heap.size w w' := by
  have B0 : Hid (Below w.heap.size w (w.alloc (.cells #[.int .i64 k, .int .i64 q, .int .i64 t, .string s, .string h, .string d] 43))) := hide ((Below.refl _ _).alloc (Nat.le_refl _) _)
  go_enter Tryz.func108, Tryz.ntmps108
  go_wp2_with fail
  all_goals go_ret
  all_goals refine ⟨ret_int ?_, unhide B0⟩
  all_goals unfold barE
  all_goals simp only [tl_emp, tl_nil, Bool.not_eq_true', Bool.not_eq_false', decide_eq_true_eq, decide_eq_false_iff_not] at *
  all_goals first | (rw [if_pos (by omega)]; done) | (rw [if_neg (by omega)]; done)

theorem chk_out {k q t : Int} {s h d : ByteArray} (b : Pk.inB k q t = false) : chkV k q t s h d = 1 := by rw [chkV_eq, if_pos b]
theorem chk_in {k q t : Int} {s h d : ByteArray} (b : Pk.inB k q t = true) : chkV k q t s h d = if k = 1 then msgE s h d else if k = 3 then purE s h d else barE s h d := by rw [chkV_eq, if_neg (by rw [b]; decide)]
theorem inB_false {k q t : Int} : Pk.inB k q t = false ↔ ¬ (1 ≤ k ∧ k ≤ 4 ∧ 1 ≤ q ∧ q ≤ 1099511627776 ∧ 0 ≤ t ∧ t ≤ 1099511627776) := by
  rw [← Pk.inB_iff]; simp

set_option maxRecDepth 100000 in
set_option maxHeartbeats 400000 in
theorem check_any (k q t : Int) (s h d : ByteArray) (w : World) (hs : s.size ≤ 140737488355328) (hh : h.size ≤ 140737488355328) (hd : d.size ≤ 140737488355328) :
    Calls Tryz.prog 65 #[.agg #[.int .i64 k, .int .i64 q, .int .i64 t, .string s, .string h, .string d]] w fun e w' => e = .returned (.int .i64 (chkV k q t s h d)) ∧ Below w.heap.size w w' := by
  have B0 : Hid (Below w.heap.size w (w.alloc (.cells #[.int .i64 k, .int .i64 q, .int .i64 t, .string s, .string h, .string d] 43))) := hide ((Below.refl _ _).alloc (Nat.le_refl _) _)
  by_cases hq : 1 ≤ q ∧ q ≤ 1099511627776 ∧ 0 ≤ t ∧ t ≤ 1099511627776
  · obtain ⟨q1, q2, q3, q4⟩ := hq
    by_cases k1 : k = 1
    · have M : Hid (chkV k q t s h d = msgE s h d) := hide (by rw [chk_in (Pk.inB_iff.2 (by omega)), if_pos k1])
      subst k1
      go_enter Tryz.func65, Tryz.ntmps65
      go_wp2_with fail
      refine (ckmsg_any _ _ _ _ _ _ _ hs hh hd).mono ?_
      rintro e w1 ⟨rfl, b1⟩
      go_wp2_with fail
      go_ret
      exact ⟨ret_int (unhide M).symm, bstep (unhide B0) b1⟩
    by_cases k3 : k = 3
    · have M : Hid (chkV k q t s h d = purE s h d) := hide (by rw [chk_in (Pk.inB_iff.2 (by omega)), if_neg k1, if_pos k3])
      clear k1
      subst k3
      go_enter Tryz.func65, Tryz.ntmps65
      go_wp2_with fail
      refine (ckpur_any _ _ _ _ _ _ _ hs).mono ?_
      rintro e w1 ⟨rfl, b1⟩
      go_wp2_with fail
      go_ret
      exact ⟨ret_int (unhide M).symm, bstep (unhide B0) b1⟩
    by_cases k2 : k = 2
    · have M : Hid (chkV k q t s h d = barE s h d) := hide (by rw [chk_in (Pk.inB_iff.2 (by omega)), if_neg k1, if_neg k3])
      clear k1 k3
      subst k2
      go_enter Tryz.func65, Tryz.ntmps65
      go_wp2_with fail
      refine (ckbar_any _ _ _ _ _ _ _).mono ?_
      rintro e w1 ⟨rfl, b1⟩
      go_wp2_with fail
      go_ret
      exact ⟨ret_int (unhide M).symm, bstep (unhide B0) b1⟩
    by_cases k4 : k = 4
    · have M : Hid (chkV k q t s h d = barE s h d) := hide (by rw [chk_in (Pk.inB_iff.2 (by omega)), if_neg k1, if_neg k3])
      clear k1 k3 k2
      subst k4
      go_enter Tryz.func65, Tryz.ntmps65
      go_wp2_with fail
      refine (ckbar_any _ _ _ _ _ _ _).mono ?_
      rintro e w1 ⟨rfl, b1⟩
      go_wp2_with fail
      go_ret
      exact ⟨ret_int (unhide M).symm, bstep (unhide B0) b1⟩
    have M : Hid (chkV k q t s h d = 1) := hide (chk_out (inB_false.2 (by omega)))
    have n1 : (k == 1) = false := by simp; omega
    have n2 : (k == 2) = false := by simp; omega
    have n3 : (k == 3) = false := by simp; omega
    have n4 : (k == 4) = false := by simp; omega
    clear k1 k2 k3 k4
    go_enter Tryz.func65, Tryz.ntmps65
    go_wp2_with fail
    go_ret
    exact ⟨ret_int (unhide M).symm, unhide B0⟩
  · have M : Hid (chkV k q t s h d = 1) := hide (chk_out (inB_false.2 (by omega)))
    have HQ := hide hq
    clear hq
    go_enter Tryz.func65, Tryz.ntmps65
    go_wp2_with fail
    all_goals first
      | (go_ret; exact ⟨ret_int (unhide M).symm, unhide B0⟩)
      | (exfalso; have := unhide HQ; omega)
end Go.Proofs.YtphhebdmfdjfeabGreatDoor

namespace Go.Proofs.YtphhebdmfdjfeabGreatDoor
open Go.RowKit

def recV (r : Pk.Rec) : Value := .agg #[.int .i64 r.k, .int .i64 r.q, .int .i64 r.t, .string (bs r.s), .string (bs r.h), .string (bs r.d)]
theorem load_rec {w : World} {b : Nat} {k q t : Int} {s h d : ByteArray} (r : RB w b k q t s h d) :
    (loadVar 43 ⟨b, 0, none⟩).run Tryz.prog w = .ok (.agg #[.int .i64 k, .int .i64 q, .int .i64 t, .string s, .string h, .string d]) w := by
  have hl : (loadCells ⟨b, 0, none⟩ 6).run Tryz.prog w = .ok #[.int .i64 k, .int .i64 q, .int .i64 t, .string s, .string h, .string d] w :=
    run_loadCells_list (P := Tryz.prog) w ⟨b, 0, none⟩ [.int .i64 k, .int .i64 q, .int .i64 t, .string s, .string h, .string d] (fun j v hv => by
      rw [addp, Nat.zero_add]
      match j, hv with
      | 0, hv => rw [r.c0]; simpa using hv
      | 1, hv => rw [r.c1]; simpa using hv
      | 2, hv => rw [r.c2]; simpa using hv
      | 3, hv => rw [r.c3]; simpa using hv
      | 4, hv => rw [r.c4]; simpa using hv
      | 5, hv => rw [r.c5]; simpa using hv)
  have hz : Tryz.t43.size = 6 := by kernel_rfl
  simp [loadVar, isAgg, sizeOf]
  rw [hz, hl]
  rfl
theorem results_rec2 {fn : Func} {a u : Tmp} {tmps : Array Value} {w : World} {b : Nat} {k q t : Int} {s h d : ByteArray} (hf : fn.results = #[.cell a 43, .tmp u]) (ha : tmps.getD a undef = .pointer (some ⟨b, 0, none⟩)) (r : RB w b k q t s h d) :
    (results fn tmps).run Tryz.prog w = .ok (.tuple #[.agg #[.int .i64 k, .int .i64 q, .int .i64 t, .string s, .string h, .string d], tmps.getD u undef]) w := by
  have ha' : tmps[a]?.getD undef = .pointer (some ⟨b, 0, none⟩) := by simpa using ha
  simp [results, hf, ha', asAddr, load_rec r]
theorem results_rec3 {fn : Func} {a u v : Tmp} {tmps : Array Value} {w : World} {b : Nat} {k q t : Int} {s h d : ByteArray} (hf : fn.results = #[.cell a 43, .tmp u, .tmp v]) (ha : tmps.getD a undef = .pointer (some ⟨b, 0, none⟩)) (r : RB w b k q t s h d) :
    (results fn tmps).run Tryz.prog w = .ok (.tuple #[.agg #[.int .i64 k, .int .i64 q, .int .i64 t, .string s, .string h, .string d], tmps.getD u undef, tmps.getD v undef]) w := by
  have ha' : tmps[a]?.getD undef = .pointer (some ⟨b, 0, none⟩) := by simpa using ha
  simp [results, hf, ha', asAddr, load_rec r]
end Go.Proofs.YtphhebdmfdjfeabGreatDoor

namespace Go.Proofs.YtphhebdmfdjfeabGreatDoor.Dk
open Go.RowKit

theorem neqR (r : Rc) (W : World) : (binOp .neq 43 (.agg #[.int .i64 r.k, .int .i64 r.q, .int .i64 r.t, .string r.s, .string r.h, .string r.d]) (.agg #[.int .i64 r.k, .int .i64 r.q, .int .i64 r.t, .string r.s, .string r.h, .string r.d])).run Tryz.prog W = .ok (.bool false) W := by
  have u3 := Tryz.underlying3
  have u9 := Tryz.underlying9
  have hS : Tryz.prog.underlying 43 = some (.struct (Tryz.prog.fieldsOf 43)) := by kernel_rfl
  have hp : Tryz.prog.stoodInHeld 43 = false := by kernel_rfl
  rw [run_neq_struct, show (10000 : Nat) = 9999 + 1 from rfl, run_equalIn_agg W 9999 43 _ _ hS hp]
  simp only [Program.fieldsOf, Tryz.underlying43]
  go_simp

set_option maxHeartbeats 2000000 in
set_option maxRecDepth 100000 in
theorem equal_rec (a b : Option Addr) (ca cb : Nat) (l : List Rc) (w : World) (ha : SlR w a l) (hb : SlR w b l) (h100 : l.length ≤ 1000000) :
    Calls Tryz.prog 11 #[.slice a l.length ca, .slice b l.length cb] w fun e w' => e = .returned (.bool true) ∧ ∃ q, w' = w.drewN q := by
  have Ha := hide ha
  have Hb := hide hb
  clear ha hb
  have hm : Tryz.prog.eqGuardType Tryz.prog.depth 43 = false := by kernel_rfl
  go_enter Tryz.func11, Tryz.ntmps11
  go_wp2
  go_loopw [13] (fun kv wr => ∃ (k : Nat), kv = .int .i64 k ∧ k ≤ l.length ∧ ∃ n, wr = w.drewN n) (fun kv _ => l.length - (intOf kv).toNat)
  case atStart => exact ⟨0, rfl, Nat.zero_le _, 0, rfl⟩
  case round =>
    obtain ⟨k, rfl, hk, n, rfl⟩ := hrel
    by_cases hlt : k < l.length
    · obtain ⟨g, o, rfl, s1⟩ := unhide Ha k hlt
      obtain ⟨h, o2, rfl, s2⟩ := unhide Hb k hlt
      obtain ⟨_, x0, x1, x2, x3, x4, x5⟩ := s1
      obtain ⟨_, y0, y1, y2, y3, y4, y5⟩ := s2
      have hne := neqR (rc l k)
      go_wp2
      go_quiet (fail)
      go_wp2
      exact ⟨⟨k + 1, by go_num, by omega, _, rfl⟩, by simp [intOf]; omega⟩
    · go_wp2
      go_ret
      exact ⟨rfl, n, rfl⟩
end Go.Proofs.YtphhebdmfdjfeabGreatDoor.Dk

namespace Go.Proofs.YtphhebdmfdjfeabGreatDoor.Dk
open Go.RowKit

structure SWorks (SH : World → Nat → Nat → (Nat → Prop) → Sto → Prop) : Prop where
  own : ∀ {w B q F s}, SH w B q F s → ∀ k, F k → B ≤ k ∧ k < w.heap.size
  chg : ∀ {w w' B q F s} {A : Nat → Prop}, SH w B q F s → Chg A w w' → (∀ k, F k → ¬ A k) → SH w' B q F s
  new : ∀ w : World, Calls Tryz.prog 25 #[] w fun e w' => ∃ q F, e = .returned (.pointer (some ⟨q, 0, none⟩)) ∧ SH w' w.heap.size q F ⟨[], 0⟩ ∧ Below w.heap.size w w'
  apply : ∀ {w B q F s} (r : Rc), Small r → SH w B q F s → s.Ok → B ≤ w.heap.size →
    Calls Tryz.prog 28 #[.pointer (some ⟨q, 0, none⟩), .agg #[.int .i64 r.k, .int .i64 r.q, .int .i64 r.t, .string r.s, .string r.h, .string r.d]] w fun e w' => e = .returned (.int .i64 (tryE s r)) ∧ DidS SH w w' B q F (aplS s r)
  all : ∀ {w B q F s}, SH w B q F s → s.Ok → B ≤ w.heap.size →
    Calls Tryz.prog 74 #[.pointer (some ⟨q, 0, none⟩)] w fun e w' => ∃ v, e = .returned v ∧ ArrR w' w.heap.size v s.l ∧ Below w.heap.size w w'
  sums : ∀ {w B q F s}, SH w B q F s → s.Ok → B ≤ w.heap.size →
    Calls Tryz.prog 72 #[.pointer (some ⟨q, 0, none⟩)] w fun e w' => e = .returned (.agg #[.int .i64 (s.l.length : Int), .int .i64 (byteN s.l : Int), .int .i64 (firstQ s.l), .int .i64 s.last]) ∧ Below w.heap.size w w'
  last : ∀ {w B q F s} (f : ByteArray), f.size ≤ 140737488355328 → SH w B q F s → s.Ok → B ≤ w.heap.size →
    Calls Tryz.prog 77 #[.pointer (some ⟨q, 0, none⟩), .string f] w fun e w' => e = .returned (seekV f (lastO f s.l)) ∧ Below w.heap.size w w'
  next : ∀ {w B q F s} (f : ByteArray) (n : Int), f.size ≤ 140737488355328 → SH w B q F s → s.Ok → B ≤ w.heap.size →
    Calls Tryz.prog 79 #[.pointer (some ⟨q, 0, none⟩), .string f, .int .i64 n] w fun e w' => e = .returned (seekV f (nextO f s.l n)) ∧ Below w.heap.size w w'
end Go.Proofs.YtphhebdmfdjfeabGreatDoor.Dk

namespace Go.Proofs.YtphhebdmfdjfeabGreatDoor.Dk
open Go.RowKit

theorem right_msg {r : Rc} (h : chkR r = 0) (h1 : r.k = 1) : errS false r.s = 0 := by
  have e := chkV_eq r.k r.q r.t r.s r.h r.d
  have e2 : chkV r.k r.q r.t r.s r.h r.d = 0 := h
  rw [e2] at e
  by_cases hb : Pk.inB r.k r.q r.t = false
  · rw [if_pos hb] at e; cases e
  · rw [if_neg hb, if_pos h1] at e
    unfold msgE at e
    by_cases z : errS false r.s ≠ 0
    · rw [if_pos z] at e; exact e.symm
    · exact Classical.byContradiction z
theorem Sto.Ok.cnt {s : Sto} (h : s.Ok) : ∃ es, Cnt s.l es := cnt_ex _ s.l rfl (fun x hx => ⟨right_msg (h.msg x hx).2 (h.msg x hx).1, by have := (h.small hx).1; omega⟩) h.names
end Go.Proofs.YtphhebdmfdjfeabGreatDoor.Dk

namespace Go.Proofs.YtphhebdmfdjfeabGreatDoor.Dk
open Go.RowKit

structure STells (SH : World → Nat → Nat → (Nat → Prop) → Sto → Prop) : Prop where
  subjects : ∀ {w B q F s} (f : ByteArray) {es : List Ent}, f.size ≤ 140737488355328 → SH w B q F s → s.Ok → B ≤ w.heap.size → Cnt s.l es →
    Calls Tryz.prog 80 #[.pointer (some ⟨q, 0, none⟩), .string f] w fun e w' => ∃ v', e = .returned (.tuple #[v', .int .i64 (errS true f)]) ∧ Arr w' w.heap.size v' (foundL es f) ∧ Below w.heap.size w w'
end Go.Proofs.YtphhebdmfdjfeabGreatDoor.Dk

namespace Go.Proofs.YtphhebdmfdjfeabGreatDoor.Dk
open Go.RowKit

structure STrys (SH : World → Nat → Nat → (Nat → Prop) → Sto → Prop) : Prop where
  tries : ∀ {w B q F s} (r : Rc), Small r → SH w B q F s → s.Ok → B ≤ w.heap.size →
    Calls Tryz.prog 27 #[.pointer (some ⟨q, 0, none⟩), .agg #[.int .i64 r.k, .int .i64 r.q, .int .i64 r.t, .string r.s, .string r.h, .string r.d]] w fun e w' => e = .returned (.int .i64 (tryE s r)) ∧ Below w.heap.size w w'
  gets : ∀ {w B q F s} (n : Int), SH w B q F s → s.Ok → B ≤ w.heap.size →
    Calls Tryz.prog 75 #[.pointer (some ⟨q, 0, none⟩), .int .i64 n] w fun e w' => e = .returned (ansV (getO s.l n)) ∧ Below w.heap.size w w'
end Go.Proofs.YtphhebdmfdjfeabGreatDoor.Dk

namespace Go.Proofs.YtphhebdmfdjfeabGreatDoor.Dk
open Go.RowKit

/-- how many messages have a lower number -/
def pq : List Rc → Int → Nat
  | [], _ => 0
  | r :: l, n => if r.q < n then pq l n + 1 else 0
def RiseQ (l : List Rc) : Prop := l.Pairwise fun a b => a.q < b.q
theorem pq_le : ∀ (l : List Rc) (n : Int), pq l n ≤ l.length
  | [], _ => Nat.le_refl _
  | r :: l, n => by
    have := pq_le l n
    rw [pq, List.length_cons]
    split <;> omega
theorem rc_mem {l : List Rc} {k : Nat} (h : k < l.length) : rc l k ∈ l := by rw [rc_get h]; exact List.getElem_mem h
theorem pq_lt : ∀ (l : List Rc) (n : Int) (k : Nat), k < pq l n → (rc l k).q < n
  | [], n, k, h => by simp [pq] at h
  | r :: l, n, k, h => by
    rw [pq] at h
    by_cases hr : r.q < n
    · rw [if_pos hr] at h
      match k, h with
      | 0, _ => exact hr
      | k + 1, h => exact pq_lt l n k (by omega)
    · rw [if_neg hr] at h; omega
theorem pq_at : ∀ (l : List Rc) (n : Int), pq l n < l.length → n ≤ (rc l (pq l n)).q
  | [], n, h => by simp [pq] at h
  | r :: l, n, h => by
    rw [pq] at h ⊢
    by_cases hr : r.q < n
    · rw [if_pos hr] at h ⊢
      have := pq_at l n (by rw [List.length_cons] at h; omega)
      exact this
    · rw [if_neg hr]
      have e : rc (r :: l) 0 = r := rfl
      rw [e]; omega
theorem rise_lt {l : List Rc} (h : RiseQ l) {i j : Nat} (hij : i < j) (hj : j < l.length) : (rc l i).q < (rc l j).q := by
  rw [rc_get (by omega), rc_get hj]
  exact List.pairwise_iff_getElem.1 h i j (by omega) hj hij
theorem pq_ge {l : List Rc} (h : RiseQ l) (n : Int) (k : Nat) (h1 : pq l n ≤ k) (h2 : k < l.length) : n ≤ (rc l k).q := by
  have ha := pq_at l n (by omega)
  rcases Nat.eq_or_lt_of_le h1 with e | e
  · rw [← e]; exact ha
  · have := rise_lt h e h2; omega
theorem pq_is {l : List Rc} {n : Int} {i : Nat} (hi : i ≤ l.length) (h1 : ∀ j, j < i → (rc l j).q < n) (h2 : ∀ j, i ≤ j → j < l.length → n ≤ (rc l j).q) : i = pq l n := by
  rcases Nat.lt_trichotomy i (pq l n) with h | h | h
  · have a := pq_lt l n i h
    have := pq_le l n
    have := h2 i (Nat.le_refl _) (by omega)
    omega
  · exact h
  · have a := pq_at l n (by omega)
    have := h1 (pq l n) h
    omega
theorem seq_at {l : List Rc} (h : RiseQ l) (n : Int) : seqB l n = (decide (pq l n < l.length) && decide ((rc l (pq l n)).q = n)) := by
  unfold seqB
  rw [Bool.eq_iff_iff, List.any_eq_true, Bool.and_eq_true, decide_eq_true_eq, decide_eq_true_eq]
  constructor
  · rintro ⟨x, hx, e⟩
    have e : x.q = n := of_decide_eq_true e
    obtain ⟨j, hj, rfl⟩ := List.getElem_of_mem hx
    rw [← rc_get hj] at e
    have hp : pq l n = j := by
      refine (pq_is (by omega) (fun i hi => ?_) (fun i hi hl => ?_)).symm
      · have := rise_lt h hi hj; omega
      · rcases Nat.eq_or_lt_of_le hi with z | z
        · rw [← z]; omega
        · have := rise_lt h z hl; omega
    rw [hp]
    exact ⟨hj, e⟩
  · rintro ⟨h1, h2⟩
    exact ⟨_, rc_mem h1, by rw [h2]; simp⟩
theorem seq_miss {l : List Rc} (h : RiseQ l) {n : Int} (hp : pq l n < l.length) : seqB l n = decide ((rc l (pq l n)).q = n) := by
  rw [seq_at h, decide_eq_true hp, Bool.true_and]
theorem seq_end {l : List Rc} (h : RiseQ l) {n : Int} (hp : ¬ pq l n < l.length) : seqB l n = false := by
  rw [seq_at h, decide_eq_false hp, Bool.false_and]
theorem seq_hit {l : List Rc} (h : RiseQ l) {n : Int} (hs : seqB l n = true) : pq l n < l.length ∧ (rc l (pq l n)).q = n := by
  rw [seq_at h, Bool.and_eq_true, decide_eq_true_eq, decide_eq_true_eq] at hs
  exact hs
theorem split_at {l : List Rc} {k : Nat} (h : k < l.length) : l = l.take k ++ rc l k :: l.drop (k + 1) := by
  rw [rc_get h, ← List.drop_eq_getElem_cons h, List.take_append_drop]
theorem get_hit {l : List Rc} (h : RiseQ l) {n : Int} (hs : seqB l n = true) : getO l n = some (rc l (pq l n)) := by
  obtain ⟨h1, h2⟩ := seq_hit h hs
  unfold getO
  rw [List.find?_eq_some_iff_getElem]
  refine ⟨by rw [h2]; simp, pq l n, h1, (rc_get h1).symm, fun j hj => ?_⟩
  have := pq_lt l n j hj
  rw [rc_get (by omega)] at this
  simp only [Bool.not_eq_true', decide_eq_false_iff_not]
  omega
theorem get_none {l : List Rc} {n : Int} (hs : seqB l n = false) : getO l n = none := by
  unfold getO
  rw [List.find?_eq_none]
  intro x hx
  unfold seqB at hs
  rw [List.any_eq_false] at hs
  exact hs x hx
theorem find_same {p q : Rc → Bool} : ∀ {l : List Rc}, (∀ x ∈ l, p x = q x) → l.find? p = l.find? q
  | [], _ => rfl
  | x :: l, h => by
    rw [List.find?_cons, List.find?_cons, h x (List.mem_cons_self ..), find_same (l := l) (fun y hy => h y (List.mem_cons_of_mem _ hy))]
theorem nextO_drop {l : List Rc} (h : RiseQ l) (f : ByteArray) (n : Int) : nextO f l n = (l.drop (pq l n)).find? fun r => tkB f r.s := by
  unfold nextO
  have e : l.find? (fun r => tkB f r.s && decide (n ≤ r.q)) = ((l.take (pq l n)) ++ (l.drop (pq l n))).find? (fun r => tkB f r.s && decide (n ≤ r.q)) := by rw [List.take_append_drop]
  rw [e, List.find?_append]
  have e1 : (l.take (pq l n)).find? (fun r => tkB f r.s && decide (n ≤ r.q)) = none := by
    rw [List.find?_eq_none]
    intro x hx
    obtain ⟨j, hj, rfl⟩ := List.getElem_of_mem hx
    rw [List.length_take] at hj
    have := pq_lt l n j (by omega)
    rw [rc_get (by omega)] at this
    rw [List.getElem_take]
    simp only [Bool.and_eq_true, decide_eq_true_eq, not_and]
    intro _
    omega
  rw [e1, Option.none_or]
  refine find_same (fun x hx => ?_)
  obtain ⟨j, hj, rfl⟩ := List.getElem_of_mem hx
  rw [List.length_drop] at hj
  rw [List.getElem_drop]
  have := pq_ge h n (pq l n + j) (by omega) (by omega)
  rw [rc_get (by omega)] at this
  rw [decide_eq_true this, Bool.and_true]
/-- the message of that number is gone -/
def delR (l : List Rc) (i : Nat) : List Rc := l.take i ++ l.drop (i + 1)
theorem delR_length {l : List Rc} {i : Nat} (h : i < l.length) : (delR l i).length = l.length - 1 := by
  unfold delR
  rw [List.length_append, List.length_take, List.length_drop]
  omega
theorem erase_is {l : List Rc} (h : RiseQ l) {n : Int} (hs : seqB l n = true) : l.filter (fun x => !decide (x.q = n)) = delR l (pq l n) := by
  obtain ⟨h1, h2⟩ := seq_hit h hs
  unfold delR
  have e := congrArg (List.filter fun x : Rc => !decide (x.q = n)) (split_at h1)
  rw [e, List.filter_append, List.filter_cons, h2]
  simp only [decide_true, Bool.not_true, Bool.false_eq_true, if_false]
  congr 1
  · refine List.filter_eq_self.2 (fun x hx => ?_)
    obtain ⟨j, hj, rfl⟩ := List.getElem_of_mem hx
    rw [List.length_take] at hj
    have := pq_lt l n j (by omega)
    rw [rc_get (by omega)] at this
    rw [List.getElem_take]
    simp only [Bool.not_eq_true', decide_eq_false_iff_not]
    omega
  · refine List.filter_eq_self.2 (fun x hx => ?_)
    obtain ⟨j, hj, rfl⟩ := List.getElem_of_mem hx
    rw [List.length_drop] at hj
    have := rise_lt h (i := pq l n) (j := pq l n + 1 + j) (by omega) (by omega)
    rw [rc_get (l := l) (k := pq l n + 1 + j) (by omega)] at this
    rw [List.getElem_drop]
    simp only [Bool.not_eq_true', decide_eq_false_iff_not]
    omega
/-- what a purge leaves of messages that all have a lower number -/
def leftL (f : ByteArray) (l : List Rc) : List Rc := l.filter fun x => !tkB f x.s
theorem left_take {f : ByteArray} {l : List Rc} {k : Nat} (h : k < l.length) : leftL f (l.take (k + 1)) = leftL f (l.take k) ++ (if tkB f (rc l k).s then [] else [rc l k]) := by
  unfold leftL
  rw [List.take_succ_eq_append_getElem h, ← rc_get h, List.filter_append]
  cases e : tkB f (rc l k).s <;> simp [e]
theorem left_len (f : ByteArray) (l : List Rc) : (leftL f l).length ≤ l.length := List.length_filter_le _ _
theorem purge_is {l : List Rc} (h : RiseQ l) (f : ByteArray) (n : Int) : l.filter (fun x => !(decide (x.q < n) && tkB f x.s)) = leftL f (l.take (pq l n)) ++ l.drop (pq l n) := by
  have e := congrArg (List.filter fun x : Rc => !(decide (x.q < n) && tkB f x.s)) (List.take_append_drop (pq l n) l).symm
  rw [e, List.filter_append]
  congr 1
  · unfold leftL
    refine List.filter_congr (fun x hx => ?_)
    obtain ⟨j, hj, rfl⟩ := List.getElem_of_mem hx
    rw [List.length_take] at hj
    have := pq_lt l n j (by omega)
    rw [rc_get (by omega)] at this
    rw [List.getElem_take, decide_eq_true this, Bool.true_and]
  · refine List.filter_eq_self.2 (fun x hx => ?_)
    obtain ⟨j, hj, rfl⟩ := List.getElem_of_mem hx
    rw [List.length_drop] at hj
    have := pq_ge h n (pq l n + j) (by omega) (by omega)
    rw [rc_get (by omega)] at this
    rw [List.getElem_drop, decide_eq_false (by omega), Bool.false_and]
    rfl
/-- one message less, as the program counts it off -/
def offL (es : List Ent) (n : Int) (s : ByteArray) : List Ent := if 1 < n then putL es s (n - 1) else dropL es s
theorem Cnt.off {A B : List Rc} {x : Rc} {es : List Ent} (h : Cnt (A ++ x :: B) es) (hs : errS false x.s = 0) (hz : x.s.size ≤ 140737488355328) : Cnt (A ++ B) (offL es (getN es x.s) x.s) := by
  have hc : cntN (A ++ x :: B) x.s = cntN (A ++ B) x.s + 1 := by
    rw [show A ++ x :: B = A ++ ([x] ++ B) from rfl, cntN_append, cntN_append, cntN_append, cntN_one, if_pos rfl]
    omega
  have h2 := (h.less hs hz).2
  unfold offL
  rw [h.get hs, hc]
  by_cases h0 : cntN (A ++ B) x.s = 0
  · rw [if_pos h0] at h2
    rw [if_neg (by omega)]
    exact h2
  · rw [if_neg h0] at h2
    rw [if_pos (by omega), show ((cntN (A ++ B) x.s + 1 : Nat) : Int) - 1 = (cntN (A ++ B) x.s : Int) by omega]
    exact h2
end Go.Proofs.YtphhebdmfdjfeabGreatDoor.Dk
