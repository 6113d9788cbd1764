/-
  What is asked of the program's store, whatever it is made of: New, Apply, All, Sums, Last, Next.
  What more is asked of the program's store: Subjects.
-/
import Derived.Test.YtcdajajekmichafDoorJointPapSPapT
import Derived.Test.YtcdajajekmichafDoorJointRowGRowBRowSRowURowV
import Derived.Test.YtcdajajekmichafDoorJointPapDPapLPapMPapGPapN
import Derived.Test.YtcdajajekmichafDoorJointPapCPapE
import Derived.Test.YtcdajajekmichafDoorRowE
import Derived.Test.YtcdajajekmichafDoorWalkC3
namespace Go.Proofs.YtcdajajekmichafDoor.Dk
open Go.RowKit

structure SWorks (SH : World → Nat → Nat → (Nat → Prop) → Sto → Prop) : Prop where
  own : ∀ {w B q F s}, SH w B q F s → ∀ k, F k → B ≤ k ∧ k < w.heap.size
  chg : ∀ {w w' B q F s} {A : Nat → Prop}, SH w B q F s → Chg A w w' → (∀ k, F k → ¬ A k) → SH w' B q F s
  new : ∀ w : World, Calls Tryd.prog 18 #[] w fun e w' => ∃ q F, e = .returned (.pointer (some ⟨q, 0, none⟩)) ∧ SH w' w.heap.size q F ⟨[], 0⟩ ∧ Below w.heap.size w w'
  apply : ∀ {w B q F s} (r : Rc), Small r → SH w B q F s → s.Ok → B ≤ w.heap.size →
    Calls Tryd.prog 16 #[.pointer (some ⟨q, 0, none⟩), .agg #[.int .i64 r.k, .int .i64 r.q, .int .i64 r.t, .string r.s, .string r.h, .string r.d]] w fun e w' => e = .returned (.int .i64 (tryE s r)) ∧ DidS SH w w' B q F (aplS s r)
  all : ∀ {w B q F s}, SH w B q F s → s.Ok → B ≤ w.heap.size →
    Calls Tryd.prog 9 #[.pointer (some ⟨q, 0, none⟩)] w fun e w' => ∃ v, e = .returned v ∧ ArrR w' w.heap.size v s.l ∧ Below w.heap.size w w'
  sums : ∀ {w B q F s}, SH w B q F s → s.Ok → B ≤ w.heap.size →
    Calls Tryd.prog 8 #[.pointer (some ⟨q, 0, none⟩)] w fun e w' => e = .returned (.agg #[.int .i64 (s.l.length : Int), .int .i64 (byteN s.l : Int), .int .i64 (firstQ s.l), .int .i64 s.last]) ∧ Below w.heap.size w w'
  last : ∀ {w B q F s} (f : ByteArray), f.size ≤ 140737488355328 → SH w B q F s → s.Ok → B ≤ w.heap.size →
    Calls Tryd.prog 14 #[.pointer (some ⟨q, 0, none⟩), .string f] w fun e w' => e = .returned (seekV f (lastO f s.l)) ∧ Below w.heap.size w w'
  next : ∀ {w B q F s} (f : ByteArray) (n : Int), f.size ≤ 140737488355328 → SH w B q F s → s.Ok → B ≤ w.heap.size →
    Calls Tryd.prog 11 #[.pointer (some ⟨q, 0, none⟩), .string f, .int .i64 n] w fun e w' => e = .returned (seekV f (nextO f s.l n)) ∧ Below w.heap.size w w'
end Go.Proofs.YtcdajajekmichafDoor.Dk

namespace Go.Proofs.YtcdajajekmichafDoor.Dk
open Go.RowKit

theorem right_msg {r : Rc} (h : chkR r = 0) (h1 : r.k = 1) : errS false r.s = 0 := by
  have e := chkV_eq r.k r.q r.t r.s r.h r.d
  have e2 : chkV r.k r.q r.t r.s r.h r.d = 0 := h
  rw [e2] at e
  by_cases hb : Pk.inB r.k r.q r.t = false
  · rw [if_pos hb] at e; cases e
  · rw [if_neg hb, if_pos h1] at e
    unfold msgE at e
    by_cases z : errS false r.s ≠ 0
    · rw [if_pos z] at e; exact e.symm
    · exact Classical.byContradiction z
theorem Sto.Ok.cnt {s : Sto} (h : s.Ok) : ∃ es, Cnt s.l es := cnt_ex _ s.l rfl (fun x hx => ⟨right_msg (h.msg x hx).2 (h.msg x hx).1, by have := (h.small hx).1; omega⟩) h.names
structure STells (SH : World → Nat → Nat → (Nat → Prop) → Sto → Prop) : Prop where
  subjects : ∀ {w B q F s} (f : ByteArray) {es : List Ent}, f.size ≤ 140737488355328 → SH w B q F s → s.Ok → B ≤ w.heap.size → Cnt s.l es →
    Calls Tryd.prog 10 #[.pointer (some ⟨q, 0, none⟩), .string f] w fun e w' => ∃ v', e = .returned (.tuple #[v', .int .i64 (errS true f)]) ∧ Arr w' w.heap.size v' (foundL es f) ∧ Below w.heap.size w w'
end Go.Proofs.YtcdajajekmichafDoor.Dk
