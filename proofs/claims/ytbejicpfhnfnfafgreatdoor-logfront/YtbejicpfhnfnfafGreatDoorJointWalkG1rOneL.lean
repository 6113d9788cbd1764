/-
  Contract of slices.Equal at two slices that show the same records.
  The program's disk (or log) and the law's own list of records side by side: the steps of the law LogFront.
-/
import Derived.Test.YtbejicpfhnfnfafGreatDoorRowG
import Derived.Deep.QuietTactic
import Derived.BigQuiet
import Derived.Test.YtbejicpfhnfnfafGreatDoorJointPapNWorksGPapHPapFWorksF
namespace Go.Proofs.YtbejicpfhnfnfafGreatDoor.Dk
open Go.RowKit

theorem neqR (r : Rc) (W : World) : (binOp .neq 32 (.agg #[.int .i64 r.k, .int .i64 r.q, .int .i64 r.t, .string r.s, .string r.h, .string r.d]) (.agg #[.int .i64 r.k, .int .i64 r.q, .int .i64 r.t, .string r.s, .string r.h, .string r.d])).run Tryz.prog W = .ok (.bool false) W := by
  have u3 := Tryz.underlying3
  have u9 := Tryz.underlying9
  have hS : Tryz.prog.underlying 32 = some (.struct (Tryz.prog.fieldsOf 32)) := by kernel_rfl
  have hp : Tryz.prog.stoodInHeld 32 = false := by kernel_rfl
  rw [run_neq_struct, show (10000 : Nat) = 9999 + 1 from rfl, run_equalIn_agg W 9999 32 _ _ hS hp]
  simp only [Program.fieldsOf, Tryz.underlying32]
  go_simp

set_option maxHeartbeats 2000000 in
set_option maxRecDepth 100000 in
theorem equal_rec (a b : Option Addr) (ca cb : Nat) (l : List Rc) (w : World) (ha : SlR w a l) (hb : SlR w b l) (h100 : l.length ≤ 1000000) :
    Calls Tryz.prog 12 #[.slice a l.length ca, .slice b l.length cb] w fun e w' => e = .returned (.bool true) ∧ ∃ q, w' = w.drewN q := by
  have Ha := hide ha
  have Hb := hide hb
  clear ha hb
  have hm : Tryz.prog.eqGuardType Tryz.prog.depth 32 = false := by kernel_rfl
  go_enter Tryz.func12, Tryz.ntmps12
  go_wp2
  go_loopw [13] (fun kv wr => ∃ (k : Nat), kv = .int .i64 k ∧ k ≤ l.length ∧ ∃ n, wr = w.drewN n) (fun kv _ => l.length - (intOf kv).toNat)
  case atStart => exact ⟨0, rfl, Nat.zero_le _, 0, rfl⟩
  case round =>
    obtain ⟨k, rfl, hk, n, rfl⟩ := hrel
    by_cases hlt : k < l.length
    · obtain ⟨g, o, rfl, s1⟩ := unhide Ha k hlt
      obtain ⟨h, o2, rfl, s2⟩ := unhide Hb k hlt
      obtain ⟨_, x0, x1, x2, x3, x4, x5⟩ := s1
      obtain ⟨_, y0, y1, y2, y3, y4, y5⟩ := s2
      have hne := neqR (rc l k)
      go_wp2
      go_quiet (fail)
      go_wp2
      exact ⟨⟨k + 1, by go_num, by omega, _, rfl⟩, by simp [intOf]; omega⟩
    · go_wp2
      go_ret
      exact ⟨rfl, n, rfl⟩
end Go.Proofs.YtbejicpfhnfnfafGreatDoor.Dk

namespace Go.Proofs.YtbejicpfhnfnfafGreatDoor.Dk
open Go.RowKit

/-- which blocks a step has left as they were -/
def Left1 (Cs : Nat → Prop) (w w' : World) : Prop := ∀ k, Cs k → w'.heap[k]? = w.heap[k]?
theorem Left1.cell {Cs : Nat → Prop} {w w' : World} (h : Left1 Cs w w') {C j : Nat} (hC : Cs C) : w'.cell? ⟨C, j, none⟩ = w.cell? ⟨C, j, none⟩ := World.cell?_of_block (w := w) (h C hC)
theorem below_le1 {B C : Nat} {w w' : World} (h : Below C w w') (hB : B ≤ C) : Below B w w' := ⟨h.os, h.tape, h.output, h.size, fun k hk => h.block k (by omega)⟩
/-- what every step needs of a disk or a log -/
structure Stands (Has : World → Nat → Nat → (Nat → Prop) → Int → List Pap → Prop) : Prop where
  own : ∀ {w B q F m es}, Has w B q F m es → ∀ k, F k → B ≤ k ∧ k < w.heap.size
  chg : ∀ {w w' B q F m es} {A : Nat → Prop}, Has w B q F m es → Chg A w w' → (∀ k, F k → ¬ A k) → Has w' B q F m es
/-- the program's disk (or log), the law's list of records, and blocks that are none of theirs -/
def LO (Has : World → Nat → Nat → (Nat → Prop) → Int → List Pap → Prop) (Cs : Nat → Prop) (w wr : World) (q : Nat) (m : Int) (va : Value) (lst : List Rc) (es : List Pap) : Prop :=
  ∃ F, Has wr w.heap.size q F m es ∧ ArrR wr w.heap.size va lst ∧ (∀ k, va.ownBlock = some k → ¬ F k) ∧ (∀ k, Cs k → k < wr.heap.size ∧ ¬ F k ∧ va.ownBlock ≠ some k) ∧ Below w.heap.size w wr
section
variable {Has : World → Nat → Nat → (Nat → Prop) → Int → List Pap → Prop} {LH : Nat → Int → World → Nat → Nat → (Nat → Prop) → Int → List Pap → Prop} {Cs : Nat → Prop} {w wr w' : World} {q : Nat} {m : Int} {va : Value} {lst : List Rc} {es es' : List Pap}
theorem LO.room (h : LO Has Cs w wr q m va lst es) : w.heap.size ≤ wr.heap.size := by
  obtain ⟨F, _, _, _, _, h5⟩ := h
  exact h5.size
theorem LO.lives (h : LO Has Cs w wr q m va lst es) : Below w.heap.size w wr := by
  obtain ⟨F, _, _, _, _, h5⟩ := h
  exact h5
theorem LO.arr (h : LO Has Cs w wr q m va lst es) : ArrR wr w.heap.size va lst := by
  obtain ⟨F, _, h2, _⟩ := h
  exact h2
theorem LO.fewer {Cs' : Nat → Prop} (h : LO Has Cs w wr q m va lst es) (hC : ∀ k, Cs' k → Cs k) : LO Has Cs' w wr q m va lst es := by
  obtain ⟨F, h1, h2, h3, h4, h5⟩ := h
  exact ⟨F, h1, h2, h3, fun k hk => h4 k (hC k hk), h5⟩
theorem LO.below (H : Stands Has) (h : LO Has Cs w wr q m va lst es) (hb : Below wr.heap.size wr w') : LO Has Cs w w' q m va lst es ∧ Left1 Cs wr w' := by
  have hr := h.room
  obtain ⟨F, h1, h2, h3, h4, h5⟩ := h
  exact ⟨⟨F, H.chg (A := fun _ => False) h1 (Chg.of_below hb) (fun _ _ z => z), h2.below hb, h3, fun k hk => ⟨Nat.lt_of_lt_of_le (h4 k hk).1 hb.size, (h4 k hk).2⟩, h5.trans (below_le1 hb hr)⟩, fun k hk => hb.block k (h4 k hk).1⟩
theorem LO.mine (H : Stands Has) (h : LO Has Cs w wr q m va lst es) (hb : Below wr.heap.size wr w') (hl : wr.heap.size < w'.heap.size) : LO Has (fun k => k = wr.heap.size) w w' q m va lst es := by
  have hr := h.room
  obtain ⟨F, h1, h2, h3, h4, h5⟩ := h
  refine ⟨F, H.chg (A := fun _ => False) h1 (Chg.of_below hb) (fun _ _ z => z), h2.below hb, h3, fun k hk => ?_, h5.trans (below_le1 hb hr)⟩
  subst hk
  exact ⟨hl, fun z => by have := (H.own h1 _ z).2; omega, fun z => by have := (World.ownsRow.lt h2 _ z).2; omega⟩
theorem LO.did (H : Stands Has) (h : LO Has Cs w wr q m va lst es) {fn : FuncId} {args : Array Value} {Q : Ending → World → Prop}
    (hc : ∀ F, Has wr w.heap.size q F m es → Calls Tryz.prog fn args wr fun e w' => Q e w' ∧ Did Has wr w' w.heap.size q F m es') :
    Calls Tryz.prog fn args wr fun e w' => Q e w' ∧ LO Has Cs w w' q m va lst es' ∧ Left1 Cs wr w' := by
  have hr := h.room
  obtain ⟨F, h1, h2, h3, h4, h5⟩ := h
  refine (hc F h1).mono ?_
  rintro e w' ⟨hq, F', a1, a2, a3⟩
  have hb : Below w.heap.size wr w' := a2.below hr (fun k hk hf => by have := (H.own h1 k hf).1; omega)
  have hout : ∀ k, k < wr.heap.size → ¬ F k → ¬ F' k := fun k hk hn z => by
    rcases a3 k z with y | y
    · exact hn y
    · omega
  exact ⟨hq, ⟨F', a1, h2.chg a2 (fun g hg => h3 g hg), fun k hk => hout k (World.ownsRow.lt h2 k hk).2 (h3 k hk), fun k hk => ⟨Nat.lt_of_lt_of_le (h4 k hk).1 a2.size, hout k (h4 k hk).1 (h4 k hk).2.1, (h4 k hk).2.2⟩, h5.trans hb⟩, fun k hk => a2.block k (h4 k hk).1 (h4 k hk).2.1⟩
theorem LO.down (HL : LWorks Has LH) {g : Nat} {size : Int} (h : LO (LH g size) Cs w wr q m va lst es) : LO Has Cs w wr q m va lst es := by
  obtain ⟨F, h1, h2, h3, h4, h5⟩ := h
  obtain ⟨F0, d0, d1⟩ := HL.down h1
  exact ⟨F0, d0, h2, fun k hk z => h3 k hk (d1 k z), fun k hk => ⟨(h4 k hk).1, fun z => (h4 k hk).2.1 (d1 k z), (h4 k hk).2.2⟩, h5⟩
theorem LO.open (H : Stands Has) (HL : LWorks Has LH) {size : Int} (hz : inI size 1 4096 = true) (h : LO Has Cs w wr q m va lst es) (ht : Tidy m es) (hm : m ≤ 65536) :
    Calls Tryz.prog 5 #[.pointer (some ⟨q, 0, none⟩), .int .i64 size] wr fun e w' => ∃ g a c, e = .returned (.tuple #[.pointer (some ⟨g, 0, none⟩), .slice a (openL es).1.length c, .int .i64 0]) ∧ SlR w' a (openL es).1 ∧ LO (LH g size) (fun k => Cs k ∨ ∃ z, a = some z ∧ z.block = k) w w' q m va lst (openL es).2 ∧ Left1 Cs wr w' ∧ wr.heap.size ≤ w'.heap.size := by
  have hr := h.room
  obtain ⟨F, h1, h2, h3, h4, h5⟩ := h
  refine (HL.good size hz h1 ht hm hr).mono ?_
  rintro e w' ⟨g, a, c, F', he, hs, ha, hl, a2, a3⟩
  have hb : Below w.heap.size wr w' := a2.below hr (fun k hk hf => by have := (H.own h1 k hf).1; omega)
  have hout : ∀ k, k < wr.heap.size → ¬ F k → ¬ F' k := fun k hk hn z => by
    rcases a3 k z with y | y
    · exact hn y
    · omega
  refine ⟨g, a, c, he, hs, ⟨F', hl, h2.chg a2 (fun g hg => h3 g hg), fun k hk => hout k (World.ownsRow.lt h2 k hk).2 (h3 k hk), fun k hk => ?_, h5.trans hb⟩, fun k hk => a2.block k (h4 k hk).1 (h4 k hk).2.1, a2.size⟩
  rcases hk with hk | ⟨z, hz1, rfl⟩
  · exact ⟨Nat.lt_of_lt_of_le (h4 k hk).1 a2.size, hout k (h4 k hk).1 (h4 k hk).2.1, (h4 k hk).2.2⟩
  · obtain ⟨z1, z2, z3⟩ := ha z hz1
    exact ⟨z2, z3, fun y => by have := (World.ownsRow.lt h2 _ y).2; omega⟩
theorem SlR.left1 {Cs : Nat → Prop} {w w' : World} {a : Option Addr} {l : List Rc} (h : SlR w a l) (hL : Left1 Cs w w') (hs : w.heap.size ≤ w'.heap.size) (hn : ∀ z, a = some z → Cs z.block) : SlR w' a l := fun k hk => by
  obtain ⟨b, o, h1, h2⟩ := h k hk
  have hb : Cs b := hn _ h1
  exact ⟨b, o, h1, ⟨Nat.lt_of_lt_of_le h2.lt hs, by rw [hL.cell hb]; exact h2.c0, by rw [hL.cell hb]; exact h2.c1, by rw [hL.cell hb]; exact h2.c2, by rw [hL.cell hb]; exact h2.c3, by rw [hL.cell hb]; exact h2.c4, by rw [hL.cell hb]; exact h2.c5⟩⟩
def recO1 (r : Rc) : Obj := .cells #[.int .i64 r.k, .int .i64 r.q, .int .i64 r.t, .string r.s, .string r.h, .string r.d] 32
theorem LO.append (H : Stands Has) (h : LO Has Cs w wr q m va lst es) (r : Rc) (hl : lst.length ≤ 200000) :
    ∃ v8 w8, (Builtin.append_ #[22, 22] 22 #[va, .slice (some ⟨wr.heap.size, 0, none⟩) 1 1]).run Tryz.prog (wr.alloc (recO1 r)) = .ok v8 w8 ∧ LO Has Cs w w8 q m v8 (lst ++ [r]) es := by
  obtain ⟨h7, _⟩ := h.below H ((Below.refl _ _).alloc (Nat.le_refl _) (recO1 r))
  have hroom := h7.room
  obtain ⟨F, h1, h2, h3, h4, h5⟩ := h7
  obtain ⟨v8, w8, hrun, A8, C8, L8⟩ := append_rec (wr.alloc (recO1 r)) w.heap.size 22 va lst [r] h2 ⟨wr.heap.size, 0, none⟩ 1 (six_row wr r) (by simp; omega) hroom
  have hb : Below w.heap.size (wr.alloc (recO1 r)) w8 := C8.below hroom (fun k hk z => by have := (World.ownsRow.lt h2 k z).1; omega)
  refine ⟨v8, w8, hrun, ⟨F, H.chg h1 C8 (fun k hk z => h3 k z hk), A8, fun k hk => ?_, fun k hk => ⟨Nat.lt_of_lt_of_le (h4 k hk).1 C8.size, (h4 k hk).2.1, fun z => ?_⟩, h5.trans hb⟩⟩
  · rcases L8 k hk with y | y
    · exact h3 k y
    · exact fun z => by have := (H.own h1 k z).2; omega
  · rcases L8 k z with y | y
    · exact (h4 k hk).2.2 y
    · have := (h4 k hk).1; omega
end
/-- the front of a row of records -/
theorem run_head (a : Option Addr) (n k c : Nat) (hk : k ≤ c) (W : World) (ha : a = none ∨ ∃ b, a = some ⟨b, 0, none⟩) : (Instr.slice 22 (.slice a n c) none (some (.int .i64 (k : Int))) none).run Tryz.prog W = .ok (.slice a k c) W := by
  have he : Tryz.prog.elem 22 = 32 := by kernel_rfl
  rw [run_slice_h W 22 _ _ _ (by rw [he]; exact Tryz.underlying22) .i64 (k : Int) (by omega) (by omega), he]
  rcases ha with rfl | ⟨b, rfl⟩
  · simp [Result.andThen, sliced, go_sem, Tryz.sizeOf32]
  · simp [Result.andThen, sliced, go_sem, Tryz.sizeOf32]
theorem SlR.take {w : World} {a : Option Addr} {l : List Rc} (h : SlR w a l) (k : Nat) : SlR w a (l.take k) := fun j hj => by
  rw [List.length_take] at hj
  obtain ⟨b, o, h1, h2⟩ := h j (by omega)
  refine ⟨b, o, h1, ?_⟩
  have : rc (l.take k) j = rc l j := by unfold rc; rw [List.getElem?_take_of_lt (by omega)]
  rw [this]
  exact h2
theorem ArrR.addr {w : World} {B : Nat} {v : Value} {l : List Rc} (h : ArrR w B v l) {a : Option Addr} {c : Nat} (hv : v = .slice a l.length c) : a = none ∨ ∃ b, a = some ⟨b, 0, none⟩ := by
  rcases h.2 with ⟨h1, _⟩ | ⟨g, cap, cur, h1, _⟩
  · rw [hv] at h1; exact .inl (Value.slice.inj h1).1
  · rw [hv] at h1; exact .inr ⟨g, (Value.slice.inj h1).1⟩
end Go.Proofs.YtbejicpfhnfnfafGreatDoor.Dk
