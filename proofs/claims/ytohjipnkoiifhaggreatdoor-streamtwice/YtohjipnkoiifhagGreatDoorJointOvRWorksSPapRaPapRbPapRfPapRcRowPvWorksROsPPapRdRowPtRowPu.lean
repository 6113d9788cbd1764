/-
  The program's vault in memory: a disk, a size, a log over the disk, a store, in a block of its own; over any disk and any store. No walk.
  What is asked of the program's store, whatever it is made of: New, Apply, All, Sums, Last, Next.
  A stream, pure: what Publish, Purge and Age make of it, over a vault. No program.
  A stream, pure: room is made; bounds hold behind each post; numbers rise by one. No program.
  A stream, pure: what the document's stream counts when it goes through its messages from the end on; what is old. No program.
  A stream, pure: one id is one message; what is rolled up; what is refused changes nothing. No program.
  A plan as a value, out of the pure one; a plan that isn't too great. No walk.
  What is asked of the program's stream, whatever it is made of; a stream on its way.
  A post in a block of its own. No walk.
  A stream, pure: a post that is refused ahead of all writing changes nothing. No program.
  Texts that lie in a row of one's own; a cell that is written elsewhere. No walk.
  Texts in a row of one's own: what is kept, what is appended. No walk.
-/
import Derived.Test.YtohjipnkoiifhagGreatDoorJointPapPbPapPnRowPlRowPsPapPcRowPrPapPwPapSPapTPapVaRowVWorksV
import Derived.Test.YtohjipnkoiifhagGreatDoorJointPlainSPlainR2PapGRowGPapNWorksGPapHWorksFRowBWalkC6RowY
import Derived.Test.YtohjipnkoiifhagGreatDoorJointWalkSplitWalk2Plain2Plain5PlainKWalk5aWalk5PlainI
import Derived.Test.YtohjipnkoiifhagGreatDoorJointBase0PlainPapPaPapDRowZPapPdPapLPapMWorksDWorksEPlainNPlainRec
namespace Go.Proofs.YtohjipnkoiifhagGreatDoor.Dk
open Go.RowKit

theorem ArrR.low {w : World} {B B' : Nat} {v : Value} {l : List Rc} (h : ArrR w B v l) (hB : B' ≤ B) : ArrR w B' v l := by
  refine ⟨h.1, ?_⟩
  rcases h.2 with q | ⟨g, cap, cur, h1, h2, r⟩
  · exact .inl q
  · exact .inr ⟨g, cap, cur, h1, Nat.le_trans hB h2, r⟩
/-- what a vault asks of the store -/
structure SVault (SH : World → Nat → Nat → (Nat → Prop) → Sto → Prop) : Prop where
  own : ∀ {w B q F s}, SH w B q F s → ∀ k, F k → B ≤ k ∧ k < w.heap.size
  chg : ∀ {w w' B q F s} {A : Nat → Prop}, SH w B q F s → Chg A w w' → (∀ k, F k → ¬ A k) → SH w' B q F s
  low : ∀ {w B B' q F s}, SH w B q F s → B' ≤ B → SH w B' q F s
  new : ∀ w : World, Calls Tryz.prog 41 #[] w fun e w' => ∃ q F, e = .returned (.pointer (some ⟨q, 0, none⟩)) ∧ SH w' w.heap.size q F ⟨[], 0⟩ ∧ Below w.heap.size w w'
  tries : ∀ {w B q F s} (r : Rc), Small r → SH w B q F s → s.Ok → B ≤ w.heap.size →
    Calls Tryz.prog 24 #[.pointer (some ⟨q, 0, none⟩), .agg #[.int .i64 r.k, .int .i64 r.q, .int .i64 r.t, .string r.s, .string r.h, .string r.d]] w fun e w' => e = .returned (.int .i64 (tryE s r)) ∧ Below w.heap.size w w'
  apply : ∀ {w B q F s} (r : Rc), Small r → SH w B q F s → s.Ok → B ≤ w.heap.size →
    Calls Tryz.prog 27 #[.pointer (some ⟨q, 0, none⟩), .agg #[.int .i64 r.k, .int .i64 r.q, .int .i64 r.t, .string r.s, .string r.h, .string r.d]] w fun e w' => e = .returned (.int .i64 (tryE s r)) ∧ DidS SH w w' B q F (aplS s r)
  sees : SSees SH
/-- a vault at block x: the disk q, the log g over it in the blocks FL, the store c in the blocks G -/
structure Va (Has : World → Nat → Nat → (Nat → Prop) → Int → List Pap → Prop) (SH : World → Nat → Nat → (Nat → Prop) → Sto → Prop) (w : World) (B x o q g c : Nat) (FL G : Nat → Prop) (m size : Int) (es : List Pap) (s : Sto) : Prop where
  log : LHof Has g size w B q FL m es
  chest : SH w B c G s
  base : B ≤ x
  lt : x < w.heap.size
  c0 : w.cell? ⟨x, o, none⟩ = some (.pointer (some ⟨q, 0, none⟩))
  c1 : w.cell? ⟨x, o + 1, none⟩ = some (.int .i64 size)
  c2 : w.cell? ⟨x, o + 2, none⟩ = some (.pointer (some ⟨g, 0, none⟩))
  c3 : w.cell? ⟨x, o + 3, none⟩ = some (.pointer (some ⟨c, 0, none⟩))
  free : ∀ j, w.frozen? ⟨x, j, none⟩ = false
  ap : ∀ k, FL k → ¬ G k
  xd : ¬ FL x
  xg : ¬ G x
def vaF (x : Nat) (FL G : Nat → Prop) (k : Nat) : Prop := k = x ∨ FL k ∨ G k
section
variable {Has : World → Nat → Nat → (Nat → Prop) → Int → List Pap → Prop} {SH : World → Nat → Nat → (Nat → Prop) → Sto → Prop} {w w1 w' : World} {B x o q g c : Nat} {FL G A : Nat → Prop} {m size : Int} {es es' : List Pap} {s s' : Sto}
theorem Va.own (H : More Has) (S : SVault SH) (h : Va Has SH w B x o q g c FL G m size es s) : ∀ k, vaF x FL G k → B ≤ k ∧ k < w.heap.size := by
  rintro k (rfl | z | z)
  · exact ⟨h.base, h.lt⟩
  · exact (LHof.looks H g size).own h.log k z
  · exact S.own h.chest k z
theorem Va.chg (H : More Has) (S : SVault SH) (h : Va Has SH w B x o q g c FL G m size es s) (hc : Chg A w w') (hn : ∀ k, vaF x FL G k → ¬ A k) : Va Has SH w' B x o q g c FL G m size es s := by
  have hx := hn x (.inl rfl)
  exact ⟨(LHof.looks H g size).chg h.log hc (fun k hk => hn k (.inr (.inl hk))), S.chg h.chest hc (fun k hk => hn k (.inr (.inr hk))), h.base, Nat.lt_of_lt_of_le h.lt hc.size, by rw [hc.cell (p := ⟨x, o, none⟩) h.lt hx]; exact h.c0, by rw [hc.cell (p := ⟨x, o + 1, none⟩) h.lt hx]; exact h.c1, by rw [hc.cell (p := ⟨x, o + 2, none⟩) h.lt hx]; exact h.c2, by rw [hc.cell (p := ⟨x, o + 3, none⟩) h.lt hx]; exact h.c3, fun j => by rw [hc.frozen (p := ⟨x, j, none⟩) h.lt hx]; exact h.free j, h.ap, h.xd, h.xg⟩
theorem Va.below (H : More Has) (S : SVault SH) (h : Va Has SH w B x o q g c FL G m size es s) (hb : Below w.heap.size w w') : Va Has SH w' B x o q g c FL G m size es s := h.chg H S (A := fun _ => False) (Chg.of_below hb) (fun _ _ z => z)
/-- the log is changed -/
theorem Va.upd (S : SVault SH) (h : Va Has SH w B x o q g c FL G m size es s) (hu : Did (LHof Has g size) w w' B q FL m es') : ∃ FL', Va Has SH w' B x o q g c FL' G m size es' s ∧ Chg FL w w' ∧ ∀ k, FL' k → FL k ∨ w.heap.size ≤ k := by
  obtain ⟨FL', k1, hc, ho⟩ := hu
  have hx := h.xd
  refine ⟨FL', ⟨k1, S.chg h.chest hc (fun k hk z => h.ap k z hk), h.base, Nat.lt_of_lt_of_le h.lt hc.size, by rw [hc.cell (p := ⟨x, o, none⟩) h.lt hx]; exact h.c0, by rw [hc.cell (p := ⟨x, o + 1, none⟩) h.lt hx]; exact h.c1, by rw [hc.cell (p := ⟨x, o + 2, none⟩) h.lt hx]; exact h.c2, by rw [hc.cell (p := ⟨x, o + 3, none⟩) h.lt hx]; exact h.c3, fun j => by rw [hc.frozen (p := ⟨x, j, none⟩) h.lt hx]; exact h.free j, fun k hk z => ?_, fun z => ?_, h.xg⟩, hc, ho⟩
  · rcases ho k hk with y | y
    · exact h.ap k y z
    · have := (S.own h.chest k z).2; omega
  · rcases ho x z with y | y
    · exact h.xd y
    · have := h.lt; omega
/-- the store is changed -/
theorem Va.did (H : More Has) (h : Va Has SH w B x o q g c FL G m size es s) (hu : DidS SH w w' B c G s') : ∃ G', Va Has SH w' B x o q g c FL G' m size es s' ∧ Chg G w w' ∧ ∀ k, G' k → G k ∨ w.heap.size ≤ k := by
  obtain ⟨G', k1, hc, ho⟩ := hu
  have hx := h.xg
  refine ⟨G', ⟨(LHof.looks H g size).chg h.log hc (fun k hk z => h.ap k hk z), k1, h.base, Nat.lt_of_lt_of_le h.lt hc.size, by rw [hc.cell (p := ⟨x, o, none⟩) h.lt hx]; exact h.c0, by rw [hc.cell (p := ⟨x, o + 1, none⟩) h.lt hx]; exact h.c1, by rw [hc.cell (p := ⟨x, o + 2, none⟩) h.lt hx]; exact h.c2, by rw [hc.cell (p := ⟨x, o + 3, none⟩) h.lt hx]; exact h.c3, fun j => by rw [hc.frozen (p := ⟨x, j, none⟩) h.lt hx]; exact h.free j, fun k hk z => ?_, h.xd, fun z => ?_⟩, hc, ho⟩
  · rcases ho k z with y | y
    · exact h.ap k hk y
    · have := ((LHof.looks H g size).own h.log k hk).2; omega
  · rcases ho x z with y | y
    · exact h.xg y
    · have := h.lt; omega
end
/-- what stands in the vault's block beside the vault is left as it was -/
def Sid (o x : Nat) (w w' : World) : Prop := ∀ j, (j < o ∨ o + 4 ≤ j) → w'.cell? ⟨x, j, none⟩ = w.cell? ⟨x, j, none⟩
theorem Sid.refl (o x : Nat) (w : World) : Sid o x w w := fun _ _ => rfl
theorem Sid.trans {o x : Nat} {w w1 w2 : World} (h : Sid o x w w1) (k : Sid o x w1 w2) : Sid o x w w2 := fun j hj => (k j hj).trans (h j hj)
theorem Sid.chg {o x : Nat} {A : Nat → Prop} {w w' : World} (h : Chg A w w') (hx : x < w.heap.size) (hn : ¬ A x) : Sid o x w w' := fun j _ => h.cell (p := ⟨x, j, none⟩) hx hn
theorem Sid.below {o x : Nat} {w w' : World} (h : Below w.heap.size w w') (hx : x < w.heap.size) : Sid o x w w' := Sid.chg (A := fun _ => False) (Chg.of_below h) hx (fun z => z)
/-- a vault on its way from w to wr; F0 are the blocks that were its own at w; the blocks Cs are none of its own -/
def Rv (Has : World → Nat → Nat → (Nat → Prop) → Int → List Pap → Prop) (SH : World → Nat → Nat → (Nat → Prop) → Sto → Prop) (F0 Cs : Nat → Prop) (w wr : World) (B x o q g c : Nat) (m size : Int) (es : List Pap) (s : Sto) : Prop :=
  ∃ FL G, Va Has SH wr B x o q g c FL G m size es s ∧ Chg F0 w wr ∧ (∀ k, vaF x FL G k → F0 k ∨ w.heap.size ≤ k) ∧ (∀ k, Cs k → k < wr.heap.size ∧ ¬ vaF x FL G k) ∧ Sid o x w wr
section
variable {Has : World → Nat → Nat → (Nat → Prop) → Int → List Pap → Prop} {SH : World → Nat → Nat → (Nat → Prop) → Sto → Prop} {F0 Cs Cs' : Nat → Prop} {w wr w' : World} {B x o q g c : Nat} {m size : Int} {es es' : List Pap} {s s' : Sto}
theorem Rv.room (h : Rv Has SH F0 Cs w wr B x o q g c m size es s) : w.heap.size ≤ wr.heap.size := by
  obtain ⟨_, _, _, h2, _⟩ := h
  exact h2.size
theorem Rv.cells (h : Rv Has SH F0 Cs w wr B x o q g c m size es s) : wr.cell? ⟨x, o, none⟩ = some (.pointer (some ⟨q, 0, none⟩)) ∧ wr.cell? ⟨x, o + 1, none⟩ = some (.int .i64 size) ∧ wr.cell? ⟨x, o + 2, none⟩ = some (.pointer (some ⟨g, 0, none⟩)) ∧ wr.cell? ⟨x, o + 3, none⟩ = some (.pointer (some ⟨c, 0, none⟩)) ∧ x < wr.heap.size := by
  obtain ⟨_, _, h1, _⟩ := h
  exact ⟨h1.c0, h1.c1, h1.c2, h1.c3, h1.lt⟩
theorem Rv.mine (H : More Has) (S : SVault SH) (h : Rv Has SH F0 Cs w wr B x o q g c m size es s) (hb : Below wr.heap.size wr w') (hn : ∀ k, Cs' k → Cs k ∨ wr.heap.size ≤ k ∧ k < w'.heap.size) : Rv Has SH F0 Cs' w w' B x o q g c m size es s := by
  obtain ⟨FL, G, h1, h2, h3, h4, h5⟩ := h
  refine ⟨FL, G, h1.below H S hb, h2.trans (Chg.of_below hb), h3, fun k hk => ?_, h5.trans (Sid.below hb h1.lt)⟩
  rcases hn k hk with y | y
  · exact ⟨Nat.lt_of_lt_of_le (h4 k y).1 hb.size, (h4 k y).2⟩
  · exact ⟨y.2, fun z => by have := (h1.own H S k z).2; omega⟩
theorem Rv.below (H : More Has) (S : SVault SH) (h : Rv Has SH F0 Cs w wr B x o q g c m size es s) (hb : Below wr.heap.size wr w') : Rv Has SH F0 Cs w w' B x o q g c m size es s := h.mine H S hb (fun _ z => .inl z)
/-- a call on the log -/
theorem Rv.upd (S : SVault SH) (h : Rv Has SH F0 Cs w wr B x o q g c m size es s) {fn : FuncId} {args : Array Value} {Q : Ending → World → Prop}
    (hc : ∀ FL, LHof Has g size wr B q FL m es → (∀ k, Cs k → ¬ FL k) → Calls Tryz.prog fn args wr fun e w' => Q e w' ∧ Did (LHof Has g size) wr w' B q FL m es') :
    Calls Tryz.prog fn args wr fun e w' => Q e w' ∧ Rv Has SH F0 Cs w w' B x o q g c m size es' s ∧ Stay Cs wr w' := by
  have hr := h.room
  obtain ⟨FL, G, h1, h2, h3, h4, h5⟩ := h
  refine (hc FL h1.log (fun k hk z => (h4 k hk).2 (.inr (.inl z)))).mono ?_
  rintro e w' ⟨hq, hu⟩
  obtain ⟨FL', a1, a2, a3⟩ := h1.upd S hu
  refine ⟨hq, ⟨FL', G, a1, chg_more h2 a2 (fun i hi z => ?_), fun k hk => ?_, fun k hk => ⟨Nat.lt_of_lt_of_le (h4 k hk).1 a2.size, fun z => ?_⟩, h5.trans (Sid.chg a2 h1.lt h1.xd)⟩, a2.size, fun k hk => a2.block k (h4 k hk).1 (fun z => (h4 k hk).2 (.inr (.inl z)))⟩
  · rcases h3 i (.inr (.inl z)) with y | y
    · exact y
    · omega
  · rcases hk with z | z | z
    · exact h3 k (.inl z)
    · rcases a3 k z with y | y
      · exact h3 k (.inr (.inl y))
      · exact .inr (Nat.le_trans hr y)
    · exact h3 k (.inr (.inr z))
  · rcases z with z | z | z
    · exact (h4 k hk).2 (.inl z)
    · rcases a3 k z with y | y
      · exact (h4 k hk).2 (.inr (.inl y))
      · have := (h4 k hk).1; omega
    · exact (h4 k hk).2 (.inr (.inr z))
/-- a call on the store -/
theorem Rv.did (H : More Has) (h : Rv Has SH F0 Cs w wr B x o q g c m size es s) {fn : FuncId} {args : Array Value} {Q : Ending → World → Prop}
    (hc : ∀ G, SH wr B c G s → Calls Tryz.prog fn args wr fun e w' => Q e w' ∧ DidS SH wr w' B c G s') :
    Calls Tryz.prog fn args wr fun e w' => Q e w' ∧ Rv Has SH F0 Cs w w' B x o q g c m size es s' ∧ Stay Cs wr w' := by
  have hr := h.room
  obtain ⟨FL, G, h1, h2, h3, h4, h5⟩ := h
  refine (hc G h1.chest).mono ?_
  rintro e w' ⟨hq, hu⟩
  obtain ⟨G', a1, a2, a3⟩ := h1.did H hu
  refine ⟨hq, ⟨FL, G', a1, chg_more h2 a2 (fun i hi z => ?_), fun k hk => ?_, fun k hk => ⟨Nat.lt_of_lt_of_le (h4 k hk).1 a2.size, fun z => ?_⟩, h5.trans (Sid.chg a2 h1.lt h1.xg)⟩, a2.size, fun k hk => a2.block k (h4 k hk).1 (fun z => (h4 k hk).2 (.inr (.inr z)))⟩
  · rcases h3 i (.inr (.inr z)) with y | y
    · exact y
    · omega
  · rcases hk with z | z | z
    · exact h3 k (.inl z)
    · exact h3 k (.inr (.inl z))
    · rcases a3 k z with y | y
      · exact h3 k (.inr (.inr y))
      · exact .inr (Nat.le_trans hr y)
  · rcases z with z | z | z
    · exact (h4 k hk).2 (.inl z)
    · exact (h4 k hk).2 (.inr (.inl z))
    · rcases a3 k z with y | y
      · exact (h4 k hk).2 (.inr (.inr y))
      · have := (h4 k hk).1; omega
end
/-- the program's vault -/
def VHof (Has : World → Nat → Nat → (Nat → Prop) → Int → List Pap → Prop) (SH : World → Nat → Nat → (Nat → Prop) → Sto → Prop) (o : Nat) (w : World) (B x : Nat) (F : Nat → Prop) (m size : Int) (es : List Pap) (s : Sto) : Prop := ∃ q g c FL G, Va Has SH w B x o q g c FL G m size es s ∧ ∀ k, F k ↔ vaF x FL G k
section
variable {Has : World → Nat → Nat → (Nat → Prop) → Int → List Pap → Prop} {SH : World → Nat → Nat → (Nat → Prop) → Sto → Prop} {F : Nat → Prop} {w : World} {B x o : Nat} {m size : Int} {es : List Pap} {s : Sto}
/-- a call may have written the vault's own blocks alone, and of its block what is the vault's -/
def DidO (Has : World → Nat → Nat → (Nat → Prop) → Int → List Pap → Prop) (SH : World → Nat → Nat → (Nat → Prop) → Sto → Prop) (o : Nat) (w w' : World) (B x : Nat) (F : Nat → Prop) (m size : Int) (es : List Pap) (s : Sto) : Prop := DidV (VHof Has SH o) w w' B x F m size es s ∧ Sid o x w w'
theorem VHof.begin (h : VHof Has SH o w B x F m size es s) : ∃ q g c, Rv Has SH F (fun _ => False) w w B x o q g c m size es s ∧ ∀ Cs wr g' c' es' s', Rv Has SH F Cs w wr B x o q g' c' m size es' s' → DidO Has SH o w wr B x F m size es' s' := by
  obtain ⟨q, g, c, FL, G, h1, h2⟩ := h
  refine ⟨q, g, c, ⟨FL, G, h1, Chg.refl _ _, fun k z => .inl ((h2 k).2 z), fun _ z => z.elim, Sid.refl _ _ _⟩, fun Cs wr g' c' es' s' hr => ?_⟩
  obtain ⟨FL', G', r1, r2, r3, _, r5⟩ := hr
  exact ⟨⟨_, ⟨q, g', c', FL', G', r1, fun k => Iff.rfl⟩, r2, r3⟩, r5⟩
end
end Go.Proofs.YtohjipnkoiifhagGreatDoor.Dk

namespace Go.Proofs.YtohjipnkoiifhagGreatDoor.Dk
open Go.RowKit

structure SWorks (SH : World → Nat → Nat → (Nat → Prop) → Sto → Prop) : Prop where
  own : ∀ {w B q F s}, SH w B q F s → ∀ k, F k → B ≤ k ∧ k < w.heap.size
  chg : ∀ {w w' B q F s} {A : Nat → Prop}, SH w B q F s → Chg A w w' → (∀ k, F k → ¬ A k) → SH w' B q F s
  new : ∀ w : World, Calls Tryz.prog 41 #[] w fun e w' => ∃ q F, e = .returned (.pointer (some ⟨q, 0, none⟩)) ∧ SH w' w.heap.size q F ⟨[], 0⟩ ∧ Below w.heap.size w w'
  apply : ∀ {w B q F s} (r : Rc), Small r → SH w B q F s → s.Ok → B ≤ w.heap.size →
    Calls Tryz.prog 27 #[.pointer (some ⟨q, 0, none⟩), .agg #[.int .i64 r.k, .int .i64 r.q, .int .i64 r.t, .string r.s, .string r.h, .string r.d]] w fun e w' => e = .returned (.int .i64 (tryE s r)) ∧ DidS SH w w' B q F (aplS s r)
  all : ∀ {w B q F s}, SH w B q F s → s.Ok → B ≤ w.heap.size →
    Calls Tryz.prog 12 #[.pointer (some ⟨q, 0, none⟩)] w fun e w' => ∃ v, e = .returned v ∧ ArrR w' w.heap.size v s.l ∧ Below w.heap.size w w'
  sums : ∀ {w B q F s}, SH w B q F s → s.Ok → B ≤ w.heap.size →
    Calls Tryz.prog 13 #[.pointer (some ⟨q, 0, none⟩)] w fun e w' => e = .returned (.agg #[.int .i64 (s.l.length : Int), .int .i64 (byteN s.l : Int), .int .i64 (firstQ s.l), .int .i64 s.last]) ∧ Below w.heap.size w w'
  next : ∀ {w B q F s} (f : ByteArray) (n : Int), f.size ≤ 140737488355328 → SH w B q F s → s.Ok → B ≤ w.heap.size →
    Calls Tryz.prog 105 #[.pointer (some ⟨q, 0, none⟩), .string f, .int .i64 n] w fun e w' => e = .returned (seekV f (nextO f s.l n)) ∧ Below w.heap.size w w'
end Go.Proofs.YtohjipnkoiifhagGreatDoor.Dk

namespace Go.Proofs.YtohjipnkoiifhagGreatDoor.Dk
open Go

/-- a post: subject, id, header, data, the number that is expected, what is rolled up -/
structure Po where
  s : ByteArray
  i : ByteArray
  h : ByteArray
  d : ByteArray
  x : Int
  ro : Int
/-- an id that is known: since when, and of which number -/
structure Kn where
  i : ByteArray
  a : Int
  q : Int
/-- a stream: the disk's files, the store, the ids -/
structure Str where
  es : List Pap
  s : Sto
  ids : List Kn
/-- a plan's k-th number: msgs bytes age per size discard keep window -/
def pv (p : Pn.Pln) (k : Nat) : Int := nth p.v k
def takesP (p : Pn.Pln) (s : ByteArray) : Bool := p.f.any fun f => tkB f s
/-- what is wrong with a post ahead of all looking at the messages -/
def preE (p : Pn.Pln) (now : Int) (x : Po) : Int :=
  if (inI now 0 1099511627776 && (decide (-1 ≤ x.x) && inI x.ro 0 2)) = false then 1
  else if errS false x.s ≠ 0 then errS false x.s
  else if takesP p x.s = false then 10
  else if (decide (256 < x.h.size + x.d.size) || ((decide (pv p 4 ≠ 0) && decide (pv p 4 < ((x.h.size + x.d.size : Nat) : Int))) || decide (16 < x.i.size))) = true then 2
  else 0
def seenQ (ids : List Kn) (i : ByteArray) (from' : Int) : Int := ids.foldl (fun q k => if k.i = i ∧ from' ≤ k.a then k.q else q) 0
def sameN (l : List Rc) (s : ByteArray) : Nat := l.countP fun r => decide (r.s = s)
def firstS (l : List Rc) (s : ByteArray) : Int := ((l.find? fun r => decide (r.s = s)).map (·.q)).getD 0
def szP (x : Po) : Nat := x.s.size + x.h.size + x.d.size
/-- has its subject as many as it may? are there as many as there may be? -/
def crowdB (p : Pn.Pln) (l : List Rc) (x : Po) : Bool := decide (pv p 3 ≠ 0) && decide (pv p 3 ≤ (sameN l x.s : Int))
def fullB (p : Pn.Pln) (l : List Rc) (x : Po) : Bool := (decide (pv p 0 ≠ 0) && decide (pv p 0 ≤ (l.length : Int))) || (decide (pv p 1 ≠ 0) && decide (pv p 1 < ((byteN l + szP x : Nat) : Int)))
def noB : ByteArray := ⟨#[]⟩
def eraR (q now : Int) : Rc := ⟨2, q, now, noB, noB, noB⟩
def msgR (q now : Int) (x : Po) : Rc := ⟨1, q, now, x.s, x.h, x.d⟩
def purR (q now : Int) (f : ByteArray) : Rc := ⟨3, q, now, f, noB, noB⟩
/-- which message goes first -/
def goQ (p : Pn.Pln) (l : List Rc) (x : Po) : Int := if crowdB p l x = true then firstS l x.s else firstQ l
/-- room is made: the error; the files and the store then -/
def roomF (p : Pn.Pln) (m size now : Int) (x : Po) : Nat → List Pap → Sto → Int × List Pap × Sto
  | 0, es, s => (0, es, s)
  | k + 1, es, s => if (crowdB p s.l x || fullB p s.l x) = false then (0, es, s)
    else if pv p 5 = 1 then (8, es, s)
    else if doE es s m size (eraR (goQ p s.l x) now) ≠ 0 then (doE es s m size (eraR (goQ p s.l x) now), es, s)
    else roomF p m size now x k (doL es s m size (eraR (goQ p s.l x) now)) (doS es s m size (eraR (goQ p s.l x) now))
def roomE (p : Pn.Pln) (m size now : Int) (x : Po) (es : List Pap) (s : Sto) : Int × List Pap × Sto :=
  if pv p 1 ≠ 0 ∧ pv p 1 < (szP x : Int) then (8, es, s) else roomF p m size now x (s.l.length + 1) es s
def rollF (x : Po) : ByteArray := if x.ro = 1 then x.s else ⟨#[62]⟩
def idsP (ids : List Kn) (x : Po) (now q : Int) : List Kn := if x.i.size = 0 then ids else ids ++ [⟨x.i, now, q⟩]
/-- the message is written, and what it rolls up goes -/
def putP (m size now : Int) (x : Po) (ids : List Kn) (es : List Pap) (s : Sto) : (Int × Bool × Int) × Str :=
  if doE es s m size (msgR (s.last + 1) now x) ≠ 0 then ((0, false, doE es s m size (msgR (s.last + 1) now x)), ⟨es, s, ids⟩)
  else if x.ro = 0 then ((s.last + 1, false, 0), ⟨doL es s m size (msgR (s.last + 1) now x), doS es s m size (msgR (s.last + 1) now x), idsP ids x now (s.last + 1)⟩)
  else if doE (doL es s m size (msgR (s.last + 1) now x)) (doS es s m size (msgR (s.last + 1) now x)) m size (purR (s.last + 1) now (rollF x)) ≠ 0 then
    ((0, false, doE (doL es s m size (msgR (s.last + 1) now x)) (doS es s m size (msgR (s.last + 1) now x)) m size (purR (s.last + 1) now (rollF x))), ⟨doL es s m size (msgR (s.last + 1) now x), doS es s m size (msgR (s.last + 1) now x), idsP ids x now (s.last + 1)⟩)
  else ((s.last + 1, false, 0), ⟨doL (doL es s m size (msgR (s.last + 1) now x)) (doS es s m size (msgR (s.last + 1) now x)) m size (purR (s.last + 1) now (rollF x)), doS (doL es s m size (msgR (s.last + 1) now x)) (doS es s m size (msgR (s.last + 1) now x)) m size (purR (s.last + 1) now (rollF x)), idsP ids x now (s.last + 1)⟩)
/-- is it told again? -/
def againB (p : Pn.Pln) (now : Int) (x : Po) (ids : List Kn) : Bool := decide (x.i.size ≠ 0) && (decide (pv p 7 ≠ 0) && decide (0 < seenQ ids x.i (now - pv p 7)))
/-- Publish -/
def pubP (p : Pn.Pln) (m size now : Int) (x : Po) (st : Str) : (Int × Bool × Int) × Str :=
  if preE p now x ≠ 0 then ((0, false, preE p now x), st)
  else if againB p now x st.ids = true then ((seenQ st.ids x.i (now - pv p 7), true, 0), st)
  else if x.x ≠ -1 ∧ x.x ≠ st.s.last then ((0, false, 9), st)
  else if (roomE p m size now x st.es st.s).1 ≠ 0 then ((0, false, (roomE p m size now x st.es st.s).1), ⟨(roomE p m size now x st.es st.s).2.1, (roomE p m size now x st.es st.s).2.2, st.ids⟩)
  else putP m size now x st.ids (roomE p m size now x st.es st.s).2.1 (roomE p m size now x st.es st.s).2.2
/-- Purge -/
def pgP (m size : Int) (f : ByteArray) (below : Int) (st : Str) : (Int × Int) × Str :=
  if doE st.es st.s m size (purR below 0 f) ≠ 0 then ((0, doE st.es st.s m size (purR below 0 f)), st)
  else (((st.s.l.length : Int) - ((doS st.es st.s m size (purR below 0 f)).l.length : Int), 0), ⟨doL st.es st.s m size (purR below 0 f), doS st.es st.s m size (purR below 0 f), st.ids⟩)
/-- Age -/
def oldQ (l : List Rc) (t : Int) : Option Rc := l.find? fun r => decide (r.t < t)
def ageF (p : Pn.Pln) (m size now : Int) : Nat → Int → List Pap → Sto → (Int × Int) × List Pap × Sto
  | 0, n, es, s => ((n, 0), es, s)
  | k + 1, n, es, s => match oldQ s.l (now - pv p 2) with
    | none => ((n, 0), es, s)
    | some r => if doE es s m size (eraR r.q now) ≠ 0 then ((n, doE es s m size (eraR r.q now)), es, s)
      else ageF p m size now k (n + 1) (doL es s m size (eraR r.q now)) (doS es s m size (eraR r.q now))
def ageP (p : Pn.Pln) (m size now : Int) (st : Str) : (Int × Int) × Str :=
  if inI now 0 1099511627776 = false then ((0, 1), st)
  else if pv p 2 = 0 then ((0, 0), st)
  else ((ageF p m size now (st.s.l.length + 1) 0 st.es st.s).1, ⟨(ageF p m size now (st.s.l.length + 1) 0 st.es st.s).2.1, (ageF p m size now (st.s.l.length + 1) 0 st.es st.s).2.2, st.ids⟩)

/- what each call keeps -/
theorem VOk.room {p : Pn.Pln} {m size now : Int} {x : Po} : ∀ (k : Nat) {es : List Pap} {s : Sto}, VOk m es s → VOk m (roomF p m size now x k es s).2.1 (roomF p m size now x k es s).2.2
  | 0, _, _, h => h
  | k + 1, es, s, h => by
    unfold roomF
    split
    · exact h
    · split
      · exact h
      · split
        · exact h
        · exact VOk.room k (h.did _)
theorem VOk.roomE {p : Pn.Pln} {m size now : Int} {x : Po} {es : List Pap} {s : Sto} (h : VOk m es s) : VOk m (roomE p m size now x es s).2.1 (roomE p m size now x es s).2.2 := by
  unfold Dk.roomE
  split
  · exact h
  · exact VOk.room _ h
theorem VOk.put {m size now : Int} {x : Po} {ids : List Kn} {es : List Pap} {s : Sto} (h : VOk m es s) : VOk m (putP m size now x ids es s).2.es (putP m size now x ids es s).2.s := by
  unfold putP
  split
  · exact h
  · split
    · exact h.did _
    · split
      · exact h.did _
      · exact (h.did _).did _
theorem VOk.pub {p : Pn.Pln} {m size now : Int} {x : Po} {st : Str} (h : VOk m st.es st.s) : VOk m (pubP p m size now x st).2.es (pubP p m size now x st).2.s := by
  unfold pubP
  split
  · exact h
  · split
    · exact h
    · split
      · exact h
      · split
        · exact h.roomE
        · exact VOk.put h.roomE
theorem VOk.purge {m size : Int} {f : ByteArray} {below : Int} {st : Str} (h : VOk m st.es st.s) : VOk m (pgP m size f below st).2.es (pgP m size f below st).2.s := by
  unfold pgP
  split
  · exact h
  · exact h.did _
theorem VOk.ageF {p : Pn.Pln} {m size now : Int} : ∀ (k : Nat) {n : Int} {es : List Pap} {s : Sto}, VOk m es s → VOk m (ageF p m size now k n es s).2.1 (ageF p m size now k n es s).2.2
  | 0, _, _, _, h => h
  | k + 1, n, es, s, h => by
    unfold Dk.ageF
    split
    · exact h
    · split
      · exact h
      · exact VOk.ageF k (h.did _)
theorem VOk.age {p : Pn.Pln} {m size now : Int} {st : Str} (h : VOk m st.es st.s) : VOk m (ageP p m size now st).2.es (ageP p m size now st).2.s := by
  unfold ageP
  split
  · exact h
  · split
    · exact h
    · exact VOk.ageF _ h
end Go.Proofs.YtohjipnkoiifhagGreatDoor.Dk

namespace Go.Proofs.YtohjipnkoiifhagGreatDoor.Dk
open Go

theorem era_chk {q now : Int} (hq : 1 ≤ q ∧ q ≤ 1099511627776) (hn : 0 ≤ now ∧ now ≤ 1099511627776) : chkR (eraR q now) = 0 := by
  unfold chkR eraR Rc.pk Pk.chk
  simp [Pk.inB, noB]
  omega
/-- a message that is there may be erased -/
theorem era_try {s : Sto} {q now : Int} (h : s.Ok) (hm : ∃ r ∈ s.l, r.q = q) (hn : 0 ≤ now ∧ now ≤ 1099511627776) : tryE s (eraR q now) = 0 := by
  obtain ⟨r, hr, e⟩ := hm
  have hc : chkR (eraR q now) = 0 := era_chk (by rw [← e]; exact h.seq hr) hn
  have hs : seqB s.l q = true := by
    unfold seqB
    rw [List.any_eq_true]
    exact ⟨r, hr, by simpa using e⟩
  unfold tryE
  rw [if_neg (by rw [hc]; simp), if_neg (by intro z; have := z.2; rw [show (eraR q now).q = q from rfl, hs] at this; cases this), if_pos (by show (2 : Int) ≠ 1; decide)]
theorem era_apl {s : Sto} {q now : Int} (h0 : tryE s (eraR q now) = 0) : aplS s (eraR q now) = ⟨s.l.filter (fun x => decide (x.q ≠ q)), s.last⟩ := by
  unfold aplS
  rw [if_neg (by rw [h0]; simp), if_neg (by show ¬ (2 : Int) = 1; decide), if_neg (by show ¬ (2 : Int) = 4; decide)]
  congr 1
  apply List.filter_congr
  intro x _
  unfold goneB eraR
  simp
theorem filter_less {α : Type} {p : α → Bool} : ∀ {l : List α}, (∃ x ∈ l, p x = false) → (l.filter p).length < l.length
  | [], h => by obtain ⟨x, hx, _⟩ := h; cases hx
  | y :: l, h => by
    have hle := List.length_filter_le p l
    by_cases hy : p y = true
    · rw [List.filter_cons_of_pos hy, List.length_cons, List.length_cons]
      obtain ⟨x, hx, e⟩ := h
      rcases List.mem_cons.1 hx with z | z
      · subst z; rw [hy] at e; cases e
      · have := filter_less ⟨x, z, e⟩
        omega
    · rw [List.filter_cons_of_neg hy, List.length_cons]
      omega
theorem sameN_sub {a b : List Rc} (h : a.Sublist b) (s : ByteArray) : sameN a s ≤ sameN b s := h.countP_le
theorem byteN_sub : ∀ {a b : List Rc}, a.Sublist b → byteN a ≤ byteN b
  | _, _, .slnil => Nat.le_refl _
  | _, _, .cons x h => by have := byteN_sub h; rw [byteN]; omega
  | _, _, .cons_cons x h => by have := byteN_sub h; rw [byteN, byteN]; omega
/-- what a Do has made of the store where it was an erasure -/
theorem era_did {es : List Pap} {s : Sto} {m size q now : Int} (h0 : doE es s m size (eraR q now) = 0) : doS es s m size (eraR q now) = ⟨s.l.filter (fun x => decide (x.q ≠ q)), s.last⟩ := by
  unfold doS
  rw [if_pos h0, era_apl (do_ok h0).1]
/-- room takes messages alone -/
theorem room_sub {p : Pn.Pln} {m size now : Int} {x : Po} : ∀ (k : Nat) (es : List Pap) (s : Sto), (roomF p m size now x k es s).2.2.l.Sublist s.l ∧ (roomF p m size now x k es s).2.2.last = s.last
  | 0, _, _ => ⟨List.Sublist.refl _, rfl⟩
  | k + 1, es, s => by
    unfold roomF
    split
    · exact ⟨List.Sublist.refl _, rfl⟩
    · split
      · exact ⟨List.Sublist.refl _, rfl⟩
      · split
        · exact ⟨List.Sublist.refl _, rfl⟩
        · rename_i h0
          have h0 : doE es s m size (eraR (goQ p s.l x) now) = 0 := Classical.not_not.1 h0
          obtain ⟨i1, i2⟩ := room_sub (p := p) (m := m) (size := size) (now := now) (x := x) k (doL es s m size (eraR (goQ p s.l x) now)) (doS es s m size (eraR (goQ p s.l x) now))
          rw [era_did h0] at i1 i2 ⊢
          exact ⟨i1.trans List.filter_sublist, i2⟩
/-- the plan's numbers aren't below 0 -/
structure PPos (p : Pn.Pln) : Prop where
  pos : ∀ k, 0 ≤ pv p k
theorem ppos_of {p : Pn.Pln} (h : Pn.planE p = 0) : PPos p := by
  obtain ⟨_, _, _, _, _, h6⟩ := Pn.plan_ok h
  refine ⟨fun k => ?_⟩
  unfold pv nth
  have key : ∀ (v ms : List Int) (k : Nat), Pn.inAll v ms = true → 0 ≤ (v[k]?).getD 0 := by
    intro v
    induction v with
    | nil => intro ms k _; simp
    | cons y v ih =>
      intro ms k hh
      cases ms with
      | nil => simp [Pn.inAll] at hh
      | cons w ms =>
        simp only [Pn.inAll, Bool.and_eq_true, decide_eq_true_eq] at hh
        cases k with
        | zero => simpa using hh.1.1
        | succ k => simpa using ih ms k hh.2
  exact key p.v Pn.most8 k h6
theorem find_in {l : List Rc} {s : ByteArray} (h : 0 < sameN l s) : ∃ r ∈ l, r.q = firstS l s := by
  unfold sameN at h
  obtain ⟨r, hr, e⟩ := List.countP_pos_iff.1 h
  unfold firstS
  cases hf : l.find? (fun r => decide (r.s = s)) with
  | none =>
    have := List.find?_eq_none.1 hf r hr
    exact absurd e this
  | some y => exact ⟨y, List.mem_of_find?_eq_some hf, rfl⟩
theorem first_in {l : List Rc} (h : 0 < l.length) : ∃ r ∈ l, r.q = firstQ l := by
  cases l with
  | nil => simp at h
  | cons r l => exact ⟨r, by simp, rfl⟩
theorem byteN_pos {l : List Rc} (h : 0 < byteN l) : 0 < l.length := by
  cases l with
  | nil => simp [byteN] at h
  | cons r l => simp
/-- where there is no room there is a message that goes -/
theorem go_in {p : Pn.Pln} {l : List Rc} {x : Po} (hp : PPos p) (hz : ¬ (pv p 1 ≠ 0 ∧ pv p 1 < (szP x : Int))) (h : ¬ (crowdB p l x || fullB p l x) = false) : ∃ r ∈ l, r.q = goQ p l x := by
  unfold goQ
  by_cases hc : crowdB p l x = true
  · rw [if_pos hc]
    unfold crowdB at hc
    simp only [Bool.and_eq_true, decide_eq_true_eq] at hc
    have := hp.pos 3
    exact find_in (by omega)
  · rw [if_neg hc]
    have hc : crowdB p l x = false := by simpa using hc
    rw [hc, Bool.false_or] at h
    have hf : fullB p l x = true := by simpa using h
    unfold fullB at hf
    simp only [Bool.or_eq_true, Bool.and_eq_true, decide_eq_true_eq] at hf
    rcases hf with ⟨a, b⟩ | ⟨a, b⟩
    · have := hp.pos 0
      exact first_in (by omega)
    · have hb : ¬ pv p 1 < (szP x : Int) := fun z => hz ⟨a, z⟩
      exact first_in (byteN_pos (by omega))
/-- room is made to the end -/
theorem room_ends {p : Pn.Pln} {m size now : Int} {x : Po} (hp : PPos p) (hz : ¬ (pv p 1 ≠ 0 ∧ pv p 1 < (szP x : Int))) : ∀ (k : Nat) (es : List Pap) (s : Sto), s.l.length < k → (roomF p m size now x k es s).1 = 0 → (crowdB p (roomF p m size now x k es s).2.2.l x || fullB p (roomF p m size now x k es s).2.2.l x) = false
  | 0, _, s, h, _ => by omega
  | k + 1, es, s, h, h1 => by
    unfold roomF at h1 ⊢
    by_cases a : (crowdB p s.l x || fullB p s.l x) = false
    · rw [if_pos a]; exact a
    · rw [if_neg a] at h1 ⊢
      by_cases b : pv p 5 = 1
      · rw [if_pos b] at h1; cases h1
      · rw [if_neg b] at h1 ⊢
        by_cases c : doE es s m size (eraR (goQ p s.l x) now) = 0
        · rw [if_neg (by rw [c]; simp)] at h1 ⊢
          refine room_ends hp hz k _ _ ?_ h1
          rw [era_did c]
          obtain ⟨r, hr, e⟩ := go_in hp hz a
          have := filter_less (p := fun y : Rc => decide (y.q ≠ goQ p s.l x)) ⟨r, hr, by simpa using e⟩
          show (s.l.filter (fun y => decide (y.q ≠ goQ p s.l x))).length < k
          omega
        · rw [if_pos c] at h1
          exact absurd h1 c
theorem roomE_zero {p : Pn.Pln} {m size now : Int} {x : Po} {es : List Pap} {s : Sto} (hp : PPos p) (h : (roomE p m size now x es s).1 = 0) : (crowdB p (roomE p m size now x es s).2.2.l x || fullB p (roomE p m size now x es s).2.2.l x) = false := by
  unfold roomE at h ⊢
  by_cases a : pv p 1 ≠ 0 ∧ pv p 1 < (szP x : Int)
  · rw [if_pos a] at h; cases h
  · rw [if_neg a] at h ⊢
    exact room_ends hp a _ _ _ (by omega) h
theorem roomE_sub {p : Pn.Pln} {m size now : Int} {x : Po} {es : List Pap} {s : Sto} : (roomE p m size now x es s).2.2.l.Sublist s.l ∧ (roomE p m size now x es s).2.2.last = s.last := by
  unfold roomE
  split
  · exact ⟨List.Sublist.refl _, rfl⟩
  · exact room_sub _ _ _
/-- the plan's bounds -/
structure Bnd (p : Pn.Pln) (l : List Rc) : Prop where
  msgs : pv p 0 ≠ 0 → (l.length : Int) ≤ pv p 0
  bytes : pv p 1 ≠ 0 → (byteN l : Int) ≤ pv p 1
  per : pv p 3 ≠ 0 → ∀ t, (sameN l t : Int) ≤ pv p 3
theorem Bnd.nil {p : Pn.Pln} (hp : PPos p) : Bnd p [] := ⟨fun _ => by have := hp.pos 0; simpa using this, fun _ => by have := hp.pos 1; simpa [byteN] using this, fun _ t => by have := hp.pos 3; simpa [sameN] using this⟩
theorem Bnd.sub {p : Pn.Pln} {a b : List Rc} (h : Bnd p b) (hs : a.Sublist b) : Bnd p a := ⟨fun z => by have := h.msgs z; have := hs.length_le; omega, fun z => by have := h.bytes z; have := byteN_sub hs; omega, fun z t => by have := h.per z t; have := sameN_sub hs t; omega⟩
theorem sameN_snoc (l : List Rc) (r : Rc) (t : ByteArray) : sameN (l ++ [r]) t = sameN l t + (if r.s = t then 1 else 0) := by
  unfold sameN
  rw [List.countP_append]
  by_cases e : r.s = t <;> simp [e]
theorem Bnd.more {p : Pn.Pln} {l : List Rc} {x : Po} {q now : Int} (h : Bnd p l) (hr : (crowdB p l x || fullB p l x) = false) : Bnd p (l ++ [msgR q now x]) := by
  rw [Bool.or_eq_false_iff] at hr
  obtain ⟨h1, h2⟩ := hr
  unfold crowdB at h1
  unfold fullB at h2
  rw [Bool.or_eq_false_iff] at h2
  obtain ⟨h2, h3⟩ := h2
  simp only [Bool.and_eq_false_iff, decide_eq_false_iff_not] at h1 h2 h3
  refine ⟨fun z => ?_, fun z => ?_, fun z t => ?_⟩
  · rw [List.length_append, List.length_singleton]
    rcases h2 with a | a
    · exact absurd z a
    · omega
  · rw [byteN_append]
    have e : byteN [msgR q now x] = szP x := by simp [byteN, msgR, szP]
    rw [e]
    rcases h3 with a | a
    · exact absurd z a
    · omega
  · rw [sameN_snoc]
    rcases h1 with a | a
    · exact absurd z a
    · by_cases e : (msgR q now x).s = t
      · rw [if_pos e, ← e]
        show ((sameN l x.s + 1 : Nat) : Int) ≤ pv p 3
        omega
      · rw [if_neg e]
        exact h.per z t
/-- a message that was written -/
theorem msg_did {es : List Pap} {s : Sto} {m size q now : Int} {x : Po} (h0 : doE es s m size (msgR q now x) = 0) : doS es s m size (msgR q now x) = ⟨s.l ++ [msgR q now x], q⟩ := by
  unfold doS aplS
  rw [if_pos h0, if_neg (by rw [(do_ok h0).1]; simp), if_pos (by rfl)]
  rfl
theorem pur_did {es : List Pap} {s : Sto} {m size q now : Int} {f : ByteArray} (h0 : doE es s m size (purR q now f) = 0) : doS es s m size (purR q now f) = ⟨s.l.filter (fun y => !(decide (y.q < q) && tkB f y.s)), s.last⟩ := by
  unfold doS
  rw [if_pos h0, purge_left (do_ok h0).1 rfl]
  rfl
/-- behind each post the bounds hold -/
theorem Bnd.pub {p : Pn.Pln} {m size now : Int} {x : Po} {st : Str} (hp : PPos p) (h : Bnd p st.s.l) : Bnd p (pubP p m size now x st).2.s.l := by
  unfold pubP
  split
  · exact h
  · split
    · exact h
    · split
      · exact h
      · split
        · exact h.sub roomE_sub.1
        · rename_i h0
          have h0 : (roomE p m size now x st.es st.s).1 = 0 := Classical.not_not.1 h0
          have hb := h.sub (roomE_sub (p := p) (m := m) (size := size) (now := now) (x := x) (es := st.es) (s := st.s)).1
          have hr := roomE_zero hp h0
          generalize (roomE p m size now x st.es st.s).2.1 = es at *
          generalize (roomE p m size now x st.es st.s).2.2 = s at *
          unfold putP
          by_cases a : doE es s m size (msgR (s.last + 1) now x) = 0
          · rw [if_neg (by rw [a]; simp)]
            have hm : Bnd p (doS es s m size (msgR (s.last + 1) now x)).l := by rw [msg_did a]; exact hb.more hr
            split
            · exact hm
            · split
              · exact hm
              · rename_i b
                have b := Classical.not_not.1 b
                rw [show (doS (doL es s m size (msgR (s.last + 1) now x)) (doS es s m size (msgR (s.last + 1) now x)) m size (purR (s.last + 1) now (rollF x))).l = (doS es s m size (msgR (s.last + 1) now x)).l.filter _ from by rw [pur_did b]]
                exact hm.sub List.filter_sublist
          · rw [if_pos a]; exact hb
/-- the number that is told: the next one; 0 with an error -/
theorem pub_num {p : Pn.Pln} {m size now : Int} {x : Po} {st : Str} : ((pubP p m size now x st).1.2.2 ≠ 0 → (pubP p m size now x st).1.1 = 0 ∧ (pubP p m size now x st).1.2.1 = false) ∧ ((pubP p m size now x st).1.2.2 = 0 → (pubP p m size now x st).1.2.1 = false → (pubP p m size now x st).1.1 = st.s.last + 1) ∧ ((pubP p m size now x st).1.2.1 = true → (pubP p m size now x st).2 = st) := by
  unfold pubP
  split
  · rename_i a; exact ⟨fun _ => ⟨rfl, rfl⟩, fun z => absurd z a, fun z => by cases z⟩
  · split
    · exact ⟨fun z => absurd rfl z, fun _ z => (by cases z), fun _ => rfl⟩
    · split
      · exact ⟨fun _ => ⟨rfl, rfl⟩, fun z => (by cases z), fun z => by cases z⟩
      · split
        · rename_i a; exact ⟨fun _ => ⟨rfl, rfl⟩, fun z => absurd z a, fun z => by cases z⟩
        · have hl := (roomE_sub (p := p) (m := m) (size := size) (now := now) (x := x) (es := st.es) (s := st.s)).2
          generalize (roomE p m size now x st.es st.s).2.1 = es at *
          generalize (roomE p m size now x st.es st.s).2.2 = s at *
          unfold putP
          rw [hl]
          split
          · rename_i a; exact ⟨fun _ => ⟨rfl, rfl⟩, fun z => absurd z a, fun z => by cases z⟩
          · split
            · exact ⟨fun z => absurd rfl z, fun _ _ => rfl, fun z => by cases z⟩
            · split
              · rename_i a; exact ⟨fun _ => ⟨rfl, rfl⟩, fun z => absurd z a, fun z => by cases z⟩
              · exact ⟨fun z => absurd rfl z, fun _ _ => rfl, fun z => by cases z⟩
end Go.Proofs.YtohjipnkoiifhagGreatDoor.Dk

namespace Go.Proofs.YtohjipnkoiifhagGreatDoor.Dk
open Go

theorem drop_rc {l : List Rc} {i : Nat} (h : i < l.length) : l.drop i = rc l i :: l.drop (i + 1) := by
  rw [List.drop_eq_getElem_cons h]
  unfold rc
  rw [List.getElem?_eq_getElem h]
  rfl
theorem sameN_drop {l : List Rc} {i : Nat} (h : i < l.length) (s : ByteArray) : sameN (l.drop i) s = sameN (l.drop (i + 1)) s + (if (rc l i).s = s then 1 else 0) := by
  rw [drop_rc h]
  unfold sameN
  rw [List.countP_cons]
  by_cases e : (rc l i).s = s <;> simp [e]
theorem firstS_drop {l : List Rc} {i : Nat} (h : i < l.length) (s : ByteArray) : firstS (l.drop i) s = if (rc l i).s = s then (rc l i).q else firstS (l.drop (i + 1)) s := by
  rw [drop_rc h]
  unfold firstS
  by_cases e : (rc l i).s = s
  · rw [List.find?_cons_of_pos (by simpa using e), if_pos e]; rfl
  · rw [List.find?_cons_of_neg (by simpa using e), if_neg e]
theorem firstQ_drop {l : List Rc} {i : Nat} (h : i < l.length) : firstQ (l.drop i) = (rc l i).q := by
  rw [drop_rc h]
  rfl
theorem firstS_none {l : List Rc} {s : ByteArray} (h : sameN l s = 0) : firstS l s = 0 := by
  unfold firstS
  have : l.find? (fun r => decide (r.s = s)) = none := by
    rw [List.find?_eq_none]
    intro r hr z
    unfold sameN at h
    rw [List.countP_eq_zero] at h
    exact h r hr z
  rw [this]
  rfl
/-- the first old message: where it stands -/
theorem oldQ_at {l : List Rc} {t : Int} {k : Nat} (h : k < l.length) (h1 : ∀ j, j < k → ¬ (rc l j).t < t) (h2 : (rc l k).t < t) : oldQ l t = some (rc l k) := by
  induction l generalizing k with
  | nil => simp at h
  | cons r l ih =>
    unfold oldQ
    cases k with
    | zero => rw [List.find?_cons_of_pos (by simpa [rc] using h2)]; rfl
    | succ k =>
      have h0 := h1 0 (by omega)
      rw [List.find?_cons_of_neg (by simpa [rc] using h0)]
      exact ih (by simpa using h) (fun j hj => by simpa [rc] using h1 (j + 1) (by omega)) (by simpa [rc] using h2)
theorem oldQ_none {l : List Rc} {t : Int} (h : ∀ j, j < l.length → ¬ (rc l j).t < t) : oldQ l t = none := by
  unfold oldQ
  rw [List.find?_eq_none]
  intro r hr z
  obtain ⟨j, hj, e⟩ := List.mem_iff_getElem.1 hr
  have := h j hj
  unfold rc at this
  rw [List.getElem?_eq_getElem hj] at this
  rw [← e] at z
  simp at z this
  omega
/-- the ids that are gone through, one more -/
theorem seenQ_take {ids : List Kn} {k : Nat} (h : k < ids.length) (i : ByteArray) (f : Int) : seenQ (ids.take (k + 1)) i f = if ids[k].i = i ∧ f ≤ ids[k].a then ids[k].q else seenQ (ids.take k) i f := by
  rw [List.take_succ_eq_append_getElem h]
  unfold seenQ
  rw [List.foldl_append]
  rfl
/-- it is told again only with a number of its own -/
theorem seenQ_pos {ids : List Kn} (h : ∀ k ∈ ids, 1 ≤ k.q) (i : ByteArray) (f : Int) : 0 ≤ seenQ ids i f := by
  have key : ∀ (ids : List Kn) (q : Int), (∀ k ∈ ids, 1 ≤ k.q) → 0 ≤ q → 0 ≤ ids.foldl (fun q k => if k.i = i ∧ f ≤ k.a then k.q else q) q := by
    intro ids
    induction ids with
    | nil => intro q _ hq; exact hq
    | cons k r ih =>
      intro q hk hq
      apply ih _ (fun z hz => hk z (List.mem_cons_of_mem _ hz))
      have := hk k (List.mem_cons_self ..)
      show 0 ≤ if k.i = i ∧ f ≤ k.a then k.q else q
      split <;> omega
  exact key ids 0 h (Int.le_refl _)
/-- Age to the end: no old message is left, where no error came -/
theorem age_ends {p : Pn.Pln} {m size now : Int} : ∀ (k : Nat) (n : Int) (es : List Pap) (s : Sto), s.l.length < k → (ageF p m size now k n es s).1.2 = 0 → oldQ (ageF p m size now k n es s).2.2.l (now - pv p 2) = none
  | 0, _, _, s, h, _ => by omega
  | k + 1, n, es, s, h, h1 => by
    unfold ageF at h1 ⊢
    cases ho : oldQ s.l (now - pv p 2) with
    | none => simp only [ho]
    | some r =>
      simp only [ho] at h1 ⊢
      by_cases c : doE es s m size (eraR r.q now) = 0
      · rw [if_neg (by rw [c]; simp)] at h1 ⊢
        refine age_ends k _ _ _ ?_ h1
        rw [era_did c]
        have hm : r ∈ s.l := List.mem_of_find?_eq_some ho
        have := filter_less (p := fun y : Rc => decide (y.q ≠ r.q)) ⟨r, hm, by simp⟩
        show (s.l.filter (fun y => decide (y.q ≠ r.q))).length < k
        omega
      · rw [if_pos c] at h1
        exact absurd h1 c
end Go.Proofs.YtohjipnkoiifhagGreatDoor.Dk

namespace Go.Proofs.YtohjipnkoiifhagGreatDoor.Dk
open Go

theorem toks_ne (s : ByteArray) : Pl.toks s ≠ [] := fun h => by
  have := congrArg List.length h
  rw [Pl.toks_length] at this
  have h2 := Pl.pcs_ne s.data.toList
  exact h2 (List.length_eq_zero_iff.1 (by simpa using this))
theorem tkB_all (s : ByteArray) : tkB ⟨#[62]⟩ s = true := by
  unfold tkB
  rw [gt_text.2]
  exact coverL_gt (by decide +kernel) (toks_ne s)
theorem tkB_self (s : ByteArray) : tkB s s = true := coverL_self _
/-- a post that is told a new number -/
theorem pub_new {p : Pn.Pln} {m size now : Int} {x : Po} {st : Str} (h0 : (pubP p m size now x st).1.2.2 = 0) (ha : (pubP p m size now x st).1.2.1 = false) :
    preE p now x = 0 ∧ (pubP p m size now x st).1.1 = st.s.last + 1 ∧ (pubP p m size now x st).2.s.last = st.s.last + 1 ∧ (pubP p m size now x st).2.ids = idsP st.ids x now (st.s.last + 1) ∧
      ∃ l, l.Sublist st.s.l ∧ (x.ro = 0 → (pubP p m size now x st).2.s.l = l ++ [msgR (st.s.last + 1) now x]) ∧ (x.ro ≠ 0 → (pubP p m size now x st).2.s.l = (l ++ [msgR (st.s.last + 1) now x]).filter (fun y => !(decide (y.q < st.s.last + 1) && tkB (rollF x) y.s))) := by
  unfold pubP at h0 ha ⊢
  by_cases a : preE p now x = 0
  · rw [if_neg (by rw [a]; simp)] at h0 ha ⊢
    by_cases b : againB p now x st.ids = true
    · rw [if_pos b] at ha; cases ha
    · rw [if_neg b] at h0 ha ⊢
      by_cases c : x.x ≠ -1 ∧ x.x ≠ st.s.last
      · rw [if_pos c] at h0; cases h0
      · rw [if_neg c] at h0 ha ⊢
        by_cases d : (roomE p m size now x st.es st.s).1 = 0
        · rw [if_neg (by rw [d]; simp)] at h0 ha ⊢
          obtain ⟨hs, hl⟩ := roomE_sub (p := p) (m := m) (size := size) (now := now) (x := x) (es := st.es) (s := st.s)
          generalize (roomE p m size now x st.es st.s).2.1 = es at *
          generalize (roomE p m size now x st.es st.s).2.2 = s at *
          unfold putP at h0 ⊢
          rw [hl] at h0 ⊢
          by_cases e : doE es s m size (msgR (st.s.last + 1) now x) = 0
          · rw [if_neg (by rw [e]; simp)] at h0 ⊢
            by_cases f : x.ro = 0
            · rw [if_pos f]
              refine ⟨a, rfl, by rw [msg_did e], rfl, s.l, hs, fun _ => by rw [msg_did e], fun z => absurd f z⟩
            · rw [if_neg f] at h0 ⊢
              by_cases g : doE (doL es s m size (msgR (st.s.last + 1) now x)) (doS es s m size (msgR (st.s.last + 1) now x)) m size (purR (st.s.last + 1) now (rollF x)) = 0
              · rw [if_neg (by rw [g]; simp)]
                refine ⟨a, rfl, ?_, rfl, s.l, hs, fun z => absurd z f, fun _ => ?_⟩
                · rw [show (doS (doL es s m size (msgR (st.s.last + 1) now x)) (doS es s m size (msgR (st.s.last + 1) now x)) m size (purR (st.s.last + 1) now (rollF x))).last = (doS es s m size (msgR (st.s.last + 1) now x)).last from by rw [pur_did g], msg_did e]
                · rw [show (doS (doL es s m size (msgR (st.s.last + 1) now x)) (doS es s m size (msgR (st.s.last + 1) now x)) m size (purR (st.s.last + 1) now (rollF x))).l = (doS es s m size (msgR (st.s.last + 1) now x)).l.filter _ from by rw [pur_did g], msg_did e]
              · rw [if_pos g] at h0
                exact absurd h0 g
          · rw [if_pos e] at h0
            exact absurd h0 e
        · rw [if_pos d] at h0
          exact absurd h0 d
  · rw [if_pos a] at h0
    exact absurd h0 a
/-- rolled up: this message alone -/
theorem pub_rolls {p : Pn.Pln} {m size now : Int} {x : Po} {st : Str} (hk : st.s.Ok) (h0 : (pubP p m size now x st).1.2.2 = 0) (ha : (pubP p m size now x st).1.2.1 = false) (hr : x.ro ≠ 0) :
    (∀ r ∈ (pubP p m size now x st).2.s.l, r.q ≠ (pubP p m size now x st).1.1 → ¬ (x.ro = 2 ∨ r.s = x.s)) ∧ ((pubP p m size now x st).2.s.l.getLast?.map (·.q)) = some (pubP p m size now x st).1.1 := by
  obtain ⟨hp, h1, _, _, l, hs, _, h6⟩ := pub_new h0 ha
  have h7 := h6 hr
  have h12 : x.ro = 1 ∨ x.ro = 2 := by
    unfold preE at hp
    by_cases z : (inI now 0 1099511627776 && (decide (-1 ≤ x.x) && inI x.ro 0 2)) = false
    · rw [if_pos z] at hp; cases hp
    · have z : (inI now 0 1099511627776 && (decide (-1 ≤ x.x) && inI x.ro 0 2)) = true := by simpa using z
      simp only [inI, Bool.and_eq_true, decide_eq_true_eq] at z
      omega
  rw [h7, h1]
  constructor
  · intro r hr' hq hn
    rw [List.mem_filter] at hr'
    obtain ⟨hm, hg⟩ := hr'
    rcases List.mem_append.1 hm with y | y
    · have hlow := hk.low r (hs.subset y)
      have ht : tkB (rollF x) r.s = true := by
        unfold rollF
        rcases h12 with e | e
        · rw [if_pos e]
          rcases hn with z | z
          · omega
          · rw [z]; exact tkB_self _
        · rw [if_neg (by omega)]
          exact tkB_all _
      rw [ht, decide_eq_true (show r.q < st.s.last + 1 by omega)] at hg
      cases hg
    · rw [List.mem_singleton.1 y] at hq
      exact hq rfl
  · rw [List.filter_append]
    have e : [msgR (st.s.last + 1) now x].filter (fun y => !(decide (y.q < st.s.last + 1) && tkB (rollF x) y.s)) = [msgR (st.s.last + 1) now x] := by
      rw [List.filter_cons_of_pos (by simp [msgR])]
      rfl
    rw [e, List.getLast?_append]
    rfl
/-- one id, posted again -/
theorem pub_twice {p : Pn.Pln} {m size now later : Int} {x : Po} {st : Str} (hp : PPos p) (hl : 0 ≤ st.s.last) (hi : st.ids = []) (h0 : (pubP p m size now x st).1.2.2 = 0) (ha : (pubP p m size now x st).1.2.1 = false) :
    (inI later 0 1099511627776 = false → (pubP p m size later x (pubP p m size now x st).2).1.2.2 = 1) ∧
    (inI later 0 1099511627776 = true → x.i.size ≠ 0 → 0 < pv p 7 → later - pv p 7 ≤ now → pubP p m size later x (pubP p m size now x st).2 = (((pubP p m size now x st).1.1, true, 0), (pubP p m size now x st).2)) ∧
    (inI later 0 1099511627776 = true → ¬ (x.i.size ≠ 0 ∧ 0 < pv p 7 ∧ later - pv p 7 ≤ now) → (pubP p m size later x (pubP p m size now x st).2).1.2.1 = false ∧ ((pubP p m size later x (pubP p m size now x st).2).1.2.2 = 0 → (pubP p m size later x (pubP p m size now x st).2).1.1 = (pubP p m size now x st).1.1 + 1)) := by
  obtain ⟨hpr, h1, h2, h3, _⟩ := pub_new h0 ha
  rw [hi] at h3
  have hpl : inI later 0 1099511627776 = true → preE p later x = 0 := fun h => by
    unfold preE at hpr ⊢
    by_cases z : (inI now 0 1099511627776 && (decide (-1 ≤ x.x) && inI x.ro 0 2)) = false
    · rw [if_pos z] at hpr; cases hpr
    · rw [if_neg z] at hpr
      have z : (inI now 0 1099511627776 && (decide (-1 ≤ x.x) && inI x.ro 0 2)) = true := by simpa using z
      rw [Bool.and_eq_true] at z
      rw [if_neg (by rw [h, z.2]; decide)]
      exact hpr
  have hn := pub_num (p := p) (m := m) (size := size) (now := later) (x := x) (st := (pubP p m size now x st).2)
  rw [h2] at hn
  rw [h1]
  generalize (pubP p m size now x st).2 = st1 at *
  have hseen : x.i.size ≠ 0 → seenQ st1.ids x.i (later - pv p 7) = if later - pv p 7 ≤ now then st.s.last + 1 else 0 := fun z => by
    rw [h3]
    unfold idsP seenQ
    rw [if_neg z]
    simp
  refine ⟨fun h => ?_, fun h a b c => ?_, fun h a => ?_⟩
  · have hp1 : preE p later x = 1 := by
      unfold preE
      rw [if_pos (by rw [h]; rfl)]
    unfold pubP
    rw [if_pos (by rw [hp1]; decide)]
    exact hp1
  · unfold pubP
    have hs := hseen a
    rw [if_pos c] at hs
    have hag : againB p later x st1.ids = true := by
      unfold againB
      rw [hs, decide_eq_true a, decide_eq_true (show pv p 7 ≠ 0 by omega), decide_eq_true (show 0 < st.s.last + 1 by omega)]
      rfl
    rw [if_neg (by rw [hpl h]; simp), if_pos hag, hs]
  · have hag : againB p later x st1.ids = false := by
      unfold againB
      by_cases z1 : x.i.size = 0
      · rw [decide_eq_false (p := x.i.size ≠ 0) (by omega)]; rfl
      · by_cases z2 : pv p 7 = 0
        · rw [decide_eq_false (p := pv p 7 ≠ 0) (by omega)]; simp
        · have := hp.pos 7
          have hs := hseen z1
          rw [if_neg (fun y => a ⟨z1, by omega, y⟩)] at hs
          rw [hs, decide_eq_false (p := (0 : Int) < 0) (by omega)]
          simp
    have hfa : (pubP p m size later x st1).1.2.1 = false := by
      unfold pubP
      rw [if_neg (by rw [hpl h]; simp), if_neg (by rw [hag]; simp)]
      split
      · rfl
      · split
        · rfl
        · unfold putP
          split
          · rfl
          · split
            · rfl
            · split <;> rfl
    exact ⟨hfa, fun z => hn.2.1 z hfa⟩
end Go.Proofs.YtohjipnkoiifhagGreatDoor.Dk

namespace Go.Proofs.YtohjipnkoiifhagGreatDoor
open Go.RowKit

/-- a plan as a value, out of the pure one -/
def plV (p : Pn.Pln) (a : Option Addr) (c : Nat) : Value := planV p.n a p.f.length c (Dk.nth p.v 0) (Dk.nth p.v 1) (Dk.nth p.v 2) (Dk.nth p.v 3) (Dk.nth p.v 4) (Dk.nth p.v 5) (Dk.nth p.v 6) (Dk.nth p.v 7)
/-- a plan that isn't too great for any machine -/
structure SmallP (p : Pn.Pln) : Prop where
  name : p.n.size ≤ 140737488355328
  each : ∀ k, k < p.f.length → (tk p.f k).size ≤ 140737488355328
  many : p.f.length ≤ 140737488355328
  nums : p.v.length = 8
end Go.Proofs.YtohjipnkoiifhagGreatDoor

namespace Go.Proofs.YtohjipnkoiifhagGreatDoor.Dk
open Go.RowKit

/-- a post as a value -/
abbrev poV (x : Po) : Value := .agg #[.string x.s, .string x.i, .string x.h, .string x.d, .int .i64 x.x, .int .i64 x.ro]
/-- a post that isn't too great for any machine -/
structure SmallO (x : Po) : Prop where
  s : x.s.size ≤ 140737488355328
  i : x.i.size ≤ 140737488355328
  h : x.h.size ≤ 140737488355328
  d : x.d.size ≤ 140737488355328
def noStr : Str := ⟨[], ⟨[], 0⟩, []⟩
/-- a call may have written the stream's own blocks F alone -/
def DidR (RH : World → Nat → Nat → (Nat → Prop) → Pn.Pln → Int → Int → Str → Prop) (w w' : World) (B p : Nat) (F : Nat → Prop) (P : Pn.Pln) (m size : Int) (st : Str) : Prop := ∃ F', RH w' B p F' P m size st ∧ Chg F w w' ∧ ∀ k, F' k → F k ∨ w.heap.size ≤ k
/-- what every method finds -/
structure Fit (P : Pn.Pln) (m size : Int) (st : Str) : Prop where
  plan : Pn.planE P = 0
  vok : VOk m st.es st.s
  room : m ≤ 65536
  size : inI size 1 4096 = true
  seqs : ∀ k ∈ st.ids, 1 ≤ k.q
/-- what is asked of the program's stream: RH w B p F P m size st says that at block p there is a stream of the plan P, on a vault of room m and that size, whose state is st, in the blocks F; G: what the tables are asked to be -/
structure RWorks (G : World → Prop) (RH : World → Nat → Nat → (Nat → Prop) → Pn.Pln → Int → Int → Str → Prop) (SH : World → Nat → Nat → (Nat → Prop) → Sto → Prop) : Prop where
  own : ∀ {w B p F P m size st}, RH w B p F P m size st → ∀ k, F k → B ≤ k ∧ k < w.heap.size
  chg : ∀ {w w' B p F P m size st} {A : Nat → Prop}, RH w B p F P m size st → Chg A w w' → (∀ k, F k → ¬ A k) → RH w' B p F P m size st
  wrong : ∀ (w : World) (P : Pn.Pln) (a : Option Addr) (c : Nat) (m size : Int), SmallP P → SlS w a P.f → P.f.length ≤ c → G w → Pn.planE P ≠ 0 →
    Calls Tryz.prog 16 #[plV P a c, .int .i64 m, .int .i64 size] w fun e w' => e = .returned (.tuple #[.pointer none, .int .i64 (Pn.planE P)]) ∧ Below w.heap.size w w'
  bad : ∀ (w : World) (P : Pn.Pln) (a : Option Addr) (c : Nat) (m size : Int), SmallP P → SlS w a P.f → P.f.length ≤ c → G w → Pn.planE P = 0 → (inI m 1 65536 && inI size 1 4096) = false →
    Calls Tryz.prog 16 #[plV P a c, .int .i64 m, .int .i64 size] w fun e w' => e = .returned (.tuple #[.pointer none, .int .i64 1]) ∧ Below w.heap.size w w'
  good : ∀ (w : World) (P : Pn.Pln) (a : Option Addr) (c : Nat) (m size : Int), SmallP P → SlS w a P.f → P.f.length ≤ c → G w → Pn.planE P = 0 → inI m 1 65536 = true → inI size 1 4096 = true →
    Calls Tryz.prog 16 #[plV P a c, .int .i64 m, .int .i64 size] w fun e w' => ∃ p F, e = .returned (.tuple #[.pointer (some ⟨p, 0, none⟩), .int .i64 0]) ∧ RH w' w.heap.size p F P m size noStr ∧ Below w.heap.size w w'
  publish : ∀ {w B p F P m size st} (now : Int) (x : Po), SmallO x → RH w B p F P m size st → Fit P m size st → B ≤ w.heap.size →
    Calls Tryz.prog 18 #[.pointer (some ⟨p, 0, none⟩), .int .i64 now, poV x] w fun e w' => e = .returned (.tuple #[.int .i64 (pubP P m size now x st).1.1, .bool (pubP P m size now x st).1.2.1, .int .i64 (pubP P m size now x st).1.2.2]) ∧ DidR RH w w' B p F P m size (pubP P m size now x st).2
  store : ∀ {w B p F P m size st}, RH w B p F P m size st → Fit P m size st → B ≤ w.heap.size →
    Calls Tryz.prog 17 #[.pointer (some ⟨p, 0, none⟩)] w fun e w' => ∃ q F0, e = .returned (.pointer (some ⟨q, 0, none⟩)) ∧ SH w' B q F0 st.s ∧ (∀ k, F0 k → F k) ∧ Below w.heap.size w w'
/-- and of its stop -/
structure RStops (RH : World → Nat → Nat → (Nat → Prop) → Pn.Pln → Int → Int → Str → Prop) : Prop where
  true' : True
theorem Fit.nil {P : Pn.Pln} {m size : Int} (hp : Pn.planE P = 0) (hm : inI m 1 65536 = true) (hs : inI size 1 4096 = true) : Fit P m size noStr := by
  have hb : 1 ≤ m ∧ m ≤ 65536 := by simpa [inI] using hm
  exact ⟨hp, VOk.nil (by omega), hb.2, hs, fun k hk => by cases hk⟩
theorem ids_low {ids : List Kn} {x : Po} {now q : Int} (h : ∀ k ∈ ids, 1 ≤ k.q) (hq : 1 ≤ q) : ∀ k ∈ idsP ids x now q, 1 ≤ k.q := by
  unfold idsP
  split
  · exact h
  · intro k hk
    rcases List.mem_append.1 hk with y | y
    · exact h k y
    · rw [List.mem_singleton.1 y]; exact hq
theorem put_ids {m size now : Int} {x : Po} {ids : List Kn} {es : List Pap} {s : Sto} (h : ∀ k ∈ ids, 1 ≤ k.q) (hl : 0 ≤ s.last) : ∀ k ∈ (putP m size now x ids es s).2.ids, 1 ≤ k.q := by
  unfold putP
  split
  · exact h
  · split
    · exact ids_low h (by omega)
    · split
      · exact ids_low h (by omega)
      · exact ids_low h (by omega)
theorem Fit.pub {P : Pn.Pln} {m size now : Int} {x : Po} {st : Str} (h : Fit P m size st) : Fit P m size (pubP P m size now x st).2 := by
  refine ⟨h.plan, h.vok.pub, h.room, h.size, ?_⟩
  unfold pubP
  split
  · exact h.seqs
  · split
    · exact h.seqs
    · split
      · exact h.seqs
      · split
        · exact h.seqs
        · exact put_ids h.seqs h.vok.roomE.ok.last.1
theorem Fit.stop {P : Pn.Pln} {m size : Int} {st : Str} (h : Fit P m size st) : Fit P m size ⟨st.es, st.s, []⟩ := ⟨h.plan, h.vok, h.room, h.size, fun k hk => by cases hk⟩
/-- a stream on its way, behind w; the blocks Cs are none of its own -/
def Ray (RH : World → Nat → Nat → (Nat → Prop) → Pn.Pln → Int → Int → Str → Prop) (Cs : Nat → Prop) (w wr : World) (p : Nat) (P : Pn.Pln) (m size : Int) (st : Str) : Prop :=
  ∃ F, RH wr w.heap.size p F P m size st ∧ Below w.heap.size w wr ∧ (∀ k, Cs k → k < wr.heap.size ∧ ¬ F k) ∧ Fit P m size st
section
variable {G : World → Prop} {RH : World → Nat → Nat → (Nat → Prop) → Pn.Pln → Int → Int → Str → Prop} {SH : World → Nat → Nat → (Nat → Prop) → Sto → Prop} {Cs Cs' : Nat → Prop} {w wr w' : World} {p : Nat} {P : Pn.Pln} {m size : Int} {st st' : Str}
theorem Ray.bl (h : Ray RH Cs w wr p P m size st) : Below w.heap.size w wr := by obtain ⟨F, _, h2, _⟩ := h; exact h2
theorem Ray.room (h : Ray RH Cs w wr p P m size st) : w.heap.size ≤ wr.heap.size := h.bl.size
theorem Ray.fit (h : Ray RH Cs w wr p P m size st) : Fit P m size st := by obtain ⟨F, _, _, _, h5⟩ := h; exact h5
theorem Ray.mine (V : RWorks G RH SH) (h : Ray RH Cs w wr p P m size st) (hb : Below wr.heap.size wr w') (hn : ∀ k, Cs' k → Cs k ∨ wr.heap.size ≤ k ∧ k < w'.heap.size) : Ray RH Cs' w w' p P m size st := by
  have hr := h.room
  obtain ⟨F, h1, h2, h3, h4⟩ := h
  refine ⟨F, V.chg (A := fun _ => False) h1 (Chg.of_below hb) (fun _ _ z => z), h2.trans (hb.mono hr), fun k hk => ?_, h4⟩
  rcases hn k hk with y | y
  · exact ⟨Nat.lt_of_lt_of_le (h3 k y).1 hb.size, (h3 k y).2⟩
  · exact ⟨y.2, fun z => by have := (V.own h1 k z).2; omega⟩
theorem Ray.below (V : RWorks G RH SH) (h : Ray RH Cs w wr p P m size st) (hb : Below wr.heap.size wr w') : Ray RH Cs w w' p P m size st := h.mine V hb (fun _ z => .inl z)
theorem Ray.stay (h : Ray RH Cs w wr p P m size st) (hb : Below wr.heap.size wr w') : Stay Cs wr w' := by
  obtain ⟨F, _, _, h3, _⟩ := h
  exact ⟨hb.size, fun k hk => hb.block k (h3 k hk).1⟩
theorem Ray.does (V : RWorks G RH SH) (h : Ray RH Cs w wr p P m size st) (hk : Fit P m size st') {fn : FuncId} {args : Array Value} {Q : Ending → World → Prop}
    (hc : ∀ F, RH wr w.heap.size p F P m size st → Calls Tryz.prog fn args wr fun e w' => Q e w' ∧ DidR RH wr w' w.heap.size p F P m size st') :
    Calls Tryz.prog fn args wr fun e w' => Q e w' ∧ Ray RH Cs w w' p P m size st' ∧ Stay Cs wr w' := by
  have hr := h.room
  obtain ⟨F, h1, h2, h3, h4⟩ := h
  refine (hc F h1).mono ?_
  rintro e w' ⟨hq, F', a1, a2, a3⟩
  refine ⟨hq, ⟨F', a1, h2.trans (a2.below hr (fun k hk z => by have := (V.own h1 k z).1; omega)), fun k hk => ⟨Nat.lt_of_lt_of_le (h3 k hk).1 a2.size, fun z => ?_⟩, hk⟩, a2.size, fun k hk => a2.block k (h3 k hk).1 (h3 k hk).2⟩
  rcases a3 k z with y | y
  · exact (h3 k hk).2 y
  · have := (h3 k hk).1; omega
theorem Ray.publish (V : RWorks G RH SH) (h : Ray RH Cs w wr p P m size st) (now : Int) (x : Po) (hx : SmallO x) :
    Calls Tryz.prog 18 #[.pointer (some ⟨p, 0, none⟩), .int .i64 now, poV x] wr fun e w' => e = .returned (.tuple #[.int .i64 (pubP P m size now x st).1.1, .bool (pubP P m size now x st).1.2.1, .int .i64 (pubP P m size now x st).1.2.2]) ∧ Ray RH Cs w w' p P m size (pubP P m size now x st).2 ∧ Stay Cs wr w' := by
  have hm := h.room
  exact h.does V h.fit.pub (fun F hF => V.publish now x hx hF h.fit hm)
theorem Ray.store (V : RWorks G RH SH) (h : Ray RH Cs w wr p P m size st) :
    Calls Tryz.prog 17 #[.pointer (some ⟨p, 0, none⟩)] wr fun e w' => ∃ q F0, e = .returned (.pointer (some ⟨q, 0, none⟩)) ∧ SH w' w.heap.size q F0 st.s ∧ Below wr.heap.size wr w' := by
  have hm := h.room
  have hf := h.fit
  obtain ⟨F, h1, _⟩ := h
  refine (V.store h1 hf hm).mono ?_
  rintro e w' ⟨q, F0, he, hs, _, hb⟩
  exact ⟨q, F0, he, hs, hb⟩
theorem Ray.new (V : RWorks G RH SH) (w : World) (P : Pn.Pln) (a : Option Addr) (c : Nat) (hs : SmallP P) (hsl : SlS w a P.f) (hc : P.f.length ≤ c) (hG : G w) (hp : Pn.planE P = 0) (hm : inI m 1 65536 = true) (hz : inI size 1 4096 = true) :
    Calls Tryz.prog 16 #[plV P a c, .int .i64 m, .int .i64 size] w fun e w' => ∃ p, e = .returned (.tuple #[.pointer (some ⟨p, 0, none⟩), .int .i64 0]) ∧ Ray RH (fun _ => False) w w' p P m size noStr := by
  refine (V.good w P a c m size hs hsl hc hG hp hm hz).mono ?_
  rintro e w' ⟨p, F, he, h1, h2⟩
  exact ⟨p, he, F, h1, h2, fun _ z => z.elim, Fit.nil hp hm hz⟩
end
end Go.Proofs.YtohjipnkoiifhagGreatDoor.Dk

namespace Go.Proofs.YtohjipnkoiifhagGreatDoor.Dk
open Go.RowKit

/-- the six cells of a post in block b -/
structure PoB (w : World) (b : Nat) (x : Po) : Prop where
  lt : b < w.heap.size
  c0 : w.cell? ⟨b, 0, none⟩ = some (.string x.s)
  c1 : w.cell? ⟨b, 1, none⟩ = some (.string x.i)
  c2 : w.cell? ⟨b, 2, none⟩ = some (.string x.h)
  c3 : w.cell? ⟨b, 3, none⟩ = some (.string x.d)
  c4 : w.cell? ⟨b, 4, none⟩ = some (.int .i64 x.x)
  c5 : w.cell? ⟨b, 5, none⟩ = some (.int .i64 x.ro)
abbrev poO (x : Po) : Obj := .cells #[.string x.s, .string x.i, .string x.h, .string x.d, .int .i64 x.x, .int .i64 x.ro] 50
theorem PoB.new (w : World) (x : Po) : PoB (w.alloc (poO x)) w.heap.size x := ⟨by simp, by simp, by simp, by simp, by simp, by simp, by simp⟩
theorem PoB.same {w w' : World} {b : Nat} {x : Po} (h : PoB w b x) (hs : w.heap.size ≤ w'.heap.size) (hb : w'.heap[b]? = w.heap[b]?) : PoB w' b x := by
  have e : ∀ j, w'.cell? ⟨b, j, none⟩ = w.cell? ⟨b, j, none⟩ := fun j => World.cell?_of_block (w := w) (a := ⟨b, j, none⟩) hb
  exact ⟨Nat.lt_of_lt_of_le h.lt hs, by rw [e]; exact h.c0, by rw [e]; exact h.c1, by rw [e]; exact h.c2, by rw [e]; exact h.c3, by rw [e]; exact h.c4, by rw [e]; exact h.c5⟩
theorem PoB.below {w w' : World} {b : Nat} {x : Po} (h : PoB w b x) (hb : Below w.heap.size w w') : PoB w' b x := h.same hb.size (hb.block b h.lt)
theorem PoB.stay {Cs : Nat → Prop} {w w' : World} {b : Nat} {x : Po} (h : PoB w b x) (hs : Stay Cs w w') (hb : Cs b) : PoB w' b x := h.same hs.1 (hs.2 b hb)
end Go.Proofs.YtohjipnkoiifhagGreatDoor.Dk

namespace Go.Proofs.YtohjipnkoiifhagGreatDoor.Dk
open Go

/-- the blocks bear low numbers -/
def Low (es : List Pap) : Prop := ∀ e ∈ es, 0 ≤ e.n ∧ e.n < (es.length : Int)
theorem Low.nil : Low [] := fun e h => by cases h
theorem last_in {es : List Pap} (h : es.length ≠ 0) : lastP es ∈ es := pa_mem (by omega)
theorem Low.sync {es : List Pap} (h : Low es) (n : Int) : Low (syncL es n) := by
  unfold syncL
  split
  · rename_i hi
    intro e he
    rw [List.length_set]
    rcases List.mem_or_eq_of_mem_set he with y | y
    · exact h e y
    · rw [y]; exact h (pa es (ix es n)) (pa_mem hi)
  · exact h
theorem Low.lsync {es : List Pap} (h : Low es) : Low (lsyncL es) := by
  unfold lsyncL
  split
  · exact h
  · exact h.sync _
theorem Low.app {es : List Pap} (h : Low es) {m n : Int} {s : ByteArray} (hn : 0 ≤ n ∧ n ≤ (es.length : Int)) : Low (appL es m n s) := by
  unfold appL
  split
  · exact h
  · split
    · exact h
    · split
      · rename_i hi
        intro e he
        rw [List.length_set]
        rcases List.mem_or_eq_of_mem_set he with y | y
        · exact h e y
        · rw [y]; exact h (pa es (ix es n)) (pa_mem hi)
      · intro e he
        have hl : (insL es (low es n) ⟨n, 0, s⟩).length = es.length + 1 := by
          unfold insL
          rw [List.length_append, List.length_cons, List.length_take, List.length_drop]
          have : low es n ≤ es.length := by unfold low; exact List.findIdx_le_length
          omega
        rw [hl]
        rcases mem_ins he with y | y
        · rw [y]; exact ⟨hn.1, by show n < ((es.length + 1 : Nat) : Int); omega⟩
        · have := h e y; exact ⟨this.1, by omega⟩
theorem Low.size_sync (es : List Pap) (n : Int) : (syncL es n).length = es.length := by
  unfold syncL
  split
  · rw [List.length_set]
  · rfl
theorem Low.log {es : List Pap} (h : Low es) (m size : Int) (r : Rc) : Low (logP es m size r).2 := by
  unfold logP
  split
  · unfold logR
    split
    · exact h
    · split
      · exact h.app ⟨Int.le_refl _, by omega⟩
      · rename_i hne
        have hl := h _ (last_in hne)
        split
        · exact (h.sync _).app ⟨by omega, by rw [Low.size_sync]; omega⟩
        · exact h.app ⟨hl.1, by omega⟩
  · exact h
theorem Low.did {es : List Pap} (h : Low es) (s : Sto) (m size : Int) (r : Rc) : Low (doL es s m size r) := by
  unfold doL
  split
  · exact (h.log m size r).lsync
  · exact h
/-- the one error of a log whose blocks bear low numbers: no room -/
theorem log_err {es : List Pap} (h : Low es) (hf : es.length ≤ 20) {m size : Int} {r : Rc} (hc : chkR r = 0) : (logP es m size r).1 = 0 ∨ (logP es m size r).1 = 8 := by
  have key : ∀ (es' : List Pap) (n : Int), 0 ≤ n → n ≤ 1099511627776 → appE es' m n (codT r) = 0 ∨ appE es' m n (codT r) = 8 := fun es' n h1 h2 => by
    unfold appE
    rw [if_neg (by unfold inI; rw [decide_eq_true h1, decide_eq_true h2]; decide)]
    split
    · exact .inr rfl
    · exact .inl rfl
  have hR : (logR es m size r).1 = 0 ∨ (logR es m size r).1 = 8 := by
    unfold logR
    rw [if_neg (by rw [hc]; simp)]
    split
    · exact key es 0 (by omega) (by omega)
    · rename_i hne
      have hl := h _ (last_in hne)
      split
      · exact key (syncL es (lastP es).n) ((lastP es).n + 1) (by omega) (by omega)
      · exact key es (lastP es).n (by omega) (by omega)
  unfold logP
  split
  · exact hR
  · exact hR
theorem do_err {es : List Pap} (h : Low es) (hf : es.length ≤ 20) {s : Sto} {m size : Int} {r : Rc} (hc : chkR r = 0) (ht : tryE s r = 0 ∨ tryE s r = 8) : doE es s m size r = 0 ∨ doE es s m size r = 8 := by
  unfold doE
  split
  · exact ht
  · exact log_err h hf hc
theorem errS_errOf (wild : Bool) (s : ByteArray) : errS wild s = Pl.errOf wild (Pl.pcs s.data.toList) := rfl
/-- a post that passes is a record -/
theorem msg_chk {p : Pn.Pln} {now : Int} {x : Po} {q : Int} (h : preE p now x = 0) (hq : 1 ≤ q ∧ q ≤ 1099511627776) : chkR (msgR q now x) = 0 := by
  unfold preE at h
  by_cases a : (inI now 0 1099511627776 && (decide (-1 ≤ x.x) && inI x.ro 0 2)) = false
  · rw [if_pos a] at h; cases h
  · rw [if_neg a] at h
    by_cases b : errS false x.s = 0
    · rw [if_neg (by rw [b]; simp)] at h
      by_cases c : takesP p x.s = false
      · rw [if_pos c] at h; cases h
      · rw [if_neg c] at h
        have a : (inI now 0 1099511627776 && (decide (-1 ≤ x.x) && inI x.ro 0 2)) = true := by simpa using a
        simp only [inI, Bool.and_eq_true, decide_eq_true_eq] at a
        have d : ¬ 256 < x.h.size + x.d.size := fun z => by
          rw [decide_eq_true z] at h
          simp at h
        have e : ∀ y : ByteArray, y.data.toList.length = y.size := fun y => by simp
        unfold chkR msgR Rc.pk Pk.chk
        rw [if_neg (by
          have : Pk.inB 1 q now = true := Pk.inB_iff.2 ⟨by decide, by decide, hq.1, hq.2, a.1.1, a.1.2⟩
          rw [this]; decide), if_pos rfl, if_neg (by rw [← errS_errOf, b]; simp), if_neg (by simp only [e]; exact d)]
    · rw [if_pos b] at h; exact absurd h b
theorem pur_chk {q now : Int} {f : ByteArray} (hq : 1 ≤ q ∧ q ≤ 1099511627776) (hn : 0 ≤ now ∧ now ≤ 1099511627776) (hf : errS true f = 0) : chkR (purR q now f) = 0 := by
  unfold chkR purR Rc.pk Pk.chk
  rw [if_neg (by
    have : Pk.inB 3 q now = true := Pk.inB_iff.2 ⟨by decide, by decide, hq.1, hq.2, hn.1, hn.2⟩
    rw [this]; decide), if_neg (by show ¬ (3 : Int) = 1; decide), if_pos rfl, if_neg (by rw [← errS_errOf, hf]; simp), if_pos (by simp [noB])]
theorem msg_try {s : Sto} {q now : Int} {x : Po} (hc : chkR (msgR q now x) = 0) (hq : s.last < q) : tryE s (msgR q now x) = 0 ∨ tryE s (msgR q now x) = 8 := by
  unfold tryE
  rw [if_neg (by rw [hc]; simp), if_neg (by intro z; have := z.1; cases this), if_neg (by intro z; exact z rfl), if_neg (by show ¬ q ≤ s.last; omega)]
  split
  · exact .inr rfl
  · exact .inl rfl
theorem Low.room {p : Pn.Pln} {m size now : Int} {x : Po} : ∀ (k : Nat) {es : List Pap} {s : Sto}, Low es → Low (roomF p m size now x k es s).2.1
  | 0, _, _, h => h
  | k + 1, es, s, h => by
    unfold roomF
    split
    · exact h
    · split
      · exact h
      · split
        · exact h
        · exact Low.room k (h.did _ _ _ _)
theorem Low.pub {p : Pn.Pln} {m size now : Int} {x : Po} {st : Str} (h : Low st.es) : Low (pubP p m size now x st).2.es := by
  have hr : Low (roomE p m size now x st.es st.s).2.1 := by
    unfold roomE
    split
    · exact h
    · exact Low.room _ h
  unfold pubP
  split
  · exact h
  · split
    · exact h
    · split
      · exact h
      · split
        · exact hr
        · unfold putP
          split
          · exact hr
          · split
            · exact hr.did _ _ _ _
            · split
              · exact hr.did _ _ _ _
              · exact (hr.did _ _ _ _).did _ _ _ _
/-- where new ones are thrown away room takes nothing; else its one error is that there is no room -/
theorem room_err {p : Pn.Pln} {m size now : Int} {x : Po} (hp : PPos p) (hn : 0 ≤ now ∧ now ≤ 1099511627776) (hz : ¬ (pv p 1 ≠ 0 ∧ pv p 1 < (szP x : Int))) : ∀ (k : Nat) {es : List Pap} {s : Sto}, VOk m es s → Low es →
    (pv p 5 = 1 → (roomF p m size now x k es s).2.2 = s) ∧ ((roomF p m size now x k es s).1 = 0 ∨ (roomF p m size now x k es s).1 = 8)
  | 0, _, _, _, _ => ⟨fun _ => rfl, .inl rfl⟩
  | k + 1, es, s, hv, hl => by
    unfold roomF
    by_cases a : (crowdB p s.l x || fullB p s.l x) = false
    · rw [if_pos a]; exact ⟨fun _ => rfl, .inl rfl⟩
    · rw [if_neg a]
      by_cases b : pv p 5 = 1
      · rw [if_pos b]; exact ⟨fun _ => rfl, .inr rfl⟩
      · rw [if_neg b]
        obtain ⟨r, hr, e⟩ := go_in hp hz a
        have ht := era_try (now := now) hv.ok ⟨r, hr, e⟩ hn
        have hc : chkR (eraR (goQ p s.l x) now) = 0 := era_chk (by rw [← e]; exact hv.ok.seq hr) hn
        have hd := do_err (m := m) (size := size) hl hv.tidy.few hc (.inl ht)
        by_cases c : doE es s m size (eraR (goQ p s.l x) now) = 0
        · rw [if_neg (by rw [c]; simp)]
          obtain ⟨_, i2⟩ := room_err hp hn hz k (hv.did (size := size) (eraR (goQ p s.l x) now)) (hl.did s m size (eraR (goQ p s.l x) now))
          exact ⟨fun z => absurd z b, i2⟩
        · rw [if_pos c]
          exact ⟨fun z => absurd z b, hd⟩
/-- what is refused ahead of all writing changes nothing -/
theorem pub_refuses {p : Pn.Pln} {m size now : Int} {x : Po} {st : Str} (hp : PPos p) (hv : VOk m st.es st.s) (hl : Low st.es) (hq : st.s.last < 1099511627776) (h0 : (pubP p m size now x st).1.2.2 ≠ 0) (h8 : ¬ ((pubP p m size now x st).1.2.2 = 8 ∧ (pv p 5 ≠ 1 ∨ x.ro ≠ 0))) : (pubP p m size now x st).2.s.l = st.s.l := by
  unfold pubP at h0 h8 ⊢
  by_cases a : preE p now x = 0
  · rw [if_neg (by rw [a]; simp)] at h0 h8 ⊢
    by_cases b : againB p now x st.ids = true
    · rw [if_pos b]
    · rw [if_neg b] at h0 h8 ⊢
      by_cases c : x.x ≠ -1 ∧ x.x ≠ st.s.last
      · rw [if_pos c]
      · rw [if_neg c] at h0 h8 ⊢
        have hn : 0 ≤ now ∧ now ≤ 1099511627776 := by
          have h := a
          unfold preE at h
          by_cases z : (inI now 0 1099511627776 && (decide (-1 ≤ x.x) && inI x.ro 0 2)) = false
          · rw [if_pos z] at h; cases h
          · have z : (inI now 0 1099511627776 && (decide (-1 ≤ x.x) && inI x.ro 0 2)) = true := by simpa using z
            simp only [inI, Bool.and_eq_true, decide_eq_true_eq] at z
            exact ⟨z.1.1, z.1.2⟩
        have hsub : errS true x.s = 0 := by
          have h := a
          unfold preE at h
          by_cases z : (inI now 0 1099511627776 && (decide (-1 ≤ x.x) && inI x.ro 0 2)) = false
          · rw [if_pos z] at h; cases h
          · rw [if_neg z] at h
            by_cases y : errS false x.s = 0
            · exact subject_filter y
            · rw [if_pos y] at h; exact absurd h y
        have hv1 := hv.roomE (p := p) (size := size) (now := now) (x := x)
        have hs1 := (roomE_sub (p := p) (m := m) (size := size) (now := now) (x := x) (es := st.es) (s := st.s)).2
        have hL : Low (roomE p m size now x st.es st.s).2.1 ∧ (pv p 5 = 1 → (roomE p m size now x st.es st.s).2.2 = st.s) ∧ ((roomE p m size now x st.es st.s).1 = 0 ∨ (roomE p m size now x st.es st.s).1 = 8 ∧ (pv p 5 ≠ 1 ∨ (roomE p m size now x st.es st.s).2.2 = st.s)) := by
          unfold roomE
          by_cases z : pv p 1 ≠ 0 ∧ pv p 1 < (szP x : Int)
          · rw [if_pos z]; exact ⟨hl, fun _ => rfl, .inr ⟨rfl, .inr rfl⟩⟩
          · rw [if_neg z]
            obtain ⟨r1, r2⟩ := room_err (size := size) hp hn z (st.s.l.length + 1) hv hl
            refine ⟨Low.room _ hl, r1, ?_⟩
            rcases r2 with y | y
            · exact .inl y
            · by_cases d : pv p 5 = 1
              · exact .inr ⟨y, .inr (r1 d)⟩
              · exact .inr ⟨y, .inl d⟩
        obtain ⟨hL1, hL2, hL3⟩ := hL
        by_cases d : (roomE p m size now x st.es st.s).1 = 0
        · rw [if_neg (by rw [d]; simp)] at h0 h8 ⊢
          clear hL3 d
          generalize (roomE p m size now x st.es st.s).2.1 = es at *
          generalize (roomE p m size now x st.es st.s).2.2 = s at *
          have hs0 : 0 ≤ s.last := hv1.ok.last.1
          have hc := msg_chk (q := s.last + 1) a ⟨by omega, by omega⟩
          have hd := do_err (m := m) (size := size) hL1 hv1.tidy.few hc (msg_try (s := s) (q := s.last + 1) hc (by omega))
          unfold putP at h0 h8 ⊢
          by_cases e : doE es s m size (msgR (s.last + 1) now x) = 0
          · rw [if_neg (by rw [e]; simp)] at h0 h8 ⊢
            by_cases f : x.ro = 0
            · rw [if_pos f] at h0
              exact absurd rfl h0
            · rw [if_neg f] at h0 h8 ⊢
              have hcp : chkR (purR (s.last + 1) now (rollF x)) = 0 := pur_chk ⟨by omega, by omega⟩ hn (by
                unfold rollF
                split
                · exact hsub
                · exact gt_text.1)
              have hdp := do_err (m := m) (size := size) (hL1.did s m size (msgR (s.last + 1) now x)) (hv1.did (size := size) (msgR (s.last + 1) now x)).tidy.few (s := doS es s m size (msgR (s.last + 1) now x)) hcp (.inl (by rw [purge_try rfl]; exact hcp))
              by_cases g : doE (doL es s m size (msgR (s.last + 1) now x)) (doS es s m size (msgR (s.last + 1) now x)) m size (purR (s.last + 1) now (rollF x)) = 0
              · rw [if_neg (by rw [g]; simp)] at h0
                exact absurd rfl h0
              · rw [if_pos g] at h8
                rcases hdp with y | y
                · exact absurd y g
                · exact absurd ⟨y, .inr f⟩ h8
          · rw [if_pos e] at h0 h8 ⊢
            rcases hd with y | y
            · exact absurd y e
            · by_cases z : pv p 5 = 1
              · show s.l = st.s.l
                rw [hL2 z]
              · exact absurd ⟨y, .inl z⟩ h8
        · rw [if_pos d] at h0 h8 ⊢
          rcases hL3 with y | ⟨y, z⟩
          · exact absurd y d
          · rcases z with z | z
            · exact absurd ⟨y, .inl z⟩ h8
            · show (roomE p m size now x st.es st.s).2.2.l = st.s.l
              rw [z]
  · rw [if_pos a]
end Go.Proofs.YtohjipnkoiifhagGreatDoor.Dk

namespace Go.Proofs.YtohjipnkoiifhagGreatDoor
open Go.RowKit

theorem own_txts {w : World} {B g cap : Nat} {l : List ByteArray} (h : Own w B g cap l) : SlS w (some ⟨g, 0, none⟩) l := fun k hk => by
  have hr := World.ownsRow.cellAt h k (by simpa using hk)
  refine ⟨g, 0, rfl, (own_base h).2, ?_⟩
  rw [Nat.zero_add, hr, List.getElem?_map]
  unfold tk
  rw [List.getElem?_eq_getElem hk]
  rfl

theorem set_far {W : World} {b k j i : Nat} {x : Value} (h : k ≠ b) : (W.setCell ⟨b, i, none⟩ x).cell? ⟨k, j, none⟩ = W.cell? ⟨k, j, none⟩ := World.cell?_setCell_other _ _ _ _ (by intro e; injection e; omega)
theorem SlS.far {W : World} {a : Option Addr} {l : List ByteArray} {b i : Nat} {x : Value} (h : SlS W a l) (hn : ∀ z, a = some z → z.block ≠ b) : SlS (W.setCell ⟨b, i, none⟩ x) a l := fun k hk => by
  obtain ⟨b', o, h1, h2, h3⟩ := h k hk
  exact ⟨b', o, h1, by simpa [World.setCell] using h2, by rw [set_far (hn _ h1)]; exact h3⟩
end Go.Proofs.YtohjipnkoiifhagGreatDoor

namespace Go.Proofs.YtohjipnkoiifhagGreatDoor
open Go.RowKit

/-- texts in a row of one's own -/
def Txts (w : World) (B : Nat) (v : Value) (l : List ByteArray) : Prop := w.ownsRow B 9 1 v l.length (l.map Value.string)
theorem Txts.lit (w : World) (x y : ByteArray) : Txts (w.alloc (.cells #[.string x, .string y] 9)) w.heap.size (.slice (some ⟨w.heap.size, 0, none⟩) 2 2) [x, y] := World.ownsRow_lit (base := w.heap.size) (e := 9) (size := 1) w #[.string x, .string y] 2 (Nat.le_refl _) (by unfold maxLen; omega) (by simp)
theorem Txts.below {w w' : World} {B : Nat} {v : Value} {l : List ByteArray} (h : Txts w B v l) (hb : Below w.heap.size w w') : Txts w' B v l := by
  refine ⟨h.1, ?_⟩
  rcases h.2 with q | ⟨g, cap, cur, h1, h2, h3, r⟩
  · exact .inl q
  · refine .inr ⟨g, cap, cur, h1, h2, ?_, r⟩
    rw [hb.block g (World.ownsRow.lt h g (by rw [h1]; rfl)).2]
    exact h3
theorem txt_more {w wr : World} {B : Nat} {v : Value} {l : List ByteArray} (h : Txts wr B v l) (hb : Below B w wr) (t : ByteArray) (hl : l.length ≤ 200000) (hB : B ≤ wr.heap.size) :
    ∃ v8 w8, (Builtin.append_ #[41, 41] 41 #[v, .slice (some ⟨wr.heap.size, 0, none⟩) 1 1]).run Tryz.prog (wr.alloc (.cells #[.string t] 9)) = .ok v8 w8 ∧ Txts w8 B v8 (l ++ [t]) ∧ Below B w w8 := by
  have hb7 : Below wr.heap.size wr (wr.alloc (.cells #[.string t] 9)) := (Below.refl _ _).alloc (Nat.le_refl _) _
  have h7 := h.below hb7
  obtain ⟨i0, hi, hz0, hz1, hz2⟩ := info_parts info9
  obtain ⟨v', w', hr, h2, h3, h4⟩ := run_append_own (P := Tryz.prog) (wr.alloc (.cells #[.string t] 9)) B 41 41 9 i0 (.string ByteArray.empty) 1 16 Tryz.underlying41 hi hz0 hz1 hz2 rfl (by omega) v l.length (l.map Value.string) h7 ⟨wr.heap.size, 0, none⟩ 1 1 [.string t] rfl (one_new _ _ _) (one_cell _) (by unfold maxLen; omega) (by omega) (Nat.le_trans hB hb7.size)
  refine ⟨v', w', hr, ?_, ?_⟩
  · unfold Txts
    rw [List.length_append, List.map_append]
    exact h2
  · refine (hb.trans (hb7.mono hB)).grown h3 (Nat.le_trans hB hb7.size) ?_
    intro j hj
    exact (World.ownsRow.lt h j hj).1
theorem Txts.sl {w : World} {B : Nat} {v : Value} {l : List ByteArray} (h : Txts w B v l) (h0 : 0 < l.length) : ∃ g cap, v = .slice (some ⟨g, 0, none⟩) l.length cap ∧ l.length ≤ cap ∧ SlS w (some ⟨g, 0, none⟩) l := by
  obtain ⟨n, hn⟩ : ∃ n, l.length = n + 1 := ⟨l.length - 1, by omega⟩
  have h' := h
  unfold Txts at h'
  rw [hn] at h'
  obtain ⟨g, cap, rfl⟩ := own_some h'
  refine ⟨g, cap, by rw [hn], ?_, fun k hk => ⟨g, 0, rfl, (World.ownsRow.lt h' g rfl).2, ?_⟩⟩
  · rcases h'.2 with ⟨e, _⟩ | ⟨g', cap', cur, e, _, _, hn', _⟩
    · simp at e
    · simp only [Value.slice.injEq] at e
      omega
  · rw [Nat.zero_add, World.ownsRow.cellAt h' k (by omega), List.getElem?_map, List.getElem?_eq_getElem hk]
    unfold tk
    rw [List.getElem?_eq_getElem hk]
    rfl
theorem Txts.chg {A : Nat → Prop} {w w' : World} {B : Nat} {v : Value} {l : List ByteArray} (h : Txts w B v l) (hc : Dk.Chg A w w') (hn : ∀ g, B ≤ g → ¬ A g) : Txts w' B v l := by
  refine ⟨h.1, ?_⟩
  rcases h.2 with q | ⟨g, cap, cur, h1, h2, h3, r⟩
  · exact .inl q
  · refine .inr ⟨g, cap, cur, h1, h2, ?_, r⟩
    have hg := World.ownsRow.lt h g (by rw [h1]; rfl)
    rw [hc.block g hg.2 (hn g hg.1)]
    exact h3
/-- no text yet -/
theorem Txts.nil (w : World) (B : Nat) : Txts w B (.slice none 0 0) [] := ⟨by simp, .inl ⟨rfl, rfl⟩⟩
theorem Txts.shape {w : World} {B : Nat} {v : Value} {l : List ByteArray} (h : Txts w B v l) : ∃ a c, v = .slice a l.length c ∧ l.length ≤ c ∧ SlS w a l := by
  by_cases h0 : 0 < l.length
  · obtain ⟨g, cap, e, hc, hs⟩ := h.sl h0
    exact ⟨_, cap, e, hc, hs⟩
  · have hl : l = [] := List.length_eq_zero_iff.1 (by omega)
    subst hl
    rcases h.2 with ⟨e, _⟩ | ⟨g, cap, cur, h1, h2, h3, r⟩
    · exact ⟨none, 0, e, Nat.le_refl _, fun k hk => by simp at hk⟩
    · exact ⟨_, cap, h1, by simp, fun k hk => by simp at hk⟩
end Go.Proofs.YtohjipnkoiifhagGreatDoor
