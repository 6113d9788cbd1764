/-
  The program's vault in memory: a disk, a size, a log over the disk, a store, in a block of its own; over any disk and any store. No walk.
-/
import Derived.Test.YtphhebdmfdjfeagGreatDoorJointPapVaPapVbWorksVWalkVa
import Derived.Test.YtphhebdmfdjfeagGreatDoorJointWorksDWorksEWorksGPapHPapFWorksF
namespace Go.Proofs.YtphhebdmfdjfeagGreatDoor.Dk
open Go.RowKit

theorem ArrR.low {w : World} {B B' : Nat} {v : Value} {l : List Rc} (h : ArrR w B v l) (hB : B' ≤ B) : ArrR w B' v l := by
  refine ⟨h.1, ?_⟩
  rcases h.2 with q | ⟨g, cap, cur, h1, h2, r⟩
  · exact .inl q
  · exact .inr ⟨g, cap, cur, h1, Nat.le_trans hB h2, r⟩
/-- what a vault asks of the store -/
structure SVault (SH : World → Nat → Nat → (Nat → Prop) → Sto → Prop) : Prop where
  own : ∀ {w B q F s}, SH w B q F s → ∀ k, F k → B ≤ k ∧ k < w.heap.size
  chg : ∀ {w w' B q F s} {A : Nat → Prop}, SH w B q F s → Chg A w w' → (∀ k, F k → ¬ A k) → SH w' B q F s
  low : ∀ {w B B' q F s}, SH w B q F s → B' ≤ B → SH w B' q F s
  new : ∀ w : World, Calls Tryz.prog 24 #[] w fun e w' => ∃ q F, e = .returned (.pointer (some ⟨q, 0, none⟩)) ∧ SH w' w.heap.size q F ⟨[], 0⟩ ∧ Below w.heap.size w w'
  tries : ∀ {w B q F s} (r : Rc), Small r → SH w B q F s → s.Ok → B ≤ w.heap.size →
    Calls Tryz.prog 17 #[.pointer (some ⟨q, 0, none⟩), .agg #[.int .i64 r.k, .int .i64 r.q, .int .i64 r.t, .string r.s, .string r.h, .string r.d]] w fun e w' => e = .returned (.int .i64 (tryE s r)) ∧ Below w.heap.size w w'
  apply : ∀ {w B q F s} (r : Rc), Small r → SH w B q F s → s.Ok → B ≤ w.heap.size →
    Calls Tryz.prog 20 #[.pointer (some ⟨q, 0, none⟩), .agg #[.int .i64 r.k, .int .i64 r.q, .int .i64 r.t, .string r.s, .string r.h, .string r.d]] w fun e w' => e = .returned (.int .i64 (tryE s r)) ∧ DidS SH w w' B q F (aplS s r)
  sees : SSees SH
/-- a vault at block x: the disk q, the log g over it in the blocks FL, the store c in the blocks G -/
structure Va (Has : World → Nat → Nat → (Nat → Prop) → Int → List Pap → Prop) (SH : World → Nat → Nat → (Nat → Prop) → Sto → Prop) (w : World) (B x q g c : Nat) (FL G : Nat → Prop) (m size : Int) (es : List Pap) (s : Sto) : Prop where
  log : LHof Has g size w B q FL m es
  chest : SH w B c G s
  base : B ≤ x
  lt : x < w.heap.size
  c0 : w.cell? ⟨x, 0, none⟩ = some (.pointer (some ⟨q, 0, none⟩))
  c1 : w.cell? ⟨x, 1, none⟩ = some (.int .i64 size)
  c2 : w.cell? ⟨x, 2, none⟩ = some (.pointer (some ⟨g, 0, none⟩))
  c3 : w.cell? ⟨x, 3, none⟩ = some (.pointer (some ⟨c, 0, none⟩))
  free : ∀ j, w.frozen? ⟨x, j, none⟩ = false
  ap : ∀ k, FL k → ¬ G k
  xd : ¬ FL x
  xg : ¬ G x
def vaF (x : Nat) (FL G : Nat → Prop) (k : Nat) : Prop := k = x ∨ FL k ∨ G k
section
variable {Has : World → Nat → Nat → (Nat → Prop) → Int → List Pap → Prop} {SH : World → Nat → Nat → (Nat → Prop) → Sto → Prop} {w w1 w' : World} {B x q g c : Nat} {FL G A : Nat → Prop} {m size : Int} {es es' : List Pap} {s s' : Sto}
theorem Va.own (H : More Has) (S : SVault SH) (h : Va Has SH w B x q g c FL G m size es s) : ∀ k, vaF x FL G k → B ≤ k ∧ k < w.heap.size := by
  rintro k (rfl | z | z)
  · exact ⟨h.base, h.lt⟩
  · exact (LHof.looks H g size).own h.log k z
  · exact S.own h.chest k z
theorem Va.chg (H : More Has) (S : SVault SH) (h : Va Has SH w B x q g c FL G m size es s) (hc : Chg A w w') (hn : ∀ k, vaF x FL G k → ¬ A k) : Va Has SH w' B x q g c FL G m size es s := by
  have hx := hn x (.inl rfl)
  exact ⟨(LHof.looks H g size).chg h.log hc (fun k hk => hn k (.inr (.inl hk))), S.chg h.chest hc (fun k hk => hn k (.inr (.inr hk))), h.base, Nat.lt_of_lt_of_le h.lt hc.size, by rw [hc.cell (p := ⟨x, 0, none⟩) h.lt hx]; exact h.c0, by rw [hc.cell (p := ⟨x, 1, none⟩) h.lt hx]; exact h.c1, by rw [hc.cell (p := ⟨x, 2, none⟩) h.lt hx]; exact h.c2, by rw [hc.cell (p := ⟨x, 3, none⟩) h.lt hx]; exact h.c3, fun j => by rw [hc.frozen (p := ⟨x, j, none⟩) h.lt hx]; exact h.free j, h.ap, h.xd, h.xg⟩
theorem Va.below (H : More Has) (S : SVault SH) (h : Va Has SH w B x q g c FL G m size es s) (hb : Below w.heap.size w w') : Va Has SH w' B x q g c FL G m size es s := h.chg H S (A := fun _ => False) (Chg.of_below hb) (fun _ _ z => z)
/-- the log is changed -/
theorem Va.upd (S : SVault SH) (h : Va Has SH w B x q g c FL G m size es s) (hu : Did (LHof Has g size) w w' B q FL m es') : ∃ FL', Va Has SH w' B x q g c FL' G m size es' s ∧ Chg FL w w' ∧ ∀ k, FL' k → FL k ∨ w.heap.size ≤ k := by
  obtain ⟨FL', k1, hc, ho⟩ := hu
  have hx := h.xd
  refine ⟨FL', ⟨k1, S.chg h.chest hc (fun k hk z => h.ap k z hk), h.base, Nat.lt_of_lt_of_le h.lt hc.size, by rw [hc.cell (p := ⟨x, 0, none⟩) h.lt hx]; exact h.c0, by rw [hc.cell (p := ⟨x, 1, none⟩) h.lt hx]; exact h.c1, by rw [hc.cell (p := ⟨x, 2, none⟩) h.lt hx]; exact h.c2, by rw [hc.cell (p := ⟨x, 3, none⟩) h.lt hx]; exact h.c3, fun j => by rw [hc.frozen (p := ⟨x, j, none⟩) h.lt hx]; exact h.free j, fun k hk z => ?_, fun z => ?_, h.xg⟩, hc, ho⟩
  · rcases ho k hk with y | y
    · exact h.ap k y z
    · have := (S.own h.chest k z).2; omega
  · rcases ho x z with y | y
    · exact h.xd y
    · have := h.lt; omega
/-- the store is changed -/
theorem Va.did (H : More Has) (h : Va Has SH w B x q g c FL G m size es s) (hu : DidS SH w w' B c G s') : ∃ G', Va Has SH w' B x q g c FL G' m size es s' ∧ Chg G w w' ∧ ∀ k, G' k → G k ∨ w.heap.size ≤ k := by
  obtain ⟨G', k1, hc, ho⟩ := hu
  have hx := h.xg
  refine ⟨G', ⟨(LHof.looks H g size).chg h.log hc (fun k hk z => h.ap k hk z), k1, h.base, Nat.lt_of_lt_of_le h.lt hc.size, by rw [hc.cell (p := ⟨x, 0, none⟩) h.lt hx]; exact h.c0, by rw [hc.cell (p := ⟨x, 1, none⟩) h.lt hx]; exact h.c1, by rw [hc.cell (p := ⟨x, 2, none⟩) h.lt hx]; exact h.c2, by rw [hc.cell (p := ⟨x, 3, none⟩) h.lt hx]; exact h.c3, fun j => by rw [hc.frozen (p := ⟨x, j, none⟩) h.lt hx]; exact h.free j, fun k hk z => ?_, h.xd, fun z => ?_⟩, hc, ho⟩
  · rcases ho k z with y | y
    · exact h.ap k hk y
    · have := ((LHof.looks H g size).own h.log k hk).2; omega
  · rcases ho x z with y | y
    · exact h.xg y
    · have := h.lt; omega
end
/-- a vault on its way from w to wr; F0 are the blocks that were its own at w; the blocks Cs are none of its own -/
def Rv (Has : World → Nat → Nat → (Nat → Prop) → Int → List Pap → Prop) (SH : World → Nat → Nat → (Nat → Prop) → Sto → Prop) (F0 Cs : Nat → Prop) (w wr : World) (B x q g c : Nat) (m size : Int) (es : List Pap) (s : Sto) : Prop :=
  ∃ FL G, Va Has SH wr B x q g c FL G m size es s ∧ Chg F0 w wr ∧ (∀ k, vaF x FL G k → F0 k ∨ w.heap.size ≤ k) ∧ ∀ k, Cs k → k < wr.heap.size ∧ ¬ vaF x FL G k
section
variable {Has : World → Nat → Nat → (Nat → Prop) → Int → List Pap → Prop} {SH : World → Nat → Nat → (Nat → Prop) → Sto → Prop} {F0 Cs Cs' : Nat → Prop} {w wr w' : World} {B x q g c : Nat} {m size : Int} {es es' : List Pap} {s s' : Sto}
theorem Rv.room (h : Rv Has SH F0 Cs w wr B x q g c m size es s) : w.heap.size ≤ wr.heap.size := by
  obtain ⟨_, _, _, h2, _⟩ := h
  exact h2.size
theorem Rv.cells (h : Rv Has SH F0 Cs w wr B x q g c m size es s) : wr.cell? ⟨x, 0, none⟩ = some (.pointer (some ⟨q, 0, none⟩)) ∧ wr.cell? ⟨x, 1, none⟩ = some (.int .i64 size) ∧ wr.cell? ⟨x, 2, none⟩ = some (.pointer (some ⟨g, 0, none⟩)) ∧ wr.cell? ⟨x, 3, none⟩ = some (.pointer (some ⟨c, 0, none⟩)) ∧ x < wr.heap.size := by
  obtain ⟨_, _, h1, _⟩ := h
  exact ⟨h1.c0, h1.c1, h1.c2, h1.c3, h1.lt⟩
theorem Rv.mine (H : More Has) (S : SVault SH) (h : Rv Has SH F0 Cs w wr B x q g c m size es s) (hb : Below wr.heap.size wr w') (hn : ∀ k, Cs' k → Cs k ∨ wr.heap.size ≤ k ∧ k < w'.heap.size) : Rv Has SH F0 Cs' w w' B x q g c m size es s := by
  obtain ⟨FL, G, h1, h2, h3, h4⟩ := h
  refine ⟨FL, G, h1.below H S hb, h2.trans (Chg.of_below hb), h3, fun k hk => ?_⟩
  rcases hn k hk with y | y
  · exact ⟨Nat.lt_of_lt_of_le (h4 k y).1 hb.size, (h4 k y).2⟩
  · exact ⟨y.2, fun z => by have := (h1.own H S k z).2; omega⟩
theorem Rv.below (H : More Has) (S : SVault SH) (h : Rv Has SH F0 Cs w wr B x q g c m size es s) (hb : Below wr.heap.size wr w') : Rv Has SH F0 Cs w w' B x q g c m size es s := h.mine H S hb (fun _ z => .inl z)
/-- a call on the log -/
theorem Rv.upd (S : SVault SH) (h : Rv Has SH F0 Cs w wr B x q g c m size es s) {fn : FuncId} {args : Array Value} {Q : Ending → World → Prop}
    (hc : ∀ FL, LHof Has g size wr B q FL m es → (∀ k, Cs k → ¬ FL k) → Calls Tryz.prog fn args wr fun e w' => Q e w' ∧ Did (LHof Has g size) wr w' B q FL m es') :
    Calls Tryz.prog fn args wr fun e w' => Q e w' ∧ Rv Has SH F0 Cs w w' B x q g c m size es' s ∧ Stay Cs wr w' := by
  have hr := h.room
  obtain ⟨FL, G, h1, h2, h3, h4⟩ := h
  refine (hc FL h1.log (fun k hk z => (h4 k hk).2 (.inr (.inl z)))).mono ?_
  rintro e w' ⟨hq, hu⟩
  obtain ⟨FL', a1, a2, a3⟩ := h1.upd S hu
  refine ⟨hq, ⟨FL', G, a1, chg_more h2 a2 (fun i hi z => ?_), fun k hk => ?_, fun k hk => ⟨Nat.lt_of_lt_of_le (h4 k hk).1 a2.size, fun z => ?_⟩⟩, a2.size, fun k hk => a2.block k (h4 k hk).1 (fun z => (h4 k hk).2 (.inr (.inl z)))⟩
  · rcases h3 i (.inr (.inl z)) with y | y
    · exact y
    · omega
  · rcases hk with z | z | z
    · exact h3 k (.inl z)
    · rcases a3 k z with y | y
      · exact h3 k (.inr (.inl y))
      · exact .inr (Nat.le_trans hr y)
    · exact h3 k (.inr (.inr z))
  · rcases z with z | z | z
    · exact (h4 k hk).2 (.inl z)
    · rcases a3 k z with y | y
      · exact (h4 k hk).2 (.inr (.inl y))
      · have := (h4 k hk).1; omega
    · exact (h4 k hk).2 (.inr (.inr z))
/-- a call on the store -/
theorem Rv.did (H : More Has) (h : Rv Has SH F0 Cs w wr B x q g c m size es s) {fn : FuncId} {args : Array Value} {Q : Ending → World → Prop}
    (hc : ∀ G, SH wr B c G s → Calls Tryz.prog fn args wr fun e w' => Q e w' ∧ DidS SH wr w' B c G s') :
    Calls Tryz.prog fn args wr fun e w' => Q e w' ∧ Rv Has SH F0 Cs w w' B x q g c m size es s' ∧ Stay Cs wr w' := by
  have hr := h.room
  obtain ⟨FL, G, h1, h2, h3, h4⟩ := h
  refine (hc G h1.chest).mono ?_
  rintro e w' ⟨hq, hu⟩
  obtain ⟨G', a1, a2, a3⟩ := h1.did H hu
  refine ⟨hq, ⟨FL, G', a1, chg_more h2 a2 (fun i hi z => ?_), fun k hk => ?_, fun k hk => ⟨Nat.lt_of_lt_of_le (h4 k hk).1 a2.size, fun z => ?_⟩⟩, a2.size, fun k hk => a2.block k (h4 k hk).1 (fun z => (h4 k hk).2 (.inr (.inr z)))⟩
  · rcases h3 i (.inr (.inr z)) with y | y
    · exact y
    · omega
  · rcases hk with z | z | z
    · exact h3 k (.inl z)
    · exact h3 k (.inr (.inl z))
    · rcases a3 k z with y | y
      · exact h3 k (.inr (.inr y))
      · exact .inr (Nat.le_trans hr y)
  · rcases z with z | z | z
    · exact (h4 k hk).2 (.inl z)
    · exact (h4 k hk).2 (.inr (.inl z))
    · rcases a3 k z with y | y
      · exact (h4 k hk).2 (.inr (.inr y))
      · have := (h4 k hk).1; omega
end
/-- the program's vault -/
def VHof (Has : World → Nat → Nat → (Nat → Prop) → Int → List Pap → Prop) (SH : World → Nat → Nat → (Nat → Prop) → Sto → Prop) (w : World) (B x : Nat) (F : Nat → Prop) (m size : Int) (es : List Pap) (s : Sto) : Prop := ∃ q g c FL G, Va Has SH w B x q g c FL G m size es s ∧ ∀ k, F k ↔ vaF x FL G k
section
variable {Has : World → Nat → Nat → (Nat → Prop) → Int → List Pap → Prop} {SH : World → Nat → Nat → (Nat → Prop) → Sto → Prop} {F : Nat → Prop} {w : World} {B x : Nat} {m size : Int} {es : List Pap} {s : Sto}
theorem VHof.begin (h : VHof Has SH w B x F m size es s) : ∃ q g c, Rv Has SH F (fun _ => False) w w B x q g c m size es s ∧ ∀ Cs wr g' c' es' s', Rv Has SH F Cs w wr B x q g' c' m size es' s' → DidV (VHof Has SH) w wr B x F m size es' s' := by
  obtain ⟨q, g, c, FL, G, h1, h2⟩ := h
  refine ⟨q, g, c, ⟨FL, G, h1, Chg.refl _ _, fun k z => .inl ((h2 k).2 z), fun _ z => z.elim⟩, fun Cs wr g' c' es' s' hr => ?_⟩
  obtain ⟨FL', G', r1, r2, r3, _⟩ := hr
  exact ⟨_, ⟨q, g', c', FL', G', r1, fun k => Iff.rfl⟩, r2, r3⟩
end
end Go.Proofs.YtphhebdmfdjfeagGreatDoor.Dk
