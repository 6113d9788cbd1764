/-
  The program's vault in memory: a disk, a size, a log over the disk, a store, in a block of its own; over any disk and any store. No walk.
  Plain laws of an index as a list of entries that lies in the order of their tokens: where a subject belongs, what Put, Drop, Get, Find make of the list. No walk.
  How many messages of each subject there are, as an index, pure: what Put and Drop make of its entries. No walk.
  The numbers of an index of counts add up to the number of messages. No walk.
-/
import Derived.Test.YtmccpkpeimejhahGreatDoorJointPapTPapVaRowVWorksV
import Derived.Test.YtmccpkpeimejhahGreatDoorJointRowGPapNWorksGPapH
import Derived.Test.YtmccpkpeimejhahGreatDoorJointWorksFRowMWalkM1WalkM2
import Derived.Test.YtmccpkpeimejhahGreatDoorJointPlainKPapPbPapPnPapD
import Derived.Test.YtmccpkpeimejhahGreatDoorJointWalkL3WalkL5PapFPapS
namespace Go.Proofs.YtmccpkpeimejhahGreatDoor.Dk
open Go.RowKit

theorem ArrR.low {w : World} {B B' : Nat} {v : Value} {l : List Rc} (h : ArrR w B v l) (hB : B' ≤ B) : ArrR w B' v l := by
  refine ⟨h.1, ?_⟩
  rcases h.2 with q | ⟨g, cap, cur, h1, h2, r⟩
  · exact .inl q
  · exact .inr ⟨g, cap, cur, h1, Nat.le_trans hB h2, r⟩
/-- what a vault asks of the store -/
structure SVault (SH : World → Nat → Nat → (Nat → Prop) → Sto → Prop) : Prop where
  own : ∀ {w B q F s}, SH w B q F s → ∀ k, F k → B ≤ k ∧ k < w.heap.size
  chg : ∀ {w w' B q F s} {A : Nat → Prop}, SH w B q F s → Chg A w w' → (∀ k, F k → ¬ A k) → SH w' B q F s
  low : ∀ {w B B' q F s}, SH w B q F s → B' ≤ B → SH w B' q F s
  new : ∀ w : World, Calls Tryz.prog 50 #[] w fun e w' => ∃ q F, e = .returned (.pointer (some ⟨q, 0, none⟩)) ∧ SH w' w.heap.size q F ⟨[], 0⟩ ∧ Below w.heap.size w w'
  tries : ∀ {w B q F s} (r : Rc), Small r → SH w B q F s → s.Ok → B ≤ w.heap.size →
    Calls Tryz.prog 60 #[.pointer (some ⟨q, 0, none⟩), .agg #[.int .i64 r.k, .int .i64 r.q, .int .i64 r.t, .string r.s, .string r.h, .string r.d]] w fun e w' => e = .returned (.int .i64 (tryE s r)) ∧ Below w.heap.size w w'
  apply : ∀ {w B q F s} (r : Rc), Small r → SH w B q F s → s.Ok → B ≤ w.heap.size →
    Calls Tryz.prog 51 #[.pointer (some ⟨q, 0, none⟩), .agg #[.int .i64 r.k, .int .i64 r.q, .int .i64 r.t, .string r.s, .string r.h, .string r.d]] w fun e w' => e = .returned (.int .i64 (tryE s r)) ∧ DidS SH w w' B q F (aplS s r)
  sees : SSees SH
/-- a vault at block x: the disk q, the log g over it in the blocks FL, the store c in the blocks G -/
structure Va (Has : World → Nat → Nat → (Nat → Prop) → Int → List Pap → Prop) (SH : World → Nat → Nat → (Nat → Prop) → Sto → Prop) (w : World) (B x o q g c : Nat) (FL G : Nat → Prop) (m size : Int) (es : List Pap) (s : Sto) : Prop where
  log : LHof Has g size w B q FL m es
  chest : SH w B c G s
  base : B ≤ x
  lt : x < w.heap.size
  c0 : w.cell? ⟨x, o, none⟩ = some (.pointer (some ⟨q, 0, none⟩))
  c1 : w.cell? ⟨x, o + 1, none⟩ = some (.int .i64 size)
  c2 : w.cell? ⟨x, o + 2, none⟩ = some (.pointer (some ⟨g, 0, none⟩))
  c3 : w.cell? ⟨x, o + 3, none⟩ = some (.pointer (some ⟨c, 0, none⟩))
  free : ∀ j, w.frozen? ⟨x, j, none⟩ = false
  ap : ∀ k, FL k → ¬ G k
  xd : ¬ FL x
  xg : ¬ G x
def vaF (x : Nat) (FL G : Nat → Prop) (k : Nat) : Prop := k = x ∨ FL k ∨ G k
section
variable {Has : World → Nat → Nat → (Nat → Prop) → Int → List Pap → Prop} {SH : World → Nat → Nat → (Nat → Prop) → Sto → Prop} {w w1 w' : World} {B x o q g c : Nat} {FL G A : Nat → Prop} {m size : Int} {es es' : List Pap} {s s' : Sto}
theorem Va.own (H : More Has) (S : SVault SH) (h : Va Has SH w B x o q g c FL G m size es s) : ∀ k, vaF x FL G k → B ≤ k ∧ k < w.heap.size := by
  rintro k (rfl | z | z)
  · exact ⟨h.base, h.lt⟩
  · exact (LHof.looks H g size).own h.log k z
  · exact S.own h.chest k z
theorem Va.chg (H : More Has) (S : SVault SH) (h : Va Has SH w B x o q g c FL G m size es s) (hc : Chg A w w') (hn : ∀ k, vaF x FL G k → ¬ A k) : Va Has SH w' B x o q g c FL G m size es s := by
  have hx := hn x (.inl rfl)
  exact ⟨(LHof.looks H g size).chg h.log hc (fun k hk => hn k (.inr (.inl hk))), S.chg h.chest hc (fun k hk => hn k (.inr (.inr hk))), h.base, Nat.lt_of_lt_of_le h.lt hc.size, by rw [hc.cell (p := ⟨x, o, none⟩) h.lt hx]; exact h.c0, by rw [hc.cell (p := ⟨x, o + 1, none⟩) h.lt hx]; exact h.c1, by rw [hc.cell (p := ⟨x, o + 2, none⟩) h.lt hx]; exact h.c2, by rw [hc.cell (p := ⟨x, o + 3, none⟩) h.lt hx]; exact h.c3, fun j => by rw [hc.frozen (p := ⟨x, j, none⟩) h.lt hx]; exact h.free j, h.ap, h.xd, h.xg⟩
theorem Va.below (H : More Has) (S : SVault SH) (h : Va Has SH w B x o q g c FL G m size es s) (hb : Below w.heap.size w w') : Va Has SH w' B x o q g c FL G m size es s := h.chg H S (A := fun _ => False) (Chg.of_below hb) (fun _ _ z => z)
/-- the log is changed -/
theorem Va.upd (S : SVault SH) (h : Va Has SH w B x o q g c FL G m size es s) (hu : Did (LHof Has g size) w w' B q FL m es') : ∃ FL', Va Has SH w' B x o q g c FL' G m size es' s ∧ Chg FL w w' ∧ ∀ k, FL' k → FL k ∨ w.heap.size ≤ k := by
  obtain ⟨FL', k1, hc, ho⟩ := hu
  have hx := h.xd
  refine ⟨FL', ⟨k1, S.chg h.chest hc (fun k hk z => h.ap k z hk), h.base, Nat.lt_of_lt_of_le h.lt hc.size, by rw [hc.cell (p := ⟨x, o, none⟩) h.lt hx]; exact h.c0, by rw [hc.cell (p := ⟨x, o + 1, none⟩) h.lt hx]; exact h.c1, by rw [hc.cell (p := ⟨x, o + 2, none⟩) h.lt hx]; exact h.c2, by rw [hc.cell (p := ⟨x, o + 3, none⟩) h.lt hx]; exact h.c3, fun j => by rw [hc.frozen (p := ⟨x, j, none⟩) h.lt hx]; exact h.free j, fun k hk z => ?_, fun z => ?_, h.xg⟩, hc, ho⟩
  · rcases ho k hk with y | y
    · exact h.ap k y z
    · have := (S.own h.chest k z).2; omega
  · rcases ho x z with y | y
    · exact h.xd y
    · have := h.lt; omega
/-- the store is changed -/
theorem Va.did (H : More Has) (h : Va Has SH w B x o q g c FL G m size es s) (hu : DidS SH w w' B c G s') : ∃ G', Va Has SH w' B x o q g c FL G' m size es s' ∧ Chg G w w' ∧ ∀ k, G' k → G k ∨ w.heap.size ≤ k := by
  obtain ⟨G', k1, hc, ho⟩ := hu
  have hx := h.xg
  refine ⟨G', ⟨(LHof.looks H g size).chg h.log hc (fun k hk z => h.ap k hk z), k1, h.base, Nat.lt_of_lt_of_le h.lt hc.size, by rw [hc.cell (p := ⟨x, o, none⟩) h.lt hx]; exact h.c0, by rw [hc.cell (p := ⟨x, o + 1, none⟩) h.lt hx]; exact h.c1, by rw [hc.cell (p := ⟨x, o + 2, none⟩) h.lt hx]; exact h.c2, by rw [hc.cell (p := ⟨x, o + 3, none⟩) h.lt hx]; exact h.c3, fun j => by rw [hc.frozen (p := ⟨x, j, none⟩) h.lt hx]; exact h.free j, fun k hk z => ?_, h.xd, fun z => ?_⟩, hc, ho⟩
  · rcases ho k z with y | y
    · exact h.ap k hk y
    · have := ((LHof.looks H g size).own h.log k hk).2; omega
  · rcases ho x z with y | y
    · exact h.xg y
    · have := h.lt; omega
end
/-- what stands in the vault's block beside the vault is left as it was -/
def Sid (o x : Nat) (w w' : World) : Prop := ∀ j, (j < o ∨ o + 4 ≤ j) → w'.cell? ⟨x, j, none⟩ = w.cell? ⟨x, j, none⟩
theorem Sid.refl (o x : Nat) (w : World) : Sid o x w w := fun _ _ => rfl
theorem Sid.trans {o x : Nat} {w w1 w2 : World} (h : Sid o x w w1) (k : Sid o x w1 w2) : Sid o x w w2 := fun j hj => (k j hj).trans (h j hj)
theorem Sid.chg {o x : Nat} {A : Nat → Prop} {w w' : World} (h : Chg A w w') (hx : x < w.heap.size) (hn : ¬ A x) : Sid o x w w' := fun j _ => h.cell (p := ⟨x, j, none⟩) hx hn
theorem Sid.below {o x : Nat} {w w' : World} (h : Below w.heap.size w w') (hx : x < w.heap.size) : Sid o x w w' := Sid.chg (A := fun _ => False) (Chg.of_below h) hx (fun z => z)
/-- a vault on its way from w to wr; F0 are the blocks that were its own at w; the blocks Cs are none of its own -/
def Rv (Has : World → Nat → Nat → (Nat → Prop) → Int → List Pap → Prop) (SH : World → Nat → Nat → (Nat → Prop) → Sto → Prop) (F0 Cs : Nat → Prop) (w wr : World) (B x o q g c : Nat) (m size : Int) (es : List Pap) (s : Sto) : Prop :=
  ∃ FL G, Va Has SH wr B x o q g c FL G m size es s ∧ Chg F0 w wr ∧ (∀ k, vaF x FL G k → F0 k ∨ w.heap.size ≤ k) ∧ (∀ k, Cs k → k < wr.heap.size ∧ ¬ vaF x FL G k) ∧ Sid o x w wr
section
variable {Has : World → Nat → Nat → (Nat → Prop) → Int → List Pap → Prop} {SH : World → Nat → Nat → (Nat → Prop) → Sto → Prop} {F0 Cs Cs' : Nat → Prop} {w wr w' : World} {B x o q g c : Nat} {m size : Int} {es es' : List Pap} {s s' : Sto}
theorem Rv.room (h : Rv Has SH F0 Cs w wr B x o q g c m size es s) : w.heap.size ≤ wr.heap.size := by
  obtain ⟨_, _, _, h2, _⟩ := h
  exact h2.size
theorem Rv.cells (h : Rv Has SH F0 Cs w wr B x o q g c m size es s) : wr.cell? ⟨x, o, none⟩ = some (.pointer (some ⟨q, 0, none⟩)) ∧ wr.cell? ⟨x, o + 1, none⟩ = some (.int .i64 size) ∧ wr.cell? ⟨x, o + 2, none⟩ = some (.pointer (some ⟨g, 0, none⟩)) ∧ wr.cell? ⟨x, o + 3, none⟩ = some (.pointer (some ⟨c, 0, none⟩)) ∧ x < wr.heap.size := by
  obtain ⟨_, _, h1, _⟩ := h
  exact ⟨h1.c0, h1.c1, h1.c2, h1.c3, h1.lt⟩
theorem Rv.mine (H : More Has) (S : SVault SH) (h : Rv Has SH F0 Cs w wr B x o q g c m size es s) (hb : Below wr.heap.size wr w') (hn : ∀ k, Cs' k → Cs k ∨ wr.heap.size ≤ k ∧ k < w'.heap.size) : Rv Has SH F0 Cs' w w' B x o q g c m size es s := by
  obtain ⟨FL, G, h1, h2, h3, h4, h5⟩ := h
  refine ⟨FL, G, h1.below H S hb, h2.trans (Chg.of_below hb), h3, fun k hk => ?_, h5.trans (Sid.below hb h1.lt)⟩
  rcases hn k hk with y | y
  · exact ⟨Nat.lt_of_lt_of_le (h4 k y).1 hb.size, (h4 k y).2⟩
  · exact ⟨y.2, fun z => by have := (h1.own H S k z).2; omega⟩
theorem Rv.below (H : More Has) (S : SVault SH) (h : Rv Has SH F0 Cs w wr B x o q g c m size es s) (hb : Below wr.heap.size wr w') : Rv Has SH F0 Cs w w' B x o q g c m size es s := h.mine H S hb (fun _ z => .inl z)
/-- a call on the log -/
theorem Rv.upd (S : SVault SH) (h : Rv Has SH F0 Cs w wr B x o q g c m size es s) {fn : FuncId} {args : Array Value} {Q : Ending → World → Prop}
    (hc : ∀ FL, LHof Has g size wr B q FL m es → (∀ k, Cs k → ¬ FL k) → Calls Tryz.prog fn args wr fun e w' => Q e w' ∧ Did (LHof Has g size) wr w' B q FL m es') :
    Calls Tryz.prog fn args wr fun e w' => Q e w' ∧ Rv Has SH F0 Cs w w' B x o q g c m size es' s ∧ Stay Cs wr w' := by
  have hr := h.room
  obtain ⟨FL, G, h1, h2, h3, h4, h5⟩ := h
  refine (hc FL h1.log (fun k hk z => (h4 k hk).2 (.inr (.inl z)))).mono ?_
  rintro e w' ⟨hq, hu⟩
  obtain ⟨FL', a1, a2, a3⟩ := h1.upd S hu
  refine ⟨hq, ⟨FL', G, a1, chg_more h2 a2 (fun i hi z => ?_), fun k hk => ?_, fun k hk => ⟨Nat.lt_of_lt_of_le (h4 k hk).1 a2.size, fun z => ?_⟩, h5.trans (Sid.chg a2 h1.lt h1.xd)⟩, a2.size, fun k hk => a2.block k (h4 k hk).1 (fun z => (h4 k hk).2 (.inr (.inl z)))⟩
  · rcases h3 i (.inr (.inl z)) with y | y
    · exact y
    · omega
  · rcases hk with z | z | z
    · exact h3 k (.inl z)
    · rcases a3 k z with y | y
      · exact h3 k (.inr (.inl y))
      · exact .inr (Nat.le_trans hr y)
    · exact h3 k (.inr (.inr z))
  · rcases z with z | z | z
    · exact (h4 k hk).2 (.inl z)
    · rcases a3 k z with y | y
      · exact (h4 k hk).2 (.inr (.inl y))
      · have := (h4 k hk).1; omega
    · exact (h4 k hk).2 (.inr (.inr z))
/-- a call on the store -/
theorem Rv.did (H : More Has) (h : Rv Has SH F0 Cs w wr B x o q g c m size es s) {fn : FuncId} {args : Array Value} {Q : Ending → World → Prop}
    (hc : ∀ G, SH wr B c G s → Calls Tryz.prog fn args wr fun e w' => Q e w' ∧ DidS SH wr w' B c G s') :
    Calls Tryz.prog fn args wr fun e w' => Q e w' ∧ Rv Has SH F0 Cs w w' B x o q g c m size es s' ∧ Stay Cs wr w' := by
  have hr := h.room
  obtain ⟨FL, G, h1, h2, h3, h4, h5⟩ := h
  refine (hc G h1.chest).mono ?_
  rintro e w' ⟨hq, hu⟩
  obtain ⟨G', a1, a2, a3⟩ := h1.did H hu
  refine ⟨hq, ⟨FL, G', a1, chg_more h2 a2 (fun i hi z => ?_), fun k hk => ?_, fun k hk => ⟨Nat.lt_of_lt_of_le (h4 k hk).1 a2.size, fun z => ?_⟩, h5.trans (Sid.chg a2 h1.lt h1.xg)⟩, a2.size, fun k hk => a2.block k (h4 k hk).1 (fun z => (h4 k hk).2 (.inr (.inr z)))⟩
  · rcases h3 i (.inr (.inr z)) with y | y
    · exact y
    · omega
  · rcases hk with z | z | z
    · exact h3 k (.inl z)
    · exact h3 k (.inr (.inl z))
    · rcases a3 k z with y | y
      · exact h3 k (.inr (.inr y))
      · exact .inr (Nat.le_trans hr y)
  · rcases z with z | z | z
    · exact (h4 k hk).2 (.inl z)
    · exact (h4 k hk).2 (.inr (.inl z))
    · rcases a3 k z with y | y
      · exact (h4 k hk).2 (.inr (.inr y))
      · have := (h4 k hk).1; omega
end
/-- the program's vault -/
def VHof (Has : World → Nat → Nat → (Nat → Prop) → Int → List Pap → Prop) (SH : World → Nat → Nat → (Nat → Prop) → Sto → Prop) (o : Nat) (w : World) (B x : Nat) (F : Nat → Prop) (m size : Int) (es : List Pap) (s : Sto) : Prop := ∃ q g c FL G, Va Has SH w B x o q g c FL G m size es s ∧ ∀ k, F k ↔ vaF x FL G k
section
variable {Has : World → Nat → Nat → (Nat → Prop) → Int → List Pap → Prop} {SH : World → Nat → Nat → (Nat → Prop) → Sto → Prop} {F : Nat → Prop} {w : World} {B x o : Nat} {m size : Int} {es : List Pap} {s : Sto}
/-- a call may have written the vault's own blocks alone, and of its block what is the vault's -/
def DidO (Has : World → Nat → Nat → (Nat → Prop) → Int → List Pap → Prop) (SH : World → Nat → Nat → (Nat → Prop) → Sto → Prop) (o : Nat) (w w' : World) (B x : Nat) (F : Nat → Prop) (m size : Int) (es : List Pap) (s : Sto) : Prop := DidV (VHof Has SH o) w w' B x F m size es s ∧ Sid o x w w'
theorem VHof.begin (h : VHof Has SH o w B x F m size es s) : ∃ q g c, Rv Has SH F (fun _ => False) w w B x o q g c m size es s ∧ ∀ Cs wr g' c' es' s', Rv Has SH F Cs w wr B x o q g' c' m size es' s' → DidO Has SH o w wr B x F m size es' s' := by
  obtain ⟨q, g, c, FL, G, h1, h2⟩ := h
  refine ⟨q, g, c, ⟨FL, G, h1, Chg.refl _ _, fun k z => .inl ((h2 k).2 z), fun _ z => z.elim, Sid.refl _ _ _⟩, fun Cs wr g' c' es' s' hr => ?_⟩
  obtain ⟨FL', G', r1, r2, r3, _, r5⟩ := hr
  exact ⟨⟨_, ⟨q, g', c', FL', G', r1, fun k => Iff.rfl⟩, r2, r3⟩, r5⟩
end
end Go.Proofs.YtmccpkpeimejhahGreatDoor.Dk

namespace Go.Proofs.YtmccpkpeimejhahGreatDoor
open Go.RowKit

/-- the order of texts -/
def ltS (a b : ByteArray) : Bool := Op.bytesLess a.toList b.toList
theorem bl_irrefl : ∀ x : List UInt8, Op.bytesLess x x = false
  | [] => rfl
  | a :: x => by simp [Op.bytesLess, bl_irrefl x]
theorem bl_trans : ∀ x y z : List UInt8, Op.bytesLess x y = true → Op.bytesLess y z = true → Op.bytesLess x z = true
  | _, [], _, h, _ => by simp [Op.bytesLess] at h
  | _, _ :: _, [], _, h => by simp [Op.bytesLess] at h
  | [], _ :: _, _ :: _, _, _ => by simp [Op.bytesLess]
  | a :: x, b :: y, c :: z, h, g => by
    simp only [Op.bytesLess, Bool.or_eq_true, Bool.and_eq_true, decide_eq_true_eq, beq_iff_eq] at h g ⊢
    rcases h with h | ⟨rfl, h⟩
    · rcases g with g | ⟨rfl, g⟩
      · exact .inl (UInt8.lt_trans h g)
      · exact .inl h
    · rcases g with g | ⟨rfl, g⟩
      · exact .inl g
      · exact .inr ⟨rfl, bl_trans x y z h g⟩
theorem bl_total : ∀ x y : List UInt8, Op.bytesLess x y = true ∨ x = y ∨ Op.bytesLess y x = true
  | [], [] => .inr (.inl rfl)
  | [], _ :: _ => .inl (by simp [Op.bytesLess])
  | _ :: _, [] => .inr (.inr (by simp [Op.bytesLess]))
  | a :: x, b :: y => by
    simp only [Op.bytesLess, Bool.or_eq_true, Bool.and_eq_true, decide_eq_true_eq, beq_iff_eq, List.cons.injEq]
    by_cases e : a = b
    · subst e
      rcases bl_total x y with h | h | h
      · exact .inl (.inr ⟨rfl, h⟩)
      · exact .inr (.inl ⟨rfl, h⟩)
      · exact .inr (.inr (.inr ⟨rfl, h⟩))
    · have : a < b ∨ b < a := by
        simp only [UInt8.lt_iff_toNat_lt]
        have : a.toNat ≠ b.toNat := fun h => e (UInt8.toNat_inj.1 h)
        omega
      rcases this with h | h
      · exact .inl (.inl h)
      · exact .inr (.inr (.inl h))
theorem ltS_irrefl (a : ByteArray) : ltS a a = false := bl_irrefl _
theorem ltS_trans {a b c : ByteArray} (h : ltS a b = true) (g : ltS b c = true) : ltS a c = true := bl_trans _ _ _ h g
theorem ltS_total {a b : ByteArray} (h : eqB a b = false) : ltS a b = true ∨ ltS b a = true := by
  rcases bl_total a.toList b.toList with h1 | h1 | h1
  · exact .inl h1
  · unfold eqB at h; rw [h1] at h; simp at h
  · exact .inr h1

/-- the order of rows of tokens: the shorter row first, if it is the beginning of the other one -/
def bef : List ByteArray → List ByteArray → Bool
  | _, [] => false
  | [], _ :: _ => true
  | a :: f, b :: g => if eqB a b then bef f g else ltS a b
def cmpS (a b : ByteArray) : Int := if ltS a b then -1 else if eqB a b then 0 else 1
def cmpL : List ByteArray → List ByteArray → Int
  | [], [] => 0
  | [], _ :: _ => -1
  | _ :: _, [] => 1
  | a :: f, b :: g => if eqB a b then cmpL f g else if ltS a b then -1 else 1
theorem cmpS_eq {a b : ByteArray} (h : eqB a b = true) : cmpS a b = 0 := by
  have := eqB_iff.1 h; subst this
  simp [cmpS, ltS_irrefl, eqB_self]
theorem cmpL_bef : ∀ f g : List ByteArray, decide (cmpL f g < 0) = bef f g
  | [], [] => rfl
  | [], _ :: _ => rfl
  | _ :: _, [] => rfl
  | a :: f, b :: g => by
    unfold cmpL bef
    split
    · exact cmpL_bef f g
    · cases ltS a b <;> rfl
theorem cmpL_zero : ∀ f g : List ByteArray, cmpL f g = 0 ↔ f = g
  | [], [] => by simp [cmpL]
  | [], _ :: _ => by simp [cmpL]
  | _ :: _, [] => by simp [cmpL]
  | a :: f, b :: g => by
    unfold cmpL
    split
    · rename_i h
      rw [cmpL_zero f g, eqB_iff.1 h]
      simp
    · rename_i h
      have hn : ¬ (a :: f = b :: g) := fun e => h (by rw [(List.cons.inj e).1]; exact eqB_self b)
      refine ⟨fun e => ?_, fun e => absurd e hn⟩
      split at e <;> omega
theorem cmpL_range : ∀ f g : List ByteArray, -1 ≤ cmpL f g ∧ cmpL f g ≤ 1
  | [], [] => by simp [cmpL]
  | [], _ :: _ => by simp [cmpL]
  | _ :: _, [] => by simp [cmpL]
  | a :: f, b :: g => by
    unfold cmpL
    split
    · exact cmpL_range f g
    · split <;> omega
theorem bef_irrefl : ∀ f : List ByteArray, bef f f = false
  | [] => rfl
  | a :: f => by rw [bef, if_pos (eqB_self a)]; exact bef_irrefl f
theorem bef_trans : ∀ f g h : List ByteArray, bef f g = true → bef g h = true → bef f h = true
  | _, [], _, h, _ => by simp [bef] at h
  | _, _ :: _, [], _, h => by simp [bef] at h
  | [], _ :: _, _ :: _, _, _ => rfl
  | a :: f, b :: g, c :: h, h1, h2 => by
    unfold bef at h1 h2 ⊢
    cases e1 : eqB a b
    · rw [if_neg (by rw [e1]; simp)] at h1
      cases e2 : eqB b c
      · rw [if_neg (by rw [e2]; simp)] at h2
        have h3 := ltS_trans h1 h2
        have : eqB a c = false := by
          cases e : eqB a c
          · rfl
          · rw [eqB_iff.1 e, ltS_irrefl] at h3; cases h3
        rw [if_neg (by rw [this]; simp)]
        exact h3
      · have := eqB_iff.1 e2; subst this
        rw [if_neg (by rw [e1]; simp)]
        exact h1
    · have := eqB_iff.1 e1; subst this
      rw [if_pos e1] at h1
      cases e2 : eqB a c
      · rw [if_neg (by rw [e2]; simp)] at h2
        rw [if_neg (by simp)]
        exact h2
      · rw [if_pos e2] at h2
        rw [if_pos rfl]
        exact bef_trans f g h h1 h2
theorem bef_total : ∀ f g : List ByteArray, bef f g = true ∨ f = g ∨ bef g f = true
  | [], [] => .inr (.inl rfl)
  | [], _ :: _ => .inl rfl
  | _ :: _, [] => .inr (.inr rfl)
  | a :: f, b :: g => by
    unfold bef
    cases e : eqB a b
    · have e' : eqB b a = false := by
        cases e2 : eqB b a
        · rfl
        · rw [eqB_iff.1 e2, eqB_self] at e; cases e
      rw [if_neg (by simp), e', if_neg (by simp)]
      rcases ltS_total e with h | h
      · exact .inl h
      · exact .inr (.inr h)
    · have := eqB_iff.1 e; subst this
      rw [if_pos rfl, if_pos e]
      rcases bef_total f g with h | h | h
      · exact .inl h
      · exact .inr (.inl (by rw [h]))
      · exact .inr (.inr h)

abbrev Ent := ByteArray × Int
/-- the k-th entry -/
def en (l : List Ent) (k : Nat) : Ent := l[k]?.getD (ByteArray.empty, 0)
def el (e s : ByteArray) : Bool := bef (Pl.toks e) (Pl.toks s)
def Ord (es : List Ent) : Prop := es.Pairwise fun a b => el a.1 b.1 = true
def Good (es : List Ent) : Prop := Ord es ∧ es.length ≤ 100 ∧ ∀ e ∈ es, errS false e.1 = 0 ∧ e.1.size ≤ 140737488355328
/-- where a subject is, or belongs -/
def place : List Ent → ByteArray → Nat
  | [], _ => 0
  | e :: es, s => if el e.1 s then place es s + 1 else 0
def hasAt (es : List Ent) (s : ByteArray) : Bool := decide (place es s < es.length) && eqB (en es (place es s)).1 s

theorem en_mem {es : List Ent} {k : Nat} (h : k < es.length) : en es k ∈ es := by
  unfold en; rw [List.getElem?_eq_getElem h]; exact List.getElem_mem h
theorem en_get {es : List Ent} {k : Nat} (h : k < es.length) : en es k = es[k] := by
  unfold en; rw [List.getElem?_eq_getElem h]; rfl
theorem el_irrefl (s : ByteArray) : el s s = false := bef_irrefl _
theorem el_trans {a b c : ByteArray} (h : el a b = true) (g : el b c = true) : el a c = true := bef_trans _ _ _ h g
theorem el_eq {a b : ByteArray} (h : el a b = false) (g : el b a = false) : a = b := by
  rcases bef_total (Pl.toks a) (Pl.toks b) with x | x | x
  · unfold el at h; rw [x] at h; cases h
  · exact toks_inj x
  · unfold el at g; rw [x] at g; cases g
theorem place_le : ∀ (es : List Ent) (s : ByteArray), place es s ≤ es.length
  | [], _ => Nat.le_refl _
  | e :: es, s => by
    unfold place
    have := place_le es s
    split <;> simp <;> omega
theorem place_lt : ∀ (es : List Ent) (s : ByteArray) (j : Nat), j < place es s → el (en es j).1 s = true
  | [], _, j, h => absurd h (Nat.not_lt_zero j)
  | e :: es, s, j, h => by
    unfold place at h
    split at h
    · rename_i he
      cases j with
      | zero => exact he
      | succ j => exact place_lt es s j (by omega)
    · omega
theorem place_at : ∀ (es : List Ent) (s : ByteArray), place es s < es.length → el (en es (place es s)).1 s = false
  | [], _, h => absurd h (Nat.not_lt_zero _)
  | e :: es, s, h => by
    unfold place at h ⊢
    split at h
    · rename_i he
      rw [if_pos he]
      exact place_at es s (by simpa using h)
    · rename_i he
      rw [if_neg he]
      exact Bool.eq_false_iff.2 he
theorem ord_lt {es : List Ent} (h : Ord es) {i j : Nat} (hij : i < j) (hj : j < es.length) : el (en es i).1 (en es j).1 = true := by
  rw [en_get (by omega), en_get hj]
  exact List.pairwise_iff_getElem.1 h i j (by omega) hj hij
theorem place_ge {es : List Ent} (h : Ord es) (s : ByteArray) (j : Nat) (h1 : place es s ≤ j) (h2 : j < es.length) : el (en es j).1 s = false := by
  have ha := place_at es s (by omega)
  rcases Nat.eq_or_lt_of_le h1 with e | hlt
  · rw [← e]; exact ha
  · cases e : el (en es j).1 s
    · rfl
    · rw [el_trans (ord_lt h hlt h2) e] at ha; cases ha
theorem place_is {es : List Ent} {s : ByteArray} {i : Nat} (hi : i ≤ es.length) (h1 : ∀ j, j < i → el (en es j).1 s = true) (h2 : ∀ j, i ≤ j → j < es.length → el (en es j).1 s = false) : i = place es s := by
  rcases Nat.lt_trichotomy i (place es s) with h | h | h
  · have a := place_lt es s i h
    have := place_le es s
    rw [h2 i (Nat.le_refl _) (by omega)] at a; cases a
  · exact h
  · have a := place_at es s (by omega)
    rw [h1 _ h] at a; cases a
theorem place_hit {es : List Ent} (h : Ord es) {s : ByteArray} {j : Nat} (hj : j < es.length) (e : (en es j).1 = s) : j = place es s := by
  refine place_is (by omega) (fun i hi => ?_) (fun i hi hl => ?_)
  · rw [← e]; exact ord_lt h hi hj
  · rcases Nat.eq_or_lt_of_le hi with q | q
    · rw [← q, e]; exact el_irrefl s
    · cases x : el (en es i).1 s
      · rfl
      · have := el_trans (ord_lt h q hl) x
        rw [e, el_irrefl] at this; cases this
theorem has_hit {es : List Ent} (h : Ord es) {s : ByteArray} {j : Nat} (hj : j < es.length) (e : (en es j).1 = s) : hasAt es s = true ∧ place es s = j := by
  have p := place_hit h hj e
  refine ⟨?_, p.symm⟩
  unfold hasAt
  rw [← p, e, eqB_self]
  simp [hj]
theorem has_none {es : List Ent} {s : ByteArray} (h : ∀ j, j < es.length → eqB (en es j).1 s = false) : hasAt es s = false := by
  unfold hasAt
  by_cases hp : place es s < es.length
  · rw [h _ hp]; simp
  · simp [hp]
theorem has_at {es : List Ent} {s : ByteArray} (h : hasAt es s = true) : place es s < es.length ∧ (en es (place es s)).1 = s := by
  unfold hasAt at h
  simp only [Bool.and_eq_true, decide_eq_true_eq] at h
  exact ⟨h.1, eqB_iff.1 h.2⟩
theorem has_cmp {es : List Ent} (s : ByteArray) (h : place es s < es.length) : hasAt es s = decide (cmpL (Pl.toks (en es (place es s)).1) (Pl.toks s) = 0) := by
  unfold hasAt
  rw [Bool.eq_iff_iff]
  simp only [Bool.and_eq_true, decide_eq_true_eq, cmpL_zero]
  exact ⟨fun x => by rw [eqB_iff.1 x.2], fun x => ⟨h, eqB_iff.2 (toks_inj x)⟩⟩

/-- what Put makes of the list, where there is room or the subject is there -/
def insL (es : List Ent) (p : Nat) (e : Ent) : List Ent := es.take p ++ e :: es.drop p
def delL (es : List Ent) (p : Nat) : List Ent := es.take p ++ es.drop (p + 1)
def putE (es : List Ent) (s : ByteArray) : Int := if errS false s = 0 then (if hasAt es s then 0 else if 100 ≤ es.length then 8 else 0) else errS false s
def putL (es : List Ent) (s : ByteArray) (n : Int) : List Ent := if errS false s = 0 then (if hasAt es s then es.set (place es s) (s, n) else if 100 ≤ es.length then es else insL es (place es s) (s, n)) else es
def seeE (es : List Ent) (s : ByteArray) : Int := if errS false s = 0 then (if hasAt es s then 0 else 4) else errS false s
def dropL (es : List Ent) (s : ByteArray) : List Ent := if errS false s = 0 then (if hasAt es s then delL es (place es s) else es) else es
def getN (es : List Ent) (s : ByteArray) : Int := if errS false s = 0 then (if hasAt es s then (en es (place es s)).2 else 0) else 0
def findL (es : List Ent) (f : ByteArray) : List Ent := es.filter fun e => matchB f e.1

theorem insL_length {es : List Ent} {p : Nat} {e : Ent} (h : p ≤ es.length) : (insL es p e).length = es.length + 1 := by
  simp [insL]; omega
theorem delL_length {es : List Ent} {p : Nat} (h : p < es.length) : (delL es p).length = es.length - 1 := by
  simp [delL]; omega
theorem ord_ins {es : List Ent} (h : Ord es) {s : ByteArray} (n : Int) (hn : hasAt es s = false) : Ord (insL es (place es s) (s, n)) := by
  have hb : ∀ j, place es s ≤ j → j < es.length → el s (en es j).1 = true := by
    intro j h1 h2
    have a := place_ge h s j h1 h2
    rcases bef_total (Pl.toks s) (Pl.toks (en es j).1) with x | x | x
    · exact x
    · rw [(has_hit h h2 (toks_inj x).symm).1] at hn; cases hn
    · unfold el at a; rw [x] at a; cases a
  unfold Ord insL
  rw [List.pairwise_append]
  refine ⟨h.sublist (List.take_sublist _ _), ?_, ?_⟩
  · rw [List.pairwise_cons]
    refine ⟨fun a ha => ?_, h.sublist (List.drop_sublist _ _)⟩
    obtain ⟨j, hj, e⟩ := List.mem_iff_getElem.1 ha
    rw [List.getElem_drop] at e
    have hl : place es s + j < es.length := by simpa using (by simp at hj; omega : place es s + j < es.length)
    have := hb (place es s + j) (by omega) hl
    rw [en_get hl, e] at this
    exact this
  · intro a ha b hb'
    obtain ⟨i, hi, e⟩ := List.mem_iff_getElem.1 ha
    rw [List.getElem_take] at e
    have hi2 : i < place es s ∧ i < es.length := by simp at hi; omega
    have h1 := place_lt es s i hi2.1
    rw [en_get hi2.2, e] at h1
    rcases List.mem_cons.1 hb' with q | q
    · rw [q]; exact h1
    · obtain ⟨j, hj, e2⟩ := List.mem_iff_getElem.1 q
      rw [List.getElem_drop] at e2
      have hl : place es s + j < es.length := by simp at hj; omega
      have := hb (place es s + j) (by omega) hl
      rw [en_get hl, e2] at this
      exact el_trans h1 this
theorem ord_set {es : List Ent} (h : Ord es) {s : ByteArray} (n : Int) (hs : hasAt es s = true) : Ord (es.set (place es s) (s, n)) := by
  obtain ⟨h1, h2⟩ := has_at hs
  unfold Ord
  rw [List.pairwise_iff_getElem]
  intro i j hi hj hij
  rw [List.length_set] at hi hj
  have hk := ord_lt h hij hj
  rw [en_get hi, en_get hj] at hk
  rw [en_get h1] at h2
  rw [List.getElem_set, List.getElem_set]
  split
  · rename_i q
    subst q
    rw [if_neg (by omega)]
    rw [h2] at hk
    exact hk
  · split
    · rename_i q
      subst q
      rw [h2] at hk
      exact hk
    · exact hk
theorem ord_del {es : List Ent} (h : Ord es) (p : Nat) : Ord (delL es p) := by
  have e : delL es p = es.eraseIdx p := by
    unfold delL; rw [List.eraseIdx_eq_take_drop_succ]
  rw [e]
  exact List.Pairwise.sublist (List.eraseIdx_sublist _ _) h
theorem mem_ins {es : List Ent} {p : Nat} {e x : Ent} (h : x ∈ insL es p e) : x = e ∨ x ∈ es := by
  unfold insL at h
  rcases List.mem_append.1 h with h | h
  · exact .inr (List.mem_of_mem_take h)
  · rcases List.mem_cons.1 h with h | h
    · exact .inl h
    · exact .inr (List.mem_of_mem_drop h)
theorem mem_del {es : List Ent} {p : Nat} {x : Ent} (h : x ∈ delL es p) : x ∈ es := by
  unfold delL at h
  rcases List.mem_append.1 h with h | h
  · exact List.mem_of_mem_take h
  · exact List.mem_of_mem_drop h
theorem good_put {es : List Ent} (h : Good es) {s : ByteArray} (n : Int) (hz : s.size ≤ 140737488355328) : Good (putL es s n) := by
  obtain ⟨h1, h2, h3⟩ := h
  unfold putL
  split
  · rename_i he
    split
    · rename_i hh
      refine ⟨ord_set h1 n hh, by rw [List.length_set]; exact h2, fun e hm => ?_⟩
      rcases List.mem_or_eq_of_mem_set hm with q | q
      · exact h3 e q
      · rw [q]; exact ⟨he, hz⟩
    · rename_i hh
      split
      · exact ⟨h1, h2, h3⟩
      · refine ⟨ord_ins h1 n (Bool.eq_false_iff.2 hh), by rw [insL_length (place_le _ _)]; omega, fun e hm => ?_⟩
        rcases mem_ins hm with q | q
        · rw [q]; exact ⟨he, hz⟩
        · exact h3 e q
  · exact ⟨h1, h2, h3⟩
theorem good_drop {es : List Ent} (h : Good es) (s : ByteArray) : Good (dropL es s) := by
  obtain ⟨h1, h2, h3⟩ := h
  unfold dropL
  split
  · split
    · rename_i hh
      have := (has_at hh).1
      exact ⟨ord_del h1 _, by rw [delL_length this]; omega, fun e hm => h3 e (mem_del hm)⟩
    · exact ⟨h1, h2, h3⟩
  · exact ⟨h1, h2, h3⟩
theorem good_nil : Good [] := ⟨List.Pairwise.nil, by simp, fun e h => by simp at h⟩
end Go.Proofs.YtmccpkpeimejhahGreatDoor

namespace Go.Proofs.YtmccpkpeimejhahGreatDoor
open Go.RowKit

theorem en_is {es : List Ent} {y : Ent} (h : y ∈ es) : ∃ j, j < es.length ∧ en es j = y := by
  obtain ⟨j, hj, e⟩ := List.getElem_of_mem h
  exact ⟨j, hj, by rw [en_get hj]; exact e⟩
theorem ent_at {es : List Ent} (h : Ord es) {s : ByteArray} {y : Ent} (hy : y ∈ es) (e : y.1 = s) : hasAt es s = true ∧ y = en es (place es s) := by
  obtain ⟨j, hj, rfl⟩ := en_is hy
  obtain ⟨h1, h2⟩ := has_hit h hj e
  exact ⟨h1, by rw [h2]⟩
/-- strictly in order: the members say all -/
theorem ord_ext : ∀ {a b : List Ent}, Ord a → Ord b → (∀ e, e ∈ a ↔ e ∈ b) → a = b
  | [], [], _, _, _ => rfl
  | [], y :: b, _, _, h => absurd ((h y).2 (List.mem_cons_self ..)) (by simp)
  | x :: a, [], _, _, h => absurd ((h x).1 (List.mem_cons_self ..)) (by simp)
  | x :: a, y :: b, ha, hb, h => by
    have ha1 := List.pairwise_cons.1 ha
    have hb1 := List.pairwise_cons.1 hb
    have hxy : x = y := by
      rcases List.mem_cons.1 ((h x).1 (List.mem_cons_self ..)) with z | z
      · exact z
      · rcases List.mem_cons.1 ((h y).2 (List.mem_cons_self ..)) with u | u
        · exact u.symm
        · have := el_trans (hb1.1 x z) (ha1.1 y u)
          rw [el_irrefl] at this; cases this
    subst hxy
    have hx : ∀ {c : List Ent}, (∀ e ∈ c, el x.1 e.1 = true) → x ∉ c := fun hc z => by have := hc x z; rw [el_irrefl] at this; cases this
    rw [ord_ext ha1.2 hb1.2 (fun e => ?_)]
    constructor
    · intro z
      rcases List.mem_cons.1 ((h e).1 (List.mem_cons_of_mem _ z)) with u | u
      · subst u; exact absurd z (hx ha1.1)
      · exact u
    · intro z
      rcases List.mem_cons.1 ((h e).2 (List.mem_cons_of_mem _ z)) with u | u
      · subst u; exact absurd z (hx hb1.1)
      · exact u
theorem mem_put {es : List Ent} (h : Good es) {s : ByteArray} (n : Int) (hs : errS false s = 0) (hr : hasAt es s = true ∨ es.length < 100) (x : Ent) : x ∈ putL es s n ↔ x = (s, n) ∨ (x ∈ es ∧ x.1 ≠ s) := by
  unfold putL
  rw [if_pos hs]
  cases hh : hasAt es s
  · rw [if_neg (by simp), if_neg (by rcases hr with z | z; rw [hh] at z; cases z; omega)]
    have hne : ∀ y ∈ es, y.1 ≠ s := fun y hy e => by have := (ent_at h.1 hy e).1; rw [hh] at this; cases this
    have e : x ∈ insL es (place es s) (s, n) ↔ x = (s, n) ∨ x ∈ es := by
      unfold insL
      rw [List.mem_append, List.mem_cons]
      have := List.take_append_drop (place es s) es
      constructor
      · rintro (z | z | z)
        · exact .inr (List.mem_of_mem_take z)
        · exact .inl z
        · exact .inr (List.mem_of_mem_drop z)
      · rintro (z | z)
        · exact .inr (.inl z)
        · rw [← this] at z
          rcases List.mem_append.1 z with y | y
          · exact .inl y
          · exact .inr (.inr y)
    rw [e]
    constructor
    · rintro (z | z)
      · exact .inl z
      · exact .inr ⟨z, hne x z⟩
    · rintro (z | z)
      · exact .inl z
      · exact .inr z.1
  · rw [if_pos rfl]
    obtain ⟨p1, p2⟩ := has_at hh
    constructor
    · intro z
      obtain ⟨j, hj, e⟩ := List.getElem_of_mem z
      rw [List.length_set] at hj
      rw [List.getElem_set] at e
      by_cases hp : place es s = j
      · rw [if_pos hp] at e; exact .inl e.symm
      · rw [if_neg hp] at e
        refine .inr ⟨by rw [← e]; exact List.getElem_mem hj, fun q => hp ?_⟩
        exact (place_hit h.1 hj (by rw [en_get hj, e]; exact q)).symm
    · rintro (z | ⟨z, q⟩)
      · rw [z]; exact List.mem_set p1 _
      · obtain ⟨j, hj, e⟩ := List.getElem_of_mem z
        have hp : ¬ place es s = j := fun hp => q (by rw [← e, ← en_get hj, ← hp]; exact p2)
        have : (es.set (place es s) (s, n))[j]'(by rw [List.length_set]; exact hj) = x := by rw [List.getElem_set, if_neg hp]; exact e
        rw [← this]
        exact List.getElem_mem _
theorem mem_drop {es : List Ent} (h : Good es) {s : ByteArray} (hs : errS false s = 0) (x : Ent) : x ∈ dropL es s ↔ x ∈ es ∧ x.1 ≠ s := by
  unfold dropL
  rw [if_pos hs]
  cases hh : hasAt es s
  · rw [if_neg (by simp)]
    exact ⟨fun z => ⟨z, fun e => by have := (ent_at h.1 z e).1; rw [hh] at this; cases this⟩, fun z => z.1⟩
  · rw [if_pos rfl]
    obtain ⟨p1, p2⟩ := has_at hh
    have hsp : es = es.take (place es s) ++ en es (place es s) :: es.drop (place es s + 1) := by
      rw [en_get p1, ← List.drop_eq_getElem_cons p1, List.take_append_drop]
    constructor
    · intro z
      refine ⟨mem_del z, fun e => ?_⟩
      have ho := h.1
      unfold Ord at ho
      rw [hsp, List.pairwise_append, List.pairwise_cons] at ho
      obtain ⟨_, ⟨o2, _⟩, o3⟩ := ho
      unfold delL at z
      rcases List.mem_append.1 z with y | y
      · have := o3 x y (en es (place es s)) (List.mem_cons_self ..)
        rw [e, p2, el_irrefl] at this; cases this
      · have := o2 x y
        rw [e, p2, el_irrefl] at this; cases this
    · rintro ⟨z, q⟩
      rw [hsp] at z
      unfold delL
      rcases List.mem_append.1 z with y | y
      · exact List.mem_append.2 (.inl y)
      · rcases List.mem_cons.1 y with u | u
        · exact absurd (by rw [u]; exact p2) q
        · exact List.mem_append.2 (.inr u)
/-- how many messages of a subject -/
def cntN (l : List Dk.Rc) (s : ByteArray) : Nat := (l.filter fun r => decide (r.s = s)).length
theorem cntN_append (a b : List Dk.Rc) (s : ByteArray) : cntN (a ++ b) s = cntN a s + cntN b s := by unfold cntN; rw [List.filter_append, List.length_append]
theorem cntN_one (r : Dk.Rc) (s : ByteArray) : cntN [r] s = if r.s = s then 1 else 0 := by
  unfold cntN
  by_cases h : r.s = s
  · rw [if_pos h]; simp [h]
  · rw [if_neg h]; simp [h]
theorem cntN_has (l : List Dk.Rc) (s : ByteArray) : Dk.hasS l s = decide (0 < cntN l s) := by
  unfold Dk.hasS cntN
  rw [Bool.eq_iff_iff, List.any_eq_true, decide_eq_true_eq, List.length_pos_iff_exists_mem]
  constructor
  · rintro ⟨x, h1, h2⟩
    exact ⟨x, List.mem_filter.2 ⟨h1, h2⟩⟩
  · rintro ⟨x, h1⟩
    obtain ⟨h1, h2⟩ := List.mem_filter.1 h1
    exact ⟨x, h1, h2⟩
/-- an index of them -/
structure Cnt (l : List Dk.Rc) (es : List Ent) : Prop where
  good : Good es
  mem : ∀ e : Ent, e ∈ es ↔ 0 < cntN l e.1 ∧ e.2 = (cntN l e.1 : Int)
theorem Cnt.nil : Cnt [] [] := ⟨good_nil, fun e => by simp [cntN]⟩
theorem Cnt.same {l : List Dk.Rc} {a b : List Ent} (h : Cnt l a) (g : Cnt l b) : a = b := ord_ext h.good.1 g.good.1 (fun e => by rw [h.mem, g.mem])
theorem Cnt.has {l : List Dk.Rc} {es : List Ent} (h : Cnt l es) (s : ByteArray) : hasAt es s = decide (0 < cntN l s) := by
  rw [Bool.eq_iff_iff, decide_eq_true_eq]
  constructor
  · intro z
    obtain ⟨p1, p2⟩ := has_at z
    have := ((h.mem _).1 (en_mem p1)).1
    rw [p2] at this
    exact this
  · intro z
    exact (ent_at h.good.1 ((h.mem (s, (cntN l s : Int))).2 ⟨z, rfl⟩) rfl).1
theorem Cnt.get {l : List Dk.Rc} {es : List Ent} (h : Cnt l es) {s : ByteArray} (hs : errS false s = 0) : getN es s = (cntN l s : Int) := by
  unfold getN
  rw [if_pos hs, h.has]
  by_cases z : 0 < cntN l s
  · rw [decide_eq_true z, if_pos rfl]
    have := (ent_at h.good.1 ((h.mem (s, (cntN l s : Int))).2 ⟨z, rfl⟩) rfl).2
    rw [← this]
  · rw [decide_eq_false z, if_neg (by simp)]
    omega
theorem Cnt.put {l : List Dk.Rc} {es : List Ent} (h : Cnt l es) (r : Dk.Rc) (hs : errS false r.s = 0) (hz : r.s.size ≤ 140737488355328) (hr : 0 < cntN l r.s ∨ es.length < 100) : Cnt (l ++ [r]) (putL es r.s ((cntN l r.s : Int) + 1)) := by
  refine ⟨good_put h.good _ hz, fun e => ?_⟩
  rw [mem_put h.good _ hs (by rw [h.has]; simpa using hr), h.mem, cntN_append, cntN_one]
  by_cases q : e.1 = r.s
  · rw [if_pos q.symm, q]
    constructor
    · rintro (z | z)
      · rw [z]; exact ⟨by omega, by simp⟩
      · exact absurd rfl z.2
    · rintro ⟨_, z⟩
      exact .inl (Prod.ext q (by rw [z]; simp))
  · rw [if_neg (fun z => q z.symm), Nat.add_zero]
    constructor
    · rintro (z | z)
      · exact absurd (by rw [z]) q
      · exact z.1
    · intro z; exact .inr ⟨z, q⟩
/-- one message less -/
theorem Cnt.less {A B : List Dk.Rc} {x : Dk.Rc} {es : List Ent} (h : Cnt (A ++ x :: B) es) (hs : errS false x.s = 0) (hz : x.s.size ≤ 140737488355328) : (cntN (A ++ B) x.s = 0 → Cnt (A ++ B) (dropL es x.s)) ∧ Cnt (A ++ B) (if cntN (A ++ B) x.s = 0 then dropL es x.s else putL es x.s (cntN (A ++ B) x.s : Int)) := by
  have hc : ∀ s, cntN (A ++ x :: B) s = cntN (A ++ B) s + (if x.s = s then 1 else 0) := fun s => by
    rw [show A ++ x :: B = A ++ ([x] ++ B) from rfl, cntN_append, cntN_append, cntN_append, cntN_one]
    omega
  have hd : cntN (A ++ B) x.s = 0 → Cnt (A ++ B) (dropL es x.s) := fun h0 => by
    refine ⟨good_drop h.good _, fun e => ?_⟩
    rw [mem_drop h.good hs, h.mem, hc]
    by_cases q : e.1 = x.s
    · rw [q, h0]; simp
    · rw [if_neg (fun z => q z.symm), Nat.add_zero]
      exact ⟨fun z => z.1, fun z => ⟨z, q⟩⟩
  refine ⟨hd, ?_⟩
  by_cases h0 : cntN (A ++ B) x.s = 0
  · rw [if_pos h0]; exact hd h0
  · rw [if_neg h0]
    refine ⟨good_put h.good _ hz, fun e => ?_⟩
    rw [mem_put h.good _ hs (.inl (by rw [h.has, hc, if_pos rfl]; simp)), h.mem, hc]
    by_cases q : e.1 = x.s
    · rw [q]
      constructor
      · rintro (z | z)
        · rw [z]; exact ⟨by omega, rfl⟩
        · exact absurd rfl z.2
      · rintro ⟨_, z⟩
        exact .inl (Prod.ext q z)
    · rw [if_neg (fun z => q z.symm), Nat.add_zero]
      constructor
      · rintro (z | z)
        · exact absurd (by rw [z]) q
        · exact z.1
      · intro z; exact .inr ⟨z, q⟩
/-- as many entries as subjects -/
theorem Cnt.len {l : List Dk.Rc} {es : List Ent} (h : Cnt l es) : es.length = Dk.nameN l := by
  have hn : (es.map (·.1)).Nodup := by
    have := h.good.1
    unfold Ord at this
    rw [List.Nodup, List.pairwise_map]
    exact this.imp (fun {a b} hab e => by rw [e, el_irrefl] at hab; cases hab)
  have hm : ∀ s, s ∈ es.map (·.1) ↔ s ∈ Dk.nameL l := fun s => by
    rw [Dk.nameL_mem, cntN_has, decide_eq_true_eq, List.mem_map]
    constructor
    · rintro ⟨e, he, rfl⟩
      exact ((h.mem e).1 he).1
    · intro z
      exact ⟨(s, (cntN l s : Int)), (h.mem _).2 ⟨z, rfl⟩, rfl⟩
  rw [Dk.nameN_len, ← List.length_map (f := fun e : Ent => e.1)]
  exact Nat.le_antisymm (Dk.nodup_le _ _ hn (fun s hs => (hm s).1 hs)) (Dk.nodup_le _ _ (Dk.nameL_nodup l) (fun s hs => (hm s).2 hs))
end Go.Proofs.YtmccpkpeimejhahGreatDoor

namespace Go.Proofs.YtmccpkpeimejhahGreatDoor
open Go.RowKit

def foundL (es : List Ent) (f : ByteArray) : List Ent := if errS true f = 0 then findL es f else []
def sumE : List Ent → Int
  | [] => 0
  | e :: es => e.2 + sumE es
theorem sumE_append : ∀ a b : List Ent, sumE (a ++ b) = sumE a + sumE b
  | [], b => by simp [sumE]
  | e :: a, b => by rw [List.cons_append, sumE, sumE, sumE_append a b, Int.add_assoc]
theorem sumE_take {es : List Ent} {k : Nat} (h : k < es.length) : sumE (es.take (k + 1)) = sumE (es.take k) + (en es k).2 := by
  rw [List.take_succ_eq_append_getElem h, sumE_append]
  have : en es k = es[k] := by unfold en; rw [List.getElem?_eq_getElem h]; rfl
  rw [this]
  simp [sumE]
theorem sumE_pos : ∀ {es : List Ent}, (∀ e ∈ es, 0 ≤ e.2) → 0 ≤ sumE es
  | [], _ => Int.le_refl _
  | e :: es, h => by
    have h1 := h e (List.mem_cons_self ..)
    have h2 := sumE_pos (es := es) (fun x hx => h x (List.mem_cons_of_mem _ hx))
    rw [sumE]; omega
theorem sumE_front {es : List Ent} (h : ∀ e ∈ es, 0 ≤ e.2) (k : Nat) : 0 ≤ sumE (es.take k) ∧ sumE (es.take k) ≤ sumE es := by
  have h1 := sumE_pos (es := es.take k) (fun x hx => h x (List.mem_of_mem_take hx))
  have h2 := sumE_pos (es := es.drop k) (fun x hx => h x (List.mem_of_mem_drop hx))
  have h3 := sumE_append (es.take k) (es.drop k)
  rw [List.take_append_drop] at h3
  omega
/-- over names, each once -/
def sumN (l : List Dk.Rc) : List ByteArray → Nat
  | [] => 0
  | s :: N => cntN l s + sumN l N
theorem sumN_none {r : Dk.Rc} {l : List Dk.Rc} : ∀ {N : List ByteArray}, r.s ∉ N → sumN (r :: l) N = sumN l N
  | [], _ => rfl
  | s :: N, h => by
    have h1 : ¬ r.s = s := fun e => h (by rw [e]; exact List.mem_cons_self ..)
    rw [sumN, sumN, sumN_none (N := N) (fun z => h (List.mem_cons_of_mem _ z)), show r :: l = [r] ++ l from rfl, cntN_append, cntN_one, if_neg h1, Nat.zero_add]
theorem sumN_one {r : Dk.Rc} {l : List Dk.Rc} : ∀ {N : List ByteArray}, N.Nodup → r.s ∈ N → sumN (r :: l) N = sumN l N + 1
  | [], _, h => by cases h
  | s :: N, hn, h => by
    obtain ⟨h1, h2⟩ := List.nodup_cons.1 hn
    rw [sumN, sumN, show r :: l = [r] ++ l from rfl, cntN_append, cntN_one]
    by_cases e : r.s = s
    · rw [if_pos e, show [r] ++ l = r :: l from rfl, sumN_none (by rw [e]; exact h1)]
      omega
    · rw [if_neg e, show [r] ++ l = r :: l from rfl, sumN_one h2 (by
        rcases List.mem_cons.1 h with z | z
        · exact absurd z e
        · exact z)]
      omega
theorem sumN_nil : ∀ N : List ByteArray, sumN [] N = 0
  | [] => rfl
  | s :: N => by rw [sumN, sumN_nil N]; rfl
theorem sumN_all {N : List ByteArray} (hn : N.Nodup) : ∀ {l : List Dk.Rc}, (∀ r ∈ l, r.s ∈ N) → sumN l N = l.length
  | [], _ => sumN_nil N
  | r :: l, h => by
    rw [sumN_one hn (h r (List.mem_cons_self ..)), sumN_all hn (fun x hx => h x (List.mem_cons_of_mem _ hx))]
    rfl
theorem sumE_N {l : List Dk.Rc} : ∀ {es : List Ent}, (∀ e ∈ es, e.2 = (cntN l e.1 : Int)) → sumE es = (sumN l (es.map (·.1)) : Int)
  | [], _ => rfl
  | e :: es, h => by
    rw [sumE, List.map_cons, sumN, sumE_N (fun x hx => h x (List.mem_cons_of_mem _ hx)), h e (List.mem_cons_self ..)]
    omega
theorem Cnt.sum {l : List Dk.Rc} {es : List Ent} (h : Cnt l es) : sumE es = (l.length : Int) := by
  have hn : (es.map (·.1)).Nodup := by
    have := h.good.1
    unfold Ord at this
    rw [List.Nodup, List.pairwise_map]
    exact this.imp (fun {a b} hab e => by rw [e, el_irrefl] at hab; cases hab)
  rw [sumE_N (fun e he => ((h.mem e).1 he).2), sumN_all hn (fun r hr => ?_)]
  refine List.mem_map.2 ⟨(r.s, (cntN l r.s : Int)), (h.mem _).2 ⟨?_, rfl⟩, rfl⟩
  have := cntN_has l r.s
  have h2 : Dk.hasS l r.s = true := by
    unfold Dk.hasS
    exact List.any_eq_true.2 ⟨r, hr, by simp⟩
  rw [h2] at this
  simpa using this.symm
theorem Cnt.pos {l : List Dk.Rc} {es : List Ent} (h : Cnt l es) : ∀ e ∈ es, 0 ≤ e.2 := fun e he => by
  rw [((h.mem e).1 he).2]; omega
theorem cnt_ex : ∀ (n : Nat) (l : List Dk.Rc), l.length = n → (∀ x ∈ l, errS false x.s = 0 ∧ x.s.size ≤ 140737488355328) → Dk.nameN l ≤ 100 → ∃ es, Cnt l es
  | 0, l, hn, _, _ => by
    obtain rfl := List.length_eq_zero_iff.1 hn
    exact ⟨[], Cnt.nil⟩
  | n + 1, l, hn, h, h100 => by
    rcases List.eq_nil_or_concat l with rfl | ⟨L, b, rfl⟩
    · cases hn
    · rw [List.concat_eq_append] at hn h h100 ⊢
      rw [Dk.nameN_snoc] at h100
      rw [List.length_append] at hn
      have hn : L.length = n := by simpa using hn
      obtain ⟨es, hc⟩ := cnt_ex n L hn (fun x hx => h x (List.mem_append.2 (.inl hx))) (by omega)
      have hb := h b (List.mem_append.2 (.inr (List.mem_singleton.2 rfl)))
      refine ⟨_, hc.put b hb.1 hb.2 ?_⟩
      by_cases z : Dk.hasS L b.s = true
      · left
        rw [cntN_has] at z
        simpa using z
      · right
        rw [if_neg z] at h100
        rw [hc.len]
        omega
theorem gt_right : errS true ⟨#[62]⟩ = 0 := by decide +kernel
theorem gt_toks : Pl.toks ⟨#[62]⟩ = [⟨#[62]⟩] := by decide +kernel
theorem toks_some (s : ByteArray) : ∃ t ts, Pl.toks s = t :: ts := by
  have h := Pl.toks_data s
  cases hs : Pl.toks s with
  | cons t ts => exact ⟨t, ts, rfl⟩
  | nil =>
    rw [hs] at h
    exact absurd h.symm (Pl.pcs_ne _)
theorem Cnt.found_all {l : List Dk.Rc} {es : List Ent} (h : Cnt l es) : foundL es ⟨#[62]⟩ = es := by
  unfold foundL findL
  rw [if_pos gt_right]
  refine List.filter_eq_self.2 (fun e he => ?_)
  have hs := (h.good.2.2 e he).1
  obtain ⟨t, ts, ht⟩ := toks_some e.1
  unfold matchB
  rw [gt_right, hs, gt_toks, ht]
  simp [coverL, gtB]
end Go.Proofs.YtmccpkpeimejhahGreatDoor
