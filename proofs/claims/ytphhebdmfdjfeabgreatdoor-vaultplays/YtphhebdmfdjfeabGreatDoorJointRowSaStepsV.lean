/-
  The document's vault (rillref.Safe) in memory: a drawer, a chest, a size, in a block of its own. No walk.
  Two vaults side by side: the program's and the document's; a record in a box that is none of theirs. No walk.
-/
import Derived.Test.YtphhebdmfdjfeabGreatDoorJointPapVaPapVbWorksVWalkVaWorksVc
import Derived.Test.YtphhebdmfdjfeabGreatDoorJointRowNRowPWalkP1WalkP2WalkP3WalkP4WalkP5
import Derived.Test.YtphhebdmfdjfeabGreatDoorJointRowTWalk3Walk4Walk6aWalkD1
import Derived.Test.YtphhebdmfdjfeabGreatDoorJointRowVaWalkW1WalkW2WalkW3
namespace Go.Proofs.YtphhebdmfdjfeabGreatDoor.Dk
open Go.RowKit

structure Sa (w : World) (B x p c : Nat) (v : Value) (G : Nat → Prop) (m size : Int) (es : List Pap) (s : Sto) : Prop where
  disk : Keeps w B p m v es
  chest : Che w B c G s
  base : B ≤ x
  lt : x < w.heap.size
  c0 : w.cell? ⟨x, 0, none⟩ = some (.pointer (some ⟨p, 0, none⟩))
  c1 : w.cell? ⟨x, 1, none⟩ = some (.pointer (some ⟨c, 0, none⟩))
  c2 : w.cell? ⟨x, 2, none⟩ = some (.int .i64 size)
  free : w.frozen? ⟨x, 1, none⟩ = false
  ap : ∀ k, foot p v k → ¬ G k
  xd : ¬ foot p v x
  xg : ¬ G x
def saF (x p : Nat) (v : Value) (G : Nat → Prop) (k : Nat) : Prop := k = x ∨ foot p v k ∨ G k
theorem Keeps.foot_in {w : World} {B p : Nat} {m : Int} {v : Value} {es : List Pap} (h : Keeps w B p m v es) {k : Nat} (hk : foot p v k) : B ≤ k ∧ k < w.heap.size := by
  rcases hk with rfl | z
  · exact ⟨h.base, h.lt⟩
  · obtain ⟨_, _, _, _, _, ho⟩ := h.arr.shape
    exact (ho k z).2
section
variable {w w1 w' : World} {B x p c : Nat} {v : Value} {G A : Nat → Prop} {m size : Int} {es es' : List Pap} {s s' : Sto}
theorem Sa.own (h : Sa w B x p c v G m size es s) : ∀ k, saF x p v G k → B ≤ k ∧ k < w.heap.size := by
  rintro k (rfl | z | z)
  · exact ⟨h.base, h.lt⟩
  · exact h.disk.foot_in z
  · exact h.chest.own k z
theorem Sa.chg (h : Sa w B x p c v G m size es s) (hc : Chg A w w') (hn : ∀ k, saF x p v G k → ¬ A k) : Sa w' B x p c v G m size es s := by
  have hx := hn x (.inl rfl)
  exact ⟨h.disk.chg hc (fun k hk => hn k (.inr (.inl hk))), h.chest.chg hc (fun k hk => hn k (.inr (.inr hk))), h.base, Nat.lt_of_lt_of_le h.lt hc.size, by rw [hc.cell (p := ⟨x, 0, none⟩) h.lt hx]; exact h.c0, by rw [hc.cell (p := ⟨x, 1, none⟩) h.lt hx]; exact h.c1, by rw [hc.cell (p := ⟨x, 2, none⟩) h.lt hx]; exact h.c2, by rw [hc.frozen (p := ⟨x, 1, none⟩) h.lt hx]; exact h.free, h.ap, h.xd, h.xg⟩
theorem Sa.below (h : Sa w B x p c v G m size es s) (hb : Below w.heap.size w w') : Sa w' B x p c v G m size es s := h.chg (A := fun _ => False) (Chg.of_below hb) (fun _ _ z => z)
/-- the drawer is changed -/
theorem Sa.upd (h : Sa w B x p c v G m size es s) (hu : Upd w w' B p m v es') : ∃ v', Sa w' B x p c v' G m size es' s ∧ Chg (foot p v) w w' ∧ ∀ k, foot p v' k → foot p v k ∨ w.heap.size ≤ k := by
  obtain ⟨v', k1, hc, ho⟩ := hu
  have hg : ∀ k, foot p v' k → foot p v k ∨ w.heap.size ≤ k := fun k hk => by
    rcases hk with z | z
    · exact .inl (.inl z)
    · rcases ho k z with y | y
      · exact .inl (.inr y)
      · exact .inr y
  have hx := h.xd
  refine ⟨v', ⟨k1, h.chest.chg hc (fun k hk z => h.ap k z hk), h.base, Nat.lt_of_lt_of_le h.lt hc.size, by rw [hc.cell (p := ⟨x, 0, none⟩) h.lt hx]; exact h.c0, by rw [hc.cell (p := ⟨x, 1, none⟩) h.lt hx]; exact h.c1, by rw [hc.cell (p := ⟨x, 2, none⟩) h.lt hx]; exact h.c2, by rw [hc.frozen (p := ⟨x, 1, none⟩) h.lt hx]; exact h.free, fun k hk z => ?_, fun z => ?_, h.xg⟩, hc, hg⟩
  · rcases hg k hk with y | y
    · exact h.ap k y z
    · have := (h.chest.own k z).2; omega
  · rcases hg x z with y | y
    · exact h.xd y
    · have := h.lt; omega
/-- the chest is changed -/
theorem Sa.did (h : Sa w B x p c v G m size es s) (hu : DidS Che w w' B c G s') : ∃ G', Sa w' B x p c v G' m size es s' ∧ Chg G w w' ∧ ∀ k, G' k → G k ∨ w.heap.size ≤ k := by
  obtain ⟨G', k1, hc, ho⟩ := hu
  have hx := h.xg
  refine ⟨G', ⟨h.disk.chg hc (fun k hk z => h.ap k hk z), k1, h.base, Nat.lt_of_lt_of_le h.lt hc.size, by rw [hc.cell (p := ⟨x, 0, none⟩) h.lt hx]; exact h.c0, by rw [hc.cell (p := ⟨x, 1, none⟩) h.lt hx]; exact h.c1, by rw [hc.cell (p := ⟨x, 2, none⟩) h.lt hx]; exact h.c2, by rw [hc.frozen (p := ⟨x, 1, none⟩) h.lt hx]; exact h.free, fun k hk z => ?_, h.xd, fun z => ?_⟩, hc, ho⟩
  · rcases ho k z with y | y
    · exact h.ap k hk y
    · have := (h.disk.foot_in hk).2; omega
  · rcases ho x z with y | y
    · exact h.xg y
    · have := h.lt; omega
end
/-- the document's vault on its way from w to wr; F0 are the blocks that were its own at w; the blocks Cs are none of its own -/
def Rn (F0 Cs : Nat → Prop) (w wr : World) (B x p c : Nat) (m size : Int) (es : List Pap) (s : Sto) : Prop :=
  ∃ v G, Sa wr B x p c v G m size es s ∧ Chg F0 w wr ∧ (∀ k, saF x p v G k → F0 k ∨ w.heap.size ≤ k) ∧ ∀ k, Cs k → k < wr.heap.size ∧ ¬ saF x p v G k
section
variable {F0 Cs Cs' : Nat → Prop} {w wr w' : World} {B x p c : Nat} {m size : Int} {es es' : List Pap} {s s' : Sto}
theorem Rn.start {v : Value} {G : Nat → Prop} (h : Sa w B x p c v G m size es s) : Rn (saF x p v G) (fun _ => False) w w B x p c m size es s := ⟨v, G, h, Chg.refl _ _, fun _ z => .inl z, fun _ z => z.elim⟩
theorem Rn.room (h : Rn F0 Cs w wr B x p c m size es s) : w.heap.size ≤ wr.heap.size := by
  obtain ⟨_, _, _, h2, _⟩ := h
  exact h2.size
theorem Rn.cells (h : Rn F0 Cs w wr B x p c m size es s) : wr.cell? ⟨x, 0, none⟩ = some (.pointer (some ⟨p, 0, none⟩)) ∧ wr.cell? ⟨x, 1, none⟩ = some (.pointer (some ⟨c, 0, none⟩)) ∧ wr.cell? ⟨x, 2, none⟩ = some (.int .i64 size) ∧ x < wr.heap.size := by
  obtain ⟨_, _, h1, _⟩ := h
  exact ⟨h1.c0, h1.c1, h1.c2, h1.lt⟩
theorem Rn.mine (h : Rn F0 Cs w wr B x p c m size es s) (hb : Below wr.heap.size wr w') (hn : ∀ k, Cs' k → Cs k ∨ wr.heap.size ≤ k ∧ k < w'.heap.size) : Rn F0 Cs' w w' B x p c m size es s := by
  obtain ⟨v, G, h1, h2, h3, h4⟩ := h
  refine ⟨v, G, h1.below hb, h2.trans (Chg.of_below hb), h3, fun k hk => ?_⟩
  rcases hn k hk with y | y
  · exact ⟨Nat.lt_of_lt_of_le (h4 k y).1 hb.size, (h4 k y).2⟩
  · exact ⟨y.2, fun z => by have := (h1.own k z).2; omega⟩
theorem Rn.below (h : Rn F0 Cs w wr B x p c m size es s) (hb : Below wr.heap.size wr w') : Rn F0 Cs w w' B x p c m size es s := h.mine hb (fun _ z => .inl z)
theorem rn_more {A A' : Nat → Prop} {a b d : World} (h : Chg A a b) (k : Chg A' b d) (hA : ∀ i, i < a.heap.size → A' i → A i) : Chg A a d :=
  ⟨k.os.trans h.os, k.tape.trans h.tape, k.output.trans h.output, Nat.le_trans h.size k.size, fun i hi hn => (k.block i (Nat.lt_of_lt_of_le hi h.size) (fun z => hn (hA i hi z))).trans (h.block i hi hn)⟩
/-- a call on the drawer -/
theorem Rn.upd (h : Rn F0 Cs w wr B x p c m size es s) {fn : FuncId} {args : Array Value} {Q : Ending → World → Prop}
    (hc : ∀ v, Keeps wr B p m v es → Calls Tryz.prog fn args wr fun e w' => Q e w' ∧ Upd wr w' B p m v es') :
    Calls Tryz.prog fn args wr fun e w' => Q e w' ∧ Rn F0 Cs w w' B x p c m size es' s ∧ Stay Cs wr w' := by
  have hr := h.room
  obtain ⟨v, G, h1, h2, h3, h4⟩ := h
  refine (hc v h1.disk).mono ?_
  rintro e w' ⟨hq, hu⟩
  obtain ⟨v', a1, a2, a3⟩ := h1.upd hu
  refine ⟨hq, ⟨v', G, a1, rn_more h2 a2 (fun i hi z => ?_), fun k hk => ?_, fun k hk => ⟨Nat.lt_of_lt_of_le (h4 k hk).1 a2.size, fun z => ?_⟩⟩, a2.size, fun k hk => a2.block k (h4 k hk).1 (fun z => (h4 k hk).2 (.inr (.inl z)))⟩
  · rcases h3 i (.inr (.inl z)) with y | y
    · exact y
    · omega
  · rcases hk with z | z | z
    · exact h3 k (.inl z)
    · rcases a3 k z with y | y
      · exact h3 k (.inr (.inl y))
      · exact .inr (Nat.le_trans hr y)
    · exact h3 k (.inr (.inr z))
  · rcases z with z | z | z
    · exact (h4 k hk).2 (.inl z)
    · rcases a3 k z with y | y
      · exact (h4 k hk).2 (.inr (.inl y))
      · have := (h4 k hk).1; omega
    · exact (h4 k hk).2 (.inr (.inr z))
/-- a call on the chest -/
theorem Rn.did (h : Rn F0 Cs w wr B x p c m size es s) {fn : FuncId} {args : Array Value} {Q : Ending → World → Prop}
    (hc : ∀ G, Che wr B c G s → Calls Tryz.prog fn args wr fun e w' => Q e w' ∧ DidS Che wr w' B c G s') :
    Calls Tryz.prog fn args wr fun e w' => Q e w' ∧ Rn F0 Cs w w' B x p c m size es s' ∧ Stay Cs wr w' := by
  have hr := h.room
  obtain ⟨v, G, h1, h2, h3, h4⟩ := h
  refine (hc G h1.chest).mono ?_
  rintro e w' ⟨hq, hu⟩
  obtain ⟨G', a1, a2, a3⟩ := h1.did hu
  refine ⟨hq, ⟨v, G', a1, rn_more h2 a2 (fun i hi z => ?_), fun k hk => ?_, fun k hk => ⟨Nat.lt_of_lt_of_le (h4 k hk).1 a2.size, fun z => ?_⟩⟩, a2.size, fun k hk => a2.block k (h4 k hk).1 (fun z => (h4 k hk).2 (.inr (.inr z)))⟩
  · rcases h3 i (.inr (.inr z)) with y | y
    · exact y
    · omega
  · rcases hk with z | z | z
    · exact h3 k (.inl z)
    · exact h3 k (.inr (.inl z))
    · rcases a3 k z with y | y
      · exact h3 k (.inr (.inr y))
      · exact .inr (Nat.le_trans hr y)
  · rcases z with z | z | z
    · exact (h4 k hk).2 (.inl z)
    · exact (h4 k hk).2 (.inr (.inl z))
    · rcases a3 k z with y | y
      · exact (h4 k hk).2 (.inr (.inr y))
      · have := (h4 k hk).1; omega
end
/-- the document's vault, as a vault, over the drawer at block p -/
def Saf (p : Nat) (w : World) (B x : Nat) (F : Nat → Prop) (m size : Int) (es : List Pap) (s : Sto) : Prop := ∃ c v G, Sa w B x p c v G m size es s ∧ ∀ k, F k ↔ saF x p v G k
section
variable {w w' : World} {B x p : Nat} {F A : Nat → Prop} {m size : Int} {es : List Pap} {s : Sto}
theorem Saf.begin (h : Saf p w B x F m size es s) : ∃ c, Rn F (fun _ => False) w w B x p c m size es s ∧ ∀ Cs wr c' es' s', Rn F Cs w wr B x p c' m size es' s' → DidV (Saf p) w wr B x F m size es' s' := by
  obtain ⟨c, v, G, h1, h2⟩ := h
  refine ⟨c, ⟨v, G, h1, Chg.refl _ _, fun k z => .inl ((h2 k).2 z), fun _ z => z.elim⟩, fun Cs wr c' es' s' hr => ?_⟩
  obtain ⟨v', G', r1, r2, r3, _⟩ := hr
  exact ⟨_, ⟨c', v', G', r1, fun k => Iff.rfl⟩, r2, r3⟩
theorem Saf.own (h : Saf p w B x F m size es s) : ∀ k, F k → B ≤ k ∧ k < w.heap.size := by
  obtain ⟨c, v, G, h1, h2⟩ := h
  exact fun k hk => h1.own k ((h2 k).1 hk)
theorem Saf.chg (h : Saf p w B x F m size es s) (hc : Chg A w w') (hn : ∀ k, F k → ¬ A k) : Saf p w' B x F m size es s := by
  obtain ⟨c, v, G, h1, h2⟩ := h
  exact ⟨c, v, G, h1.chg hc (fun k hk => hn k ((h2 k).2 hk)), h2⟩
/-- what is seen of it -/
theorem Saf.sees (h : Saf p w B x F m size es s) : ∃ c v G, w.cell? ⟨x, 0, none⟩ = some (.pointer (some ⟨p, 0, none⟩)) ∧ w.cell? ⟨x, 1, none⟩ = some (.pointer (some ⟨c, 0, none⟩)) ∧ x < w.heap.size ∧ Keeps w B p m v es ∧ Che w B c G s := by
  obtain ⟨c, v, G, h1, _⟩ := h
  exact ⟨c, v, G, h1.c0, h1.c1, h1.lt, h1.disk, h1.chest⟩
end
end Go.Proofs.YtphhebdmfdjfeabGreatDoor.Dk

namespace Go.Proofs.YtphhebdmfdjfeabGreatDoor.Dk
open Go.RowKit

/-- the document's vault, as it is looked at -/
abbrev At2d (x d c : Nat) (w : World) : Prop := w.cell? ⟨x, 0, none⟩ = some (.pointer (some ⟨d, 0, none⟩)) ∧ w.cell? ⟨x, 1, none⟩ = some (.pointer (some ⟨c, 0, none⟩))
theorem At2d.below {x d c : Nat} {w w' : World} (h : At2d x d c w) (hx : x < w.heap.size) (hb : Below w.heap.size w w') : At2d x d c w' := ⟨(hb.cell (p := ⟨x, 0, none⟩) hx).trans h.1, (hb.cell (p := ⟨x, 1, none⟩) hx).trans h.2⟩
theorem At2d.blk {x d c : Nat} {w w' : World} (h : At2d x d c w) (hb : w'.heap[x]? = w.heap[x]?) : At2d x d c w' := ⟨(World.cell?_of_block (w := w) (a := ⟨x, 0, none⟩) hb).trans h.1, (World.cell?_of_block (w := w) (a := ⟨x, 1, none⟩) hb).trans h.2⟩
/-- both vaults on their way, behind w: the program's at p shows es, s; the document's at x, over the drawer d, es', s' -/
def PV (VH : World → Nat → Nat → (Nat → Prop) → Int → Int → List Pap → Sto → Prop) (w W : World) (p x d : Nat) (m size : Int) (es : List Pap) (s : Sto) (es' : List Pap) (s' : Sto) : Prop := ∃ F G, VH W w.heap.size p F m size es s ∧ Saf d W w.heap.size x G m size es' s' ∧ (∀ k, F k → ¬ G k) ∧ Below w.heap.size w W
def PVB (VH : World → Nat → Nat → (Nat → Prop) → Int → Int → List Pap → Sto → Prop) (w W : World) (p x d : Nat) (m size : Int) (es : List Pap) (s : Sto) (es' : List Pap) (s' : Sto) (b : Nat) (r : Rc) : Prop := ∃ F G, VH W w.heap.size p F m size es s ∧ Saf d W w.heap.size x G m size es' s' ∧ (∀ k, F k → ¬ G k) ∧ Below w.heap.size w W ∧ RB W b r.k r.q r.t r.s r.h r.d ∧ ¬ F b ∧ ¬ G b
theorem rb_kept {w w' : World} {b : Nat} {k q t : Int} {s h d : ByteArray} {A : Nat → Prop} (r : RB w b k q t s h d) (hc : Chg A w w') (hn : ¬ A b) : RB w' b k q t s h d :=
  ⟨Nat.lt_of_lt_of_le r.lt hc.size, by rw [hc.cell (p := ⟨b, 0, none⟩) r.lt hn]; exact r.c0, by rw [hc.cell (p := ⟨b, 1, none⟩) r.lt hn]; exact r.c1, by rw [hc.cell (p := ⟨b, 2, none⟩) r.lt hn]; exact r.c2, by rw [hc.cell (p := ⟨b, 3, none⟩) r.lt hn]; exact r.c3, by rw [hc.cell (p := ⟨b, 4, none⟩) r.lt hn]; exact r.c4, by rw [hc.cell (p := ⟨b, 5, none⟩) r.lt hn]; exact r.c5, fun j => by rw [hc.frozen (p := ⟨b, j, none⟩) r.lt hn]; exact r.fr j⟩
section
variable {VH : World → Nat → Nat → (Nat → Prop) → Int → Int → List Pap → Sto → Prop} {SH : World → Nat → Nat → (Nat → Prop) → Sto → Prop} {w W W' : World} {p x d b : Nat} {m size : Int} {es es' es1 : List Pap} {s s' s1 : Sto} {r : Rc}
theorem PV.box (V : VWorks VH SH) (h : PV VH w W p x d m size es s es' s') (r : Rc) : PVB VH w (W.alloc (.cells #[.int .i64 r.k, .int .i64 r.q, .int .i64 r.t, .string r.s, .string r.h, .string r.d] 43)) p x d m size es s es' s' W.heap.size r := by
  obtain ⟨F, G, h1, h2, h3, h4⟩ := h
  have hb : Below W.heap.size W (W.alloc (.cells #[.int .i64 r.k, .int .i64 r.q, .int .i64 r.t, .string r.s, .string r.h, .string r.d] 43)) := (Below.refl _ _).alloc (Nat.le_refl _) _
  exact ⟨F, G, V.chg (A := fun _ => False) h1 (Chg.of_below hb) (fun _ _ z => z), h2.chg (A := fun _ => False) (Chg.of_below hb) (fun _ _ z => z), h3, bstep h4 hb, RB.new W _ _ _ _ _ _ _, fun z => by have := (V.own h1 _ z).2; omega, fun z => by have := (h2.own _ z).2; omega⟩
theorem PVB.next (V : VWorks VH SH) (h : PVB VH w W p x d m size es s es' s' b r) (hb : Below W.heap.size W W') : PVB VH w W' p x d m size es s es' s' b r := by
  obtain ⟨F, G, h1, h2, h3, h4, h5, h6, h7⟩ := h
  exact ⟨F, G, V.chg (A := fun _ => False) h1 (Chg.of_below hb) (fun _ _ z => z), h2.chg (A := fun _ => False) (Chg.of_below hb) (fun _ _ z => z), h3, bstep h4 hb, h5.next hb, h6, h7⟩
theorem PVB.pair (h : PVB VH w W p x d m size es s es' s' b r) : PV VH w W p x d m size es s es' s' := by
  obtain ⟨F, G, h1, h2, h3, h4, _⟩ := h
  exact ⟨F, G, h1, h2, h3, h4⟩
theorem PV.bl (h : PV VH w W p x d m size es s es' s') : Below w.heap.size w W := by
  obtain ⟨F, G, h1, h2, h3, h4⟩ := h
  exact h4
theorem PVB.bl (h : PVB VH w W p x d m size es s es' s' b r) : Below w.heap.size w W := h.pair.bl
theorem PVB.rb (h : PVB VH w W p x d m size es s es' s' b r) : RB W b r.k r.q r.t r.s r.h r.d := by
  obtain ⟨F, G, h1, h2, h3, h4, h5, _⟩ := h
  exact h5
/-- what is seen of the document's -/
theorem PVB.seen (h : PVB VH w W p x d m size es s es' s' b r) : ∃ c v G, W.cell? ⟨x, 0, none⟩ = some (.pointer (some ⟨d, 0, none⟩)) ∧ W.cell? ⟨x, 1, none⟩ = some (.pointer (some ⟨c, 0, none⟩)) ∧ x < W.heap.size ∧ Keeps W w.heap.size d m v es' ∧ Che W w.heap.size c G s' := by
  obtain ⟨F, G, h1, h2, _⟩ := h
  exact h2.sees
theorem PVB.at (h : PVB VH w W p x d m size es s es' s' b r) : At7 x 0 d b r W := by
  obtain ⟨c, v, G, h1, _⟩ := h.seen
  exact at7 h.rb h1
theorem PVB.dused (h : PVB VH w W p x d m size es s es' s' b r) (hl : es'.length ≤ 100) (hu : used es' ≤ 1000000000000000000) :
    Calls Tryz.prog 35 #[.pointer (some ⟨d, 0, none⟩)] W fun e w' => e = .returned (.int .i64 (used es' : Int)) ∧ w' = W := by
  obtain ⟨c, v, G, _, _, _, hk, _⟩ := h.seen
  exact used_any w.heap.size d m v es' W hk hl hu
theorem PVB.left (V : VWorks VH SH) (h : PVB VH w W p x d m size es s es' s' b r) {fn : FuncId} {args : Array Value} {Q : Ending → World → Prop}
    (hc : ∀ F, VH W w.heap.size p F m size es s → Calls Tryz.prog fn args W fun e w' => Q e w' ∧ DidV VH W w' w.heap.size p F m size es1 s1) :
    Calls Tryz.prog fn args W fun e w' => Q e w' ∧ PVB VH w w' p x d m size es1 s1 es' s' b r := by
  obtain ⟨F, G, h1, h2, h3, h4, h5, h6, h7⟩ := h
  refine (hc F h1).mono ?_
  rintro e w' ⟨he, F', a1, a2, a3⟩
  refine ⟨he, F', G, a1, h2.chg a2 (fun k hk z => h3 k z hk), fun k hk z => ?_, h4.trans (a2.below h4.size (fun k hk z => by have := (V.own h1 k z).1; omega)), rb_kept h5 a2 h6, fun z => ?_, h7⟩
  · rcases a3 k hk with y | y
    · exact h3 k y z
    · have := (h2.own k z).2; omega
  · rcases a3 b z with y | y
    · exact h6 y
    · have := h5.lt; omega
/-- the same, and the document's block stays -/
theorem PVB.leftk (V : VWorks VH SH) (h : PVB VH w W p x d m size es s es' s' b r) {fn : FuncId} {args : Array Value} {Q : Ending → World → Prop}
    (hc : ∀ F, VH W w.heap.size p F m size es s → Calls Tryz.prog fn args W fun e w' => Q e w' ∧ DidV VH W w' w.heap.size p F m size es1 s1) :
    Calls Tryz.prog fn args W fun e w' => Q e w' ∧ PVB VH w w' p x d m size es1 s1 es' s' b r ∧ w'.heap[x]? = W.heap[x]? := by
  obtain ⟨F, G, h1, h2, h3, h4, h5, h6, h7⟩ := h
  refine (hc F h1).mono ?_
  rintro e w' ⟨he, F', a1, a2, a3⟩
  obtain ⟨c0, v0, G0, q1, q2⟩ := id h2
  have hx : G x := (q2 x).2 (.inl rfl)
  refine ⟨he, ⟨F', G, a1, h2.chg a2 (fun k hk z => h3 k z hk), fun k hk z => ?_, h4.trans (a2.below h4.size (fun k hk z => by have := (V.own h1 k z).1; omega)), rb_kept h5 a2 h6, fun z => ?_, h7⟩, a2.block x (h2.own x hx).2 (fun z => h3 x z hx)⟩
  · rcases a3 k hk with y | y
    · exact h3 k y z
    · have := (h2.own k z).2; omega
  · rcases a3 b z with y | y
    · exact h6 y
    · have := h5.lt; omega
theorem PVB.store (V : VWorks VH SH) (h : PVB VH w W p x d m size es s es' s' b r) (hv : VOk m es s) (hm : m ≤ 65536) (hz : inI size 1 4096 = true) :
    Calls Tryz.prog 40 #[.pointer (some ⟨p, 0, none⟩)] W fun e w' => ∃ q F0, e = .returned (.pointer (some ⟨q, 0, none⟩)) ∧ SH w' w.heap.size q F0 s ∧ PVB VH w w' p x d m size es s es' s' b r ∧ Below W.heap.size W w' := by
  obtain ⟨F, G, h1, _⟩ := id h
  refine (V.store h1 hv hm hz h.bl.size).mono ?_
  rintro e w' ⟨q, F0, he, hs, _, hb⟩
  exact ⟨q, F0, he, hs, h.next V hb, hb⟩
theorem PVB.right (V : VWorks VH SH) (h : PVB VH w W p x d m size es s es' s' b r) {fn : FuncId} {args : Array Value} {Q : Ending → World → Prop}
    (hc : ∀ G, Saf d W w.heap.size x G m size es' s' → Calls Tryz.prog fn args W fun e w' => Q e w' ∧ DidV (Saf d) W w' w.heap.size x G m size es1 s1) :
    Calls Tryz.prog fn args W fun e w' => Q e w' ∧ PVB VH w w' p x d m size es s es1 s1 b r := by
  obtain ⟨F, G, h1, h2, h3, h4, h5, h6, h7⟩ := h
  refine (hc G h2).mono ?_
  rintro e w' ⟨he, G', a1, a2, a3⟩
  refine ⟨he, F, G', V.chg h1 a2 (fun k hk z => h3 k hk z), a1, fun k hk z => ?_, h4.trans (a2.below h4.size (fun k hk z => by have := (h2.own k z).1; omega)), rb_kept h5 a2 h7, h6, fun z => ?_⟩
  · rcases a3 k z with y | y
    · exact h3 k hk y
    · have := (V.own h1 k hk).2; omega
  · rcases a3 b z with y | y
    · exact h7 y
    · have := h5.lt; omega
theorem new_cell (w : World) (cs : Array Value) (T : TypeId) (j : Nat) (v : Value) (hv : cs[j]? = some v) : (w.alloc (.cells cs T)).cell? ⟨w.heap.size, j, none⟩ = some v := (cell_of_row _ w.heap.size j _ _ _ (heap_alloc_new w _)).trans hv
/-- both vaults as they begin -/
theorem PV.begins (V : VWorks VH SH) {F : Nat → Prop} {W1 W2 W3 : World} (h1 : VH W w.heap.size p F m size [] ⟨[], 0⟩) (b1 : Below w.heap.size w W) (e1 : W1 = W.alloc (.cells #[.int .i64 m, .slice none 0 0] 31)) (e2 : W2 = W1.alloc (.cells #[.slice none 0 0, .int .i64 0] 65)) (e3 : W3 = W2.alloc (.cells #[.pointer (some ⟨W.heap.size, 0, none⟩), .pointer (some ⟨W1.heap.size, 0, none⟩), .int .i64 size] 73)) :
    PV VH w W3 p W2.heap.size W.heap.size m size [] ⟨[], 0⟩ [] ⟨[], 0⟩ := by
  have k1 : Below W.heap.size W W1 := by rw [e1]; exact (Below.refl _ _).alloc (Nat.le_refl _) _
  have k2 : Below W1.heap.size W1 W2 := by rw [e2]; exact (Below.refl _ _).alloc (Nat.le_refl _) _
  have k3 : Below W2.heap.size W2 W3 := by rw [e3]; exact (Below.refl _ _).alloc (Nat.le_refl _) _
  have s1 : W1.heap.size = W.heap.size + 1 := by rw [e1]; simp
  have s2 : W2.heap.size = W1.heap.size + 1 := by rw [e2]; simp
  have s3 : W3.heap.size = W2.heap.size + 1 := by rw [e3]; simp
  have d0 : W1.cell? ⟨W.heap.size, 0, none⟩ = some (.int .i64 m) := by rw [e1]; exact new_cell _ _ _ _ _ rfl
  have d1 : W1.cell? ⟨W.heap.size, 1, none⟩ = some (.slice none 0 0) := by rw [e1]; exact new_cell _ _ _ _ _ rfl
  have d2 : W1.frozen? ⟨W.heap.size, 1, none⟩ = false := by rw [e1]; exact World.frozen?_alloc_new _ _ _ _
  have c0 : W2.cell? ⟨W1.heap.size, 0, none⟩ = some (.slice none 0 0) := by rw [e2]; exact new_cell _ _ _ _ _ rfl
  have c1 : W2.cell? ⟨W1.heap.size, 1, none⟩ = some (.int .i64 0) := by rw [e2]; exact new_cell _ _ _ _ _ rfl
  have c2 : ∀ j, W2.frozen? ⟨W1.heap.size, j, none⟩ = false := fun j => by rw [e2]; exact World.frozen?_alloc_new _ _ _ _
  have x0 : W3.cell? ⟨W2.heap.size, 0, none⟩ = some (.pointer (some ⟨W.heap.size, 0, none⟩)) := by rw [e3]; exact new_cell _ _ _ _ _ rfl
  have x1 : W3.cell? ⟨W2.heap.size, 1, none⟩ = some (.pointer (some ⟨W1.heap.size, 0, none⟩)) := by rw [e3]; exact new_cell _ _ _ _ _ rfl
  have x2 : W3.cell? ⟨W2.heap.size, 2, none⟩ = some (.int .i64 size) := by rw [e3]; exact new_cell _ _ _ _ _ rfl
  have x3 : W3.frozen? ⟨W2.heap.size, 1, none⟩ = false := by rw [e3]; exact World.frozen?_alloc_new _ _ _ _
  have hB := b1.size
  have b13 : Below W1.heap.size W1 W3 := k2.trans (k3.mono (by omega))
  have b03 : Below W.heap.size W W3 := k1.trans (b13.mono (by omega))
  have hd : ∀ j, W3.cell? ⟨W.heap.size, j, none⟩ = W1.cell? ⟨W.heap.size, j, none⟩ := fun j => b13.cell (p := ⟨W.heap.size, j, none⟩) (by show W.heap.size < W1.heap.size; omega)
  have hc : ∀ j, W3.cell? ⟨W1.heap.size, j, none⟩ = W2.cell? ⟨W1.heap.size, j, none⟩ := fun j => k3.cell (p := ⟨W1.heap.size, j, none⟩) (by show W1.heap.size < W2.heap.size; omega)
  have hcf : ∀ j, W3.frozen? ⟨W1.heap.size, j, none⟩ = W2.frozen? ⟨W1.heap.size, j, none⟩ := fun j => k3.frozen (p := ⟨W1.heap.size, j, none⟩) (by show W1.heap.size < W2.heap.size; omega)
  have hdf : W3.frozen? ⟨W.heap.size, 1, none⟩ = false := (b13.frozen (p := ⟨W.heap.size, 1, none⟩) (by show W.heap.size < W1.heap.size; omega)).trans d2
  clear e1 e2 e3
  have hdk : Keeps W3 w.heap.size W.heap.size m (.slice none 0 0) [] := ⟨(hd 0).trans d0, (hd 1).trans d1, hdf, hB, by omega, Arr.empty _ _, by simp [Value.ownBlock]⟩
  have hch : Che W3 w.heap.size W1.heap.size (fun k => k = W1.heap.size) ⟨[], 0⟩ := ⟨.slice none 0 0, ⟨by omega, by omega⟩, (hc 0).trans c0, (hc 1).trans c1, (hcf 0).trans (c2 0), (hcf 1).trans (c2 1), ArrR.empty _ _, by simp [Value.ownBlock], fun k => by simp [Value.ownBlock]⟩
  have hft : ∀ k, foot W.heap.size (.slice none 0 0) k → k = W.heap.size := fun k hk => by
    rcases hk with y | y
    · exact y
    · simp [Value.ownBlock] at y
  refine ⟨F, saF W2.heap.size W.heap.size (.slice none 0 0) (fun k => k = W1.heap.size), V.chg (A := fun _ => False) h1 (Chg.of_below b03) (fun _ _ z => z), ⟨W1.heap.size, .slice none 0 0, fun k => k = W1.heap.size, ⟨hdk, hch, by omega, by omega, x0, x1, x2, x3, fun k hk z => ?_, fun z => ?_, fun z => ?_⟩, fun k => Iff.rfl⟩, fun k hk z => ?_, bstep b1 b03⟩
  · have := hft k hk; omega
  · have := hft _ z; omega
  · omega
  · have := (V.own h1 k hk).2
    rcases z with y | y | y
    · omega
    · have := hft _ y; omega
    · omega
end
end Go.Proofs.YtphhebdmfdjfeabGreatDoor.Dk
