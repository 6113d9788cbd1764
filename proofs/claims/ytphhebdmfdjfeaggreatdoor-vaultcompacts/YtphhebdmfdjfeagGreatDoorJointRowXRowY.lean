/-
  The program's store in memory: a row of messages, an index of counts, the last number. No walk.
  An append whose run is known, as a step of a region that draws its order.
-/
import Derived.Test.YtphhebdmfdjfeagGreatDoorJointWalkG1rWorksTaPapW
import Derived.Test.YtphhebdmfdjfeagGreatDoorWalkI5
import Derived.Test.YtphhebdmfdjfeagGreatDoorJointRowGRowBRowSRowURowV
import Derived.Test.YtphhebdmfdjfeagGreatDoorJointBase0RowZ
import Derived.Deep.RegionLaw
namespace Go.Proofs.YtphhebdmfdjfeagGreatDoor.Dk
open Go.RowKit

theorem chgE {A : Nat → Prop} {w w' : World} (h : Chg A w w') : Go.Proofs.YtphhebdmfdjfeagGreatDoor.Chg A w w' := ⟨h.os, h.tape, h.output, h.size, h.block⟩
theorem chgD {A : Nat → Prop} {w w' : World} (h : Go.Proofs.YtphhebdmfdjfeagGreatDoor.Chg A w w') : Chg A w w' := ⟨h.os, h.tape, h.output, h.size, h.block⟩
/-- a store at block q: the row v of messages, the row u of counts -/
structure Sho (w : World) (B q : Nat) (v u : Value) (l : List Rc) (es : List Ent) (last : Int) : Prop where
  c0 : w.cell? ⟨q, 0, none⟩ = some v
  c1 : w.cell? ⟨q, 1, none⟩ = some u
  c2 : w.cell? ⟨q, 2, none⟩ = some (.int .i64 last)
  free : ∀ j, w.frozen? ⟨q, j, none⟩ = false
  base : B ≤ q
  lt : q < w.heap.size
  msgs : ArrR w B v l
  cnts : Arr w B u es
  av : v.ownBlock ≠ some q
  au : u.ownBlock ≠ some q
  apart : ∀ g, v.ownBlock = some g → u.ownBlock ≠ some g
def feet (q : Nat) (v u : Value) (k : Nat) : Prop := k = q ∨ v.ownBlock = some k ∨ u.ownBlock = some k
section
variable {w w' : World} {B q : Nat} {v u v' u' : Value} {l l' : List Rc} {es es' : List Ent} {last last' : Int}
theorem Sho.keeps (h : Sho w B q v u l es last) : KeepsO 1 w B q u es := ⟨h.c1, h.free 1, h.base, h.lt, h.cnts, h.au⟩
theorem Sho.own (h : Sho w B q v u l es last) : ∀ k, feet q v u k → B ≤ k ∧ k < w.heap.size := by
  rintro k (rfl | z | z)
  · exact ⟨h.base, h.lt⟩
  · exact h.msgs.lt k z
  · exact h.cnts.lt k z
theorem Sho.chg {A : Nat → Prop} (h : Sho w B q v u l es last) (hc : Chg A w w') (hn : ∀ k, feet q v u k → ¬ A k) : Sho w' B q v u l es last := by
  have hq := hn q (.inl rfl)
  refine ⟨by rw [hc.cell (p := ⟨q, 0, none⟩) h.lt hq]; exact h.c0, by rw [hc.cell (p := ⟨q, 1, none⟩) h.lt hq]; exact h.c1, by rw [hc.cell (p := ⟨q, 2, none⟩) h.lt hq]; exact h.c2, fun j => by rw [hc.frozen (p := ⟨q, j, none⟩) h.lt hq]; exact h.free j, h.base, Nat.lt_of_lt_of_le h.lt hc.size, h.msgs.chg hc (fun g hg => hn g (.inr (.inl hg))), h.cnts.chg (chgE hc) (fun g hg => hn g (.inr (.inr hg))), h.av, h.au, h.apart⟩
theorem Sho.below (h : Sho w B q v u l es last) (hb : Below w.heap.size w w') : Sho w' B q v u l es last := h.chg (A := fun _ => False) (Chg.of_below hb) (fun _ _ z => z)
/-- the counts are changed by a call of the index -/
theorem Sho.upd (h : Sho w B q v u l es last) (hu : UpdO 1 w w' B q u es') : ∃ u', Sho w' B q v u' l es' last ∧ Chg (foot q u) w w' ∧ ∀ g, u'.ownBlock = some g → u.ownBlock = some g ∨ w.heap.size ≤ g := by
  obtain ⟨u', k, hc, hs, ho⟩ := hu
  have hc := chgD hc
  have hf : ∀ g, v.ownBlock = some g → ¬ foot q u g := fun g hg z => by
    rcases z with rfl | z
    · exact h.av hg
    · exact h.apart g hg z
  refine ⟨u', ⟨by rw [hs.cell 0 (by decide)]; exact h.c0, k.cell, by rw [hs.cell 2 (by decide)]; exact h.c2, fun j => by rw [hs.free j]; exact h.free j, h.base, k.lt, h.msgs.chg hc hf, k.arr, h.av, k.apart, fun g hg z => ?_⟩, hc, ho⟩
  rcases ho g z with y | y
  · exact h.apart g hg y
  · have := (h.msgs.lt g hg).2; omega
/-- the new row of messages is stored -/
theorem Sho.store (h : Sho w B q v u l es last) (hc : Chg (fun k => v.ownBlock = some k) w w') (ha : ArrR w' B v' l') (hv : ∀ g, v'.ownBlock = some g → v.ownBlock = some g ∨ w.heap.size ≤ g) :
    Sho (w'.setCell ⟨q, 0, none⟩ v') B q v' u l' es last ∧ Chg (fun k => k = q ∨ v.ownBlock = some k) w (w'.setCell ⟨q, 0, none⟩ v') := by
  have hne : v'.ownBlock ≠ some q := fun e => by
    rcases hv q e with z | z
    · exact h.av z
    · have := h.lt; omega
  have c0 : w'.cell? ⟨q, 0, none⟩ = some v := by rw [hc.cell (p := ⟨q, 0, none⟩) h.lt h.av]; exact h.c0
  have c1 : w'.cell? ⟨q, 1, none⟩ = some u := by rw [hc.cell (p := ⟨q, 1, none⟩) h.lt h.av]; exact h.c1
  have c2 : w'.cell? ⟨q, 2, none⟩ = some (.int .i64 last) := by rw [hc.cell (p := ⟨q, 2, none⟩) h.lt h.av]; exact h.c2
  have cs : Chg (fun k => k = q) w' (w'.setCell ⟨q, 0, none⟩ v') := Chg.setCell (A := fun k => k = q) (p := ⟨q, 0, none⟩) (Chg.refl _ _) (.inl rfl) _
  refine ⟨⟨World.cell?_setCell_same _ _ _ c0, ?_, ?_, fun j => ?_, h.base, ?_, ?_, ?_, hne, h.au, fun g hg z => ?_⟩, ?_⟩
  · rw [World.cell?_setCell_other _ _ _ _ (by simp)]; exact c1
  · rw [World.cell?_setCell_other _ _ _ _ (by simp)]; exact c2
  · rw [World.frozen?_setCell, hc.frozen (p := ⟨q, j, none⟩) h.lt h.av]; exact h.free j
  · have := hc.size; have := h.lt; simp [World.setCell]; omega
  · exact ha.chg cs (fun g hg e => hne (by rw [← e]; exact hg))
  · exact (h.cnts.chg (chgE hc) (fun g hg z => h.apart g z hg)).chg (chgE cs) (fun g hg e => h.au (by rw [← e]; exact hg))
  · rcases hv g hg with y | y
    · exact h.apart g y z
    · have := (h.cnts.lt g z).2; omega
  · exact (hc.mono (fun k _ z => .inr z)).setCell (.inl (.inl rfl)) _
/-- the last number is stored -/
theorem Sho.number (h : Sho w B q v u l es last) (n : Int) : Sho (w.setCell ⟨q, 2, none⟩ (.int .i64 n)) B q v u l es n ∧ Chg (fun k => k = q) w (w.setCell ⟨q, 2, none⟩ (.int .i64 n)) := by
  have cs : Chg (fun k => k = q) w (w.setCell ⟨q, 2, none⟩ (.int .i64 n)) := Chg.setCell (A := fun k => k = q) (p := ⟨q, 2, none⟩) (Chg.refl _ _) (.inl rfl) _
  refine ⟨⟨?_, ?_, World.cell?_setCell_same _ _ _ h.c2, fun j => ?_, h.base, ?_, ?_, ?_, h.av, h.au, h.apart⟩, cs⟩
  · rw [World.cell?_setCell_other _ _ _ _ (by simp)]; exact h.c0
  · rw [World.cell?_setCell_other _ _ _ _ (by simp)]; exact h.c1
  · rw [World.frozen?_setCell]; exact h.free j
  · have := h.lt; simpa [World.setCell] using this
  · exact h.msgs.chg cs (fun g hg e => h.av (by rw [← e]; exact hg))
  · exact h.cnts.chg (chgE cs) (fun g hg e => h.au (by rw [← e]; exact hg))
end
/-- what a call makes of a store: only its own blocks are written -/
def Moves (w w' : World) (B q : Nat) (v u : Value) (l' : List Rc) (es' : List Ent) (last' : Int) : Prop := ∃ v' u', Sho w' B q v' u' l' es' last' ∧ Chg (feet q v u) w w' ∧ ∀ g, feet q v' u' g → feet q v u g ∨ w.heap.size ≤ g
section
variable {w w1 w' : World} {B q : Nat} {v u v1 u1 : Value} {l l1 l' : List Rc} {es es1 es' : List Ent} {last last1 last' : Int}
theorem Moves.same (h : Sho w B q v u l es last) (hb : Below w.heap.size w w') : Moves w w' B q v u l es last := ⟨v, u, h.below hb, Chg.of_below hb, fun _ hg => .inl hg⟩
theorem Moves.seq (c1 : Chg (feet q v u) w w1) (o1 : ∀ g, feet q v1 u1 g → feet q v u g ∨ w.heap.size ≤ g) (m : Moves w1 w' B q v1 u1 l' es' last') : Moves w w' B q v u l' es' last' := by
  obtain ⟨v2, u2, s2, c2, o2⟩ := m
  refine ⟨v2, u2, s2, ?_, fun g hg => ?_⟩
  · refine ⟨c2.os.trans c1.os, c2.tape.trans c1.tape, c2.output.trans c1.output, Nat.le_trans c1.size c2.size, fun k hk hn => ?_⟩
    rw [c2.block k (by have := c1.size; omega) (fun z => ?_)]
    · exact c1.block k hk hn
    · rcases o1 k z with y | y
      · exact hn y
      · omega
  · rcases o2 g hg with y | y
    · exact o1 g y
    · right; have := c1.size; omega
theorem Moves.behind (hb : Below w.heap.size w w1) (a : Moves w1 w' B q v u l' es' last') : Moves w w' B q v u l' es' last' := by
  obtain ⟨v', u', s, c, o⟩ := a
  refine ⟨v', u', s, (Chg.of_below hb).trans c, fun g hg => ?_⟩
  rcases o g hg with y | y
  · exact .inl y
  · right; have := hb.size; omega
theorem Moves.upd (h : Sho w B q v u l es last) (hu : UpdO 1 w w' B q u es') : Moves w w' B q v u l es' last := by
  obtain ⟨u', s, c, o⟩ := h.upd hu
  refine ⟨v, u', s, c.mono (fun k _ z => ?_), fun g hg => ?_⟩
  · rcases z with z | z
    · exact .inl z
    · exact .inr (.inr z)
  · rcases hg with z | z | z
    · exact .inl (.inl z)
    · exact .inl (.inr (.inl z))
    · rcases o g z with y | y
      · exact .inl (.inr (.inr y))
      · exact .inr y
theorem Moves.store {v' : Value} (h : Sho w B q v u l es last) (hc : Chg (fun k => v.ownBlock = some k) w w') (ha : ArrR w' B v' l') (hv : ∀ g, v'.ownBlock = some g → v.ownBlock = some g ∨ w.heap.size ≤ g) : Moves w (w'.setCell ⟨q, 0, none⟩ v') B q v u l' es last := by
  obtain ⟨s, c⟩ := h.store hc ha hv
  refine ⟨v', u, s, c.mono (fun k _ z => ?_), fun g hg => ?_⟩
  · rcases z with z | z
    · exact .inl z
    · exact .inr (.inl z)
  · rcases hg with z | z | z
    · exact .inl (.inl z)
    · rcases hv g z with y | y
      · exact .inl (.inr (.inl y))
      · exact .inr y
    · exact .inl (.inr (.inr z))
theorem Moves.number (h : Sho w B q v u l es last) (n : Int) : Moves w (w.setCell ⟨q, 2, none⟩ (.int .i64 n)) B q v u l es n := by
  obtain ⟨s, c⟩ := h.number n
  exact ⟨v, u, s, c.mono (fun k _ z => .inl z), fun g hg => .inl hg⟩
end
/-- the counts alone are changed -/
def Counts (w w' : World) (B q : Nat) (v u : Value) (l : List Rc) (es' : List Ent) (last : Int) : Prop := ∃ u', Sho w' B q v u' l es' last ∧ Chg (foot q u) w w' ∧ ∀ g, u'.ownBlock = some g → u.ownBlock = some g ∨ w.heap.size ≤ g
section
variable {w w1 w' : World} {B q : Nat} {v u : Value} {l : List Rc} {es es' : List Ent} {last : Int}
theorem Counts.behind (hb : Below w.heap.size w w1) (a : Counts w1 w' B q v u l es' last) : Counts w w' B q v u l es' last := by
  obtain ⟨u', s, c, o⟩ := a
  refine ⟨u', s, (Chg.of_below hb).trans c, fun g hg => ?_⟩
  rcases o g hg with y | y
  · exact .inl y
  · right; have := hb.size; omega
theorem Counts.feet {u' : Value} (c : Chg (foot q u) w w') (o : ∀ g, u'.ownBlock = some g → u.ownBlock = some g ∨ w.heap.size ≤ g) : Chg (feet q v u) w w' ∧ ∀ g, feet q v u' g → feet q v u g ∨ w.heap.size ≤ g := by
  refine ⟨c.mono (fun k _ z => ?_), fun g hg => ?_⟩
  · rcases z with z | z
    · exact .inl z
    · exact .inr (.inr z)
  · rcases hg with z | z | z
    · exact .inl (.inl z)
    · exact .inl (.inr (.inl z))
    · rcases o g z with y | y
      · exact .inl (.inr (.inr y))
      · exact .inr y
theorem Counts.moves (a : Counts w w' B q v u l es' last) : Moves w w' B q v u l es' last := by
  obtain ⟨u', s, c, o⟩ := a
  obtain ⟨h1, h2⟩ := Counts.feet (v := v) c o
  exact ⟨v, u', s, h1, h2⟩
end
/-- the program's store shows s -/
def SHas (w : World) (B q : Nat) (F : Nat → Prop) (s : Sto) : Prop := ∃ v u es, Sho w B q v u s.l es s.last ∧ Cnt s.l es ∧ F = feet q v u
theorem SHas.own {w : World} {B q : Nat} {F : Nat → Prop} {s : Sto} (h : SHas w B q F s) : ∀ k, F k → B ≤ k ∧ k < w.heap.size := by
  obtain ⟨v, u, es, h1, _, rfl⟩ := h
  exact h1.own
theorem SHas.chg {w w' : World} {B q : Nat} {F A : Nat → Prop} {s : Sto} (h : SHas w B q F s) (hc : Chg A w w') (hn : ∀ k, F k → ¬ A k) : SHas w' B q F s := by
  obtain ⟨v, u, es, h1, h2, rfl⟩ := h
  exact ⟨v, u, es, h1.chg hc hn, h2, rfl⟩
theorem SHas.did {w w' : World} {B q : Nat} {v u : Value} {s : Sto} {es : List Ent} (h : Moves w w' B q v u s.l es s.last) (hc : Cnt s.l es) : DidS SHas w w' B q (feet q v u) s := by
  obtain ⟨v', u', s', c, o⟩ := h
  exact ⟨_, ⟨v', u', es, s', hc, rfl⟩, c, o⟩
end Go.Proofs.YtphhebdmfdjfeagGreatDoor.Dk

namespace Go.Proofs.YtphhebdmfdjfeagGreatDoor
open Go.RowKit

/-- an append whose run is known, as one step of a region that draws -/
theorem step_appendX {P : Program} {ops : Array Oper} {o : Oper} {a : Act} {w : World} {K : Act → World → Prop} {Q : Exit → Act → World → Prop} {E : Prop}
    (hg : o.guard = none) (d x : Operand) (dT sT : TypeId) (hop : o.op = Op.call { callee := Callee.builtin Builtin.append, args := #[d, x], argTypes := #[dT, sT] })
    (v u : Value) (hd : a.eval d = v) (hx : a.eval x = u) {v' : Value} {w' : World} (hr : (Builtin.append_ #[dT, sT] o.type #[v, u]).run P w = .ok v' w') (hK : K (a.put o.dst v') w') :
    if Region.wanted o (yielded ops a.tmps) = true then Oper.wp P o a w K Q else E := by
  have hw : Region.wanted o (yielded ops a.tmps) = true := by simp [Region.wanted, hg]
  rw [if_pos hw]
  unfold Oper.wp
  simp [execOp, hop, resolve, invoke, builtin, hd, hx, hr, Result.andThen]
  exact hK
end Go.Proofs.YtphhebdmfdjfeagGreatDoor
