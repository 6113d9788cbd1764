/-
  The program's store in memory: a row of messages, an index of counts, the last number. No walk.
  The program's store: where a number is (cmp.Compare at numbers, slices.BinarySearchFunc at records, place).
  The program's store: copies of records, counts of subjects, what a filter takes.
  A store's counts: there is such an index; each message's subject is right. No walk.
  The program's store: Try.
-/
import Derived.Test.YtmccpkpeimejhagGreatDoorJointPlainIPapCPapEPapWRowE
import Derived.Test.YtmccpkpeimejhagGreatDoorJointWalkI1WalkI2WalkI3WalkI4WalkI5
import Derived.Test.YtmccpkpeimejhagGreatDoorJointPapTPapVaRowVWorksVOvR
import Derived.Test.YtmccpkpeimejhagGreatDoorJointPlainR2PapGRowGPapNWorksG
import Derived.Test.YtmccpkpeimejhagGreatDoorJointWalkClWalkN4WalkC5WalkC6WalkC7
import Derived.Test.YtmccpkpeimejhagGreatDoorJointPapPcPapPeWalkY1Walk5aWalk5
import Derived.Test.YtmccpkpeimejhagGreatDoorJointWalkN3RowBWalkC1WalkC2WalkC3
namespace Go.Proofs.YtmccpkpeimejhagGreatDoor.Dk
open Go.RowKit

theorem chgE {A : Nat → Prop} {w w' : World} (h : Chg A w w') : Go.Proofs.YtmccpkpeimejhagGreatDoor.Chg A w w' := ⟨h.os, h.tape, h.output, h.size, h.block⟩
theorem chgD {A : Nat → Prop} {w w' : World} (h : Go.Proofs.YtmccpkpeimejhagGreatDoor.Chg A w w') : Chg A w w' := ⟨h.os, h.tape, h.output, h.size, h.block⟩
/-- a store at block q: the row v of messages, the row u of counts -/
structure Sho (w : World) (B q : Nat) (v u : Value) (l : List Rc) (es : List Ent) (last : Int) : Prop where
  c0 : w.cell? ⟨q, 0, none⟩ = some v
  c1 : w.cell? ⟨q, 1, none⟩ = some u
  c2 : w.cell? ⟨q, 2, none⟩ = some (.int .i64 last)
  free : ∀ j, w.frozen? ⟨q, j, none⟩ = false
  base : B ≤ q
  lt : q < w.heap.size
  msgs : ArrR w B v l
  cnts : Arr w B u es
  av : v.ownBlock ≠ some q
  au : u.ownBlock ≠ some q
  apart : ∀ g, v.ownBlock = some g → u.ownBlock ≠ some g
def feet (q : Nat) (v u : Value) (k : Nat) : Prop := k = q ∨ v.ownBlock = some k ∨ u.ownBlock = some k
section
variable {w w' : World} {B q : Nat} {v u v' u' : Value} {l l' : List Rc} {es es' : List Ent} {last last' : Int}
theorem Sho.keeps (h : Sho w B q v u l es last) : KeepsO 1 w B q u es := ⟨h.c1, h.free 1, h.base, h.lt, h.cnts, h.au⟩
theorem Sho.own (h : Sho w B q v u l es last) : ∀ k, feet q v u k → B ≤ k ∧ k < w.heap.size := by
  rintro k (rfl | z | z)
  · exact ⟨h.base, h.lt⟩
  · exact h.msgs.lt k z
  · exact h.cnts.lt k z
theorem Sho.chg {A : Nat → Prop} (h : Sho w B q v u l es last) (hc : Chg A w w') (hn : ∀ k, feet q v u k → ¬ A k) : Sho w' B q v u l es last := by
  have hq := hn q (.inl rfl)
  refine ⟨by rw [hc.cell (p := ⟨q, 0, none⟩) h.lt hq]; exact h.c0, by rw [hc.cell (p := ⟨q, 1, none⟩) h.lt hq]; exact h.c1, by rw [hc.cell (p := ⟨q, 2, none⟩) h.lt hq]; exact h.c2, fun j => by rw [hc.frozen (p := ⟨q, j, none⟩) h.lt hq]; exact h.free j, h.base, Nat.lt_of_lt_of_le h.lt hc.size, h.msgs.chg hc (fun g hg => hn g (.inr (.inl hg))), h.cnts.chg (chgE hc) (fun g hg => hn g (.inr (.inr hg))), h.av, h.au, h.apart⟩
theorem Sho.below (h : Sho w B q v u l es last) (hb : Below w.heap.size w w') : Sho w' B q v u l es last := h.chg (A := fun _ => False) (Chg.of_below hb) (fun _ _ z => z)
/-- the counts are changed by a call of the index -/
theorem Sho.upd (h : Sho w B q v u l es last) (hu : UpdO 1 w w' B q u es') : ∃ u', Sho w' B q v u' l es' last ∧ Chg (foot q u) w w' ∧ ∀ g, u'.ownBlock = some g → u.ownBlock = some g ∨ w.heap.size ≤ g := by
  obtain ⟨u', k, hc, hs, ho⟩ := hu
  have hc := chgD hc
  have hf : ∀ g, v.ownBlock = some g → ¬ foot q u g := fun g hg z => by
    rcases z with rfl | z
    · exact h.av hg
    · exact h.apart g hg z
  refine ⟨u', ⟨by rw [hs.cell 0 (by decide)]; exact h.c0, k.cell, by rw [hs.cell 2 (by decide)]; exact h.c2, fun j => by rw [hs.free j]; exact h.free j, h.base, k.lt, h.msgs.chg hc hf, k.arr, h.av, k.apart, fun g hg z => ?_⟩, hc, ho⟩
  rcases ho g z with y | y
  · exact h.apart g hg y
  · have := (h.msgs.lt g hg).2; omega
/-- the new row of messages is stored -/
theorem Sho.store (h : Sho w B q v u l es last) (hc : Chg (fun k => v.ownBlock = some k) w w') (ha : ArrR w' B v' l') (hv : ∀ g, v'.ownBlock = some g → v.ownBlock = some g ∨ w.heap.size ≤ g) :
    Sho (w'.setCell ⟨q, 0, none⟩ v') B q v' u l' es last ∧ Chg (fun k => k = q ∨ v.ownBlock = some k) w (w'.setCell ⟨q, 0, none⟩ v') := by
  have hne : v'.ownBlock ≠ some q := fun e => by
    rcases hv q e with z | z
    · exact h.av z
    · have := h.lt; omega
  have c0 : w'.cell? ⟨q, 0, none⟩ = some v := by rw [hc.cell (p := ⟨q, 0, none⟩) h.lt h.av]; exact h.c0
  have c1 : w'.cell? ⟨q, 1, none⟩ = some u := by rw [hc.cell (p := ⟨q, 1, none⟩) h.lt h.av]; exact h.c1
  have c2 : w'.cell? ⟨q, 2, none⟩ = some (.int .i64 last) := by rw [hc.cell (p := ⟨q, 2, none⟩) h.lt h.av]; exact h.c2
  have cs : Chg (fun k => k = q) w' (w'.setCell ⟨q, 0, none⟩ v') := Chg.setCell (A := fun k => k = q) (p := ⟨q, 0, none⟩) (Chg.refl _ _) (.inl rfl) _
  refine ⟨⟨World.cell?_setCell_same _ _ _ c0, ?_, ?_, fun j => ?_, h.base, ?_, ?_, ?_, hne, h.au, fun g hg z => ?_⟩, ?_⟩
  · rw [World.cell?_setCell_other _ _ _ _ (by simp)]; exact c1
  · rw [World.cell?_setCell_other _ _ _ _ (by simp)]; exact c2
  · rw [World.frozen?_setCell, hc.frozen (p := ⟨q, j, none⟩) h.lt h.av]; exact h.free j
  · have := hc.size; have := h.lt; simp [World.setCell]; omega
  · exact ha.chg cs (fun g hg e => hne (by rw [← e]; exact hg))
  · exact (h.cnts.chg (chgE hc) (fun g hg z => h.apart g z hg)).chg (chgE cs) (fun g hg e => h.au (by rw [← e]; exact hg))
  · rcases hv g hg with y | y
    · exact h.apart g y z
    · have := (h.cnts.lt g z).2; omega
  · exact (hc.mono (fun k _ z => .inr z)).setCell (.inl (.inl rfl)) _
/-- the last number is stored -/
theorem Sho.number (h : Sho w B q v u l es last) (n : Int) : Sho (w.setCell ⟨q, 2, none⟩ (.int .i64 n)) B q v u l es n ∧ Chg (fun k => k = q) w (w.setCell ⟨q, 2, none⟩ (.int .i64 n)) := by
  have cs : Chg (fun k => k = q) w (w.setCell ⟨q, 2, none⟩ (.int .i64 n)) := Chg.setCell (A := fun k => k = q) (p := ⟨q, 2, none⟩) (Chg.refl _ _) (.inl rfl) _
  refine ⟨⟨?_, ?_, World.cell?_setCell_same _ _ _ h.c2, fun j => ?_, h.base, ?_, ?_, ?_, h.av, h.au, h.apart⟩, cs⟩
  · rw [World.cell?_setCell_other _ _ _ _ (by simp)]; exact h.c0
  · rw [World.cell?_setCell_other _ _ _ _ (by simp)]; exact h.c1
  · rw [World.frozen?_setCell]; exact h.free j
  · have := h.lt; simpa [World.setCell] using this
  · exact h.msgs.chg cs (fun g hg e => h.av (by rw [← e]; exact hg))
  · exact h.cnts.chg (chgE cs) (fun g hg e => h.au (by rw [← e]; exact hg))
end
/-- what a call makes of a store: only its own blocks are written -/
def Moves (w w' : World) (B q : Nat) (v u : Value) (l' : List Rc) (es' : List Ent) (last' : Int) : Prop := ∃ v' u', Sho w' B q v' u' l' es' last' ∧ Chg (feet q v u) w w' ∧ ∀ g, feet q v' u' g → feet q v u g ∨ w.heap.size ≤ g
section
variable {w w1 w' : World} {B q : Nat} {v u v1 u1 : Value} {l l1 l' : List Rc} {es es1 es' : List Ent} {last last1 last' : Int}
theorem Moves.same (h : Sho w B q v u l es last) (hb : Below w.heap.size w w') : Moves w w' B q v u l es last := ⟨v, u, h.below hb, Chg.of_below hb, fun _ hg => .inl hg⟩
theorem Moves.seq (c1 : Chg (feet q v u) w w1) (o1 : ∀ g, feet q v1 u1 g → feet q v u g ∨ w.heap.size ≤ g) (m : Moves w1 w' B q v1 u1 l' es' last') : Moves w w' B q v u l' es' last' := by
  obtain ⟨v2, u2, s2, c2, o2⟩ := m
  refine ⟨v2, u2, s2, ?_, fun g hg => ?_⟩
  · refine ⟨c2.os.trans c1.os, c2.tape.trans c1.tape, c2.output.trans c1.output, Nat.le_trans c1.size c2.size, fun k hk hn => ?_⟩
    rw [c2.block k (by have := c1.size; omega) (fun z => ?_)]
    · exact c1.block k hk hn
    · rcases o1 k z with y | y
      · exact hn y
      · omega
  · rcases o2 g hg with y | y
    · exact o1 g y
    · right; have := c1.size; omega
theorem Moves.behind (hb : Below w.heap.size w w1) (a : Moves w1 w' B q v u l' es' last') : Moves w w' B q v u l' es' last' := by
  obtain ⟨v', u', s, c, o⟩ := a
  refine ⟨v', u', s, (Chg.of_below hb).trans c, fun g hg => ?_⟩
  rcases o g hg with y | y
  · exact .inl y
  · right; have := hb.size; omega
theorem Moves.upd (h : Sho w B q v u l es last) (hu : UpdO 1 w w' B q u es') : Moves w w' B q v u l es' last := by
  obtain ⟨u', s, c, o⟩ := h.upd hu
  refine ⟨v, u', s, c.mono (fun k _ z => ?_), fun g hg => ?_⟩
  · rcases z with z | z
    · exact .inl z
    · exact .inr (.inr z)
  · rcases hg with z | z | z
    · exact .inl (.inl z)
    · exact .inl (.inr (.inl z))
    · rcases o g z with y | y
      · exact .inl (.inr (.inr y))
      · exact .inr y
theorem Moves.store {v' : Value} (h : Sho w B q v u l es last) (hc : Chg (fun k => v.ownBlock = some k) w w') (ha : ArrR w' B v' l') (hv : ∀ g, v'.ownBlock = some g → v.ownBlock = some g ∨ w.heap.size ≤ g) : Moves w (w'.setCell ⟨q, 0, none⟩ v') B q v u l' es last := by
  obtain ⟨s, c⟩ := h.store hc ha hv
  refine ⟨v', u, s, c.mono (fun k _ z => ?_), fun g hg => ?_⟩
  · rcases z with z | z
    · exact .inl z
    · exact .inr (.inl z)
  · rcases hg with z | z | z
    · exact .inl (.inl z)
    · rcases hv g z with y | y
      · exact .inl (.inr (.inl y))
      · exact .inr y
    · exact .inl (.inr (.inr z))
theorem Moves.number (h : Sho w B q v u l es last) (n : Int) : Moves w (w.setCell ⟨q, 2, none⟩ (.int .i64 n)) B q v u l es n := by
  obtain ⟨s, c⟩ := h.number n
  exact ⟨v, u, s, c.mono (fun k _ z => .inl z), fun g hg => .inl hg⟩
end
/-- the counts alone are changed -/
def Counts (w w' : World) (B q : Nat) (v u : Value) (l : List Rc) (es' : List Ent) (last : Int) : Prop := ∃ u', Sho w' B q v u' l es' last ∧ Chg (foot q u) w w' ∧ ∀ g, u'.ownBlock = some g → u.ownBlock = some g ∨ w.heap.size ≤ g
section
variable {w w1 w' : World} {B q : Nat} {v u : Value} {l : List Rc} {es es' : List Ent} {last : Int}
theorem Counts.behind (hb : Below w.heap.size w w1) (a : Counts w1 w' B q v u l es' last) : Counts w w' B q v u l es' last := by
  obtain ⟨u', s, c, o⟩ := a
  refine ⟨u', s, (Chg.of_below hb).trans c, fun g hg => ?_⟩
  rcases o g hg with y | y
  · exact .inl y
  · right; have := hb.size; omega
theorem Counts.feet {u' : Value} (c : Chg (foot q u) w w') (o : ∀ g, u'.ownBlock = some g → u.ownBlock = some g ∨ w.heap.size ≤ g) : Chg (feet q v u) w w' ∧ ∀ g, feet q v u' g → feet q v u g ∨ w.heap.size ≤ g := by
  refine ⟨c.mono (fun k _ z => ?_), fun g hg => ?_⟩
  · rcases z with z | z
    · exact .inl z
    · exact .inr (.inr z)
  · rcases hg with z | z | z
    · exact .inl (.inl z)
    · exact .inl (.inr (.inl z))
    · rcases o g z with y | y
      · exact .inl (.inr (.inr y))
      · exact .inr y
theorem Counts.moves (a : Counts w w' B q v u l es' last) : Moves w w' B q v u l es' last := by
  obtain ⟨u', s, c, o⟩ := a
  obtain ⟨h1, h2⟩ := Counts.feet (v := v) c o
  exact ⟨v, u', s, h1, h2⟩
end
/-- the program's store shows s -/
def SHas (w : World) (B q : Nat) (F : Nat → Prop) (s : Sto) : Prop := ∃ v u es, Sho w B q v u s.l es s.last ∧ Cnt s.l es ∧ F = feet q v u
theorem SHas.own {w : World} {B q : Nat} {F : Nat → Prop} {s : Sto} (h : SHas w B q F s) : ∀ k, F k → B ≤ k ∧ k < w.heap.size := by
  obtain ⟨v, u, es, h1, _, rfl⟩ := h
  exact h1.own
theorem SHas.chg {w w' : World} {B q : Nat} {F A : Nat → Prop} {s : Sto} (h : SHas w B q F s) (hc : Chg A w w') (hn : ∀ k, F k → ¬ A k) : SHas w' B q F s := by
  obtain ⟨v, u, es, h1, h2, rfl⟩ := h
  exact ⟨v, u, es, h1.chg hc hn, h2, rfl⟩
theorem SHas.did {w w' : World} {B q : Nat} {v u : Value} {s : Sto} {es : List Ent} (h : Moves w w' B q v u s.l es s.last) (hc : Cnt s.l es) : DidS SHas w w' B q (feet q v u) s := by
  obtain ⟨v', u', s', c, o⟩ := h
  exact ⟨_, ⟨v', u', es, s', hc, rfl⟩, c, o⟩
end Go.Proofs.YtmccpkpeimejhagGreatDoor.Dk

namespace Go.Proofs.YtmccpkpeimejhagGreatDoor.Dk
open Go.RowKit

set_option maxHeartbeats 400000 in
theorem nanI_any (x : Int) (w : World) :
    Calls Tryz.prog 142 #[.int .i64 x] w fun e w' => e = .returned (.bool false) ∧ w' = w := by
  go_enter Tryz.func142, Tryz.ntmps142
  go_wp2
  go_ret
  exact ⟨ret_bool (by simp), rfl⟩
def cmpI (x y : Int) : Int := if x < y then -1 else if y < x then 1 else 0
set_option maxHeartbeats 400000 in
theorem cmpI_any (x y : Int) (w : World) :
    Calls Tryz.prog 118 #[.int .i64 x, .int .i64 y] w fun e w' => e = .returned (.int .i64 (cmpI x y)) ∧ w' = w := by
  by_cases h1 : x < y
  · have Hr := hide (show cmpI x y = -1 from if_pos h1)
    go_enter Tryz.func118, Tryz.ntmps118
    go_wp2_with (first | (go_at_call 142; refine (nanI_any _ _).mono ?_; rintro e w' ⟨rfl, rfl⟩))
    go_ret
    exact ⟨ret_eq (unhide Hr), rfl⟩
  · by_cases h2 : y < x
    · have Hr := hide (show cmpI x y = 1 by unfold cmpI; rw [if_neg h1, if_pos h2])
      go_enter Tryz.func118, Tryz.ntmps118
      go_wp2_with (first | (go_at_call 142; refine (nanI_any _ _).mono ?_; rintro e w' ⟨rfl, rfl⟩))
      go_ret
      exact ⟨ret_eq (unhide Hr), rfl⟩
    · have Hr := hide (show cmpI x y = 0 by unfold cmpI; rw [if_neg h1, if_neg h2])
      go_enter Tryz.func118, Tryz.ntmps118
      go_wp2_with (first | (go_at_call 142; refine (nanI_any _ _).mono ?_; rintro e w' ⟨rfl, rfl⟩))
      go_ret
      exact ⟨ret_eq (unhide Hr), rfl⟩

set_option maxHeartbeats 400000 in
theorem place1_any (r : Rc) (n : Int) (w : World) :
    Calls Tryz.prog 117 #[.agg #[.int .i64 r.k, .int .i64 r.q, .int .i64 r.t, .string r.s, .string r.h, .string r.d], .int .i64 n] w fun e w' => e = .returned (.int .i64 (cmpI r.q n)) ∧ Below w.heap.size w w' := by
  go_enter Tryz.func117, Tryz.ntmps117
  go_wp2_with fail
  refine (cmpI_any _ n _).mono ?_
  rintro e w1 ⟨rfl, rfl⟩
  go_wp2_with fail
  go_ret
  exact ⟨rfl, (Below.refl _ _).alloc (Nat.le_refl _) _⟩
theorem cmpI_lt (x y : Int) : cmpI x y < 0 ↔ x < y := by
  unfold cmpI
  split
  · omega
  · split <;> omega
theorem cmpI_eq (x y : Int) : cmpI x y = 0 ↔ x = y := by
  unfold cmpI
  split
  · omega
  · split <;> omega

set_option maxHeartbeats 2000000 in
theorem searchR_any (a : Option Addr) (cap : Nat) (l : List Rc) (n : Int) (w : World) (hsl : SlR w a l) (hord : RiseQ l) (h200 : l.length ≤ 200) :
    Calls Tryz.prog 116 #[.slice a l.length cap, .int .i64 n, .func (.func 117) #[] #[]] w fun e w' => e = .returned (.tuple #[.int .i64 (pq l n), .bool (seqB l n)]) ∧ Below w.heap.size w w' := by
  have Hord := hide hord
  clear hord
  go_enter Tryz.func116, Tryz.ntmps116
  go_wp2
  go_loopw [9, 10] (fun iv jv wr => ∃ (i j : Nat), iv = .int .i64 i ∧ jv = .int .i64 j ∧ i ≤ j ∧ j ≤ l.length ∧ Hid (∀ k, k < i → (rc l k).q < n) ∧ Hid (∀ k, j ≤ k → k < l.length → n ≤ (rc l k).q) ∧ Hid (SlR wr a l) ∧ Below w.heap.size w wr) (fun iv jv _ => (intOf jv).toNat - (intOf iv).toNat)
  case atStart => exact ⟨0, l.length, rfl, rfl, Nat.zero_le _, Nat.le_refl _, hide (fun k hk => absurd hk (Nat.not_lt_zero k)), hide (fun k h1 h2 => by omega), hide hsl, Below.refl _ _⟩
  case round =>
    obtain ⟨i, j, rfl, rfl, hij, hj, hlo, hhi, hsl2, hb⟩ := hrel
    by_cases hlt : i < j
    · obtain ⟨h, hh⟩ : ∃ h : Nat, h = (i + j) / 2 := ⟨_, rfl⟩
      have hh1 : i ≤ h ∧ h < j := by omega
      obtain ⟨g, o, rfl, s6⟩ := unhide hsl2 h (by omega)
      have hmid : ((i : Int) + (j : Int)) / 2 = (h : Int) := by omega
      clear hh
      have H := hide (place1_any (rc l h) n wr)
      obtain ⟨_, x0, x1, x2, x3, x4, x5⟩ := s6
      by_cases he : (rc l h).q < n
      · have hz : cmpI (rc l h).q n < 0 := (cmpI_lt _ _).2 he
        have He := hide he
        clear he
        go_wp2_with fail
        refine (unhide H).mono ?_
        rintro e w1 ⟨rfl, hb1⟩
        clear x0 x1 x2 x3 x4 x5
        go_wp2_with fail
        refine ⟨⟨h + 1, j, by go_num, rfl, by omega, hj, hide (fun k hk => ?_), hhi, hide ((unhide hsl2).below hb1), bstep hb hb1⟩, ?_⟩
        · rcases Nat.lt_succ_iff_lt_or_eq.1 hk with q | q
          · have := rise_lt (unhide Hord) q (by omega); have := unhide He; omega
          · rw [q]; exact unhide He
        · simp [intOf]; omega
      · have hz : ¬ cmpI (rc l h).q n < 0 := fun z => he ((cmpI_lt _ _).1 z)
        have He := hide he
        clear he
        go_wp2_with fail
        refine (unhide H).mono ?_
        rintro e w1 ⟨rfl, hb1⟩
        clear x0 x1 x2 x3 x4 x5
        go_wp2_with fail
        refine ⟨⟨i, h, rfl, rfl, by omega, by omega, hlo, hide (fun k hk hk2 => ?_), hide ((unhide hsl2).below hb1), bstep hb hb1⟩, ?_⟩
        · have := unhide He
          rcases Nat.eq_or_lt_of_le hk with q | q
          · rw [← q]; omega
          · have := rise_lt (unhide Hord) q hk2; omega
        · simp [intOf]; omega
    · obtain rfl : i = j := by omega
      have hpl := pq_is (n := n) hj (unhide hlo) (unhide hhi)
      by_cases hl : i < l.length
      · obtain ⟨g, o, rfl, s6⟩ := unhide hsl2 i (by omega)
        have H := hide (place1_any (rc l i) n wr)
        obtain ⟨_, x0, x1, x2, x3, x4, x5⟩ := s6
        have hha := seq_miss (unhide Hord) (n := n) (by rw [← hpl]; exact hl)
        rw [← hpl] at hha
        have Hha := hide hha
        have Hpl := hide hpl
        clear hpl hha
        go_wp2_with fail
        refine (unhide H).mono ?_
        rintro e w1 ⟨rfl, hb1⟩
        clear x0 x1 x2 x3 x4 x5
        go_wp2_with fail
        go_ret2
        refine ⟨ret_tib ?_ ?_, bstep hb hb1⟩
        · rw [← unhide Hpl]
        · rw [unhide Hha]
          by_cases z : (rc l i).q = n
          · rw [decide_eq_true z, (cmpI_eq _ _).2 z]; rfl
          · have : ¬ cmpI (rc l i).q n = 0 := fun y => z ((cmpI_eq _ _).1 y)
            rw [decide_eq_false z]
            simp [this]
      · have Hpl := hide hpl
        have Hs := hide (seq_end (unhide Hord) (n := n) (by rw [← hpl]; exact hl))
        clear hpl
        go_wp2_with fail
        go_ret2
        refine ⟨ret_tib ?_ ?_, hb⟩
        · rw [← unhide Hpl]
        · exact unhide Hs

set_option maxHeartbeats 400000 in
theorem splace_any {w : World} {B q : Nat} {v u : Value} {l : List Rc} {es : List Ent} {last : Int} (n : Int) (h : Sho w B q v u l es last) (hr : RiseQ l) (h200 : l.length ≤ 200) :
    Calls Tryz.prog 88 #[.pointer (some ⟨q, 0, none⟩), .int .i64 n] w fun e w' => e = .returned (.tuple #[.int .i64 (pq l n), .bool (seqB l n)]) ∧ Below w.heap.size w w' := by
  obtain ⟨a, cap, rfl, _, _, hsl⟩ := h.msgs.shape
  have hc := h.c0
  go_enter Tryz.func88, Tryz.ntmps88
  go_wp2_with fail
  refine (searchR_any a cap l n _ hsl hr h200).mono ?_
  rintro e w1 ⟨rfl, hb⟩
  go_wp2_with fail
  go_ret2
  exact ⟨rfl, hb⟩
end Go.Proofs.YtmccpkpeimejhagGreatDoor.Dk

namespace Go.Proofs.YtmccpkpeimejhagGreatDoor.Dk
open Go.RowKit

/-- a record in a block that may be written -/
structure RF (w : World) (b : Nat) (r : Rc) : Prop where
  rb : RB w b r.k r.q r.t r.s r.h r.d
  fz : ∀ j, w.frozen? ⟨b, j, none⟩ = false
theorem RF.next {w w' : World} {b : Nat} {r : Rc} (h : RF w b r) (hb : Below w.heap.size w w') : RF w' b r := ⟨h.rb.next hb, fun j => (hb.frozen (p := ⟨b, j, none⟩) h.rb.lt).trans (h.fz j)⟩
theorem RF.new (w : World) (r : Rc) : RF (w.alloc (.cells #[.int .i64 r.k, .int .i64 r.q, .int .i64 r.t, .string r.s, .string r.h, .string r.d] 30)) w.heap.size r := ⟨RB.new w _ _ _ _ _ _ _, fun j => by simp⟩
theorem RF.set {w : World} {b : Nat} {r r' : Rc} (h : RF w b r) (p : Addr) (v : Value) (e : RB (w.setCell p v) b r'.k r'.q r'.t r'.s r'.h r'.d) : RF (w.setCell p v) b r' := ⟨e, fun j => by rw [World.frozen?_setCell]; exact h.fz j⟩
theorem RF.other {w : World} {b c i : Nat} {r : Rc} {v : Value} (h : RF w b r) (hc : c ≠ b) : RF (w.setCell ⟨c, i, none⟩ v) b r := ⟨h.rb.other hc, fun j => by rw [World.frozen?_setCell]; exact h.fz j⟩
theorem results_recX {fn : Func} {a : Tmp} {tmps : Array Value} {w : World} {b : Nat} {k q t : Int} {s h d : ByteArray} (hf : fn.results = #[.cell a 30]) (ha : tmps.getD a undef = .pointer (some ⟨b, 0, none⟩)) (r : RB w b k q t s h d) :
    (results fn tmps).run Tryz.prog w = .ok (.agg #[.int .i64 k, .int .i64 q, .int .i64 t, .string s, .string h, .string d]) w := by
  have ha' : tmps[a]?.getD undef = .pointer (some ⟨b, 0, none⟩) := by simpa using ha
  simp [results, hf, ha', asAddr, load_rec r]

set_option maxHeartbeats 1000000 in
theorem copyR_any (r : Rc) (hr : Small r) (w : World) :
    Calls Tryz.prog 29 #[.agg #[.int .i64 r.k, .int .i64 r.q, .int .i64 r.t, .string r.s, .string r.h, .string r.d]] w fun e w' => e = .returned (.agg #[.int .i64 r.k, .int .i64 r.q, .int .i64 r.t, .string r.s, .string r.h, .string r.d]) ∧ Below w.heap.size w w' := by
  obtain ⟨W, hW⟩ : ∃ W, W = (w.alloc (.cells #[.int .i64 r.k, .int .i64 r.q, .int .i64 r.t, .string r.s, .string r.h, .string r.d] 30)).alloc (.cells #[.int .i64 0, .int .i64 0, .int .i64 0, .string ⟨#[]⟩, .string ⟨#[]⟩, .string ⟨#[]⟩] 30) := ⟨_, rfl⟩
  have hb : Below w.heap.size w W := by rw [hW]; exact ((Below.refl _ _).alloc (Nat.le_refl _) _).alloc (by simp) _
  have P0 : RF W w.heap.size r := by rw [hW]; exact (RF.new w r).next ((Below.refl _ _).alloc (Nat.le_refl _) _)
  have Z0 : RF W (w.heap.size + 1) zeroR := by
    have := RF.new (w.alloc (.cells #[.int .i64 r.k, .int .i64 r.q, .int .i64 r.t, .string r.s, .string r.h, .string r.d] 30)) zeroR
    rw [World.size_alloc] at this
    rw [hW]; exact this
  have C1 := hide (clone_any r.s W (by have := hr.s; omega))
  have C2 : Hid (∀ X, Calls Tryz.prog 58 #[.string r.h] X fun e w' => e = .returned (.string r.h) ∧ Below X.heap.size X w') := hide (fun X => clone_any r.h X (by have := hr.h; omega))
  have C3 : Hid (∀ X, Calls Tryz.prog 58 #[.string r.d] X fun e w' => e = .returned (.string r.d) ∧ Below X.heap.size X w') := hide (fun X => clone_any r.d X (by have := hr.d; omega))
  go_enter Tryz.func29, Tryz.ntmps29
  go_wp2_with fail
  rw [← hW]
  have HB0 := hide hb
  have HZ0 := hide Z0
  have HP0 := hide P0
  clear hW hb Z0 P0
  refine (unhide C1).mono ?_
  rintro e w1 ⟨rfl, b1⟩
  have HB1 := hide (bstep (unhide HB0) b1)
  have P1 := (unhide HP0).next b1
  have Z1 := hide ((unhide HZ0).next b1)
  have x3 := P1.rb.c3
  have x4 := P1.rb.c4
  have f3 := P1.fz 3
  have HP1 := hide P1
  clear b1 P1 HP0 HZ0 HB0 C1
  go_wp2_with fail
  have HB2 := hide ((unhide HB1).setCell (p := ⟨w.heap.size, 3, none⟩) (Nat.le_refl _) (.string r.s))
  have HP2 := hide ((unhide HP1).set ⟨w.heap.size, 3, none⟩ (.string r.s) (r' := r) ((unhide HP1).rb.set3 r.s))
  have Z2 := hide ((unhide Z1).other (c := w.heap.size) (i := 3) (v := .string r.s) (by omega))
  clear HP1 HB1 Z1 x3 x4 f3
  generalize w1.setCell ⟨w.heap.size, 3, none⟩ (.string r.s) = w2 at *
  refine (unhide C2 _).mono ?_
  rintro e w3 ⟨rfl, b3⟩
  have HB3 := hide (bstep (unhide HB2) b3)
  have P3 := (unhide HP2).next b3
  have Z3 := hide ((unhide Z2).next b3)
  have x4 := P3.rb.c4
  have x5 := P3.rb.c5
  have f4 := P3.fz 4
  have HP3 := hide P3
  clear b3 P3 HP2 Z2 HB2 C2
  go_wp2_with fail
  have HB4 := hide ((unhide HB3).setCell (p := ⟨w.heap.size, 4, none⟩) (Nat.le_refl _) (.string r.h))
  have HP4 := hide ((unhide HP3).set ⟨w.heap.size, 4, none⟩ (.string r.h) (r' := r) ((unhide HP3).rb.set4 r.h))
  have Z4 := hide ((unhide Z3).other (c := w.heap.size) (i := 4) (v := .string r.h) (by omega))
  clear HP3 HB3 Z3 x4 x5 f4
  generalize w3.setCell ⟨w.heap.size, 4, none⟩ (.string r.h) = w4 at *
  refine (unhide C3 _).mono ?_
  rintro e w5 ⟨rfl, b5⟩
  have HB5 := hide (bstep (unhide HB4) b5)
  have P5 := (unhide HP4).next b5
  have Z5 := (unhide Z4).next b5
  obtain ⟨_, x0, x1, x2, x3, x4, x5⟩ := P5.rb
  obtain ⟨_, y0, y1, y2, y3, y4, y5⟩ := Z5.rb
  have f5 := P5.fz 5
  have g0 := Z5.fz 0
  have g1 := Z5.fz 1
  have g2 := Z5.fz 2
  have g3 := Z5.fz 3
  have g4 := Z5.fz 4
  have g5 := Z5.fz 5
  have HZ5 := hide Z5
  clear b5 P5 Z5 HP4 Z4 HB4 C3
  go_wp2_with fail
  refine bodyPost_ret (results_recX (b := w.heap.size + 1) rfl rfl (((((((((unhide HZ5).other (c := w.heap.size) (i := 5) (by omega)).rb.set0 r.k).set1 r.q).set2 r.t).set3 r.s).set4 r.h).set5 r.d))) rfl ?_
  exact ⟨rfl, (((((((unhide HB5).setCell (p := ⟨w.heap.size, 5, none⟩) (Nat.le_refl _) _).setCell (p := ⟨w.heap.size + 1, 0, none⟩) (Nat.le_succ _) _).setCell (p := ⟨w.heap.size + 1, 1, none⟩) (Nat.le_succ _) _).setCell (p := ⟨w.heap.size + 1, 2, none⟩) (Nat.le_succ _) _).setCell (p := ⟨w.heap.size + 1, 3, none⟩) (Nat.le_succ _) _).setCell (p := ⟨w.heap.size + 1, 4, none⟩) (Nat.le_succ _) _).setCell (p := ⟨w.heap.size + 1, 5, none⟩) (Nat.le_succ _) _⟩

set_option maxHeartbeats 400000 in
theorem scount_any {w : World} {B q : Nat} {v u : Value} {l : List Rc} {es : List Ent} {last : Int} (s : ByteArray) (h : Sho w B q v u l es last) (hg : Good es) (hs : s.size ≤ 140737488355328) :
    Calls Tryz.prog 86 #[.pointer (some ⟨q, 0, none⟩), .string s] w fun e w' => e = .returned (.int .i64 (getN es s)) ∧ Below w.heap.size w w' := by
  go_enter Tryz.func86, Tryz.ntmps86
  go_wp2_with fail
  refine (get_any B q u es s _ h.keeps hg hs).mono ?_
  rintro e w1 ⟨rfl, hb⟩
  go_wp2_with fail
  go_ret
  exact ⟨rfl, hb⟩

set_option maxHeartbeats 400000 in
theorem off_any {w : World} {B q : Nat} {v u : Value} {l : List Rc} {es : List Ent} {last : Int} (s : ByteArray) (h : Sho w B q v u l es last) (hg : Good es) (hs : s.size ≤ 140737488355328) (hB : B ≤ w.heap.size) (hn : getN es s ≤ 200) :
    Calls Tryz.prog 94 #[.pointer (some ⟨q, 0, none⟩), .string s] w fun e w' => e = .returned (.tuple #[]) ∧ Counts w w' B q v u l (offL es (getN es s) s) last := by
  have HH := hide h
  have HG := hide hg
  clear h hg
  obtain ⟨n, en⟩ : ∃ n, n = getN es s := ⟨_, rfl⟩
  rw [← en] at hn ⊢
  have EN := hide en
  clear en
  by_cases h1 : 1 < n
  · have hw : IntKind.i64.wrap (n - 1) = n - 1 := by rw [IntKind.wrap_i64]; omega
    have HO := hide (show offL es n s = putL es s (n - 1) from if_pos h1)
    go_enter Tryz.func94, Tryz.ntmps94
    go_wp2_with fail
    refine (scount_any s (unhide HH) (unhide HG) hs).mono ?_
    rintro e w1 ⟨rfl, hb⟩
    rw [← unhide EN]
    have H1 := hide ((unhide HH).below hb)
    have Hb := hide hb
    have P := hide (putO_any B q u es s (n - 1) w1 (unhide H1).keeps (unhide HG) hs (by have := hb.size; omega))
    clear hb
    go_wp2_with fail
    refine (unhide P).mono ?_
    rintro e w2 ⟨rfl, h2⟩
    have H2 := hide h2
    clear h2
    go_wp2_with fail
    go_end0
    refine ⟨rfl, ?_⟩
    rw [unhide HO]
    exact Counts.behind (unhide Hb) ((unhide H1).upd (unhide H2))
  · have HO := hide (show offL es n s = dropL es s from if_neg h1)
    go_enter Tryz.func94, Tryz.ntmps94
    go_wp2_with fail
    refine (scount_any s (unhide HH) (unhide HG) hs).mono ?_
    rintro e w1 ⟨rfl, hb⟩
    rw [← unhide EN]
    have H1 := hide ((unhide HH).below hb)
    have Hb := hide hb
    have P := hide (dropO_any B q u es s w1 (unhide H1).keeps (unhide HG) hs)
    clear hb
    go_wp2_with fail
    refine (unhide P).mono ?_
    rintro e w2 ⟨rfl, h2⟩
    have H2 := hide h2
    clear h2
    go_wp2_with fail
    go_end0
    refine ⟨rfl, ?_⟩
    rw [unhide HO]
    exact Counts.behind (unhide Hb) ((unhide H1).upd (unhide H2))

set_option maxHeartbeats 400000 in
theorem takes_any (f : ByteArray) (r : Rc) (hf : f.size ≤ 140737488355328) (hr : r.s.size ≤ 140737488355328) (w : World) :
    Calls Tryz.prog 96 #[.string f, .agg #[.int .i64 r.k, .int .i64 r.q, .int .i64 r.t, .string r.s, .string r.h, .string r.d]] w fun e w' => e = .returned (.bool (matchB f r.s)) ∧ Below w.heap.size w w' := by
  have hb0 : Below w.heap.size w (w.alloc (.cells #[.int .i64 r.k, .int .i64 r.q, .int .i64 r.t, .string r.s, .string r.h, .string r.d] 30)) := (Below.refl _ _).alloc (Nat.le_refl _) _
  have Hb0 := hide hb0
  clear hb0
  go_enter Tryz.func96, Tryz.ntmps96
  go_wp2_with fail
  refine (match_any f r.s _ hf hr).mono ?_
  rintro e w1 ⟨rfl, hb⟩
  go_wp2_with fail
  go_ret
  exact ⟨rfl, bstep (unhide Hb0) hb⟩
end Go.Proofs.YtmccpkpeimejhagGreatDoor.Dk

namespace Go.Proofs.YtmccpkpeimejhagGreatDoor.Dk
open Go.RowKit

theorem right_msg {r : Rc} (h : chkR r = 0) (h1 : r.k = 1) : errS false r.s = 0 := by
  have e := chkV_eq r.k r.q r.t r.s r.h r.d
  have e2 : chkV r.k r.q r.t r.s r.h r.d = 0 := h
  rw [e2] at e
  by_cases hb : Pk.inB r.k r.q r.t = false
  · rw [if_pos hb] at e; cases e
  · rw [if_neg hb, if_pos h1] at e
    unfold msgE at e
    by_cases z : errS false r.s ≠ 0
    · rw [if_pos z] at e; exact e.symm
    · exact Classical.byContradiction z
theorem Sto.Ok.cnt {s : Sto} (h : s.Ok) : ∃ es, Cnt s.l es := cnt_ex _ s.l rfl (fun x hx => ⟨right_msg (h.msg x hx).2 (h.msg x hx).1, by have := (h.small hx).1; omega⟩) h.names
end Go.Proofs.YtmccpkpeimejhagGreatDoor.Dk

namespace Go.Proofs.YtmccpkpeimejhagGreatDoor.Dk
open Go.RowKit

theorem right_pur {r : Rc} (h : chkR r = 0) (h1 : r.k = 3) : errS true r.s = 0 := by
  have e := chkV_eq r.k r.q r.t r.s r.h r.d
  have e2 : chkV r.k r.q r.t r.s r.h r.d = 0 := h
  rw [e2] at e
  by_cases hb : Pk.inB r.k r.q r.t = false
  · rw [if_pos hb] at e; cases e
  · rw [if_neg hb, if_neg (by omega), if_pos h1] at e
    unfold purE at e
    by_cases z : errS true r.s ≠ 0
    · rw [if_pos z] at e; exact e.symm
    · exact Classical.byContradiction z
/-- what Try answers of a message that is right -/
def tmE (l : List Rc) (last : Int) (r : Rc) : Int := if r.q ≤ last then 9 else if 200 ≤ l.length ∨ (hasS l r.s = false ∧ 100 ≤ nameN l) then 8 else 0
theorem tm_low {l : List Rc} {last : Int} {r : Rc} (h : r.q ≤ last) : tmE l last r = 9 := if_pos h
theorem tm_full {l : List Rc} {last : Int} {r : Rc} (h : ¬ r.q ≤ last) (h2 : 200 ≤ l.length) : tmE l last r = 8 := by unfold tmE; rw [if_neg h, if_pos (.inl h2)]
theorem tm_many {l : List Rc} {last : Int} {r : Rc} (h : ¬ r.q ≤ last) (h2 : hasS l r.s = false) (h3 : 100 ≤ nameN l) : tmE l last r = 8 := by unfold tmE; rw [if_neg h, if_pos (.inr ⟨h2, h3⟩)]
theorem tm_has {l : List Rc} {last : Int} {r : Rc} (h : ¬ r.q ≤ last) (h1 : ¬ 200 ≤ l.length) (h2 : hasS l r.s = true) : tmE l last r = 0 := by
  unfold tmE; rw [if_neg h, if_neg (fun z => by rcases z with z | z; exact h1 z; rw [h2] at z; cases z.1)]
theorem tm_room {l : List Rc} {last : Int} {r : Rc} (h : ¬ r.q ≤ last) (h1 : ¬ 200 ≤ l.length) (h2 : ¬ 100 ≤ nameN l) : tmE l last r = 0 := by
  unfold tmE; rw [if_neg h, if_neg (fun z => by rcases z with z | z; exact h1 z; exact h2 z.2)]

set_option maxRecDepth 100000 in
set_option maxHeartbeats 1000000 in
theorem stmsg_any {w : World} {B q : Nat} {v u : Value} {l : List Rc} {es : List Ent} {last : Int} (r : Rc) (h : Sho w B q v u l es last) (hc : Cnt l es) (hr : errS false r.s = 0) (hs : r.s.size ≤ 140737488355328) (h200 : l.length ≤ 200) :
    Calls Tryz.prog 50 #[.pointer (some ⟨q, 0, none⟩), .agg #[.int .i64 r.k, .int .i64 r.q, .int .i64 r.t, .string r.s, .string r.h, .string r.d]] w fun e w' => e = .returned (.int .i64 (tmE l last r)) ∧ Below w.heap.size w w' := by
  have hb0 : Below w.heap.size w (w.alloc (.cells #[.int .i64 r.k, .int .i64 r.q, .int .i64 r.t, .string r.s, .string r.h, .string r.d] 30)) := (Below.refl _ _).alloc (Nat.le_refl _) _
  have Hb0 := hide hb0
  obtain ⟨a, cap, rfl, _⟩ := h.msgs.shape
  have c0 := h.c0
  have c2 := h.c2
  have hql := h.lt
  have g1 : (getN es r.s : Int) = (cntN l r.s : Int) := hc.get hr
  have g2 : (es.length : Int) = (nameN l : Int) := by rw [hc.len]
  have g3 := cntN_has l r.s
  have HS := hide h
  have HC := hide hc.good
  have P : Hid (∀ m, Calls Tryz.prog 86 #[.pointer (some ⟨q, 0, none⟩), .string r.s] ((w.alloc (.cells #[.int .i64 r.k, .int .i64 r.q, .int .i64 r.t, .string r.s, .string r.h, .string r.d] 30)).drewN m) fun e w' => e = .returned (.int .i64 (getN es r.s)) ∧ Below w.heap.size w w') := hide (fun m => by
    have b := below_drewN hb0 m
    refine (scount_any r.s (h.below b) hc.good hs).mono ?_
    rintro e w' ⟨he, hb⟩
    exact ⟨he, bstep b hb⟩)
  clear h hb0 hc
  by_cases h1 : r.q ≤ last
  · have R := hide (tm_low (l := l) h1)
    clear g1 g2 g3
    go_enter Tryz.func50, Tryz.ntmps50
    go_wp2_with fail
    go_quiet (fail)
    go_wp2_with fail
    go_ret
    exact ⟨ret_eq (unhide R), below_drewN (unhide Hb0) _⟩
  · by_cases h2 : 200 ≤ l.length
    · have R := hide (tm_full h1 h2)
      clear g1 g2 g3
      go_enter Tryz.func50, Tryz.ntmps50
      go_wp2_with fail
      go_quiet (fail)
      go_wp2_with fail
      go_ret
      exact ⟨ret_eq (unhide R), below_drewN (unhide Hb0) _⟩
    · obtain ⟨n, en⟩ : ∃ n, n = getN es r.s := ⟨_, rfl⟩
      rw [← en] at g1
      have EN := hide en
      clear en
      by_cases h3 : n = 0
      · subst h3
        have hz : hasS l r.s = false := by rw [g3]; exact decide_eq_false (by omega)
        by_cases h4 : 100 ≤ es.length
        · have R := hide (tm_many (r := r) h1 hz (by omega))
          clear g1 g2 g3 hz
          go_enter Tryz.func50, Tryz.ntmps50
          go_wp2_with fail
          go_quiet (fail)
          go_wp2_with fail
          refine (unhide P _).mono ?_
          rintro e w1 ⟨rfl, b1⟩
          rw [← unhide EN]
          have P2 := hide (count_any B q u es w1 ((unhide HS).below b1).keeps)
          have B1 := hide b1
          clear b1 P c0 c2
          go_wp2_with fail
          refine (unhide P2).mono ?_
          rintro e w2 ⟨rfl, rfl⟩
          go_wp2_with fail
          go_ret
          exact ⟨ret_eq (unhide R), unhide B1⟩
        · have R := hide (tm_room (r := r) h1 h2 (by omega))
          clear g1 g2 g3 hz
          go_enter Tryz.func50, Tryz.ntmps50
          go_wp2_with fail
          go_quiet (fail)
          go_wp2_with fail
          refine (unhide P _).mono ?_
          rintro e w1 ⟨rfl, b1⟩
          rw [← unhide EN]
          have P2 := hide (count_any B q u es w1 ((unhide HS).below b1).keeps)
          have B1 := hide b1
          clear b1 P c0 c2
          go_wp2_with fail
          refine (unhide P2).mono ?_
          rintro e w2 ⟨rfl, rfl⟩
          go_wp2_with fail
          go_ret
          exact ⟨ret_eq (unhide R), unhide B1⟩
      · have R := hide (tm_has (r := r) h1 h2 (by rw [g3]; exact decide_eq_true (by omega)))
        clear g1 g2 g3
        go_enter Tryz.func50, Tryz.ntmps50
        go_wp2_with fail
        go_quiet (fail)
        go_wp2_with fail
        refine (unhide P _).mono ?_
        rintro e w1 ⟨rfl, b1⟩
        rw [← unhide EN]
        have B1 := hide b1
        clear b1 P c0 c2
        go_wp2_with fail
        go_ret
        exact ⟨ret_eq (unhide R), unhide B1⟩

def erE (l : List Rc) (n : Int) : Int := if seqB l n = false then 4 else 0
set_option maxHeartbeats 400000 in
theorem stera_any {w : World} {B q : Nat} {v u : Value} {l : List Rc} {es : List Ent} {last : Int} (n : Int) (h : Sho w B q v u l es last) (hr : RiseQ l) (h200 : l.length ≤ 200) :
    Calls Tryz.prog 51 #[.pointer (some ⟨q, 0, none⟩), .int .i64 n] w fun e w' => e = .returned (.int .i64 (erE l n)) ∧ Below w.heap.size w w' := by
  cases hs : seqB l n
  all_goals
    have hE : erE l n = (if seqB l n = false then 4 else 0) := rfl
    rw [hs] at hE
    have HE := hide hE
    clear hE
    go_enter Tryz.func51, Tryz.ntmps51
    go_wp2_with fail
    refine (splace_any n h hr h200).mono ?_
    rintro e w1 ⟨rfl, hb⟩
    rw [hs]
    go_wp2_with fail
    go_ret
    exact ⟨ret_eq (by rw [unhide HE]; rfl), hb⟩

theorem try_bad {s : Sto} {r : Rc} (h : ¬ chkR r = 0) : tryE s r = chkR r := by unfold tryE; rw [if_pos h]
theorem try_msg {s : Sto} {r : Rc} (h : chkR r = 0) (h1 : r.k = 1) : tryE s r = tmE s.l s.last r := by
  unfold tryE tmE
  rw [if_neg (by rw [h]; simp), if_neg (by omega), if_neg (by omega)]
theorem try_era {s : Sto} {r : Rc} (h : chkR r = 0) (h1 : r.k = 2) : tryE s r = erE s.l r.q := by
  unfold tryE erE
  rw [if_neg (by rw [h]; simp)]
  by_cases z : seqB s.l r.q = false
  · rw [if_pos ⟨h1, z⟩, if_pos z]
  · rw [if_neg (fun y => z y.2), if_pos (by omega), if_neg z]
theorem try_else {s : Sto} {r : Rc} (h : chkR r = 0) (h1 : ¬ r.k = 1) (h2 : ¬ r.k = 2) : tryE s r = 0 := by
  unfold tryE
  rw [if_neg (by rw [h]; simp), if_neg (fun z => h2 z.1), if_pos h1]

set_option maxHeartbeats 1000000 in
theorem stry_any {w : World} {B q : Nat} {v u : Value} {s : Sto} {es : List Ent} (r : Rc) (hm : Small r) (h : Sho w B q v u s.l es s.last) (hc : Cnt s.l es) (hk : s.Ok) :
    Calls Tryz.prog 24 #[.pointer (some ⟨q, 0, none⟩), .agg #[.int .i64 r.k, .int .i64 r.q, .int .i64 r.t, .string r.s, .string r.h, .string r.d]] w fun e w' => e = .returned (.int .i64 (tryE s r)) ∧ Below w.heap.size w w' := by
  have hr : RiseQ s.l := hk.rise
  have h200 := hk.few
  have hb0 : Below w.heap.size w (w.alloc (.cells #[.int .i64 r.k, .int .i64 r.q, .int .i64 r.t, .string r.s, .string r.h, .string r.d] 30)) := (Below.refl _ _).alloc (Nat.le_refl _) _
  have H0 := hide (h.below hb0)
  have HR := hide (RB.new w r.k r.q r.t r.s r.h r.d 30)
  have Hb0 := hide hb0
  have PC := hide (check_any r.k r.q r.t r.s r.h r.d (w.alloc (.cells #[.int .i64 r.k, .int .i64 r.q, .int .i64 r.t, .string r.s, .string r.h, .string r.d] 30)) hm.s hm.h hm.d)
  have hz := hm.s
  have HC := hide hc
  have Hr := hide hr
  clear h hb0 hm hk hc hr
  by_cases hg : chkR r = 0
  · have HZ : Hid (chkV r.k r.q r.t r.s r.h r.d = 0) := hide hg
    have F1 := right_msg hg
    have T1 := try_msg (s := s) hg
    have T2 := try_era (s := s) hg
    have T3 := try_else (s := s) hg
    clear hg
    rcases r with ⟨k, n, t, s', h', d'⟩
    by_cases hk1 : k = 1
    · subst hk1
      have HRt := hide (F1 rfl)
      have TT := hide (T1 rfl)
      clear T1 T2 T3 F1
      dsimp only at H0 HR Hb0 PC hz HZ ⊢
      go_enter Tryz.func24, Tryz.ntmps24
      go_wp2_with fail
      refine (unhide PC).mono ?_
      rintro e w1 ⟨rfl, b1⟩
      rw [unhide HZ]
      obtain ⟨_, x0, x1, x2, x3, x4, x5⟩ := (unhide HR).next b1
      have P := hide (stmsg_any ⟨1, n, t, s', h', d'⟩ ((unhide H0).below b1) (unhide HC) (unhide HRt) hz h200)
      have B1 := hide (bstep (unhide Hb0) b1)
      clear b1
      go_wp2_with fail
      refine (unhide P).mono ?_
      rintro e w2 ⟨rfl, b2⟩
      go_wp2_with fail
      go_ret
      exact ⟨ret_eq (unhide TT), bstep (unhide B1) b2⟩
    · by_cases hk2 : k = 2
      · subst hk2
        have TT := hide (T2 rfl)
        clear T1 T2 T3 F1
        dsimp only at H0 HR Hb0 PC hz HZ ⊢
        go_enter Tryz.func24, Tryz.ntmps24
        go_wp2_with fail
        refine (unhide PC).mono ?_
        rintro e w1 ⟨rfl, b1⟩
        rw [unhide HZ]
        obtain ⟨_, x0, x1, x2, x3, x4, x5⟩ := (unhide HR).next b1
        have P := hide (stera_any n ((unhide H0).below b1) (unhide Hr) h200)
        have B1 := hide (bstep (unhide Hb0) b1)
        clear b1
        go_wp2_with fail
        refine (unhide P).mono ?_
        rintro e w2 ⟨rfl, b2⟩
        go_wp2_with fail
        go_ret
        exact ⟨ret_eq (unhide TT), bstep (unhide B1) b2⟩
      · have T4 := hide (T3 hk1 hk2)
        clear T1 T2 T3 F1
        dsimp only at H0 HR Hb0 PC hz HZ ⊢
        go_enter Tryz.func24, Tryz.ntmps24
        go_wp2_with fail
        refine (unhide PC).mono ?_
        rintro e w1 ⟨rfl, b1⟩
        rw [unhide HZ]
        obtain ⟨_, x0, x1, x2, x3, x4, x5⟩ := (unhide HR).next b1
        have B1 := hide (bstep (unhide Hb0) b1)
        clear b1
        go_wp2_with fail
        go_ret
        exact ⟨ret_eq (unhide T4), unhide B1⟩
  · have R := hide (try_bad (s := s) hg)
    obtain ⟨E, hE⟩ : ∃ E, E = chkR r := ⟨_, rfl⟩
    have HE : Hid (chkV r.k r.q r.t r.s r.h r.d = E) := hide hE.symm
    rw [← hE] at hg R
    clear hE
    go_enter Tryz.func24, Tryz.ntmps24
    go_wp2_with fail
    refine (unhide PC).mono ?_
    rintro e w1 ⟨rfl, b1⟩
    rw [unhide HE]
    go_wp2_with fail
    go_ret
    exact ⟨ret_eq (unhide R), bstep (unhide Hb0) b1⟩
end Go.Proofs.YtmccpkpeimejhagGreatDoor.Dk
