/-
  Rows of records in memory (six cells each): a row of one's own, a slice that shows records, an append of one record. No walk.
  A record's six cells in a block. No walk.
  The four numbers of a store's sums in a block. No walk.
  A store's sums that are handed back: four cells are read as one value. No walk.
  What a store answers as a value; what a call may write. No walk.
-/
import Derived.Test.YtphhebdmfdjfeagGreatDoorJointPapDPapLPapMPapGPapN
import Derived.Test.YtphhebdmfdjfeagGreatDoorRows
import Derived.Test.YtphhebdmfdjfeagGreatDoorJointPlainPlainNPlainRecPlainSPlainR2
import Derived.Test.YtphhebdmfdjfeagGreatDoorJointBase0RowZ
import Derived.WalkKit
import Derived.WalkSpells
import Derived.WalkLawsBesides
import Derived.Deep.RegionWith
import Derived.Deep.RegionLaw
import Derived.Deep.RegionHeld3
import Derived.Laws.Rows
import Derived.Test.YtphhebdmfdjfeagGreatDoorJointPapSPapTPlainIPapCPapE
namespace Go.Proofs.YtphhebdmfdjfeagGreatDoor.Dk
open Go.RowKit

def rc (l : List Rc) (k : Nat) : Rc := l[k]?.getD ⟨0, 0, 0, ByteArray.empty, ByteArray.empty, ByteArray.empty⟩
theorem rc_get {l : List Rc} {k : Nat} (h : k < l.length) : rc l k = l[k] := by unfold rc; rw [List.getElem?_eq_getElem h]; rfl
/-- the cells of a row of records -/
def celR : List Rc → List Value
  | [] => []
  | r :: l => .int .i64 r.k :: .int .i64 r.q :: .int .i64 r.t :: .string r.s :: .string r.h :: .string r.d :: celR l
theorem celR_length : ∀ l : List Rc, (celR l).length = l.length * 6
  | [] => rfl
  | r :: l => by simp [celR, celR_length l]; omega
theorem celR_append : ∀ a b : List Rc, celR (a ++ b) = celR a ++ celR b
  | [], _ => rfl
  | r :: a, b => by simp [celR, celR_append a b]
theorem celR_one : ∀ (l : List Rc), ∀ v ∈ celR l, v.oneCell' = true
  | [], v, h => by simp [celR] at h
  | r :: l, v, h => by
    simp only [celR, List.mem_cons] at h
    rcases h with h | h | h | h | h | h | h
    · subst h; rfl
    · subst h; rfl
    · subst h; rfl
    · subst h; rfl
    · subst h; rfl
    · subst h; rfl
    · exact celR_one l v h
/-- the six cells of one record -/
structure Six (w : World) (b o : Nat) (r : Rc) : Prop where
  lt : b < w.heap.size
  c0 : w.cell? ⟨b, o, none⟩ = some (.int .i64 r.k)
  c1 : w.cell? ⟨b, o + 1, none⟩ = some (.int .i64 r.q)
  c2 : w.cell? ⟨b, o + 2, none⟩ = some (.int .i64 r.t)
  c3 : w.cell? ⟨b, o + 3, none⟩ = some (.string r.s)
  c4 : w.cell? ⟨b, o + 4, none⟩ = some (.string r.h)
  c5 : w.cell? ⟨b, o + 5, none⟩ = some (.string r.d)
theorem Six.chg {A : Nat → Prop} {w w' : World} {b o : Nat} {r : Rc} (h : Six w b o r) (hc : Chg A w w') (hn : ¬ A b) : Six w' b o r :=
  ⟨Nat.lt_of_lt_of_le h.lt hc.size, by rw [hc.cell (p := ⟨b, o, none⟩) h.lt hn]; exact h.c0, by rw [hc.cell (p := ⟨b, o + 1, none⟩) h.lt hn]; exact h.c1, by rw [hc.cell (p := ⟨b, o + 2, none⟩) h.lt hn]; exact h.c2, by rw [hc.cell (p := ⟨b, o + 3, none⟩) h.lt hn]; exact h.c3, by rw [hc.cell (p := ⟨b, o + 4, none⟩) h.lt hn]; exact h.c4, by rw [hc.cell (p := ⟨b, o + 5, none⟩) h.lt hn]; exact h.c5⟩
theorem Six.below {B : Nat} {w w' : World} {b o : Nat} {r : Rc} (h : Six w b o r) (hb : Below B w w') (hB : b < B) : Six w' b o r :=
  ⟨Nat.lt_of_lt_of_le h.lt hb.size, by rw [hb.cell (p := ⟨b, o, none⟩) hB]; exact h.c0, by rw [hb.cell (p := ⟨b, o + 1, none⟩) hB]; exact h.c1, by rw [hb.cell (p := ⟨b, o + 2, none⟩) hB]; exact h.c2, by rw [hb.cell (p := ⟨b, o + 3, none⟩) hB]; exact h.c3, by rw [hb.cell (p := ⟨b, o + 4, none⟩) hB]; exact h.c4, by rw [hb.cell (p := ⟨b, o + 5, none⟩) hB]; exact h.c5⟩
theorem celR_at : ∀ (l : List Rc) (k : Nat), k < l.length → (celR l)[k * 6]? = some (.int .i64 (rc l k).k) ∧ (celR l)[k * 6 + 1]? = some (.int .i64 (rc l k).q) ∧ (celR l)[k * 6 + 2]? = some (.int .i64 (rc l k).t) ∧ (celR l)[k * 6 + 3]? = some (.string (rc l k).s) ∧ (celR l)[k * 6 + 4]? = some (.string (rc l k).h) ∧ (celR l)[k * 6 + 5]? = some (.string (rc l k).d)
  | [], k, h => absurd h (Nat.not_lt_zero k)
  | r :: l, 0, _ => ⟨rfl, rfl, rfl, rfl, rfl, rfl⟩
  | r :: l, k + 1, h => by
    rw [show (k + 1) * 6 = k * 6 + 1 + 1 + 1 + 1 + 1 + 1 by omega]
    have := celR_at l k (by simpa using h)
    have e : rc (r :: l) (k + 1) = rc l k := rfl
    rw [e]
    refine ⟨?_, ?_, ?_, ?_, ?_, ?_⟩
    · simp only [celR, List.getElem?_cons_succ]; exact this.1
    · rw [show k * 6 + 1 + 1 + 1 + 1 + 1 + 1 + 1 = (k * 6 + 1) + 1 + 1 + 1 + 1 + 1 + 1 by omega]; simp only [celR, List.getElem?_cons_succ]; exact this.2.1
    · rw [show k * 6 + 1 + 1 + 1 + 1 + 1 + 1 + 2 = (k * 6 + 2) + 1 + 1 + 1 + 1 + 1 + 1 by omega]; simp only [celR, List.getElem?_cons_succ]; exact this.2.2.1
    · rw [show k * 6 + 1 + 1 + 1 + 1 + 1 + 1 + 3 = (k * 6 + 3) + 1 + 1 + 1 + 1 + 1 + 1 by omega]; simp only [celR, List.getElem?_cons_succ]; exact this.2.2.2.1
    · rw [show k * 6 + 1 + 1 + 1 + 1 + 1 + 1 + 4 = (k * 6 + 4) + 1 + 1 + 1 + 1 + 1 + 1 by omega]; simp only [celR, List.getElem?_cons_succ]; exact this.2.2.2.2.1
    · rw [show k * 6 + 1 + 1 + 1 + 1 + 1 + 1 + 5 = (k * 6 + 5) + 1 + 1 + 1 + 1 + 1 + 1 by omega]; simp only [celR, List.getElem?_cons_succ]; exact this.2.2.2.2.2
theorem infoR : (Tryz.prog.info? 30).map (fun i => (i.zero, i.size, i.bytes)) = some (some (.agg #[.int .i64 0, .int .i64 0, .int .i64 0, .string ByteArray.empty, .string ByteArray.empty, .string ByteArray.empty]), 6, 72) := by kernel_rfl
/-- a row of records that is one's own from block B on -/
def ArrR (w : World) (B : Nat) (v : Value) (l : List Rc) : Prop := w.ownsRow B 30 6 v l.length (celR l)
theorem ArrR.empty (w : World) (B : Nat) : ArrR w B (.slice none 0 0) [] := World.ownsRow_nil w B _ 6
theorem ArrR.chg {A : Nat → Prop} {w w' : World} {B : Nat} {v : Value} {l : List Rc} (h : ArrR w B v l) (hb : Chg A w w') (hn : ∀ g, v.ownBlock = some g → ¬ A g) : ArrR w' B v l := by
  refine ⟨h.1, ?_⟩
  rcases h.2 with q | ⟨g, cap, cur, h1, h2, h3, r⟩
  · exact .inl q
  · refine .inr ⟨g, cap, cur, h1, h2, ?_, r⟩
    rw [hb.block g (h.lt g (by rw [h1]; rfl)).2 (hn g (by rw [h1]; rfl))]
    exact h3
theorem ArrR.below {w w' : World} {B : Nat} {v : Value} {l : List Rc} (h : ArrR w B v l) (hb : Below w.heap.size w w') : ArrR w' B v l := h.chg (A := fun _ => False) (Chg.of_below hb) (fun _ _ z => z)
/-- a slice that shows records -/
def SlR (w : World) (a : Option Addr) (l : List Rc) : Prop := ∀ k, k < l.length → ∃ b o, a = some ⟨b, o, none⟩ ∧ Six w b (o + k * 6) (rc l k)
theorem SlR.below {w w' : World} {a : Option Addr} {l : List Rc} (h : SlR w a l) (hb : Below w.heap.size w w') : SlR w' a l := fun k hk => by
  obtain ⟨b, o, h1, h2⟩ := h k hk
  exact ⟨b, o, h1, h2.below hb h2.lt⟩
theorem SlR.chg {A : Nat → Prop} {w w' : World} {a : Option Addr} {l : List Rc} (h : SlR w a l) (hc : Chg A w w') (hn : ∀ p, a = some p → ¬ A p.block) : SlR w' a l := fun k hk => by
  obtain ⟨b, o, h1, h2⟩ := h k hk
  exact ⟨b, o, h1, h2.chg hc (hn _ h1)⟩
theorem ArrR.shape {w : World} {B : Nat} {v : Value} {l : List Rc} (h : ArrR w B v l) : ∃ a cap, v = .slice a l.length cap ∧ l.length ≤ cap ∧ cap ≤ maxLen ∧ SlR w a l := by
  rcases h.2 with ⟨h1, h2⟩ | ⟨g, cap, cur, h1, h2, h3, h4, h5, h6, h7⟩
  · exact ⟨none, 0, by rw [h1, h2], by omega, by simp [maxLen], fun k hk => by omega⟩
  · refine ⟨_, cap, h1, h4, h5, fun k hk => ⟨g, 0, rfl, ?_⟩⟩
    have hl := (h.lt g (by rw [h1]; rfl)).2
    have hat := celR_at l k hk
    rw [h1] at h
    refine ⟨hl, ?_, ?_, ?_, ?_, ?_, ?_⟩
    · rw [World.ownsRow.cellAt h (0 + k * 6) (by omega), Nat.zero_add]; exact hat.1
    · rw [World.ownsRow.cellAt h (0 + k * 6 + 1) (by omega), Nat.zero_add]; exact hat.2.1
    · rw [World.ownsRow.cellAt h (0 + k * 6 + 2) (by omega), Nat.zero_add]; exact hat.2.2.1
    · rw [World.ownsRow.cellAt h (0 + k * 6 + 3) (by omega), Nat.zero_add]; exact hat.2.2.2.1
    · rw [World.ownsRow.cellAt h (0 + k * 6 + 4) (by omega), Nat.zero_add]; exact hat.2.2.2.2.1
    · rw [World.ownsRow.cellAt h (0 + k * 6 + 5) (by omega), Nat.zero_add]; exact hat.2.2.2.2.2
/-- a record in a block of its own -/
theorem six_row (w : World) (r : Rc) : ∀ j u, (celR [r])[j]? = some u → (w.alloc (.cells #[.int .i64 r.k, .int .i64 r.q, .int .i64 r.t, .string r.s, .string r.h, .string r.d] 30)).cell? ((⟨w.heap.size, 0, none⟩ : Addr).add j) = some u := by
  intro j u hj
  rw [Addr.add_lit, Nat.zero_add, cell_of_row _ w.heap.size j _ _ _ (heap_alloc_new w _)]
  simpa [celR] using hj
/-- append of one record onto a row of one's own: where the new row lies -/
theorem append_rec (w : World) (B : Nat) (ty : TypeId) (v : Value) (l fs : List Rc) (ha : ArrR w B v l) (a : Addr) (c : Nat) (hnews : ∀ j u, (celR fs)[j]? = some u → w.cell? (a.add j) = some u) (hl : l.length + fs.length ≤ 1000000) (hB : B ≤ w.heap.size) :
    ∃ v' w', (Builtin.append_ #[22, 22] ty #[v, .slice (some a) fs.length c]).run Tryz.prog w = .ok v' w' ∧ ArrR w' B v' (l ++ fs) ∧ Chg (fun k => v.ownBlock = some k) w w' ∧ ∀ g, v'.ownBlock = some g → v.ownBlock = some g ∨ w.heap.size ≤ g := by
  obtain ⟨i0, hi, hz0, hz1, hz2⟩ := info_parts infoR
  have hlen : (celR fs).length = fs.length * 6 := celR_length fs
  obtain ⟨v', w', hr, h2, h3, h4⟩ := run_append_own (P := Tryz.prog) w B 22 ty 30 i0 _ 6 72 Tryz.underlying22 hi hz0 hz1 hz2 rfl (by omega) v l.length (celR l) ha a fs.length c (celR fs) hlen hnews (celR_one fs) (by unfold maxLen; omega) (by omega) hB
  refine ⟨v', w', hr, ?_, Chg.of_grown h3, fun k hk => ?_⟩
  · unfold ArrR
    rw [List.length_append, celR_append]
    exact h2
  · rcases ha.2 with ⟨rfl, hn⟩ | ⟨g, cap, cur, rfl, hbg, hg, hnc, hcm, hcs, htake⟩
    · by_cases hm : fs.length = 0
      · rw [h4.2 ⟨rfl, hm⟩] at hk; cases hk
      · right
        have hr2 := run_append_nil (P := Tryz.prog) w 22 ty 30 i0 _ Tryz.underlying22 hi hz0 a fs.length c (celR fs) (by rw [hz1]; exact hlen) hnews (by omega) (by omega) (by rw [hz2]; omega)
        rw [hr] at hr2
        cases hr2
        simp only [Value.ownBlock, Option.some.injEq] at hk
        omega
    · by_cases hroom : l.length + fs.length ≤ cap
      · left
        obtain ⟨w2, hr2, _, _⟩ := run_append_fits (P := Tryz.prog) w B 22 ty 30 i0 6 Tryz.underlying22 hi hz1 g l.length cap (celR l) ha a fs.length c (celR fs) hlen hnews (celR_one fs) hroom
        rw [hr] at hr2
        cases hr2
        exact hk
      · right
        have hr2 := run_append_grow (P := Tryz.prog) w 22 ty 30 i0 _ Tryz.underlying22 hi hz0 ⟨g, 0, none⟩ l.length cap (celR l) (by rw [hz1]; exact ha.1) (World.ownsRow.cells ha (g := g) rfl) a fs.length c (celR fs) (by rw [hz1]; exact hlen) hnews (by omega) (by omega) (by rw [hz2]; exact growslice_fits (by omega) (by omega))
        rw [hr] at hr2
        cases hr2
        simp only [Value.ownBlock, Option.some.injEq] at hk
        omega
end Go.Proofs.YtphhebdmfdjfeagGreatDoor.Dk

namespace Go.Proofs.YtphhebdmfdjfeagGreatDoor
open Go.RowKit

/-- a record's six cells in a block -/
structure RB (w : World) (b : Nat) (k q t : Int) (s h d : ByteArray) : Prop where
  lt : b < w.heap.size
  c0 : w.cell? ⟨b, 0, none⟩ = some (.int .i64 k)
  c1 : w.cell? ⟨b, 1, none⟩ = some (.int .i64 q)
  c2 : w.cell? ⟨b, 2, none⟩ = some (.int .i64 t)
  c3 : w.cell? ⟨b, 3, none⟩ = some (.string s)
  c4 : w.cell? ⟨b, 4, none⟩ = some (.string h)
  c5 : w.cell? ⟨b, 5, none⟩ = some (.string d)
  fr : ∀ j, w.frozen? ⟨b, j, none⟩ = false
theorem RB.below {w w' : World} {b B : Nat} {k q t : Int} {s h d : ByteArray} (r : RB w b k q t s h d) (hb : Below B w w') (hB : b < B) : RB w' b k q t s h d :=
  ⟨Nat.lt_of_lt_of_le r.lt hb.size, by rw [hb.cell (p := ⟨b, 0, none⟩) hB]; exact r.c0, by rw [hb.cell (p := ⟨b, 1, none⟩) hB]; exact r.c1, by rw [hb.cell (p := ⟨b, 2, none⟩) hB]; exact r.c2, by rw [hb.cell (p := ⟨b, 3, none⟩) hB]; exact r.c3, by rw [hb.cell (p := ⟨b, 4, none⟩) hB]; exact r.c4, by rw [hb.cell (p := ⟨b, 5, none⟩) hB]; exact r.c5, fun j => by rw [hb.frozen (p := ⟨b, j, none⟩) hB]; exact r.fr j⟩
theorem RB.drew {w : World} {b : Nat} {k q t : Int} {s h d : ByteArray} (r : RB w b k q t s h d) : RB w.drew b k q t s h d :=
  r.below (B := w.heap.size) (Below.refl _ _).drew r.lt
theorem RB.alloc {w : World} {b : Nat} {k q t : Int} {s h d : ByteArray} (r : RB w b k q t s h d) (o : Obj) : RB (w.alloc o) b k q t s h d :=
  r.below (B := w.heap.size) ((Below.refl _ _).alloc (Nat.le_refl _) o) r.lt
theorem RB.next {w w' : World} {b : Nat} {k q t : Int} {s h d : ByteArray} (r : RB w b k q t s h d) (hb : Below w.heap.size w w') : RB w' b k q t s h d := r.below hb r.lt
theorem RB.new (w : World) (k q t : Int) (s h d : ByteArray) (T : TypeId) : RB (w.alloc (.cells #[.int .i64 k, .int .i64 q, .int .i64 t, .string s, .string h, .string d] T)) w.heap.size k q t s h d :=
  ⟨by simp, by simp, by simp, by simp, by simp, by simp, by simp, fun j => World.frozen?_alloc_new _ _ _ j⟩
theorem cell_other' (w : World) (p q : Addr) (v : Value) (h : p ≠ q) : (w.setCell p v).cell? q = w.cell? q := by
  first | exact World.cell?_setCell_other _ _ _ _ h | exact World.cell?_setCell_other h
theorem RB.other {w : World} {b c i : Nat} {k q t : Int} {s h d : ByteArray} {v : Value} (r : RB w b k q t s h d) (hc : c ≠ b) : RB (w.setCell ⟨c, i, none⟩ v) b k q t s h d :=
  ⟨by simpa using r.lt, by rw [cell_other' _ _ _ _ (by intro e; injection e; omega)]; exact r.c0, by rw [cell_other' _ _ _ _ (by intro e; injection e; omega)]; exact r.c1, by rw [cell_other' _ _ _ _ (by intro e; injection e; omega)]; exact r.c2,
    by rw [cell_other' _ _ _ _ (by intro e; injection e; omega)]; exact r.c3, by rw [cell_other' _ _ _ _ (by intro e; injection e; omega)]; exact r.c4, by rw [cell_other' _ _ _ _ (by intro e; injection e; omega)]; exact r.c5, fun j => by simpa using r.fr j⟩
theorem same_cell {w : World} {a : Addr} {v u : Value} (h : w.cell? a = some u) : (w.setCell a v).cell? a = some v := World.cell?_setCell_same' _ _ _ (by rw [h]; rfl)
theorem RB.set0 {w : World} {b : Nat} {k q t : Int} {s h d : ByteArray} (r : RB w b k q t s h d) (x : Int) : RB (w.setCell ⟨b, 0, none⟩ (.int .i64 x)) b x q t s h d :=
  ⟨by simpa using r.lt, same_cell r.c0, by rw [cell_other' _ _ _ _ (by intro e; injection e; omega)]; exact r.c1, by rw [cell_other' _ _ _ _ (by intro e; injection e; omega)]; exact r.c2,
    by rw [cell_other' _ _ _ _ (by intro e; injection e; omega)]; exact r.c3, by rw [cell_other' _ _ _ _ (by intro e; injection e; omega)]; exact r.c4, by rw [cell_other' _ _ _ _ (by intro e; injection e; omega)]; exact r.c5, fun j => by simpa using r.fr j⟩
theorem RB.set1 {w : World} {b : Nat} {k q t : Int} {s h d : ByteArray} (r : RB w b k q t s h d) (x : Int) : RB (w.setCell ⟨b, 1, none⟩ (.int .i64 x)) b k x t s h d :=
  ⟨by simpa using r.lt, by rw [cell_other' _ _ _ _ (by intro e; injection e; omega)]; exact r.c0, same_cell r.c1, by rw [cell_other' _ _ _ _ (by intro e; injection e; omega)]; exact r.c2,
    by rw [cell_other' _ _ _ _ (by intro e; injection e; omega)]; exact r.c3, by rw [cell_other' _ _ _ _ (by intro e; injection e; omega)]; exact r.c4, by rw [cell_other' _ _ _ _ (by intro e; injection e; omega)]; exact r.c5, fun j => by simpa using r.fr j⟩
theorem RB.set2 {w : World} {b : Nat} {k q t : Int} {s h d : ByteArray} (r : RB w b k q t s h d) (x : Int) : RB (w.setCell ⟨b, 2, none⟩ (.int .i64 x)) b k q x s h d :=
  ⟨by simpa using r.lt, by rw [cell_other' _ _ _ _ (by intro e; injection e; omega)]; exact r.c0, by rw [cell_other' _ _ _ _ (by intro e; injection e; omega)]; exact r.c1, same_cell r.c2,
    by rw [cell_other' _ _ _ _ (by intro e; injection e; omega)]; exact r.c3, by rw [cell_other' _ _ _ _ (by intro e; injection e; omega)]; exact r.c4, by rw [cell_other' _ _ _ _ (by intro e; injection e; omega)]; exact r.c5, fun j => by simpa using r.fr j⟩
theorem RB.set3 {w : World} {b : Nat} {k q t : Int} {s h d : ByteArray} (r : RB w b k q t s h d) (x : ByteArray) : RB (w.setCell ⟨b, 3, none⟩ (.string x)) b k q t x h d :=
  ⟨by simpa using r.lt, by rw [cell_other' _ _ _ _ (by intro e; injection e; omega)]; exact r.c0, by rw [cell_other' _ _ _ _ (by intro e; injection e; omega)]; exact r.c1, by rw [cell_other' _ _ _ _ (by intro e; injection e; omega)]; exact r.c2,
    same_cell r.c3, by rw [cell_other' _ _ _ _ (by intro e; injection e; omega)]; exact r.c4, by rw [cell_other' _ _ _ _ (by intro e; injection e; omega)]; exact r.c5, fun j => by simpa using r.fr j⟩
theorem RB.set4 {w : World} {b : Nat} {k q t : Int} {s h d : ByteArray} (r : RB w b k q t s h d) (x : ByteArray) : RB (w.setCell ⟨b, 4, none⟩ (.string x)) b k q t s x d :=
  ⟨by simpa using r.lt, by rw [cell_other' _ _ _ _ (by intro e; injection e; omega)]; exact r.c0, by rw [cell_other' _ _ _ _ (by intro e; injection e; omega)]; exact r.c1, by rw [cell_other' _ _ _ _ (by intro e; injection e; omega)]; exact r.c2,
    by rw [cell_other' _ _ _ _ (by intro e; injection e; omega)]; exact r.c3, same_cell r.c4, by rw [cell_other' _ _ _ _ (by intro e; injection e; omega)]; exact r.c5, fun j => by simpa using r.fr j⟩
theorem RB.set5 {w : World} {b : Nat} {k q t : Int} {s h d : ByteArray} (r : RB w b k q t s h d) (x : ByteArray) : RB (w.setCell ⟨b, 5, none⟩ (.string x)) b k q t s h x :=
  ⟨by simpa using r.lt, by rw [cell_other' _ _ _ _ (by intro e; injection e; omega)]; exact r.c0, by rw [cell_other' _ _ _ _ (by intro e; injection e; omega)]; exact r.c1, by rw [cell_other' _ _ _ _ (by intro e; injection e; omega)]; exact r.c2,
    by rw [cell_other' _ _ _ _ (by intro e; injection e; omega)]; exact r.c3, by rw [cell_other' _ _ _ _ (by intro e; injection e; omega)]; exact r.c4, same_cell r.c5, fun j => by simpa using r.fr j⟩
theorem RB.new' (w : World) (b : Nat) (hb : b = w.heap.size) (k q t : Int) (s h d : ByteArray) (T : TypeId) : RB (w.alloc (.cells #[.int .i64 k, .int .i64 q, .int .i64 t, .string s, .string h, .string d] T)) b k q t s h d := by
  subst hb; exact RB.new w k q t s h d T
theorem RB.setAll {w : World} {b : Nat} {k q t : Int} {s h d : ByteArray} (r : RB w b k q t s h d) (k' q' t' : Int) (s' h' d' : ByteArray) :
    RB ((((((w.setCell ⟨b, 0, none⟩ (.int .i64 k')).setCell ⟨b, 1, none⟩ (.int .i64 q')).setCell ⟨b, 2, none⟩ (.int .i64 t')).setCell ⟨b, 3, none⟩ (.string s')).setCell ⟨b, 4, none⟩ (.string h')).setCell ⟨b, 5, none⟩ (.string d')) b k' q' t' s' h' d' :=
  (((((r.set0 k').set1 q').set2 t').set3 s').set4 h').set5 d'
theorem set6_below {w0 W : World} {b : Nat} {v0 v1 v2 v3 v4 v5 : Value} (x : Below w0.heap.size w0 W) (hb : w0.heap.size ≤ b) :
    Below w0.heap.size w0 ((((((W.setCell ⟨b, 0, none⟩ v0).setCell ⟨b, 1, none⟩ v1).setCell ⟨b, 2, none⟩ v2).setCell ⟨b, 3, none⟩ v3).setCell ⟨b, 4, none⟩ v4).setCell ⟨b, 5, none⟩ v5) :=
  (((((x.setCell hb _).setCell hb _).setCell hb _).setCell hb _).setCell hb _).setCell hb _
end Go.Proofs.YtphhebdmfdjfeagGreatDoor

namespace Go.Proofs.YtphhebdmfdjfeagGreatDoor.Dk
open Go.RowKit

/-- the four numbers of a store's sums in a block -/
structure SB (w : World) (b : Nat) (x0 x1 x2 x3 : Int) : Prop where
  lt : b < w.heap.size
  c0 : w.cell? ⟨b, 0, none⟩ = some (.int .i64 x0)
  c1 : w.cell? ⟨b, 1, none⟩ = some (.int .i64 x1)
  c2 : w.cell? ⟨b, 2, none⟩ = some (.int .i64 x2)
  c3 : w.cell? ⟨b, 3, none⟩ = some (.int .i64 x3)
  fr : ∀ j, w.frozen? ⟨b, j, none⟩ = false
theorem SB.below {w w' : World} {b n : Nat} {x0 x1 x2 x3 : Int} (r : SB w b x0 x1 x2 x3) (hb : Below n w w') (hn : b < n) : SB w' b x0 x1 x2 x3 :=
  ⟨Nat.lt_of_lt_of_le r.lt hb.size, by rw [hb.cell (p := ⟨b, 0, none⟩) hn]; exact r.c0, by rw [hb.cell (p := ⟨b, 1, none⟩) hn]; exact r.c1, by rw [hb.cell (p := ⟨b, 2, none⟩) hn]; exact r.c2, by rw [hb.cell (p := ⟨b, 3, none⟩) hn]; exact r.c3, fun j => by rw [hb.frozen (p := ⟨b, j, none⟩) hn]; exact r.fr j⟩
theorem SB.next {w w' : World} {b : Nat} {x0 x1 x2 x3 : Int} (r : SB w b x0 x1 x2 x3) (hb : Below w.heap.size w w') : SB w' b x0 x1 x2 x3 := r.below hb r.lt
theorem SB.alloc {w : World} {b : Nat} {x0 x1 x2 x3 : Int} (r : SB w b x0 x1 x2 x3) (o : Obj) : SB (w.alloc o) b x0 x1 x2 x3 := r.next ((Below.refl _ _).alloc (Nat.le_refl _) o)
theorem SB.new (w : World) (x0 x1 x2 x3 : Int) (T : TypeId) : SB (w.alloc (.cells #[.int .i64 x0, .int .i64 x1, .int .i64 x2, .int .i64 x3] T)) w.heap.size x0 x1 x2 x3 :=
  ⟨by simp, by simp, by simp, by simp, by simp, fun j => World.frozen?_alloc_new _ _ _ j⟩
theorem SB.set0 {w : World} {b : Nat} {x0 x1 x2 x3 : Int} (r : SB w b x0 x1 x2 x3) (y : Int) : SB (w.setCell ⟨b, 0, none⟩ (.int .i64 y)) b y x1 x2 x3 :=
  ⟨by simpa using r.lt, same_cell r.c0, by rw [cell_other' _ _ _ _ (by intro e; injection e; omega)]; exact r.c1, by rw [cell_other' _ _ _ _ (by intro e; injection e; omega)]; exact r.c2, by rw [cell_other' _ _ _ _ (by intro e; injection e; omega)]; exact r.c3, fun j => by simpa using r.fr j⟩
theorem SB.set1 {w : World} {b : Nat} {x0 x1 x2 x3 : Int} (r : SB w b x0 x1 x2 x3) (y : Int) : SB (w.setCell ⟨b, 1, none⟩ (.int .i64 y)) b x0 y x2 x3 :=
  ⟨by simpa using r.lt, by rw [cell_other' _ _ _ _ (by intro e; injection e; omega)]; exact r.c0, same_cell r.c1, by rw [cell_other' _ _ _ _ (by intro e; injection e; omega)]; exact r.c2, by rw [cell_other' _ _ _ _ (by intro e; injection e; omega)]; exact r.c3, fun j => by simpa using r.fr j⟩
theorem SB.set2 {w : World} {b : Nat} {x0 x1 x2 x3 : Int} (r : SB w b x0 x1 x2 x3) (y : Int) : SB (w.setCell ⟨b, 2, none⟩ (.int .i64 y)) b x0 x1 y x3 :=
  ⟨by simpa using r.lt, by rw [cell_other' _ _ _ _ (by intro e; injection e; omega)]; exact r.c0, by rw [cell_other' _ _ _ _ (by intro e; injection e; omega)]; exact r.c1, same_cell r.c2, by rw [cell_other' _ _ _ _ (by intro e; injection e; omega)]; exact r.c3, fun j => by simpa using r.fr j⟩
theorem SB.set3 {w : World} {b : Nat} {x0 x1 x2 x3 : Int} (r : SB w b x0 x1 x2 x3) (y : Int) : SB (w.setCell ⟨b, 3, none⟩ (.int .i64 y)) b x0 x1 x2 y :=
  ⟨by simpa using r.lt, by rw [cell_other' _ _ _ _ (by intro e; injection e; omega)]; exact r.c0, by rw [cell_other' _ _ _ _ (by intro e; injection e; omega)]; exact r.c1, by rw [cell_other' _ _ _ _ (by intro e; injection e; omega)]; exact r.c2, same_cell r.c3, fun j => by simpa using r.fr j⟩
theorem SB.other {w : World} {b c i : Nat} {x0 x1 x2 x3 : Int} {v : Value} (r : SB w b x0 x1 x2 x3) (hc : c ≠ b) : SB (w.setCell ⟨c, i, none⟩ v) b x0 x1 x2 x3 :=
  ⟨by simpa using r.lt, by rw [cell_other' _ _ _ _ (by intro e; injection e; omega)]; exact r.c0, by rw [cell_other' _ _ _ _ (by intro e; injection e; omega)]; exact r.c1, by rw [cell_other' _ _ _ _ (by intro e; injection e; omega)]; exact r.c2, by rw [cell_other' _ _ _ _ (by intro e; injection e; omega)]; exact r.c3, fun j => by simpa using r.fr j⟩
end Go.Proofs.YtphhebdmfdjfeagGreatDoor.Dk

namespace Go.Proofs.YtphhebdmfdjfeagGreatDoor.Dk
open Go.RowKit

theorem load_sum {w : World} {b : Nat} {x0 x1 x2 x3 : Int} (r : SB w b x0 x1 x2 x3) : (loadVar 37 ⟨b, 0, none⟩).run Tryz.prog w = .ok (.agg #[.int .i64 x0, .int .i64 x1, .int .i64 x2, .int .i64 x3]) w := by
  have hl : (loadCells ⟨b, 0, none⟩ 4).run Tryz.prog w = .ok #[.int .i64 x0, .int .i64 x1, .int .i64 x2, .int .i64 x3] w :=
    run_loadCells_list (P := Tryz.prog) w ⟨b, 0, none⟩ [.int .i64 x0, .int .i64 x1, .int .i64 x2, .int .i64 x3] (fun j v hv => by
      rw [addp, Nat.zero_add]
      match j, hv with
      | 0, hv => rw [r.c0]; simpa using hv
      | 1, hv => rw [r.c1]; simpa using hv
      | 2, hv => rw [r.c2]; simpa using hv
      | 3, hv => rw [r.c3]; simpa using hv)
  have hz : Tryz.t37.size = 4 := by kernel_rfl
  simp [loadVar, isAgg, sizeOf]
  rw [hz, hl]
  rfl
theorem results_sum {fn : Func} {a : Tmp} {tmps : Array Value} {w : World} {b : Nat} {x0 x1 x2 x3 : Int} (hf : fn.results = #[.cell a 37]) (ha : tmps.getD a undef = .pointer (some ⟨b, 0, none⟩)) (r : SB w b x0 x1 x2 x3) :
    (results fn tmps).run Tryz.prog w = .ok (.agg #[.int .i64 x0, .int .i64 x1, .int .i64 x2, .int .i64 x3]) w := by
  have ha' : tmps[a]?.getD undef = .pointer (some ⟨b, 0, none⟩) := by simpa using ha
  simp [results, hf, ha', asAddr, load_sum r]
end Go.Proofs.YtphhebdmfdjfeagGreatDoor.Dk

namespace Go.Proofs.YtphhebdmfdjfeagGreatDoor.Dk
open Go.RowKit

def zeroR : Rc := ⟨0, 0, 0, ⟨#[]⟩, ⟨#[]⟩, ⟨#[]⟩⟩
/-- a message, or none -/
def ansV (o : Option Rc) : Value := match o with
  | some r => .tuple #[rcV r, .int .i64 0]
  | none => .tuple #[rcV zeroR, .int .i64 4]
def seekV (f : ByteArray) (o : Option Rc) : Value := if errS true f = 0 then ansV o else .tuple #[rcV zeroR, .int .i64 (errS true f)]
/-- a call may have written the store's own blocks F alone -/
def DidS (SH : World → Nat → Nat → (Nat → Prop) → Sto → Prop) (w w' : World) (B q : Nat) (F : Nat → Prop) (s : Sto) : Prop := ∃ F', SH w' B q F' s ∧ Chg F w w' ∧ ∀ k, F' k → F k ∨ w.heap.size ≤ k
end Go.Proofs.YtphhebdmfdjfeagGreatDoor.Dk
