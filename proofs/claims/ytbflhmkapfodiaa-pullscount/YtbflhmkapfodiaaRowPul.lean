/-
  Rows of pulls in memory, and a queue that keeps one. No walk.
-/
import Derived.Test.YtbflhmkapfodiaaRowTr
import Derived.Test.YtbflhmkapfodiaaPapPul
namespace Go.Proofs.Ytbflhmkapfodiaa.Dk
open Go.RowKit

def pulT (p : Pul) : Tri := ⟨.int .i64 p.b, .int .i64 p.t, .bool p.nw⟩
theorem pulT_one (p : Pul) : OneT (pulT p) := ⟨rfl, rfl, rfl⟩
theorem pulT_all (l : List Pul) : ∀ x ∈ l.map pulT, OneT x := fun x hx => by
  obtain ⟨p, _, rfl⟩ := List.mem_map.1 hx
  exact pulT_one p
abbrev pulV (p : Pul) : Value := .agg #[.int .i64 p.b, .int .i64 p.t, .bool p.nw]
abbrev pulO (p : Pul) : Obj := .cells #[.int .i64 p.b, .int .i64 p.t, .bool p.nw] 30
/-- three cells of a pull -/
structure PuC (w : World) (b o : Nat) (p : Pul) : Prop where
  lt : b < w.heap.size
  c0 : w.cell? ⟨b, o, none⟩ = some (.int .i64 p.b)
  c1 : w.cell? ⟨b, o + 1, none⟩ = some (.int .i64 p.t)
  c2 : w.cell? ⟨b, o + 2, none⟩ = some (.bool p.nw)
theorem PuC.chg {A : Nat → Prop} {w w' : World} {b o : Nat} {x : Pul} (h : PuC w b o x) (hc : Chg A w w') (hn : ¬ A b) : PuC w' b o x :=
  ⟨Nat.lt_of_lt_of_le h.lt hc.size, by rw [hc.cell (p := ⟨b, o, none⟩) h.lt hn]; exact h.c0, by rw [hc.cell (p := ⟨b, o + 1, none⟩) h.lt hn]; exact h.c1, by rw [hc.cell (p := ⟨b, o + 2, none⟩) h.lt hn]; exact h.c2⟩
/-- a row of pulls of one's own -/
def ArrU (w : World) (B : Nat) (v : Value) (l : List Pul) : Prop := ArrT 30 w B v (l.map pulT)
/-- a slice that shows pulls -/
def SlU (w : World) (a : Option Addr) (l : List Pul) : Prop := ∀ k (hk : k < l.length), ∃ b o, a = some ⟨b, o, none⟩ ∧ PuC w b (o + k * 3) l[k]
theorem SlU.chg {A : Nat → Prop} {w w' : World} {a : Option Addr} {l : List Pul} (h : SlU w a l) (hc : Chg A w w') (hn : ∀ p, a = some p → ¬ A p.block) : SlU w' a l := fun k hk => by
  obtain ⟨b, o, h1, h2⟩ := h k hk
  exact ⟨b, o, h1, h2.chg hc (hn _ h1)⟩
theorem SlU.below {w w' : World} {a : Option Addr} {l : List Pul} (h : SlU w a l) (hb : Below w.heap.size w w') : SlU w' a l := h.chg (A := fun _ => False) (Chg.of_below hb) (fun _ _ z => z)
theorem pulT_at {l : List Pul} {k : Nat} (hk : k < l.length) : tr (l.map pulT) k = pulT l[k] := by rw [tr_get (by simpa using hk), List.getElem_map]
theorem ArrU.at {w : World} {B g cap n : Nat} {l : List Pul} (h : ArrU w B (.slice (some ⟨g, 0, none⟩) n cap) l) {k : Nat} (hk : k < l.length) : PuC w g (k * 3) l[k] := by
  have := ArrT.at h (k := k) (by simpa using hk)
  rw [pulT_at hk] at this
  exact ⟨this.lt, this.c0, this.c1, this.c2⟩
theorem ArrU.shape {w : World} {B : Nat} {v : Value} {l : List Pul} (h : ArrU w B v l) : ∃ a cap, v = .slice a l.length cap ∧ l.length ≤ cap ∧ cap ≤ maxLen ∧ SlU w a l ∧ ∀ p, a = some p → v.ownBlock = some p.block := by
  obtain ⟨a, cap, h1, h2, h3, h4, h5⟩ := ArrT.shape h
  rw [List.length_map] at h1 h2
  refine ⟨a, cap, h1, h2, h3, fun k hk => ?_, h5⟩
  obtain ⟨b, o, e, t⟩ := h4 k (by simpa using hk)
  rw [pulT_at hk] at t
  exact ⟨b, o, e, t.lt, t.c0, t.c1, t.c2⟩
theorem ArrU.there {w : World} {B : Nat} {v : Value} {l : List Pul} (h : ArrU w B v l) (hn : 0 < l.length) : ∃ g cap, v = .slice (some ⟨g, 0, none⟩) l.length cap ∧ l.length ≤ cap ∧ cap ≤ maxLen ∧ B ≤ g ∧ g < w.heap.size := by
  have := ArrT.there h (by simpa using hn)
  rwa [List.length_map] at this
theorem ArrU.chg {A : Nat → Prop} {w w' : World} {B : Nat} {v : Value} {l : List Pul} (h : ArrU w B v l) (hb : Chg A w w') (hn : ∀ g, v.ownBlock = some g → ¬ A g) : ArrU w' B v l := ArrT.chg h hb hn
theorem ArrU.below {w w' : World} {B : Nat} {v : Value} {l : List Pul} (h : ArrU w B v l) (hb : Below w.heap.size w w') : ArrU w' B v l := ArrT.below h hb
theorem ArrU.set {w : World} {B g cap : Nat} {l : List Pul} (h : ArrU w B (.slice (some ⟨g, 0, none⟩) l.length cap) l) {k : Nat} (hk : k < l.length) (x : Pul) : ArrU (w.setCells g (k * 3) [.int .i64 x.b, .int .i64 x.t, .bool x.nw]) B (.slice (some ⟨g, 0, none⟩) l.length cap) (l.set k x) := by
  unfold ArrU at h ⊢
  have e : l.length = (l.map pulT).length := by rw [List.length_map]
  rw [e] at h ⊢
  have := ArrT.set h (k := k) (by simpa using hk) (pulT x)
  rw [List.map_set]
  exact this
theorem ArrU.cut {w : World} {B g cap : Nat} {a r : List Pul} (h : ArrU w B (.slice (some ⟨g, 0, none⟩) (a ++ r).length cap) (a ++ r)) (z : List Value) (hz : z.length = r.length * 3) : ArrU (w.setCells g (a.length * 3) z) B (.slice (some ⟨g, 0, none⟩) a.length cap) a := by
  unfold ArrU at h ⊢
  rw [List.map_append, show (a ++ r).length = (a.map pulT ++ r.map pulT).length by simp] at h
  have := ArrT.cut h z (by simpa using hz)
  rwa [List.length_map] at this
theorem infoU : (Try.prog.info? 30).map (fun i => (i.zero, i.size, i.bytes)) = some (some (.agg #[.int .i64 0, .int .i64 0, .bool false]), 3, 24) := by kernel_rfl
theorem append_pul (w : World) (B : Nat) (ty : TypeId) (v : Value) (l : List Pul) (p : Pul) (ha : ArrU w B v l) (a : Addr) (c : Nat) (hnews : ∀ j u, (celT [pulT p])[j]? = some u → w.cell? (a.add j) = some u) (hl : l.length + 1 ≤ 1000000) (hB : B ≤ w.heap.size) :
    ∃ v' w', (Builtin.append_ #[26, 26] ty #[v, .slice (some a) 1 c]).run Try.prog w = .ok v' w' ∧ ArrU w' B v' (l ++ [p]) ∧ Chg (fun k => v.ownBlock = some k) w w' ∧ ∀ g, v'.ownBlock = some g → v.ownBlock = some g ∨ w.heap.size ≤ g := by
  have := append_tri (P := Try.prog) 26 30 _ 24 Try.underlying26 infoU rfl ⟨by omega, by omega⟩ w B ty v (l.map pulT) [pulT p] ha a c hnews (fun x hx => by rw [List.mem_singleton] at hx; subst hx; exact pulT_one p) (by simpa using hl) hB
  unfold ArrU
  rw [List.map_append]
  exact this
/-- a queue: cell 0 of the block p holds the slice v of the pulls l -/
structure KeepU (w : World) (B p : Nat) (v : Value) (l : List Pul) : Prop where
  cell : w.cell? ⟨p, 0, none⟩ = some v
  free : w.frozen? ⟨p, 0, none⟩ = false
  base : B ≤ p
  lt : p < w.heap.size
  arr : ArrU w B v l
  apart : v.ownBlock ≠ some p
def footU (p : Nat) (v : Value) (k : Nat) : Prop := k = p ∨ v.ownBlock = some k
theorem KeepU.chg {A : Nat → Prop} {w w' : World} {B p : Nat} {v : Value} {l : List Pul} (h : KeepU w B p v l) (hb : Chg A w w') (hn : ∀ k, footU p v k → ¬ A k) : KeepU w' B p v l :=
  ⟨by rw [hb.cell (p := ⟨p, 0, none⟩) h.lt (hn p (.inl rfl))]; exact h.cell, by rw [hb.frozen (p := ⟨p, 0, none⟩) h.lt (hn p (.inl rfl))]; exact h.free, h.base, by have := hb.size; have := h.lt; omega, h.arr.chg hb (fun g hg => hn g (.inr hg)), h.apart⟩
theorem KeepU.below {w w' : World} {B p : Nat} {v : Value} {l : List Pul} (h : KeepU w B p v l) (hb : Below w.heap.size w w') : KeepU w' B p v l := h.chg (A := fun _ => False) (Chg.of_below hb) (fun _ _ z => z)
/-- what a call makes of a queue: only its own blocks are written -/
def UpdU (w w' : World) (B p : Nat) (v : Value) (l' : List Pul) : Prop := ∃ v', KeepU w' B p v' l' ∧ Chg (footU p v) w w' ∧ ∀ g, v'.ownBlock = some g → v.ownBlock = some g ∨ w.heap.size ≤ g
theorem UpdU.same {w w' : World} {B p : Nat} {v : Value} {l : List Pul} (h : KeepU w B p v l) (hb : Below w.heap.size w w') : UpdU w w' B p v l := ⟨v, h.below hb, Chg.of_below hb, fun _ hg => .inl hg⟩
/-- one call behind another -/
theorem UpdU.trans {w w1 w' : World} {B p : Nat} {v v1 : Value} {l' : List Pul} (c1 : Chg (footU p v) w w1) (h1 : ∀ g, v1.ownBlock = some g → v.ownBlock = some g ∨ w.heap.size ≤ g) (h : UpdU w1 w' B p v1 l') : UpdU w w' B p v l' := by
  obtain ⟨v', k, c, hg⟩ := h
  have s := c1.size
  refine ⟨v', k, ⟨c.os.trans c1.os, c.tape.trans c1.tape, c.output.trans c1.output, Nat.le_trans c1.size c.size, fun i hi hn => ?_⟩, fun g e => ?_⟩
  · rw [c.block i (by omega) (fun q => ?_)]
    · exact c1.block i hi hn
    · rcases q with q | q
      · exact hn (.inl q)
      · rcases h1 i q with z | z
        · exact hn (.inr z)
        · omega
  · rcases hg g e with z | z
    · exact h1 g z
    · exact .inr (by omega)
/-- the new slice is stored in the block -/
theorem KeepU.store {w w' : World} {B p : Nat} {v v' : Value} {l l' : List Pul} (h : KeepU w B p v l) (hb : Chg (fun k => v.ownBlock = some k) w w') (ha : ArrU w' B v' l') (hv : ∀ g, v'.ownBlock = some g → v.ownBlock = some g ∨ w.heap.size ≤ g) :
    KeepU (w'.setCell ⟨p, 0, none⟩ v') B p v' l' ∧ Chg (footU p v) w (w'.setCell ⟨p, 0, none⟩ v') := by
  have hne : v'.ownBlock ≠ some p := fun e => by
    rcases hv p e with q | q
    · exact h.apart q
    · have := h.lt; omega
  have hc : w'.cell? ⟨p, 0, none⟩ = some v := by rw [hb.cell (p := ⟨p, 0, none⟩) h.lt h.apart]; exact h.cell
  refine ⟨⟨World.cell?_setCell_same _ _ _ hc, ?_, h.base, ?_, ?_, hne⟩, ?_⟩
  · rw [World.frozen?_setCell, hb.frozen (p := ⟨p, 0, none⟩) h.lt h.apart]; exact h.free
  · have := hb.size; have := h.lt; simp [World.setCell]; omega
  · refine ha.chg (A := fun k => k = p) (Chg.setCell (A := fun k => k = p) (p := ⟨p, 0, none⟩) (Chg.refl _ _) (.inl rfl) _) (fun g hg e => ?_)
    subst e
    exact hne hg
  · exact (hb.mono (fun k _ q => .inr q)).setCell (.inl (.inl rfl)) _
theorem UpdU.store {w w' : World} {B p : Nat} {v v' : Value} {l l' : List Pul} (h : KeepU w B p v l) (hb : Chg (fun k => v.ownBlock = some k) w w') (ha : ArrU w' B v' l') (hv : ∀ g, v'.ownBlock = some g → v.ownBlock = some g ∨ w.heap.size ≤ g) : UpdU w (w'.setCell ⟨p, 0, none⟩ v') B p v l' := by
  obtain ⟨h1, h2⟩ := h.store hb ha hv
  exact ⟨v', h1, h2, hv⟩
end Go.Proofs.Ytbflhmkapfodiaa.Dk
