/-
  Two indexes side by side: what a call at one of them leaves of the other one, and of a third block.
-/
import Derived.Test.YtcdajajekmichaaDoorWalkI9
namespace Go.Proofs.YtcdajajekmichaaDoor
open Go.RowKit

structure St (w : World) (B bc px : Nat) (vx : Value) (ex : List Ent) (py : Nat) (vy : Value) (ey : List Ent) : Prop where
  kx : Keeps w B px vx ex
  ky : Keeps w B py vy ey
  ne : ∀ k, foot px vx k → ¬ foot py vy k
  bx : ∀ k, foot px vx k → k ≠ bc
  bz : ∀ k, foot py vy k → k ≠ bc
  lt : bc < w.heap.size
/-- both indexes are there, apart from each other and from block bc -/
def Now (B bc px py : Nat) (ex ey : List Ent) (w : World) : Prop := ∃ vx vy, St w B bc px vx ex py vy ey
def Gone (B bc : Nat) (w w' : World) : Prop := Below B w w' ∧ w'.heap[bc]? = w.heap[bc]?
theorem Keeps.foot_lt {w : World} {B p : Nat} {v : Value} {es : List Ent} (h : Keeps w B p v es) {k : Nat} (hk : foot p v k) : B ≤ k ∧ k < w.heap.size := by
  rcases hk with q | q
  · subst q; exact ⟨h.base, h.lt⟩
  · exact h.arr.lt k q
theorem St.swap {w : World} {B bc px py : Nat} {vx vy : Value} {ex ey : List Ent} (h : St w B bc px vx ex py vy ey) : St w B bc py vy ey px vx ex :=
  ⟨h.ky, h.kx, fun k a b => h.ne k b a, h.bz, h.bx, h.lt⟩
theorem Now.swap {B bc px py : Nat} {ex ey : List Ent} {w : World} (h : Now B bc px py ex ey w) : Now B bc py px ey ex w := by
  obtain ⟨vx, vy, h⟩ := h
  exact ⟨vy, vx, h.swap⟩
theorem St.updx {w w' : World} {B bc px py : Nat} {vx vy : Value} {ex ey ex' : List Ent} (h : St w B bc px vx ex py vy ey) (u : Upd w w' B px vx ex') : Now B bc px py ex' ey w' ∧ Gone B bc w w' := by
  obtain ⟨vx', h1, h2, h3⟩ := u
  have hB : B ≤ w.heap.size := by have := h.kx.base; have := h.kx.lt; omega
  have f' : ∀ k, foot px vx' k → foot px vx k ∨ w.heap.size ≤ k := by
    intro k hk
    rcases hk with q | q
    · exact .inl (.inl q)
    · rcases h3 k q with z | z
      · exact .inl (.inr z)
      · exact .inr z
  refine ⟨⟨vx', vy, h1, h.ky.chg h2 (fun k a b => h.ne k b a), fun k a b => ?_, fun k a => ?_, h.bz, Nat.lt_of_lt_of_le h.lt h2.size⟩, h2.below hB (fun k hk a => by have := (h.kx.foot_lt a).1; omega), h2.block bc h.lt (fun a => h.bx bc a rfl)⟩
  · rcases f' k a with z | z
    · exact h.ne k z b
    · have := (h.ky.foot_lt b).2; omega
  · rcases f' k a with z | z
    · exact h.bx k z
    · have := h.lt; omega
theorem Now.below {B bc px py : Nat} {ex ey : List Ent} {w w' : World} (h : Now B bc px py ex ey w) (hb : Below w.heap.size w w') : Now B bc px py ex ey w' ∧ Gone B bc w w' := by
  obtain ⟨vx, vy, h⟩ := h
  have hB : B ≤ w.heap.size := by have := h.kx.base; have := h.kx.lt; omega
  exact ⟨⟨vx, vy, h.kx.below hb, h.ky.below hb, h.ne, h.bx, h.bz, Nat.lt_of_lt_of_le h.lt hb.size⟩, hb.mono hB, hb.block bc h.lt⟩
theorem Now.room {B bc px py : Nat} {ex ey : List Ent} {w : World} (h : Now B bc px py ex ey w) : B ≤ w.heap.size := by
  obtain ⟨vx, vy, h⟩ := h
  have := h.kx.base; have := h.kx.lt; omega
theorem now_x {B bc px py : Nat} {ex ey ex' : List Ent} {w : World} {f : Nat} {args : Array Value} {r : Ending} (h : Now B bc px py ex ey w)
    (c : ∀ vx, Keeps w B px vx ex → Calls Tryd.prog f args w fun e w' => e = r ∧ Upd w w' B px vx ex') :
    Calls Tryd.prog f args w fun e w' => e = r ∧ Now B bc px py ex' ey w' ∧ Gone B bc w w' := by
  obtain ⟨vx, vy, h⟩ := h
  refine (c vx h.kx).mono ?_
  rintro e w' ⟨h1, h2⟩
  exact ⟨h1, h.updx h2⟩
theorem now_y {B bc px py : Nat} {ex ey ey' : List Ent} {w : World} {f : Nat} {args : Array Value} {r : Ending} (h : Now B bc px py ex ey w)
    (c : ∀ vy, Keeps w B py vy ey → Calls Tryd.prog f args w fun e w' => e = r ∧ Upd w w' B py vy ey') :
    Calls Tryd.prog f args w fun e w' => e = r ∧ Now B bc px py ex ey' w' ∧ Gone B bc w w' := by
  refine (now_x h.swap c).mono ?_
  rintro e w' ⟨h1, h2, h3⟩
  exact ⟨h1, h2.swap, h3⟩
theorem Gone.cell {B bc : Nat} {w w' : World} (h : Gone B bc w w') (j : Nat) : w'.cell? ⟨bc, j, none⟩ = w.cell? ⟨bc, j, none⟩ := World.cell?_of_block (w := w) h.2
theorem Gone.trans {B bc : Nat} {a b c : World} (h : Gone B bc a b) (k : Gone B bc b c) : Gone B bc a c := ⟨h.1.trans k.1, k.2.trans h.2⟩
theorem Now.move {B bc bd px py : Nat} {ex ey : List Ent} {w w' : World} (h : Now B bc px py ex ey w) (hb : Below w.heap.size w w') (h1 : w.heap.size ≤ bd) (h2 : bd < w'.heap.size) : Now B bd px py ex ey w' := by
  obtain ⟨vx, vy, h⟩ := h
  exact ⟨vx, vy, h.kx.below hb, h.ky.below hb, h.ne, fun k a => by have := (h.kx.foot_lt a).2; omega, fun k a => by have := (h.ky.foot_lt a).2; omega, h2⟩

def Two (B px py : Nat) (ex ey : List Ent) (w : World) : Prop := ∃ vx vy, Keeps w B px vx ex ∧ Keeps w B py vy ey ∧ ∀ k, foot px vx k → ¬ foot py vy k
theorem Now.two {B bc px py : Nat} {ex ey : List Ent} {w : World} (h : Now B bc px py ex ey w) : Two B px py ex ey w := by
  obtain ⟨vx, vy, h⟩ := h
  exact ⟨vx, vy, h.kx, h.ky, h.ne⟩
theorem Two.now {B bd px py : Nat} {ex ey : List Ent} {w w' : World} (h : Two B px py ex ey w) (hb : Below w.heap.size w w') (h1 : w.heap.size ≤ bd) (h2 : bd < w'.heap.size) : Now B bd px py ex ey w' := by
  obtain ⟨vx, vy, kx, ky, ne⟩ := h
  exact ⟨vx, vy, kx.below hb, ky.below hb, ne, fun k a => by have := (kx.foot_lt a).2; omega, fun k a => by have := (ky.foot_lt a).2; omega, h2⟩
theorem two_new (w w1 : World) (t : TypeId) (h1 : Keeps w1 w.heap.size w.heap.size (.slice none 0 0) []) (h2 : w1.heap.size = w.heap.size + 1) : Two w.heap.size w.heap.size (w.heap.size + 1) [] [] (w1.alloc (.cells #[.slice none 0 0] t)) := by
  have k2 := keeps_new w1 w.heap.size t (by omega)
  rw [h2] at k2
  refine ⟨_, _, h1.below ((Below.refl _ _).alloc (Nat.le_refl _) _), k2, fun k a b => ?_⟩
  rcases a with a | a
  · rcases b with b | b
    · omega
    · simp [Value.ownBlock] at b
  · simp [Value.ownBlock] at a

/-- the calls that are handed in -/
structure Put where
  kind : Int
  subject : ByteArray
  n : Int
def Puts (w : World) (a : Option Addr) (n : Nat) (C : Nat → Put) : Prop := ∀ i, i < n → ∃ b o, a = some ⟨b, o, none⟩ ∧ b < w.heap.size ∧ w.cell? ⟨b, o + i * 3, none⟩ = some (.int .i64 (C i).kind) ∧ w.cell? ⟨b, o + i * 3 + 1, none⟩ = some (.string (C i).subject) ∧ w.cell? ⟨b, o + i * 3 + 2, none⟩ = some (.int .i64 (C i).n) ∧ (C i).subject.size ≤ 140737488355328
end Go.Proofs.YtcdajajekmichaaDoor
