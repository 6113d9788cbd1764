/-
  A plan that is handed back: its ten cells are read as one value; ten cells that are written. No walk.
-/
import Derived.Test.YtohjipnkoiifhagDoorJointRowPlRowPsRowPv
import Derived.Test.YtohjipnkoiifhagDoorJointBase0RowZ
import Derived.Laws.Rows
namespace Go.Proofs.YtohjipnkoiifhagDoor
open Go.RowKit

theorem load_plan {w : World} {b : Nat} {n : ByteArray} {a : Option Addr} {l c : Nat} {x0 x1 x2 x3 x4 x5 x6 x7 : Int} (r : PB w b n a l c x0 x1 x2 x3 x4 x5 x6 x7) :
    (loadVar 24 ⟨b, 0, none⟩).run Tryd.prog w = .ok (.agg #[.string n, .slice a l c, .int .i64 x0, .int .i64 x1, .int .i64 x2, .int .i64 x3, .int .i64 x4, .int .i64 x5, .int .i64 x6, .int .i64 x7]) w := by
  have hl : (loadCells ⟨b, 0, none⟩ 10).run Tryd.prog w = .ok #[.string n, .slice a l c, .int .i64 x0, .int .i64 x1, .int .i64 x2, .int .i64 x3, .int .i64 x4, .int .i64 x5, .int .i64 x6, .int .i64 x7] w :=
    run_loadCells_list (P := Tryd.prog) w ⟨b, 0, none⟩ [.string n, .slice a l c, .int .i64 x0, .int .i64 x1, .int .i64 x2, .int .i64 x3, .int .i64 x4, .int .i64 x5, .int .i64 x6, .int .i64 x7] (fun j v hv => by
      rw [addp, Nat.zero_add]
      match j, hv with
      | 0, hv => rw [r.c0]; simpa using hv
      | 1, hv => rw [r.c1]; simpa using hv
      | 2, hv => rw [r.c2]; simpa using hv
      | 3, hv => rw [r.c3]; simpa using hv
      | 4, hv => rw [r.c4]; simpa using hv
      | 5, hv => rw [r.c5]; simpa using hv
      | 6, hv => rw [r.c6]; simpa using hv
      | 7, hv => rw [r.c7]; simpa using hv
      | 8, hv => rw [r.c8]; simpa using hv
      | 9, hv => rw [r.c9]; simpa using hv)
  have hz : Tryd.t24.size = 10 := by kernel_rfl
  simp [loadVar, isAgg, sizeOf]
  rw [hz, hl]
  rfl
theorem results_plan2 {fn : Func} {t u : Tmp} {tmps : Array Value} {w : World} {b : Nat} {n : ByteArray} {a : Option Addr} {l c : Nat} {x0 x1 x2 x3 x4 x5 x6 x7 : Int} (hf : fn.results = #[.cell t 24, .tmp u]) (ha : tmps.getD t undef = .pointer (some ⟨b, 0, none⟩)) (r : PB w b n a l c x0 x1 x2 x3 x4 x5 x6 x7) :
    (results fn tmps).run Tryd.prog w = .ok (.tuple #[.agg #[.string n, .slice a l c, .int .i64 x0, .int .i64 x1, .int .i64 x2, .int .i64 x3, .int .i64 x4, .int .i64 x5, .int .i64 x6, .int .i64 x7], tmps.getD u undef]) w := by
  have ha' : tmps[t]?.getD undef = .pointer (some ⟨b, 0, none⟩) := by simpa using ha
  simp [results, hf, ha', asAddr, load_plan r]
/-- cells of a block that are written one behind the other -/
def puts (W : World) (b : Nat) : Nat → List Value → World
  | _, [] => W
  | o, v :: vs => puts (W.setCell ⟨b, o, none⟩ v) b (o + 1) vs
theorem puts_cell (b : Nat) : ∀ (vs : List Value) (W : World) (o : Nat), (∀ j, j < vs.length → (W.cell? ⟨b, o + j, none⟩).isSome = true) → (∀ j, j < vs.length → (puts W b o vs).cell? ⟨b, o + j, none⟩ = vs[j]?) ∧ ∀ k, k < o → (puts W b o vs).cell? ⟨b, k, none⟩ = W.cell? ⟨b, k, none⟩
  | [], W, o, _ => ⟨fun j hj => by simp at hj, fun k _ => rfl⟩
  | v :: vs, W, o, h => by
    have h2 : ∀ j, j < vs.length → ((W.setCell ⟨b, o, none⟩ v).cell? ⟨b, o + 1 + j, none⟩).isSome = true := fun j hj => by
      rw [World.cell?_setCell_other _ _ _ _ (by intro e; injection e; omega)]
      have := h (j + 1) (by simpa using hj)
      rwa [show o + (j + 1) = o + 1 + j by omega] at this
    obtain ⟨r1, r2⟩ := puts_cell b vs (W.setCell ⟨b, o, none⟩ v) (o + 1) h2
    refine ⟨fun j hj => ?_, fun k hk => ?_⟩
    · cases j with
      | zero =>
        rw [Nat.add_zero]
        show (puts (W.setCell ⟨b, o, none⟩ v) b (o + 1) vs).cell? ⟨b, o, none⟩ = some v
        rw [r2 o (by omega)]
        exact World.cell?_setCell_same' _ _ _ (by have := h 0 (by simp); rwa [Nat.add_zero] at this)
      | succ j =>
        have := r1 j (by simpa using hj)
        rw [show o + (j + 1) = o + 1 + j by omega]
        exact this
    · show (puts (W.setCell ⟨b, o, none⟩ v) b (o + 1) vs).cell? ⟨b, k, none⟩ = _
      rw [r2 k (by omega), World.cell?_setCell_other _ _ _ _ (by intro e; injection e; omega)]
theorem puts_size (b : Nat) : ∀ (vs : List Value) (W : World) (o : Nat), (puts W b o vs).heap.size = W.heap.size
  | [], W, o => rfl
  | v :: vs, W, o => by
    show (puts (W.setCell ⟨b, o, none⟩ v) b (o + 1) vs).heap.size = _
    rw [puts_size b vs]; simp [World.setCell]
theorem puts_below {B b : Nat} (hB : B ≤ b) {w : World} : ∀ (vs : List Value) (W : World) (o : Nat), Below B w W → Below B w (puts W b o vs)
  | [], _, _, h => h
  | v :: vs, _, o, h => puts_below hB vs _ (o + 1) (h.setCell (p := ⟨b, o, none⟩) hB v)
theorem puts_other {b k j : Nat} (h : k ≠ b) : ∀ (vs : List Value) (W : World) (o : Nat), (puts W b o vs).cell? ⟨k, j, none⟩ = W.cell? ⟨k, j, none⟩
  | [], W, o => rfl
  | v :: vs, W, o => by
    show (puts (W.setCell ⟨b, o, none⟩ v) b (o + 1) vs).cell? ⟨k, j, none⟩ = _
    rw [puts_other h vs, World.cell?_setCell_other _ _ _ _ (by intro e; injection e; omega)]
/-- a plan is stored over another one -/
theorem PB.puts {W : World} {b : Nat} {n' : ByteArray} {a' : Option Addr} {l' c' : Nat} {z0 z1 z2 z3 z4 z5 z6 z7 : Int} (h : PB W b n' a' l' c' z0 z1 z2 z3 z4 z5 z6 z7) (n : ByteArray) (a : Option Addr) (l c : Nat) (x0 x1 x2 x3 x4 x5 x6 x7 : Int) : PB ((((((((((W.setCell ⟨b, 0, none⟩ (.string n)).setCell ⟨b, 1, none⟩ (.slice a l c)).setCell ⟨b, 2, none⟩ (.int .i64 x0)).setCell ⟨b, 3, none⟩ (.int .i64 x1)).setCell ⟨b, 4, none⟩ (.int .i64 x2)).setCell ⟨b, 5, none⟩ (.int .i64 x3)).setCell ⟨b, 6, none⟩ (.int .i64 x4)).setCell ⟨b, 7, none⟩ (.int .i64 x5)).setCell ⟨b, 8, none⟩ (.int .i64 x6)).setCell ⟨b, 9, none⟩ (.int .i64 x7)) b n a l c x0 x1 x2 x3 x4 x5 x6 x7 := by
  have key := (puts_cell b [.string n, .slice a l c, .int .i64 x0, .int .i64 x1, .int .i64 x2, .int .i64 x3, .int .i64 x4, .int .i64 x5, .int .i64 x6, .int .i64 x7] W 0 (fun j hj => by
    have : j < 10 := hj
    rw [Nat.zero_add]
    rcases j with _ | _ | _ | _ | _ | _ | _ | _ | _ | _ | j
    · rw [h.c0]; rfl
    · rw [h.c1]; rfl
    · rw [h.c2]; rfl
    · rw [h.c3]; rfl
    · rw [h.c4]; rfl
    · rw [h.c5]; rfl
    · rw [h.c6]; rfl
    · rw [h.c7]; rfl
    · rw [h.c8]; rfl
    · rw [h.c9]; rfl
    · omega)).1
  have hsz := puts_size b [.string n, .slice a l c, .int .i64 x0, .int .i64 x1, .int .i64 x2, .int .i64 x3, .int .i64 x4, .int .i64 x5, .int .i64 x6, .int .i64 x7] W 0
  refine ⟨Nat.lt_of_lt_of_eq h.lt hsz.symm, key 0 (by simp), key 1 (by simp), key 2 (by simp), key 3 (by simp), key 4 (by simp), key 5 (by simp), key 6 (by simp), key 7 (by simp), key 8 (by simp), key 9 (by simp)⟩
end Go.Proofs.YtohjipnkoiifhagDoor
