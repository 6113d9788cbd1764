/-
  A text out of bytes; a place in a block. No walk.
  A plan that is handed back: its ten cells are read as one value; ten cells that are written. No walk.
  Contracts of the landed package plan: numbers, Check. Its table of words and bounds.
  A text that is cut at a byte, as it grows at the end. No program.
-/
import Derived.Test.YtmccpkpeimejhahGreatDoorJointBase0RowTmPlainPapPa
import Derived.Test.YtmccpkpeimejhahGreatDoorJointRowPlRowPsPapPcPapPe
import Derived.Laws.Rows
import Derived.Test.YtmccpkpeimejhahGreatDoorJointWalkY1Walk5aWalk5WalkY2
import Derived.Deep.RegionHeldLaw
namespace Go.Proofs.YtmccpkpeimejhahGreatDoor
open Go.RowKit

/-- a text out of bytes -/
def bs (l : List UInt8) : ByteArray := ⟨l.toArray⟩
theorem bs_list (l : List UInt8) : (bs l).data.toList = l := by simp [bs]
theorem bs_size (l : List UInt8) : (bs l).size = l.length := by simp [bs, ByteArray.size]
theorem addp (b o i : Nat) : (⟨b, o, none⟩ : Addr).add i = ⟨b, o + i, none⟩ := by unfold Addr.add; split <;> simp_all
end Go.Proofs.YtmccpkpeimejhahGreatDoor

namespace Go.Proofs.YtmccpkpeimejhahGreatDoor
open Go.RowKit

theorem load_plan {w : World} {b : Nat} {n : ByteArray} {a : Option Addr} {l c : Nat} {x0 x1 x2 x3 x4 x5 x6 x7 : Int} (r : PB w b n a l c x0 x1 x2 x3 x4 x5 x6 x7) :
    (loadVar 24 ⟨b, 0, none⟩).run Tryz.prog w = .ok (.agg #[.string n, .slice a l c, .int .i64 x0, .int .i64 x1, .int .i64 x2, .int .i64 x3, .int .i64 x4, .int .i64 x5, .int .i64 x6, .int .i64 x7]) w := by
  have hl : (loadCells ⟨b, 0, none⟩ 10).run Tryz.prog w = .ok #[.string n, .slice a l c, .int .i64 x0, .int .i64 x1, .int .i64 x2, .int .i64 x3, .int .i64 x4, .int .i64 x5, .int .i64 x6, .int .i64 x7] w :=
    run_loadCells_list (P := Tryz.prog) w ⟨b, 0, none⟩ [.string n, .slice a l c, .int .i64 x0, .int .i64 x1, .int .i64 x2, .int .i64 x3, .int .i64 x4, .int .i64 x5, .int .i64 x6, .int .i64 x7] (fun j v hv => by
      rw [addp, Nat.zero_add]
      match j, hv with
      | 0, hv => rw [r.c0]; simpa using hv
      | 1, hv => rw [r.c1]; simpa using hv
      | 2, hv => rw [r.c2]; simpa using hv
      | 3, hv => rw [r.c3]; simpa using hv
      | 4, hv => rw [r.c4]; simpa using hv
      | 5, hv => rw [r.c5]; simpa using hv
      | 6, hv => rw [r.c6]; simpa using hv
      | 7, hv => rw [r.c7]; simpa using hv
      | 8, hv => rw [r.c8]; simpa using hv
      | 9, hv => rw [r.c9]; simpa using hv)
  have hz : Tryz.t24.size = 10 := by kernel_rfl
  simp [loadVar, isAgg, sizeOf]
  rw [hz, hl]
  rfl
theorem results_plan2 {fn : Func} {t u : Tmp} {tmps : Array Value} {w : World} {b : Nat} {n : ByteArray} {a : Option Addr} {l c : Nat} {x0 x1 x2 x3 x4 x5 x6 x7 : Int} (hf : fn.results = #[.cell t 24, .tmp u]) (ha : tmps.getD t undef = .pointer (some ⟨b, 0, none⟩)) (r : PB w b n a l c x0 x1 x2 x3 x4 x5 x6 x7) :
    (results fn tmps).run Tryz.prog w = .ok (.tuple #[.agg #[.string n, .slice a l c, .int .i64 x0, .int .i64 x1, .int .i64 x2, .int .i64 x3, .int .i64 x4, .int .i64 x5, .int .i64 x6, .int .i64 x7], tmps.getD u undef]) w := by
  have ha' : tmps[t]?.getD undef = .pointer (some ⟨b, 0, none⟩) := by simpa using ha
  simp [results, hf, ha', asAddr, load_plan r]
/-- cells of a block that are written one behind the other -/
def puts (W : World) (b : Nat) : Nat → List Value → World
  | _, [] => W
  | o, v :: vs => puts (W.setCell ⟨b, o, none⟩ v) b (o + 1) vs
theorem puts_cell (b : Nat) : ∀ (vs : List Value) (W : World) (o : Nat), (∀ j, j < vs.length → (W.cell? ⟨b, o + j, none⟩).isSome = true) → (∀ j, j < vs.length → (puts W b o vs).cell? ⟨b, o + j, none⟩ = vs[j]?) ∧ ∀ k, k < o → (puts W b o vs).cell? ⟨b, k, none⟩ = W.cell? ⟨b, k, none⟩
  | [], W, o, _ => ⟨fun j hj => by simp at hj, fun k _ => rfl⟩
  | v :: vs, W, o, h => by
    have h2 : ∀ j, j < vs.length → ((W.setCell ⟨b, o, none⟩ v).cell? ⟨b, o + 1 + j, none⟩).isSome = true := fun j hj => by
      rw [World.cell?_setCell_other _ _ _ _ (by intro e; injection e; omega)]
      have := h (j + 1) (by simpa using hj)
      rwa [show o + (j + 1) = o + 1 + j by omega] at this
    obtain ⟨r1, r2⟩ := puts_cell b vs (W.setCell ⟨b, o, none⟩ v) (o + 1) h2
    refine ⟨fun j hj => ?_, fun k hk => ?_⟩
    · cases j with
      | zero =>
        rw [Nat.add_zero]
        show (puts (W.setCell ⟨b, o, none⟩ v) b (o + 1) vs).cell? ⟨b, o, none⟩ = some v
        rw [r2 o (by omega)]
        exact World.cell?_setCell_same' _ _ _ (by have := h 0 (by simp); rwa [Nat.add_zero] at this)
      | succ j =>
        have := r1 j (by simpa using hj)
        rw [show o + (j + 1) = o + 1 + j by omega]
        exact this
    · show (puts (W.setCell ⟨b, o, none⟩ v) b (o + 1) vs).cell? ⟨b, k, none⟩ = _
      rw [r2 k (by omega), World.cell?_setCell_other _ _ _ _ (by intro e; injection e; omega)]
theorem puts_size (b : Nat) : ∀ (vs : List Value) (W : World) (o : Nat), (puts W b o vs).heap.size = W.heap.size
  | [], W, o => rfl
  | v :: vs, W, o => by
    show (puts (W.setCell ⟨b, o, none⟩ v) b (o + 1) vs).heap.size = _
    rw [puts_size b vs]; simp [World.setCell]
theorem puts_below {B b : Nat} (hB : B ≤ b) {w : World} : ∀ (vs : List Value) (W : World) (o : Nat), Below B w W → Below B w (puts W b o vs)
  | [], _, _, h => h
  | v :: vs, _, o, h => puts_below hB vs _ (o + 1) (h.setCell (p := ⟨b, o, none⟩) hB v)
theorem puts_other {b k j : Nat} (h : k ≠ b) : ∀ (vs : List Value) (W : World) (o : Nat), (puts W b o vs).cell? ⟨k, j, none⟩ = W.cell? ⟨k, j, none⟩
  | [], W, o => rfl
  | v :: vs, W, o => by
    show (puts (W.setCell ⟨b, o, none⟩ v) b (o + 1) vs).cell? ⟨k, j, none⟩ = _
    rw [puts_other h vs, World.cell?_setCell_other _ _ _ _ (by intro e; injection e; omega)]
/-- a plan is stored over another one -/
theorem PB.puts {W : World} {b : Nat} {n' : ByteArray} {a' : Option Addr} {l' c' : Nat} {z0 z1 z2 z3 z4 z5 z6 z7 : Int} (h : PB W b n' a' l' c' z0 z1 z2 z3 z4 z5 z6 z7) (n : ByteArray) (a : Option Addr) (l c : Nat) (x0 x1 x2 x3 x4 x5 x6 x7 : Int) : PB ((((((((((W.setCell ⟨b, 0, none⟩ (.string n)).setCell ⟨b, 1, none⟩ (.slice a l c)).setCell ⟨b, 2, none⟩ (.int .i64 x0)).setCell ⟨b, 3, none⟩ (.int .i64 x1)).setCell ⟨b, 4, none⟩ (.int .i64 x2)).setCell ⟨b, 5, none⟩ (.int .i64 x3)).setCell ⟨b, 6, none⟩ (.int .i64 x4)).setCell ⟨b, 7, none⟩ (.int .i64 x5)).setCell ⟨b, 8, none⟩ (.int .i64 x6)).setCell ⟨b, 9, none⟩ (.int .i64 x7)) b n a l c x0 x1 x2 x3 x4 x5 x6 x7 := by
  have key := (puts_cell b [.string n, .slice a l c, .int .i64 x0, .int .i64 x1, .int .i64 x2, .int .i64 x3, .int .i64 x4, .int .i64 x5, .int .i64 x6, .int .i64 x7] W 0 (fun j hj => by
    have : j < 10 := hj
    rw [Nat.zero_add]
    rcases j with _ | _ | _ | _ | _ | _ | _ | _ | _ | _ | j
    · rw [h.c0]; rfl
    · rw [h.c1]; rfl
    · rw [h.c2]; rfl
    · rw [h.c3]; rfl
    · rw [h.c4]; rfl
    · rw [h.c5]; rfl
    · rw [h.c6]; rfl
    · rw [h.c7]; rfl
    · rw [h.c8]; rfl
    · rw [h.c9]; rfl
    · omega)).1
  have hsz := puts_size b [.string n, .slice a l c, .int .i64 x0, .int .i64 x1, .int .i64 x2, .int .i64 x3, .int .i64 x4, .int .i64 x5, .int .i64 x6, .int .i64 x7] W 0
  refine ⟨Nat.lt_of_lt_of_eq h.lt hsz.symm, key 0 (by simp), key 1 (by simp), key 2 (by simp), key 3 (by simp), key 4 (by simp), key 5 (by simp), key 6 (by simp), key 7 (by simp), key 8 (by simp), key 9 (by simp)⟩
end Go.Proofs.YtmccpkpeimejhahGreatDoor

namespace Go.Proofs.YtmccpkpeimejhahGreatDoor
open Go.RowKit

/-- the pointers to a plan's numbers, as numbers hands them back -/
abbrev ptrs (b : Nat) : Value := .agg #[.pointer (some ⟨b, 2, none⟩), .pointer (some ⟨b, 3, none⟩), .pointer (some ⟨b, 4, none⟩), .pointer (some ⟨b, 5, none⟩), .pointer (some ⟨b, 6, none⟩), .pointer (some ⟨b, 7, none⟩), .pointer (some ⟨b, 8, none⟩), .pointer (some ⟨b, 9, none⟩)]
theorem load_ptrs {w : World} {g b : Nat} (r : ∀ i, i < 8 → w.cell? ⟨g, i, none⟩ = some (.pointer (some ⟨b, 2 + i, none⟩))) :
    (loadVar 79 ⟨g, 0, none⟩).run Tryz.prog w = .ok (ptrs b) w := by
  have hl : (loadCells ⟨g, 0, none⟩ 8).run Tryz.prog w = .ok #[.pointer (some ⟨b, 2, none⟩), .pointer (some ⟨b, 3, none⟩), .pointer (some ⟨b, 4, none⟩), .pointer (some ⟨b, 5, none⟩), .pointer (some ⟨b, 6, none⟩), .pointer (some ⟨b, 7, none⟩), .pointer (some ⟨b, 8, none⟩), .pointer (some ⟨b, 9, none⟩)] w :=
    run_loadCells_list (P := Tryz.prog) w ⟨g, 0, none⟩ [.pointer (some ⟨b, 2, none⟩), .pointer (some ⟨b, 3, none⟩), .pointer (some ⟨b, 4, none⟩), .pointer (some ⟨b, 5, none⟩), .pointer (some ⟨b, 6, none⟩), .pointer (some ⟨b, 7, none⟩), .pointer (some ⟨b, 8, none⟩), .pointer (some ⟨b, 9, none⟩)] (fun j v hv => by
      rw [addp, Nat.zero_add]
      match j, hv with
      | 0, hv => rw [r 0 (by omega)]; simpa using hv
      | 1, hv => rw [r 1 (by omega)]; simpa using hv
      | 2, hv => rw [r 2 (by omega)]; simpa using hv
      | 3, hv => rw [r 3 (by omega)]; simpa using hv
      | 4, hv => rw [r 4 (by omega)]; simpa using hv
      | 5, hv => rw [r 5 (by omega)]; simpa using hv
      | 6, hv => rw [r 6 (by omega)]; simpa using hv
      | 7, hv => rw [r 7 (by omega)]; simpa using hv)
  have hz : Tryz.t79.size = 8 := by kernel_rfl
  simp [loadVar, isAgg, sizeOf]
  rw [hz, hl]
  rfl
theorem results_ptrs {fn : Func} {t : Tmp} {tmps : Array Value} {w : World} {g b : Nat} (hf : fn.results = #[.cell t 79]) (ha : tmps.getD t undef = .pointer (some ⟨g, 0, none⟩)) (r : ∀ i, i < 8 → w.cell? ⟨g, i, none⟩ = some (.pointer (some ⟨b, 2 + i, none⟩))) :
    (results fn tmps).run Tryz.prog w = .ok (ptrs b) w := by
  have ha' : tmps[t]?.getD undef = .pointer (some ⟨g, 0, none⟩) := by simpa using ha
  simp [results, hf, ha', asAddr, load_ptrs r]
/-- the i-th pointer -/
theorem run_index_ptrs (b i : Nat) (hi : i < 8) (w : World) : (Instr.index 79 (ptrs b) (.int .i64 (i : Int))).run Tryz.prog w = .ok (.pointer (some ⟨b, 2 + i, none⟩)) w := by
  have : i = 0 ∨ i = 1 ∨ i = 2 ∨ i = 3 ∨ i = 4 ∨ i = 5 ∨ i = 6 ∨ i = 7 := by omega
  rcases this with rfl | rfl | rfl | rfl | rfl | rfl | rfl | rfl <;> simp [Instr.index, run_underlying Tryz.underlying79, asIntOf, go_sem]
theorem eight_ptrs (w : World) (b : Nat) (T : TypeId) : ∀ i, i < 8 → (w.alloc (.cells #[.pointer (some ⟨b, 2, none⟩), .pointer (some ⟨b, 3, none⟩), .pointer (some ⟨b, 4, none⟩), .pointer (some ⟨b, 5, none⟩), .pointer (some ⟨b, 6, none⟩), .pointer (some ⟨b, 7, none⟩), .pointer (some ⟨b, 8, none⟩), .pointer (some ⟨b, 9, none⟩)] T)).drew.cell? ⟨w.heap.size, i, none⟩ = some (.pointer (some ⟨b, 2 + i, none⟩)) := fun i hi => by
  have : i = 0 ∨ i = 1 ∨ i = 2 ∨ i = 3 ∨ i = 4 ∨ i = 5 ∨ i = 6 ∨ i = 7 := by omega
  rcases this with rfl | rfl | rfl | rfl | rfl | rfl | rfl | rfl <;> simp
set_option maxRecDepth 100000 in
set_option maxHeartbeats 1000000 in
theorem numbers_any (b : Nat) (w : World) :
    Calls Tryz.prog 29 #[.pointer (some ⟨b, 0, none⟩)] w fun e w' => e = .returned (ptrs b) ∧ Below w.heap.size w w' := by
  have HE := hide (eight_ptrs w b 79)
  go_enter Tryz.func29, Tryz.ntmps29
  go_wp2_with fail
  go_region_held_law (fun _ : World => True) (trivial) (fail)
  go_wp2_with fail
  refine bodyPost_ret (results_ptrs rfl rfl (unhide HE)) rfl ?_
  exact ⟨rfl, ((Below.refl _ _).alloc (Nat.le_refl _) _).drew⟩
end Go.Proofs.YtmccpkpeimejhahGreatDoor

namespace Go.Proofs.YtmccpkpeimejhahGreatDoor.Pn
open Go

theorem cut_length (b : UInt8) : ∀ l : List UInt8, (cut b l).length = l.count b + 1
  | [] => rfl
  | c :: r => by
    unfold cut
    by_cases h : c = b
    · rw [if_pos h, h]; simp [cut_length b r]
    · rw [if_neg h, List.length_modifyHead, cut_length b r, List.count_cons_of_ne h]
theorem cut_short (b : UInt8) : ∀ (l : List UInt8) (p : List UInt8), p ∈ cut b l → p.length ≤ l.length
  | [], p, h => by simp [cut] at h; subst h; simp
  | c :: r, p, h => by
    have ih := cut_short b r
    unfold cut at h
    by_cases e : c = b
    · rw [if_pos e] at h
      rcases List.mem_cons.1 h with h | h
      · subst h; simp
      · have := ih p h; simp; omega
    · rw [if_neg e] at h
      cases q : cut b r with
      | nil => rw [q] at h; simp at h
      | cons x y =>
        rw [q] at h ih
        simp only [List.modifyHead_cons, List.mem_cons] at h
        rcases h with h | h
        · subst h
          have := ih x (by simp)
          simp; omega
        · have := ih p (by simp [h])
          simp; omega
/-- the pieces grow at the end: a dot opens a new one -/
theorem cut_snoc_at (b : UInt8) : ∀ l : List UInt8, cut b (l ++ [b]) = cut b l ++ [[]]
  | [] => by simp [cut]
  | c :: r => by
    rw [List.cons_append]
    unfold cut
    by_cases e : c = b
    · rw [if_pos e, if_pos e, cut_snoc_at b r]; rfl
    · rw [if_neg e, if_neg e, cut_snoc_at b r]
      have := cut_ne b r
      cases q : cut b r with
      | nil => exact absurd q this
      | cons x y => rfl
/-- another byte joins the last one -/
theorem cut_snoc (b : UInt8) : ∀ (l : List UInt8) (c : UInt8), c ≠ b → ∀ (i : List (List UInt8)) (t : List UInt8), cut b l = i ++ [t] → cut b (l ++ [c]) = i ++ [t ++ [c]]
  | [], c, h, i, t, e => by
    simp only [cut] at e
    cases i with
    | nil => simp at e; subst e; simp [cut, h]
    | cons a bb => simp at e
  | d :: r, c, h, i, t, e => by
    rw [List.cons_append]
    unfold cut at e ⊢
    by_cases q : d = b
    · rw [if_pos q] at e ⊢
      cases i with
      | nil =>
        simp at e
        exact absurd e.2 (cut_ne b r)
      | cons a bb =>
        simp only [List.cons_append, List.cons.injEq] at e ⊢
        exact ⟨e.1, cut_snoc b r c h bb t e.2⟩
    · rw [if_neg q] at e ⊢
      have hr := cut_ne b r
      cases g : cut b r with
      | nil => exact absurd g hr
      | cons x y =>
        rw [g] at e
        simp only [List.modifyHead_cons] at e
        cases i with
        | nil =>
          simp only [List.nil_append, List.cons.injEq] at e
          obtain ⟨e1, e2⟩ := e
          subst e2
          rw [cut_snoc b r c h [] x (by rw [g]; rfl)]
          subst e1
          rfl
        | cons a bb =>
          simp only [List.cons_append, List.cons.injEq] at e
          obtain ⟨e1, e2⟩ := e
          rw [cut_snoc b r c h (x :: bb) t (by rw [g, e2]; rfl)]
          subst e1
          rfl
end Go.Proofs.YtmccpkpeimejhahGreatDoor.Pn
