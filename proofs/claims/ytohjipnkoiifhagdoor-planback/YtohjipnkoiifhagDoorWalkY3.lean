/-
  Contracts of the landed package plan: numbers, Check. Its table of words and bounds.
-/
import Derived.Test.YtohjipnkoiifhagDoorWalkY2
import Derived.Test.YtohjipnkoiifhagDoorRowPr
import Derived.Deep.RegionHeldLaw
namespace Go.Proofs.YtohjipnkoiifhagDoor
open Go.RowKit

/-- the pointers to a plan's numbers, as numbers hands them back -/
abbrev ptrs (b : Nat) : Value := .agg #[.pointer (some ⟨b, 2, none⟩), .pointer (some ⟨b, 3, none⟩), .pointer (some ⟨b, 4, none⟩), .pointer (some ⟨b, 5, none⟩), .pointer (some ⟨b, 6, none⟩), .pointer (some ⟨b, 7, none⟩), .pointer (some ⟨b, 8, none⟩), .pointer (some ⟨b, 9, none⟩)]
theorem load_ptrs {w : World} {g b : Nat} (r : ∀ i, i < 8 → w.cell? ⟨g, i, none⟩ = some (.pointer (some ⟨b, 2 + i, none⟩))) :
    (loadVar 45 ⟨g, 0, none⟩).run Tryd.prog w = .ok (ptrs b) w := by
  have hl : (loadCells ⟨g, 0, none⟩ 8).run Tryd.prog w = .ok #[.pointer (some ⟨b, 2, none⟩), .pointer (some ⟨b, 3, none⟩), .pointer (some ⟨b, 4, none⟩), .pointer (some ⟨b, 5, none⟩), .pointer (some ⟨b, 6, none⟩), .pointer (some ⟨b, 7, none⟩), .pointer (some ⟨b, 8, none⟩), .pointer (some ⟨b, 9, none⟩)] w :=
    run_loadCells_list (P := Tryd.prog) w ⟨g, 0, none⟩ [.pointer (some ⟨b, 2, none⟩), .pointer (some ⟨b, 3, none⟩), .pointer (some ⟨b, 4, none⟩), .pointer (some ⟨b, 5, none⟩), .pointer (some ⟨b, 6, none⟩), .pointer (some ⟨b, 7, none⟩), .pointer (some ⟨b, 8, none⟩), .pointer (some ⟨b, 9, none⟩)] (fun j v hv => by
      rw [addp, Nat.zero_add]
      match j, hv with
      | 0, hv => rw [r 0 (by omega)]; simpa using hv
      | 1, hv => rw [r 1 (by omega)]; simpa using hv
      | 2, hv => rw [r 2 (by omega)]; simpa using hv
      | 3, hv => rw [r 3 (by omega)]; simpa using hv
      | 4, hv => rw [r 4 (by omega)]; simpa using hv
      | 5, hv => rw [r 5 (by omega)]; simpa using hv
      | 6, hv => rw [r 6 (by omega)]; simpa using hv
      | 7, hv => rw [r 7 (by omega)]; simpa using hv)
  have hz : Tryd.t45.size = 8 := by kernel_rfl
  simp [loadVar, isAgg, sizeOf]
  rw [hz, hl]
  rfl
theorem results_ptrs {fn : Func} {t : Tmp} {tmps : Array Value} {w : World} {g b : Nat} (hf : fn.results = #[.cell t 45]) (ha : tmps.getD t undef = .pointer (some ⟨g, 0, none⟩)) (r : ∀ i, i < 8 → w.cell? ⟨g, i, none⟩ = some (.pointer (some ⟨b, 2 + i, none⟩))) :
    (results fn tmps).run Tryd.prog w = .ok (ptrs b) w := by
  have ha' : tmps[t]?.getD undef = .pointer (some ⟨g, 0, none⟩) := by simpa using ha
  simp [results, hf, ha', asAddr, load_ptrs r]
/-- the i-th pointer -/
theorem run_index_ptrs (b i : Nat) (hi : i < 8) (w : World) : (Instr.index 45 (ptrs b) (.int .i64 (i : Int))).run Tryd.prog w = .ok (.pointer (some ⟨b, 2 + i, none⟩)) w := by
  have : i = 0 ∨ i = 1 ∨ i = 2 ∨ i = 3 ∨ i = 4 ∨ i = 5 ∨ i = 6 ∨ i = 7 := by omega
  rcases this with rfl | rfl | rfl | rfl | rfl | rfl | rfl | rfl <;> simp [Instr.index, run_underlying Tryd.underlying45, asIntOf, go_sem]
theorem eight_ptrs (w : World) (b : Nat) (T : TypeId) : ∀ i, i < 8 → (w.alloc (.cells #[.pointer (some ⟨b, 2, none⟩), .pointer (some ⟨b, 3, none⟩), .pointer (some ⟨b, 4, none⟩), .pointer (some ⟨b, 5, none⟩), .pointer (some ⟨b, 6, none⟩), .pointer (some ⟨b, 7, none⟩), .pointer (some ⟨b, 8, none⟩), .pointer (some ⟨b, 9, none⟩)] T)).drew.cell? ⟨w.heap.size, i, none⟩ = some (.pointer (some ⟨b, 2 + i, none⟩)) := fun i hi => by
  have : i = 0 ∨ i = 1 ∨ i = 2 ∨ i = 3 ∨ i = 4 ∨ i = 5 ∨ i = 6 ∨ i = 7 := by omega
  rcases this with rfl | rfl | rfl | rfl | rfl | rfl | rfl | rfl <;> simp
set_option maxRecDepth 100000 in
set_option maxHeartbeats 1000000 in
theorem numbers_any (b : Nat) (w : World) :
    Calls Tryd.prog 15 #[.pointer (some ⟨b, 0, none⟩)] w fun e w' => e = .returned (ptrs b) ∧ Below w.heap.size w w' := by
  have HE := hide (eight_ptrs w b 45)
  go_enter Tryd.func15, Tryd.ntmps15
  go_wp2_with fail
  go_region_held_law (fun _ : World => True) (trivial) (fail)
  go_wp2_with fail
  refine bodyPost_ret (results_ptrs rfl rfl (unhide HE)) rfl ?_
  exact ⟨rfl, ((Below.refl _ _).alloc (Nat.le_refl _) _).drew⟩
end Go.Proofs.YtohjipnkoiifhagDoor
