/-
  Contracts of the program's disk: New, Read.
-/
import Derived.Test.YtbejicpfhnfnfafRowM
namespace Go.Proofs.Ytbejicpfhnfnfaf.Dk
open Go.RowKit

theorem ix_some {es : List Pap} {n : Int} {e : Pap} (h : fnd es n = some e) : ix es n < es.length ∧ pa es (ix es n) = e := by
  have := fnd_ix es n
  rw [h] at this
  split at this
  · rename_i q
    exact ⟨q, (Option.some.inj this).symm⟩
  · cases this
theorem ix_not {es : List Pap} {n : Int} (h : fnd es n = none) : ¬ ix es n < es.length := fun q => by rw [fnd_some q] at h; cases h
theorem readV_some {es : List Pap} {n : Int} {e : Pap} (h : fnd es n = some e) : readV es n = .tuple #[.string e.text, .int .i64 0] := by
  unfold readV
  rw [if_pos (ix_some h).1, (ix_some h).2]
theorem readV_none {es : List Pap} {n : Int} (h : fnd es n = none) : readV es n = .tuple #[.string ⟨#[]⟩, .int .i64 4] := by
  unfold readV
  rw [if_neg (ix_not h)]
theorem hasE_some {es : List Pap} {n : Int} {e : Pap} (h : fnd es n = some e) : hasE es n = 0 := by
  unfold hasE
  rw [if_pos (ix_some h).1]
theorem hasE_none {es : List Pap} {n : Int} (h : fnd es n = none) : hasE es n = 4 := by
  unfold hasE
  rw [if_neg (ix_not h)]
theorem file_conv {w : World} {B c : Nat} {v : Value} {e : Pap} (h : File w B c v e) : (convert 39 9 v).run Try.prog w = .ok (.string e.text) w := by
  rcases h.row.2 with ⟨h1, h2⟩ | ⟨g, cap, cur, h1, h2⟩
  · have : e.text = ByteArray.empty := by
      apply ByteArray.ext
      exact Array.eq_empty_of_size_eq_zero h2
    rw [h1, this, run_convert_bytes_string w _ _ 5 none 0 0 Try.underlying39 Try.underlying5 Try.underlying9]
    rfl
  · have hl : e.text.data.toList.length = e.text.size := by simp
    have hr := h.row
    rw [h1] at hr ⊢
    have := run_convert_bytes_back (P := Try.prog) w 39 9 5 ⟨g, 0, none⟩ cap e.text.data.toList Try.underlying39 Try.underlying5 Try.underlying9 (fun j hj => by
      refine World.ownsRow.cells hr (g := g) rfl j _ ?_
      simp [Lib.strCells, List.getElem?_eq_getElem hj])
    rw [hl] at this
    rw [this]
/-- a file's row of bytes is put in -/
theorem File.put0 {w w1 : World} {B c : Nat} {v v' : Value} {e : Pap} {t : ByteArray} (h : File w B c v e) (hc : Chg (fun k => v.ownBlock = some k) w w1) (hn : v.ownBlock ≠ some c) (hr : w1.ownsRow B 5 1 v' t.size (Lib.strCells t)) (hn' : v'.ownBlock ≠ some c) :
    File (w1.setCell ⟨c, 0, none⟩ v') B c v' { e with text := t } ∧ Chg (fun k => k = c ∨ v.ownBlock = some k) w (w1.setCell ⟨c, 0, none⟩ v') := by
  have hl : c < w1.heap.size := Nat.lt_of_lt_of_le h.lt hc.size
  have d0 : w1.cell? ⟨c, 0, none⟩ = some v := by rw [hc.cell (p := ⟨c, 0, none⟩) h.lt hn]; exact h.c0
  refine ⟨⟨by simpa [World.setCell] using hl, World.cell?_setCell_same _ _ _ (by rw [d0]), ?_, ?_, ?_, ?_⟩, ?_⟩
  · rw [World.cell?_setCell_other _ _ _ _ (by simp), hc.cell (p := ⟨c, 1, none⟩) h.lt hn]; exact h.c1
  · rw [World.frozen?_setCell, hc.frozen (p := ⟨c, 0, none⟩) h.lt hn]; exact h.f0
  · rw [World.frozen?_setCell, hc.frozen (p := ⟨c, 1, none⟩) h.lt hn]; exact h.f1
  · exact row_chg (A := fun k => k = c) hr (Chg.setCell (A := fun k => k = c) (p := ⟨c, 0, none⟩) (Chg.refl _ _) (.inl rfl) _) (fun g hg z => hn' (by rw [hg, z]))
  · exact (hc.mono (fun k _ q => .inr q)).setCell (p := ⟨c, 0, none⟩) (.inl (.inl rfl)) _
/-- how much is sure is put in -/
theorem File.put1 {w : World} {B c : Nat} {v : Value} {e : Pap} (h : File w B c v e) (hn : v.ownBlock ≠ some c) (x : Int) :
    File (w.setCell ⟨c, 1, none⟩ (.int .i64 x)) B c v { e with sure := x } ∧ Chg (fun k => k = c ∨ v.ownBlock = some k) w (w.setCell ⟨c, 1, none⟩ (.int .i64 x)) := by
  refine ⟨⟨by simpa [World.setCell] using h.lt, ?_, World.cell?_setCell_same _ _ _ (by rw [h.c1]), ?_, ?_, ?_⟩, ?_⟩
  · rw [World.cell?_setCell_other _ _ _ _ (by simp)]; exact h.c0
  · rw [World.frozen?_setCell]; exact h.f0
  · rw [World.frozen?_setCell]; exact h.f1
  · exact row_chg (A := fun k => k = c) h.row (Chg.setCell (A := fun k => k = c) (p := ⟨c, 1, none⟩) (Chg.refl _ _) (.inl rfl) _) (fun g hg z => hn (by rw [hg, z]))
  · exact (Chg.refl _ _).setCell (p := ⟨c, 1, none⟩) (.inl (.inl rfl)) _
theorem Disk.away {w : World} {B q : Nat} {rl : Nat → Option (Nat × Int)} {m : Int} {es : List Pap} {mb : Option Nat} {D : DataW Unit} {cO : Int → Nat} {vO : Int → Value} (h : Disk w B q rl m es mb D cO vO) {n : Int} {e : Pap} (hn : fnd es n = some e) : (vO n).ownBlock ≠ some (cO n) := fun z => by
  have h1 := h.r3 n e hn _ z
  rw [h.r2 n e hn] at h1
  cases h1

set_option maxHeartbeats 400000 in
theorem new_bad (w : World) (m : Int) (h : inI m 1 65536 = false) : Calls Try.prog 4 #[.int .i64 m] w fun e w' => e = .returned (.tuple #[.pointer none, .int .i64 1]) ∧ Below w.heap.size w w' := by
  have h' : m < 1 ∨ 65536 < m := by
    unfold inI at h
    simp only [Bool.and_eq_false_iff, decide_eq_false_iff_not] at h
    omega
  by_cases h1 : m < 1
  · go_enter Try.func4, Try.ntmps4
    go_wp2_with fail
    go_ret2
    exact ⟨rfl, Below.refl _ _⟩
  · have h2 : 65536 < m := by omega
    go_enter Try.func4, Try.ntmps4
    go_wp2_with fail
    go_ret2
    exact ⟨rfl, Below.refl _ _⟩
theorem disk_new (w : World) (m : Int) : Disk (w.alloc (.cells #[.int .i64 m, .map none] 36)) w.heap.size w.heap.size (fun k => if k = w.heap.size then some (0, 0) else none) m [] none (.map []) (fun _ => 0) (fun _ => .slice none 0 0) := by
  refine ⟨?_, ?_, ?_, .inl ⟨rfl, rfl⟩, rfl, fun n => rfl, fun n e h => (by cases h), fun n e h => (by cases h), fun k hk => ?_, by simp, fun b hb => (by cases hb), fun n e h => (by cases h), fun n e h => (by cases h)⟩
  · rw [cell_of_row _ w.heap.size 0 _ _ _ (heap_alloc_new w _)]; rfl
  · rw [cell_of_row _ w.heap.size 1 _ _ _ (heap_alloc_new w _)]; rfl
  · exact frozen_of_row _ w.heap.size 1 _ _ (heap_alloc_new w _)
  · by_cases z : k = w.heap.size
    · subst z; simp
    · rw [if_neg z] at hk; cases hk
set_option maxHeartbeats 400000 in
theorem new_good (w : World) (m : Int) (h : inI m 1 65536 = true) : Calls Try.prog 4 #[.int .i64 m] w fun e w' => ∃ q F, e = .returned (.tuple #[.pointer (some ⟨q, 0, none⟩), .int .i64 0]) ∧ Has w' w.heap.size q F m [] ∧ Below w.heap.size w w' := by
  have h' : 1 ≤ m ∧ m ≤ 65536 := by simpa [inI] using h
  have h1 : ¬ m < 1 := by omega
  have h2 : ¬ 65536 < m := by omega
  clear h
  go_enter Try.func4, Try.ntmps4
  go_wp2_with fail
  go_ret2
  exact ⟨w.heap.size, rfl, ⟨_, _, _, _, _, _, fun _ => Iff.rfl, disk_new w m⟩, (Below.refl _ _).alloc (Nat.le_refl _) _⟩
theorem news : News Has := ⟨new_bad, new_good⟩

set_option maxHeartbeats 400000 in
theorem dread_any {w : World} {B q : Nat} {F : Nat → Prop} {m : Int} {es : List Pap} (n : Int) (hn : wf n) (hH : Has w B q F m es) :
    Calls Try.prog 10 #[.pointer (some ⟨q, 0, none⟩), .int .i64 n] w fun e w' => e = .returned (readV es n) ∧ w' = w := by
  obtain ⟨rl, mb, D, cO, vO, hF, h⟩ := hH
  have k1 := h.c1
  rcases h.look hn with ⟨hf, hl⟩ | ⟨e, hf, hl⟩
  · rw [readV_none hf]
    clear h hF hf
    go_enter Try.func10, Try.ntmps10
    go_wp2_with fail
    go_ret2
    exact ⟨rfl, rfl⟩
  · rw [readV_some hf]
    have hfile := h.file n e hf
    have d0 := hfile.c0
    have hcv := file_conv hfile
    clear h hF hf hfile
    go_enter Try.func10, Try.ntmps10
    go_wp2_with fail
    go_ret2
    exact ⟨rfl, rfl⟩
end Go.Proofs.Ytbejicpfhnfnfaf.Dk
