/-
  Contract of strings.Split at a dot, where there are few pieces, whatever the text's length.
-/
import Derived.Test.YtcbfmjjodfnacaaDoorWalk1
import Derived.Test.YtcbfmjjodfnacaaDoorShelfS
import Derived.Lib.IndexBytes
import Derived.Deep.OwnRows
namespace Go.Proofs.YtcbfmjjodfnacaaDoor
open Go.RowKit

/-- the k-th text of a list -/
def tk (l : List ByteArray) (k : Nat) : ByteArray := l[k]?.getD ByteArray.empty
/-- strings that lie side by side in a block -/
def Row (w : World) (b o : Nat) (l : List ByteArray) : Prop := ∀ k, k < l.length → w.cell? ⟨b, o + k, none⟩ = some (.string (tk l k))
theorem Row.below {w w' : World} {b o : Nat} {l : List ByteArray} (h : Row w b o l) {B : Nat} (hb : Below B w w') (hB : b < B) : Row w' b o l := by
  intro k hk
  rw [hb.cell (p := ⟨b, o + k, none⟩) hB]
  exact h k hk

theorem info9 : (Tryd.prog.info? 9).map (fun i => (i.zero, i.size, i.bytes)) = some (some (.string ByteArray.empty), 1, 16) := by kernel_rfl
/-- a row of strings that the call itself has laid -/
def Own (w : World) (B g cap : Nat) (l : List ByteArray) : Prop := w.ownsRow B 9 1 (.slice (some ⟨g, 0, none⟩) l.length cap) l.length (l.map Value.string)
theorem own_cells {W : World} {B g cap : Nat} {l : List ByteArray} (h : Own W B g cap l) : ∀ k, k < l.length → W.cell? ⟨g, k, none⟩ = some (.string (tk l k)) := by
  intro k hk
  rw [World.ownsRow.cellAt h k (by omega)]
  simp [tk, List.getElem?_eq_getElem hk]
theorem own_free {W : World} {B g cap : Nat} {l : List ByteArray} (h : Own W B g cap l) (j : Nat) : W.frozen? ⟨g, j, none⟩ = false := World.ownsRow.frozenAt h j
theorem own_base {W : World} {B g cap : Nat} {l : List ByteArray} (h : Own W B g cap l) : B ≤ g ∧ g < W.heap.size := World.ownsRow.lt h g rfl
theorem own_set {W : World} {B g cap : Nat} {l : List ByteArray} (h : Own W B g cap l) (k : Nat) (t : ByteArray) : Own (W.setCell ⟨g, k, none⟩ (.string t)) B g cap (l.set k t) := by
  have h2 := (World.ownsRow.stored h k (.string t)).1
  unfold Own
  rw [List.length_set, List.map_set]
  exact h2

theorem one_cell (s : ByteArray) : ∀ u ∈ [Value.string s], u.oneCell' = true := by
  intro u hu; simp at hu; subst hu; rfl

/-- the state of the cutting: k pieces are laid, 'rest' is still to be cut -/
def Cut (s : ByteArray) (xs : List ByteArray) (rest : ByteArray) (k : Nat) : Prop :=
  xs.length = (Pl.toks s).length ∧ k + (Pl.pcs rest.data.toList).length = (Pl.toks s).length ∧ (xs.take k).map (·.data.toList) ++ Pl.pcs rest.data.toList = Pl.pcs s.data.toList ∧ rest.size ≤ s.size
theorem cut_start (s : ByteArray) : Cut s (List.replicate (Pl.toks s).length ByteArray.empty) s 0 := ⟨by simp, by rw [Pl.toks_length]; omega, rfl, Nat.le_refl _⟩
theorem index_hit {l : List UInt8} (h : l.count 46 ≠ 0) : ∃ m : Nat, Lib.indexByte l 46 = m ∧ m < l.length ∧ (l.take m).count 46 = 0 ∧ l = l.take m ++ 46 :: l.drop (m + 1) := by
  have e := Lib.index_one l 46
  have hge := Lib.index_ge l [46]
  have hne : Lib.index l [46] ≠ -1 := fun x => h (Pl.index_one_none x)
  obtain ⟨m, hm⟩ : ∃ m : Nat, Lib.index l [46] = m := ⟨(Lib.index l [46]).toNat, by omega⟩
  obtain ⟨h1, h2⟩ := Pl.index_one_hit hm
  refine ⟨m, by rw [← e]; exact hm, ?_, h1, h2⟩
  have hr := Lib.index_room l [46] (by omega)
  simp at hr
  omega
theorem cut_step {s : ByteArray} {xs : List ByteArray} {rest : ByteArray} {k : Nat} (h : Cut s xs rest k) (hk : k + 1 < (Pl.toks s).length) :
    ∃ m : Nat, Lib.indexByte rest.data.toList 46 = m ∧ m < rest.size ∧ Cut s (xs.set k (rest.extract 0 m)) (rest.extract (m + 1) rest.size) (k + 1) := by
  obtain ⟨h1, h2, h3, h4⟩ := h
  have hc : rest.data.toList.count 46 ≠ 0 := by rw [Pl.pcs_length] at h2; omega
  obtain ⟨m, hm, hl, hz, he⟩ := index_hit hc
  have hsz : rest.data.toList.length = rest.size := by simp
  have e1 : (rest.extract 0 m).data.toList = rest.data.toList.take m := by rw [Lib.extract_data]; simp
  have e2 : (rest.extract (m + 1) rest.size).data.toList = rest.data.toList.drop (m + 1) := by
    rw [Lib.extract_data]
    exact List.take_of_length_le (by simp)
  have e3 : Pl.pcs rest.data.toList = rest.data.toList.take m :: Pl.pcs (rest.data.toList.drop (m + 1)) := by
    have := Pl.pcs_hit (rest.data.toList.take m) (rest.data.toList.drop (m + 1)) hz
    rw [← he] at this
    exact this
  refine ⟨m, hm, by omega, by simpa using h1, ?_, ?_, ?_⟩
  · rw [e2]
    rw [e3, List.length_cons] at h2
    omega
  · rw [e2, List.take_succ_eq_append_getElem (by simp; omega), List.map_append, List.map_cons, List.map_nil, List.take_set_of_le (by omega), List.getElem_set_self, e1, List.append_assoc]
    rw [e3] at h3
    exact h3
  · rw [ByteArray.size_extract]; omega
theorem cut_end {s : ByteArray} {xs : List ByteArray} {rest : ByteArray} {k : Nat} (h : Cut s xs rest k) (hk : ¬ k + 1 < (Pl.toks s).length) : k + 1 = (Pl.toks s).length ∧ xs.set k rest = Pl.toks s := by
  obtain ⟨h1, h2, h3, _⟩ := h
  have hp := Pl.pcs_length rest.data.toList
  have hk1 : k + 1 = (Pl.toks s).length := by omega
  have hz : Pl.pcs rest.data.toList = [rest.data.toList] := Pl.pcs_none (by omega)
  refine ⟨hk1, ?_⟩
  refine List.map_inj_right (f := fun x : ByteArray => x.data.toList) (fun a b hab => WideShapes.bytes_inj hab) |>.1 ?_
  rw [Pl.toks_data, ← h3, hz]
  have e : xs.set k rest = xs.take k ++ [rest] := by
    rw [List.set_eq_take_append_cons_drop, if_pos (by omega), List.drop_of_length_le (by omega)]
  rw [e, List.map_append]
  rfl

set_option maxRecDepth 100000 in
set_option maxHeartbeats 1000000 in
theorem genSplit_few (s : ByteArray) (w : World) (hs : s.size ≤ 140737488355328) (h8 : (Pl.toks s).length ≤ 8) :
    Calls Tryd.prog 55 #[.string s, .string ⟨#[46]⟩, .int .i64 0, .int .i64 (-1)] w fun e w' => e = .returned (.slice (some ⟨w.heap.size, 0, none⟩) (Pl.toks s).length (Pl.toks s).length) ∧ Own w' w.heap.size w.heap.size (Pl.toks s).length (Pl.toks s) ∧ Below w.heap.size w w' := by
  obtain ⟨i0, hi, hz0, hz1, hz2⟩ := info_parts info9
  have hc : Lib.countByte s.data.toList 46 + 1 = (Pl.toks s).length := by rw [Pl.toks_length, Pl.pcs_length]; rfl
  have hle : Lib.countByte s.data.toList 46 ≤ s.size := by
    have : Lib.countByte s.data.toList 46 ≤ s.data.toList.length := List.count_le_length
    simpa using this
  obtain ⟨N, hN⟩ : ∃ N, (Pl.toks s).length = N := ⟨_, rfl⟩
  rw [hN] at hc h8
  obtain ⟨c, hcc⟩ : ∃ c, Lib.countByte s.data.toList 46 = c := ⟨_, rfl⟩
  rw [hcc] at hc hle
  have HC := hide hcc
  have HN := hide hN
  clear hcc hN
  have hmin : min ((c : Int) + 1) ((s.size : Int) + 1) = (N : Int) := by omega
  have hmk := run_make_row' (P := Tryd.prog) 40 9 (.string ByteArray.empty) 16 Tryd.underlying40 info9 rfl .i64 .i64 N (by omega) (by omega)
  go_enter Tryd.func55, Tryd.ntmps55
  go_wp2_with (first | (go_at_call 53; refine (Tryd.strings_Count_one s 46 _).mono ?_; rintro e w0 ⟨rfl, rfl⟩; rw [unhide HC]))
  clear hmk hmin
  go_loopw [0, 10] (fun sv i wr => ∃ (k : Nat) (xs : List ByteArray) (rest : ByteArray), sv = .string rest ∧ i = .int .i64 k ∧ Hid (Cut s xs rest k) ∧ Hid (xs.length = N) ∧ k < N ∧ rest.size ≤ s.size ∧ Own wr w0.heap.size w0.heap.size N xs ∧ Below w0.heap.size w0 wr) (fun _ i _ => N - (intOf i).toNat)
  case atStart =>
    refine ⟨0, List.replicate N ByteArray.empty, s, rfl, rfl, hide ?_, hide (by simp), by omega, Nat.le_refl _, ?_, (Below.refl _ _).alloc (Nat.le_refl _) _⟩
    · have := cut_start s
      rwa [unhide HN] at this
    · have h := World.ownsRow_lit (base := w0.heap.size) (e := 9) (size := 1) w0 (madeCells #[.string ByteArray.empty] N) N (Nat.le_refl _) (by unfold maxLen; omega) (by rw [size_madeCells]; omega)
      rw [toList_madeCells_one] at h
      unfold Own
      rw [List.length_replicate, List.map_replicate]
      exact h
  case round =>
    obtain ⟨k, xs, rest, rfl, rfl, hcut, hxl, hkN, hrs, hown, hb⟩ := hrel
    have hc1 := own_cells hown k (by have := unhide hxl; omega)
    have hf1 := own_free hown k
    have Hown := hide hown
    clear hown
    by_cases hlt : k + 1 < N
    · obtain ⟨m, hm, hml, hnext⟩ := cut_step (unhide hcut) (by rw [unhide HN]; exact hlt)
      have HM := hide hm
      have Hnext := hide hnext
      clear hm hnext
      go_wp2_with (first | (go_at_call 67; refine (Tryd.strings_Index_one rest 46 _).mono ?_; rintro e w3 ⟨rfl, rfl⟩; rw [unhide HM]))
      refine ⟨⟨k + 1, xs.set k (rest.extract 0 m), rest.extract (m + 1) rest.size, rfl, by go_num, Hnext, hide (by rw [List.length_set]; exact unhide hxl), by omega, by rw [ByteArray.size_extract]; omega, own_set (unhide Hown) k _, hb.setCell (Nat.le_refl _) _⟩, ?_⟩
      simp [intOf]; omega
    · obtain ⟨e1, e2⟩ := cut_end (unhide hcut) (by rw [unhide HN]; exact hlt)
      have E2 := hide e2
      have E1 := hide e1
      have hke : k + 1 = N := by rw [e1, unhide HN]
      clear e1 e2
      go_wp2_with fail
      go_ret
      have R := own_set (unhide Hown) k rest
      rw [unhide E2] at R
      rw [unhide HN]
      exact ⟨rfl, R, hb.setCell (Nat.le_refl _) _⟩

set_option maxHeartbeats 400000 in
theorem split_few (s : ByteArray) (w : World) (hs : s.size ≤ 140737488355328) (h8 : (Pl.toks s).length ≤ 8) :
    Calls Tryd.prog 45 #[.string s, .string ⟨#[46]⟩] w fun e w' => ∃ b, e = .returned (.slice (some ⟨b, 0, none⟩) (Pl.toks s).length (Pl.toks s).length) ∧ w.heap.size ≤ b ∧ b < w'.heap.size ∧ Below w.heap.size w w' ∧ Row w' b 0 (Pl.toks s) := by
  go_enter Tryd.func45, Tryd.ntmps45
  go_wp2_with fail
  refine (genSplit_few s _ hs h8).mono ?_
  rintro e w1 ⟨rfl, hown, hb⟩
  go_wp2_with fail
  go_ret
  exact ⟨w.heap.size, rfl, Nat.le_refl _, (own_base hown).2, hb, fun k hk => by rw [Nat.zero_add]; exact own_cells hown k hk⟩
end Go.Proofs.YtcbfmjjodfnacaaDoor
