/-
  Contract of strings.Split at any one byte, where there are at most 100000 pieces.
-/
import Derived.Test.YtcbfmjjodfnacaaDoorWalkSplit
import Derived.Test.YtcbfmjjodfnacaaDoorJointPapPdPapPwPapPr
import Derived.Test.YtcbfmjjodfnacaaDoorJointPapPbPapPc
namespace Go.Proofs.YtcbfmjjodfnacaaDoor
open Go.RowKit

/-- the pieces of a text at a byte -/
def cutT (d : UInt8) (s : ByteArray) : List ByteArray := (Pn.cut d s.data.toList).map Pn.bs
theorem cutT_data (d : UInt8) (s : ByteArray) : (cutT d s).map (·.data.toList) = Pn.cut d s.data.toList := by
  unfold cutT
  rw [List.map_map]
  conv => rhs; rw [← List.map_id (Pn.cut d s.data.toList)]
  apply List.map_congr_left
  intro x _
  exact Pn.list_bs x
theorem cutT_length (d : UInt8) (s : ByteArray) : (cutT d s).length = s.data.toList.count d + 1 := by
  unfold cutT
  rw [List.length_map, Pn.cut_length]
/-- the state of the cutting: k pieces are laid, 'rest' is still to be cut -/
def CutD (d : UInt8) (s : ByteArray) (xs : List ByteArray) (rest : ByteArray) (k : Nat) : Prop :=
  xs.length = (cutT d s).length ∧ k + (Pn.cut d rest.data.toList).length = (cutT d s).length ∧ (xs.take k).map (·.data.toList) ++ Pn.cut d rest.data.toList = Pn.cut d s.data.toList ∧ rest.size ≤ s.size
theorem cutD_start (d : UInt8) (s : ByteArray) : CutD d s (List.replicate (cutT d s).length ByteArray.empty) s 0 := ⟨by simp, by unfold cutT; rw [List.length_map]; omega, rfl, Nat.le_refl _⟩
theorem hit_none {l : List UInt8} {d : UInt8} (h : Lib.index l [d] = -1) : l.count d = 0 := by
  have := Lib.count_miss h
  rwa [Lib.count_one] at this
theorem hit_at {l : List UInt8} {d : UInt8} {i : Nat} (h : Lib.index l [d] = i) : d ∉ l.take i ∧ l = l.take i ++ d :: l.drop (i + 1) := by
  rcases Lib.index_spec l [d] with ⟨e, _⟩ | ⟨j, e, hj, ho, hn⟩
  · omega
  · obtain rfl : i = j := by omega
    have hd : l[i]? = some d := Lib.occAt_head rfl ho
    have hl : i < l.length := by
      rcases Nat.lt_or_ge i l.length with h | h
      · exact h
      · rw [List.getElem?_eq_none h] at hd; cases hd
    refine ⟨?_, ?_⟩
    · intro hm
      obtain ⟨j, hj, e⟩ := List.mem_iff_getElem.1 hm
      rw [List.length_take] at hj
      rw [List.getElem_take] at e
      have hf := hn j (by omega)
      have ht : Lib.occAt l [d] j = true := by
        unfold Lib.occAt
        rw [List.drop_eq_getElem_cons (by omega), e]
        simp [List.isPrefixOf]
      rw [ht] at hf
      cases hf
    · rw [List.getElem?_eq_getElem hl] at hd
      simp at hd
      rw [← hd]
      rw [← List.drop_eq_getElem_cons hl, List.take_append_drop]
theorem indexD_hit {l : List UInt8} {d : UInt8} (h : l.count d ≠ 0) : ∃ m : Nat, Lib.indexByte l d = m ∧ m < l.length ∧ d ∉ l.take m ∧ l = l.take m ++ d :: l.drop (m + 1) := by
  have e := Lib.index_one l d
  have hge := Lib.index_ge l [d]
  have hne : Lib.index l [d] ≠ -1 := fun x => h (hit_none x)
  obtain ⟨m, hm⟩ : ∃ m : Nat, Lib.index l [d] = m := ⟨(Lib.index l [d]).toNat, by omega⟩
  obtain ⟨h1, h2⟩ := hit_at hm
  refine ⟨m, by rw [← e]; exact hm, ?_, h1, h2⟩
  have hr := Lib.index_room l [d] (by omega)
  simp at hr
  omega
theorem cutD_step {d : UInt8} {s : ByteArray} {xs : List ByteArray} {rest : ByteArray} {k : Nat} (h : CutD d s xs rest k) (hk : k + 1 < (cutT d s).length) :
    ∃ m : Nat, Lib.indexByte rest.data.toList d = m ∧ m < rest.size ∧ CutD d s (xs.set k (rest.extract 0 m)) (rest.extract (m + 1) rest.size) (k + 1) := by
  obtain ⟨h1, h2, h3, h4⟩ := h
  have hc : rest.data.toList.count d ≠ 0 := by rw [Pn.cut_length] at h2; omega
  obtain ⟨m, hm, hl, hz, he⟩ := indexD_hit hc
  have hsz : rest.data.toList.length = rest.size := by simp
  have e1 : (rest.extract 0 m).data.toList = rest.data.toList.take m := by rw [Lib.extract_data]; simp
  have e2 : (rest.extract (m + 1) rest.size).data.toList = rest.data.toList.drop (m + 1) := by
    rw [Lib.extract_data]
    exact List.take_of_length_le (by simp)
  have e3 : Pn.cut d rest.data.toList = rest.data.toList.take m :: Pn.cut d (rest.data.toList.drop (m + 1)) := by
    have := Pn.cut_front d (rest.data.toList.take m) (rest.data.toList.drop (m + 1)) hz
    rw [← he] at this
    exact this
  refine ⟨m, hm, by omega, by simpa using h1, ?_, ?_, ?_⟩
  · rw [e2]
    rw [e3, List.length_cons] at h2
    omega
  · rw [e2, List.take_succ_eq_append_getElem (by simp; omega), List.map_append, List.map_cons, List.map_nil, List.take_set_of_le (by omega), List.getElem_set_self, e1, List.append_assoc]
    rw [e3] at h3
    exact h3
  · rw [ByteArray.size_extract]; omega
theorem cutD_end {d : UInt8} {s : ByteArray} {xs : List ByteArray} {rest : ByteArray} {k : Nat} (h : CutD d s xs rest k) (hk : ¬ k + 1 < (cutT d s).length) : k + 1 = (cutT d s).length ∧ xs.set k rest = cutT d s := by
  obtain ⟨h1, h2, h3, _⟩ := h
  have hp := Pn.cut_length d rest.data.toList
  have hk1 : k + 1 = (cutT d s).length := by omega
  have hz : Pn.cut d rest.data.toList = [rest.data.toList] := Pn.cut_none d _ (by
    rw [← List.count_eq_zero]
    omega)
  refine ⟨hk1, ?_⟩
  refine List.map_inj_right (f := fun x : ByteArray => x.data.toList) (fun a b hab => WideShapes.bytes_inj hab) |>.1 ?_
  rw [cutT_data, ← h3, hz]
  have e : xs.set k rest = xs.take k ++ [rest] := by
    rw [List.set_eq_take_append_cons_drop, if_pos (by omega), List.drop_of_length_le (by omega)]
  rw [e, List.map_append]
  rfl

set_option maxRecDepth 100000 in
set_option maxHeartbeats 1000000 in
theorem genSplit_at (d : UInt8) (s : ByteArray) (w : World) (hs : s.size ≤ 140737488355328) (h8 : (cutT d s).length ≤ 100000) :
    Calls Tryd.prog 55 #[.string s, .string ⟨#[d]⟩, .int .i64 0, .int .i64 (-1)] w fun e w' => e = .returned (.slice (some ⟨w.heap.size, 0, none⟩) (cutT d s).length (cutT d s).length) ∧ Own w' w.heap.size w.heap.size (cutT d s).length (cutT d s) ∧ Below w.heap.size w w' := by
  obtain ⟨i0, hi, hz0, hz1, hz2⟩ := info_parts info9
  have hc : Lib.countByte s.data.toList d + 1 = (cutT d s).length := by rw [cutT_length]; rfl
  have hle : Lib.countByte s.data.toList d ≤ s.size := by
    have : Lib.countByte s.data.toList d ≤ s.data.toList.length := List.count_le_length
    simpa using this
  obtain ⟨N, hN⟩ : ∃ N, (cutT d s).length = N := ⟨_, rfl⟩
  rw [hN] at hc h8
  obtain ⟨c, hcc⟩ : ∃ c, Lib.countByte s.data.toList d = c := ⟨_, rfl⟩
  rw [hcc] at hc hle
  have HC := hide hcc
  have HN := hide hN
  clear hcc hN
  have hmin : min ((c : Int) + 1) ((s.size : Int) + 1) = (N : Int) := by omega
  have hmk := run_make_row' (P := Tryd.prog) 40 9 (.string ByteArray.empty) 16 Tryd.underlying40 info9 rfl .i64 .i64 N (by omega) (by omega)
  have hd1 : (⟨#[d]⟩ : ByteArray).size = 1 := rfl
  go_enter Tryd.func55, Tryd.ntmps55
  go_wp2_with (first | (go_at_call 53; refine (Tryd.strings_Count_one s d _).mono ?_; rintro e w0 ⟨rfl, rfl⟩; rw [unhide HC]))
  clear hmk hmin
  go_loopw [0, 10] (fun sv i wr => ∃ (k : Nat) (xs : List ByteArray) (rest : ByteArray), sv = .string rest ∧ i = .int .i64 k ∧ Hid (CutD d s xs rest k) ∧ Hid (xs.length = N) ∧ k < N ∧ rest.size ≤ s.size ∧ Own wr w0.heap.size w0.heap.size N xs ∧ Below w0.heap.size w0 wr) (fun _ i _ => N - (intOf i).toNat)
  case atStart =>
    refine ⟨0, List.replicate N ByteArray.empty, s, rfl, rfl, hide ?_, hide (by simp), by omega, Nat.le_refl _, ?_, (Below.refl _ _).alloc (Nat.le_refl _) _⟩
    · have := cutD_start d s
      rwa [unhide HN] at this
    · have h := World.ownsRow_lit (base := w0.heap.size) (e := 9) (size := 1) w0 (madeCells #[.string ByteArray.empty] N) N (Nat.le_refl _) (by unfold maxLen; omega) (by rw [size_madeCells]; omega)
      rw [toList_madeCells_one] at h
      unfold Own
      rw [List.length_replicate, List.map_replicate]
      exact h
  case round =>
    obtain ⟨k, xs, rest, rfl, rfl, hcut, hxl, hkN, hrs, hown, hb⟩ := hrel
    have hc1 := own_cells hown k (by have := unhide hxl; omega)
    have hf1 := own_free hown k
    have Hown := hide hown
    clear hown
    by_cases hlt : k + 1 < N
    · obtain ⟨m, hm, hml, hnext⟩ := cutD_step (unhide hcut) (by rw [unhide HN]; exact hlt)
      have HM := hide hm
      have Hnext := hide hnext
      clear hm hnext
      go_wp2_with (first | (go_at_call 67; refine (Tryd.strings_Index_one rest d _).mono ?_; rintro e w3 ⟨rfl, rfl⟩; rw [unhide HM]))
      refine ⟨⟨k + 1, xs.set k (rest.extract 0 m), rest.extract (m + 1) rest.size, rfl, by go_num, Hnext, hide (by rw [List.length_set]; exact unhide hxl), by omega, by rw [ByteArray.size_extract]; omega, own_set (unhide Hown) k _, hb.setCell (Nat.le_refl _) _⟩, ?_⟩
      simp [intOf]; omega
    · obtain ⟨e1, e2⟩ := cutD_end (unhide hcut) (by rw [unhide HN]; exact hlt)
      have E2 := hide e2
      have E1 := hide e1
      have hke : k + 1 = N := by rw [e1, unhide HN]
      clear e1 e2
      go_wp2_with fail
      go_ret
      have R := own_set (unhide Hown) k rest
      rw [unhide E2] at R
      rw [unhide HN]
      exact ⟨rfl, R, hb.setCell (Nat.le_refl _) _⟩

set_option maxHeartbeats 400000 in
theorem split_at (d : UInt8) (s : ByteArray) (w : World) (hs : s.size ≤ 140737488355328) (h8 : (cutT d s).length ≤ 100000) :
    Calls Tryd.prog 45 #[.string s, .string ⟨#[d]⟩] w fun e w' => ∃ g, e = .returned (.slice (some ⟨g, 0, none⟩) (cutT d s).length (cutT d s).length) ∧ Own w' w.heap.size g (cutT d s).length (cutT d s) ∧ Below w.heap.size w w' := by
  go_enter Tryd.func45, Tryd.ntmps45
  go_wp2_with fail
  refine (genSplit_at d s _ hs h8).mono ?_
  rintro e w1 ⟨rfl, hown, hb⟩
  go_wp2_with fail
  go_ret
  exact ⟨w.heap.size, rfl, hown, hb⟩
end Go.Proofs.YtcbfmjjodfnacaaDoor
