/-
  Contract of strings.Split at a dot, where there are few pieces, whatever the text's length.
  Contracts of subject.hasTooManyTokens, tokens, Subject and Filter: they answer the errors of the plain functions.
  Plain facts on rows of tokens: what covers, what meets, what takes.
  What Match, Overlap and Covers answer, pure.
-/
import Derived.Test.YtmccpkpeimejhahGreatDoorWalk1
import Derived.Test.YtmccpkpeimejhahGreatDoorShelfS
import Derived.Lib.IndexBytes
import Derived.Deep.OwnRows
namespace Go.Proofs.YtmccpkpeimejhahGreatDoor
open Go.RowKit

/-- the k-th text of a list -/
def tk (l : List ByteArray) (k : Nat) : ByteArray := l[k]?.getD ByteArray.empty
/-- strings that lie side by side in a block -/
def Row (w : World) (b o : Nat) (l : List ByteArray) : Prop := ∀ k, k < l.length → w.cell? ⟨b, o + k, none⟩ = some (.string (tk l k))
theorem Row.below {w w' : World} {b o : Nat} {l : List ByteArray} (h : Row w b o l) {B : Nat} (hb : Below B w w') (hB : b < B) : Row w' b o l := by
  intro k hk
  rw [hb.cell (p := ⟨b, o + k, none⟩) hB]
  exact h k hk

theorem info9 : (Tryz.prog.info? 9).map (fun i => (i.zero, i.size, i.bytes)) = some (some (.string ByteArray.empty), 1, 16) := by kernel_rfl
/-- a row of strings that the call itself has laid -/
def Own (w : World) (B g cap : Nat) (l : List ByteArray) : Prop := w.ownsRow B 9 1 (.slice (some ⟨g, 0, none⟩) l.length cap) l.length (l.map Value.string)
theorem own_cells {W : World} {B g cap : Nat} {l : List ByteArray} (h : Own W B g cap l) : ∀ k, k < l.length → W.cell? ⟨g, k, none⟩ = some (.string (tk l k)) := by
  intro k hk
  rw [World.ownsRow.cellAt h k (by omega)]
  simp [tk, List.getElem?_eq_getElem hk]
theorem own_free {W : World} {B g cap : Nat} {l : List ByteArray} (h : Own W B g cap l) (j : Nat) : W.frozen? ⟨g, j, none⟩ = false := World.ownsRow.frozenAt h j
theorem own_base {W : World} {B g cap : Nat} {l : List ByteArray} (h : Own W B g cap l) : B ≤ g ∧ g < W.heap.size := World.ownsRow.lt h g rfl
theorem own_set {W : World} {B g cap : Nat} {l : List ByteArray} (h : Own W B g cap l) (k : Nat) (t : ByteArray) : Own (W.setCell ⟨g, k, none⟩ (.string t)) B g cap (l.set k t) := by
  have h2 := (World.ownsRow.stored h k (.string t)).1
  unfold Own
  rw [List.length_set, List.map_set]
  exact h2

theorem one_cell (s : ByteArray) : ∀ u ∈ [Value.string s], u.oneCell' = true := by
  intro u hu; simp at hu; subst hu; rfl

/-- the state of the cutting: k pieces are laid, 'rest' is still to be cut -/
def Cut (s : ByteArray) (xs : List ByteArray) (rest : ByteArray) (k : Nat) : Prop :=
  xs.length = (Pl.toks s).length ∧ k + (Pl.pcs rest.data.toList).length = (Pl.toks s).length ∧ (xs.take k).map (·.data.toList) ++ Pl.pcs rest.data.toList = Pl.pcs s.data.toList ∧ rest.size ≤ s.size
theorem cut_start (s : ByteArray) : Cut s (List.replicate (Pl.toks s).length ByteArray.empty) s 0 := ⟨by simp, by rw [Pl.toks_length]; omega, rfl, Nat.le_refl _⟩
theorem index_hit {l : List UInt8} (h : l.count 46 ≠ 0) : ∃ m : Nat, Lib.indexByte l 46 = m ∧ m < l.length ∧ (l.take m).count 46 = 0 ∧ l = l.take m ++ 46 :: l.drop (m + 1) := by
  have e := Lib.index_one l 46
  have hge := Lib.index_ge l [46]
  have hne : Lib.index l [46] ≠ -1 := fun x => h (Pl.index_one_none x)
  obtain ⟨m, hm⟩ : ∃ m : Nat, Lib.index l [46] = m := ⟨(Lib.index l [46]).toNat, by omega⟩
  obtain ⟨h1, h2⟩ := Pl.index_one_hit hm
  refine ⟨m, by rw [← e]; exact hm, ?_, h1, h2⟩
  have hr := Lib.index_room l [46] (by omega)
  simp at hr
  omega
theorem cut_step {s : ByteArray} {xs : List ByteArray} {rest : ByteArray} {k : Nat} (h : Cut s xs rest k) (hk : k + 1 < (Pl.toks s).length) :
    ∃ m : Nat, Lib.indexByte rest.data.toList 46 = m ∧ m < rest.size ∧ Cut s (xs.set k (rest.extract 0 m)) (rest.extract (m + 1) rest.size) (k + 1) := by
  obtain ⟨h1, h2, h3, h4⟩ := h
  have hc : rest.data.toList.count 46 ≠ 0 := by rw [Pl.pcs_length] at h2; omega
  obtain ⟨m, hm, hl, hz, he⟩ := index_hit hc
  have hsz : rest.data.toList.length = rest.size := by simp
  have e1 : (rest.extract 0 m).data.toList = rest.data.toList.take m := by rw [Lib.extract_data]; simp
  have e2 : (rest.extract (m + 1) rest.size).data.toList = rest.data.toList.drop (m + 1) := by
    rw [Lib.extract_data]
    exact List.take_of_length_le (by simp)
  have e3 : Pl.pcs rest.data.toList = rest.data.toList.take m :: Pl.pcs (rest.data.toList.drop (m + 1)) := by
    have := Pl.pcs_hit (rest.data.toList.take m) (rest.data.toList.drop (m + 1)) hz
    rw [← he] at this
    exact this
  refine ⟨m, hm, by omega, by simpa using h1, ?_, ?_, ?_⟩
  · rw [e2]
    rw [e3, List.length_cons] at h2
    omega
  · rw [e2, List.take_succ_eq_append_getElem (by simp; omega), List.map_append, List.map_cons, List.map_nil, List.take_set_of_le (by omega), List.getElem_set_self, e1, List.append_assoc]
    rw [e3] at h3
    exact h3
  · rw [ByteArray.size_extract]; omega
theorem cut_end {s : ByteArray} {xs : List ByteArray} {rest : ByteArray} {k : Nat} (h : Cut s xs rest k) (hk : ¬ k + 1 < (Pl.toks s).length) : k + 1 = (Pl.toks s).length ∧ xs.set k rest = Pl.toks s := by
  obtain ⟨h1, h2, h3, _⟩ := h
  have hp := Pl.pcs_length rest.data.toList
  have hk1 : k + 1 = (Pl.toks s).length := by omega
  have hz : Pl.pcs rest.data.toList = [rest.data.toList] := Pl.pcs_none (by omega)
  refine ⟨hk1, ?_⟩
  refine List.map_inj_right (f := fun x : ByteArray => x.data.toList) (fun a b hab => WideShapes.bytes_inj hab) |>.1 ?_
  rw [Pl.toks_data, ← h3, hz]
  have e : xs.set k rest = xs.take k ++ [rest] := by
    rw [List.set_eq_take_append_cons_drop, if_pos (by omega), List.drop_of_length_le (by omega)]
  rw [e, List.map_append]
  rfl

set_option maxRecDepth 100000 in
set_option maxHeartbeats 1000000 in
theorem genSplit_few (s : ByteArray) (w : World) (hs : s.size ≤ 140737488355328) (h8 : (Pl.toks s).length ≤ 8) :
    Calls Tryz.prog 105 #[.string s, .string ⟨#[46]⟩, .int .i64 0, .int .i64 (-1)] w fun e w' => e = .returned (.slice (some ⟨w.heap.size, 0, none⟩) (Pl.toks s).length (Pl.toks s).length) ∧ Own w' w.heap.size w.heap.size (Pl.toks s).length (Pl.toks s) ∧ Below w.heap.size w w' := by
  obtain ⟨i0, hi, hz0, hz1, hz2⟩ := info_parts info9
  have hc : Lib.countByte s.data.toList 46 + 1 = (Pl.toks s).length := by rw [Pl.toks_length, Pl.pcs_length]; rfl
  have hle : Lib.countByte s.data.toList 46 ≤ s.size := by
    have : Lib.countByte s.data.toList 46 ≤ s.data.toList.length := List.count_le_length
    simpa using this
  obtain ⟨N, hN⟩ : ∃ N, (Pl.toks s).length = N := ⟨_, rfl⟩
  rw [hN] at hc h8
  obtain ⟨c, hcc⟩ : ∃ c, Lib.countByte s.data.toList 46 = c := ⟨_, rfl⟩
  rw [hcc] at hc hle
  have HC := hide hcc
  have HN := hide hN
  clear hcc hN
  have hmin : min ((c : Int) + 1) ((s.size : Int) + 1) = (N : Int) := by omega
  have hmk := run_make_row' (P := Tryz.prog) 22 9 (.string ByteArray.empty) 16 Tryz.underlying22 info9 rfl .i64 .i64 N (by omega) (by omega)
  go_enter Tryz.func105, Tryz.ntmps105
  go_wp2_with (first | (go_at_call 71; refine (Tryz.strings_Count_one s 46 _).mono ?_; rintro e w0 ⟨rfl, rfl⟩; rw [unhide HC]))
  clear hmk hmin
  go_loopw [0, 10] (fun sv i wr => ∃ (k : Nat) (xs : List ByteArray) (rest : ByteArray), sv = .string rest ∧ i = .int .i64 k ∧ Hid (Cut s xs rest k) ∧ Hid (xs.length = N) ∧ k < N ∧ rest.size ≤ s.size ∧ Own wr w0.heap.size w0.heap.size N xs ∧ Below w0.heap.size w0 wr) (fun _ i _ => N - (intOf i).toNat)
  case atStart =>
    refine ⟨0, List.replicate N ByteArray.empty, s, rfl, rfl, hide ?_, hide (by simp), by omega, Nat.le_refl _, ?_, (Below.refl _ _).alloc (Nat.le_refl _) _⟩
    · have := cut_start s
      rwa [unhide HN] at this
    · have h := World.ownsRow_lit (base := w0.heap.size) (e := 9) (size := 1) w0 (madeCells #[.string ByteArray.empty] N) N (Nat.le_refl _) (by unfold maxLen; omega) (by rw [size_madeCells]; omega)
      rw [toList_madeCells_one] at h
      unfold Own
      rw [List.length_replicate, List.map_replicate]
      exact h
  case round =>
    obtain ⟨k, xs, rest, rfl, rfl, hcut, hxl, hkN, hrs, hown, hb⟩ := hrel
    have hc1 := own_cells hown k (by have := unhide hxl; omega)
    have hf1 := own_free hown k
    have Hown := hide hown
    clear hown
    by_cases hlt : k + 1 < N
    · obtain ⟨m, hm, hml, hnext⟩ := cut_step (unhide hcut) (by rw [unhide HN]; exact hlt)
      have HM := hide hm
      have Hnext := hide hnext
      clear hm hnext
      go_wp2_with (first | (go_at_call 104; refine (Tryz.strings_Index_one rest 46 _).mono ?_; rintro e w3 ⟨rfl, rfl⟩; rw [unhide HM]))
      refine ⟨⟨k + 1, xs.set k (rest.extract 0 m), rest.extract (m + 1) rest.size, rfl, by go_num, Hnext, hide (by rw [List.length_set]; exact unhide hxl), by omega, by rw [ByteArray.size_extract]; omega, own_set (unhide Hown) k _, hb.setCell (Nat.le_refl _) _⟩, ?_⟩
      simp [intOf]; omega
    · obtain ⟨e1, e2⟩ := cut_end (unhide hcut) (by rw [unhide HN]; exact hlt)
      have E2 := hide e2
      have E1 := hide e1
      have hke : k + 1 = N := by rw [e1, unhide HN]
      clear e1 e2
      go_wp2_with fail
      go_ret
      have R := own_set (unhide Hown) k rest
      rw [unhide E2] at R
      rw [unhide HN]
      exact ⟨rfl, R, hb.setCell (Nat.le_refl _) _⟩

set_option maxHeartbeats 400000 in
theorem split_few (s : ByteArray) (w : World) (hs : s.size ≤ 140737488355328) (h8 : (Pl.toks s).length ≤ 8) :
    Calls Tryz.prog 72 #[.string s, .string ⟨#[46]⟩] w fun e w' => ∃ b, e = .returned (.slice (some ⟨b, 0, none⟩) (Pl.toks s).length (Pl.toks s).length) ∧ w.heap.size ≤ b ∧ b < w'.heap.size ∧ Below w.heap.size w w' ∧ Row w' b 0 (Pl.toks s) := by
  go_enter Tryz.func72, Tryz.ntmps72
  go_wp2_with fail
  refine (genSplit_few s _ hs h8).mono ?_
  rintro e w1 ⟨rfl, hown, hb⟩
  go_wp2_with fail
  go_ret
  exact ⟨w.heap.size, rfl, Nat.le_refl _, (own_base hown).2, hb, fun k hk => by rw [Nat.zero_add]; exact own_cells hown k hk⟩
end Go.Proofs.YtmccpkpeimejhahGreatDoor

namespace Go.Proofs.YtmccpkpeimejhahGreatDoor
open Go.RowKit

def errS (wild : Bool) (s : ByteArray) : Int := Pl.errOf wild (Pl.pcs s.data.toList)
def manyB (s : ByteArray) : Bool := decide (8 < (Pl.toks s).length)

set_option maxHeartbeats 400000 in
theorem many_any (s : ByteArray) (w : World) (hs : s.size ≤ 140737488355328) :
    Calls Tryz.prog 53 #[.string s] w fun e w' => e = .returned (.bool (manyB s)) ∧ w' = w := by
  have hc : Lib.countByte s.data.toList 46 + 1 = (Pl.toks s).length := by rw [Pl.toks_length, Pl.pcs_length]; rfl
  have hl : Lib.countByte s.data.toList 46 ≤ 140737488355328 := by
    have : Lib.countByte s.data.toList 46 ≤ s.data.toList.length := List.count_le_length
    simp at this; omega
  have Hc := hide hc
  clear hc
  go_enter Tryz.func53, Tryz.ntmps53
  go_wp2_with (go_at_call 71; refine (Tryz.strings_Count_one s 46 _).mono ?_; rintro e w' ⟨rfl, rfl⟩)
  go_ret
  refine ⟨ret_bool ?_, rfl⟩
  have := unhide Hc
  simp [manyB]
  omega

set_option maxHeartbeats 400000 in
theorem tokens_any (s : ByteArray) (w : World) (hs : s.size ≤ 140737488355328) (h8 : (Pl.toks s).length ≤ 8) :
    Calls Tryz.prog 54 #[.string s] w fun e w' => ∃ b, e = .returned (.slice (some ⟨b, 0, none⟩) (Pl.toks s).length (Pl.toks s).length) ∧ w.heap.size ≤ b ∧ b < w'.heap.size ∧ Below w.heap.size w w' ∧ Row w' b 0 (Pl.toks s) := by
  go_enter Tryz.func54, Tryz.ntmps54
  go_wp2_with (go_at_call 72; refine (split_few s _ hs h8).mono ?_; rintro e w' ⟨b, rfl, h1, h2, h3, h4⟩)
  go_ret
  exact ⟨b, rfl, h1, h2, h3, h4⟩

theorem subj_bad {s : ByteArray} {k : Nat} (h : manyB s = false) (hk : k < (Pl.toks s).length) (g : isPlainB (tk (Pl.toks s) k) = false) : errS false s = 3 := by
  simp only [manyB, decide_eq_false_iff_not] at h
  refine Pl.errOf_bad (k := k) (by rwa [← Pl.toks_length]) (by rwa [← Pl.toks_length]) ?_
  rw [Pl.toks_at]
  simp only [Pl.tokOk, Bool.false_and, Bool.or_false]
  exact g
theorem subj_good {s : ByteArray} (h : manyB s = false) (g : ∀ k, k < (Pl.toks s).length → isPlainB (tk (Pl.toks s) k) = true) : errS false s = 0 := by
  simp only [manyB, decide_eq_false_iff_not] at h
  refine Pl.errOf_good (by rwa [← Pl.toks_length]) ?_
  simp only [Pl.goodTo, List.all_eq_true, List.mem_range]
  intro i hi
  rw [← Pl.toks_length] at hi
  rw [Pl.toks_at]
  simp only [Pl.tokOk, Bool.false_and, Bool.or_false]
  exact g i hi
theorem err_many {wild : Bool} {s : ByteArray} (h : manyB s = true) : errS wild s = 2 :=
  Pl.errOf_large (by rw [← Pl.toks_length]; simpa [manyB] using h)
theorem ret_eq {k : IntKind} {a b : Int} (h : b = a) : Ending.returned (.int k a) = .returned (.int k b) := by rw [h]

/-- each token is no longer than the text -/
theorem tok_size (s : ByteArray) (k : Nat) : (tk (Pl.toks s) k).size ≤ s.size := by
  unfold tk
  have h := Pl.toks_at s k
  have h2 : ((Pl.pcs s.data.toList)[k]?.getD []).length ≤ s.data.toList.length := by
    cases e : (Pl.pcs s.data.toList)[k]? with
    | none => simp
    | some p => exact Pl.pcs_short _ _ (List.mem_of_getElem? e)
  rw [h] at h2
  simpa using h2

set_option maxHeartbeats 400000 in
theorem subject_any (s : ByteArray) (w : World) (hs : s.size ≤ 140737488355328) :
    Calls Tryz.prog 34 #[.string s] w fun e w' => e = .returned (.int .i64 (errS false s)) ∧ Below w.heap.size w w' := by
  cases hb : manyB s with
  | true =>
    have Hb := hide hb
    clear hb
    go_enter Tryz.func34, Tryz.ntmps34
    go_wp2_with (go_at_call 53; refine (many_any _ _ hs).mono ?_; rintro e w' ⟨rfl, rfl⟩; rw [unhide Hb])
    go_ret
    exact ⟨ret_eq (err_many (unhide Hb)), Below.refl _ _⟩
  | false =>
    have Hb := hide hb
    have hl : (Pl.toks s).length ≤ 8 := by simpa [manyB] using hb
    clear hb
    go_enter Tryz.func34, Tryz.ntmps34
    go_wp2_with (first
      | (go_at_call 53; refine (many_any _ _ hs).mono ?_; rintro e w' ⟨rfl, rfl⟩; rw [unhide Hb])
      | (go_at_call 54; refine (tokens_any _ _ hs hl).mono ?_; rintro e w1 ⟨b, rfl, h1, h2, h3, h4⟩))
    have hcell : ∀ k, k < (Pl.toks s).length → w1.cell? ⟨b, k, none⟩ = some (.string (tk (Pl.toks s) k)) := fun k hk => by have := h4 k hk; rwa [Nat.zero_add] at this
    go_loop [10] (fun i => ∃ k : Nat, k ≤ (Pl.toks s).length ∧ i = .int .i64 k ∧ Hid (∀ j, j < k → isPlainB (tk (Pl.toks s) j) = true)) (fun i => (Pl.toks s).length - (intOf i).toNat)
    case atStart => exact ⟨0, Nat.zero_le _, rfl, hide (fun j h => absurd h (Nat.not_lt_zero j))⟩
    case round =>
      obtain ⟨k, hk, rfl, hq⟩ := hrel
      by_cases hlt : k < (Pl.toks s).length
      · have hc1 := hcell k hlt
        have hz := tok_size s k
        cases ht : isPlainB (tk (Pl.toks s) k) with
        | false =>
          have Ht := hide ht
          have Hz := hide hz
          clear ht hcell hz
          go_wp2_with (go_at_call 55; refine (plain_any _ _ (by have := unhide Hz; unfold maxLen; omega)).mono ?_; rintro e w' ⟨rfl, rfl⟩; rw [unhide Ht])
          go_ret
          exact ⟨ret_eq (subj_bad (unhide Hb) hlt (unhide Ht)), h3⟩
        | true =>
          have Ht := hide ht
          have Hz := hide hz
          clear ht hcell hz
          go_wp2_with (go_at_call 55; refine (plain_any _ _ (by have := unhide Hz; unfold maxLen; omega)).mono ?_; rintro e w' ⟨rfl, rfl⟩; rw [unhide Ht])
          go_round
          case rel => exact ⟨k + 1, by omega, by go_num, hide (fun j h => by
            rcases Nat.lt_succ_iff_lt_or_eq.1 h with h | h
            · exact unhide hq j h
            · subst h; exact unhide Ht)⟩
          case measure => simp [intOf]; omega
      · go_wp2
        go_ret
        exact ⟨ret_eq (subj_good (unhide Hb) (fun j hj => unhide hq j (by omega))), h3⟩

/-- is a token right in a filter? -/
def fOk (s : ByteArray) (k : Nat) : Bool := isPlainB (tk (Pl.toks s) k) || (((tk (Pl.toks s) k).toList == [42]) || (((tk (Pl.toks s) k).toList == [62]) && decide (k + 1 = (Pl.toks s).length)))
theorem byte_eq (t : ByteArray) (c : UInt8) : (t.data.toList == [c]) = (t.toList == [c]) := by
  rw [ByteArray.toList_eq]
theorem fOk_eq (s : ByteArray) (k : Nat) : Pl.tokOk true (decide (k + 1 = (Pl.pcs s.data.toList).length)) ((Pl.pcs s.data.toList)[k]?.getD []) = fOk s k := by
  rw [Pl.toks_at, ← Pl.toks_length]
  unfold Pl.tokOk fOk
  rw [byte_eq, byte_eq]
  simp only [isPlainB, tk, Bool.true_and]
theorem filt_bad {s : ByteArray} {k : Nat} (h : manyB s = false) (hk : k < (Pl.toks s).length) (g : fOk s k = false) : errS true s = 3 := by
  simp only [manyB, decide_eq_false_iff_not] at h
  exact Pl.errOf_bad (k := k) (by rwa [← Pl.toks_length]) (by rwa [← Pl.toks_length]) (by rw [fOk_eq]; exact g)
theorem filt_good {s : ByteArray} (h : manyB s = false) (g : ∀ k, k < (Pl.toks s).length → fOk s k = true) : errS true s = 0 := by
  simp only [manyB, decide_eq_false_iff_not] at h
  refine Pl.errOf_good (by rwa [← Pl.toks_length]) ?_
  simp only [Pl.goodTo, List.all_eq_true, List.mem_range]
  intro i hi
  rw [← Pl.toks_length] at hi
  rw [fOk_eq]
  exact g i hi
theorem fOk_of {s : ByteArray} {k : Nat} {a b c d : Bool} (h1 : isPlainB (tk (Pl.toks s) k) = a) (h2 : ((tk (Pl.toks s) k).toList == [42]) = b) (h3 : ((tk (Pl.toks s) k).toList == [62]) = c) (h4 : decide (k + 1 = (Pl.toks s).length) = d) : fOk s k = (a || (b || (c && d))) := by
  unfold fOk; rw [h1, h2, h3, h4]

set_option maxHeartbeats 1000000 in
theorem filter_any (s : ByteArray) (w : World) (hs : s.size ≤ 140737488355328) :
    Calls Tryz.prog 47 #[.string s] w fun e w' => e = .returned (.int .i64 (errS true s)) ∧ Below w.heap.size w w' := by
  cases hb : manyB s with
  | true =>
    have Hb := hide hb
    clear hb
    go_enter Tryz.func47, Tryz.ntmps47
    go_wp2_with (go_at_call 53; refine (many_any _ _ hs).mono ?_; rintro e w' ⟨rfl, rfl⟩; rw [unhide Hb])
    go_ret
    exact ⟨ret_eq (err_many (unhide Hb)), Below.refl _ _⟩
  | false =>
    have Hb := hide hb
    have hl : (Pl.toks s).length ≤ 8 := by simpa [manyB] using hb
    clear hb
    go_enter Tryz.func47, Tryz.ntmps47
    go_wp2_with (first
      | (go_at_call 53; refine (many_any _ _ hs).mono ?_; rintro e w' ⟨rfl, rfl⟩; rw [unhide Hb])
      | (go_at_call 54; refine (tokens_any _ _ hs hl).mono ?_; rintro e w1 ⟨b, rfl, h1, h2, h3, h4⟩))
    have hcell : ∀ k, k < (Pl.toks s).length → w1.cell? ⟨b, k, none⟩ = some (.string (tk (Pl.toks s) k)) := fun k hk => by have := h4 k hk; rwa [Nat.zero_add] at this
    go_loop [13] (fun i => ∃ k : Nat, k ≤ (Pl.toks s).length ∧ i = .int .i64 k ∧ Hid (∀ j, j < k → fOk s j = true)) (fun i => (Pl.toks s).length - (intOf i).toNat)
    case atStart => exact ⟨0, Nat.zero_le _, rfl, hide (fun j h => absurd h (Nat.not_lt_zero j))⟩
    case round =>
      obtain ⟨k, hk, rfl, hq⟩ := hrel
      by_cases hlt : k < (Pl.toks s).length
      · have hc1 := hcell k hlt
        have Hz := hide (tok_size s k)
        clear hcell
        cases hp : isPlainB (tk (Pl.toks s) k) <;> cases ha : ((tk (Pl.toks s) k).toList == [42]) <;> cases hg : ((tk (Pl.toks s) k).toList == [62]) <;> cases he : decide (k + 1 = (Pl.toks s).length)
        all_goals first
          | (exfalso; rw [eq_of_beq ha] at hg; revert hg; decide)
          | skip
        all_goals
          have Hf := hide (fOk_of hp ha hg he)
          have Hp := hide hp
          have hlast : ((k : Int) == ((Pl.toks s).length : Int) - 1) = decide (k + 1 = (Pl.toks s).length) := by rw [Bool.eq_iff_iff]; simp; omega
          rw [he] at hlast
          clear hp he
          go_wp2_with (go_at_call 55; refine (plain_any _ _ (by have := unhide Hz; unfold maxLen; omega)).mono ?_; rintro e w' ⟨rfl, rfl⟩; rw [unhide Hp])
          first
            | (go_ret; exact ⟨ret_eq (filt_bad (unhide Hb) hlt (unhide Hf)), h3⟩)
            | (go_round
               case rel => exact ⟨k + 1, by omega, by go_num, hide (fun j h => by
                 rcases Nat.lt_succ_iff_lt_or_eq.1 h with h | h
                 · exact unhide hq j h
                 · subst h; exact unhide Hf)⟩
               case measure => simp [intOf]; omega)
      · go_wp2
        go_ret
        exact ⟨ret_eq (filt_good (unhide Hb) (fun j hj => unhide hq j (by omega))), h3⟩
end Go.Proofs.YtmccpkpeimejhahGreatDoor

namespace Go.Proofs.YtmccpkpeimejhahGreatDoor
open Go.RowKit

def gtB (t : ByteArray) : Bool := t.toList == [62]
def stB (t : ByteArray) : Bool := t.toList == [42]
def eqB (a b : ByteArray) : Bool := a.toList == b.toList
def coverL : List ByteArray → List ByteArray → Bool
  | [], g => g.isEmpty
  | _ :: _, [] => false
  | f :: fs, g :: gs => gtB f || (!gtB g && ((stB f || eqB f g) && coverL fs gs))
def meetL : List ByteArray → List ByteArray → Bool
  | [], g => g.isEmpty
  | _ :: _, [] => false
  | f :: fs, g :: gs => gtB f || (gtB g || ((eqB f g || (stB f || stB g)) && meetL fs gs))
def takesL : List ByteArray → List ByteArray → Bool
  | [], s => s.isEmpty
  | _ :: _, [] => false
  | f :: fs, s :: ss => gtB f || ((stB f || eqB f s) && takesL fs ss)

theorem drop_tk {l : List ByteArray} {k : Nat} (h : k < l.length) : l.drop k = tk l k :: l.drop (k + 1) := by
  rw [List.drop_eq_getElem_cons h]
  simp [tk, List.getElem?_eq_getElem h]
theorem cover_step {f g : List ByteArray} {k : Nat} (hf : k < f.length) (hg : k < g.length) : coverL (f.drop k) (g.drop k) = (gtB (tk f k) || (!gtB (tk g k) && ((stB (tk f k) || eqB (tk f k) (tk g k)) && coverL (f.drop (k + 1)) (g.drop (k + 1))))) := by
  rw [drop_tk hf, drop_tk hg, coverL]
theorem cover_end {f g : List ByteArray} {k : Nat} (h : k ≤ f.length) (h2 : k ≤ g.length) (he : k = f.length ∨ k = g.length) : coverL (f.drop k) (g.drop k) = decide (f.length = g.length) := by
  rw [Bool.eq_iff_iff]
  rcases Nat.lt_or_ge k f.length with hf | hf
  · rw [drop_tk hf, show g.drop k = [] from List.drop_of_length_le (by omega), coverL]
    simp; omega
  · rw [List.drop_of_length_le hf, coverL]
    simp; omega
theorem meet_step {f g : List ByteArray} {k : Nat} (hf : k < f.length) (hg : k < g.length) : meetL (f.drop k) (g.drop k) = (gtB (tk f k) || (gtB (tk g k) || ((eqB (tk f k) (tk g k) || (stB (tk f k) || stB (tk g k))) && meetL (f.drop (k + 1)) (g.drop (k + 1))))) := by
  rw [drop_tk hf, drop_tk hg, meetL]
theorem meet_end {f g : List ByteArray} {k : Nat} (h : k ≤ f.length) (h2 : k ≤ g.length) (he : k = f.length ∨ k = g.length) : meetL (f.drop k) (g.drop k) = decide (f.length = g.length) := by
  rw [Bool.eq_iff_iff]
  rcases Nat.lt_or_ge k f.length with hf | hf
  · rw [drop_tk hf, show g.drop k = [] from List.drop_of_length_le (by omega), meetL]
    simp; omega
  · rw [List.drop_of_length_le hf, meetL]
    simp; omega
theorem cov_of {f g : List ByteArray} {k : Nat} {a b c d : Bool} (hq : coverL f g = coverL (f.drop k) (g.drop k)) (hf : k < f.length) (hg : k < g.length) (ha : ((tk f k).toList == [62]) = a) (hb : ((tk g k).toList == [62]) = b) (hc : ((tk f k).toList == [42]) = c) (hd : ((tk f k).toList == (tk g k).toList) = d) :
    coverL f g = (a || (!b && ((c || d) && coverL (f.drop (k + 1)) (g.drop (k + 1))))) := by
  rw [hq, cover_step hf hg]; unfold gtB stB eqB; rw [ha, hb, hc, hd]
theorem meet_of {f g : List ByteArray} {k : Nat} {a b c d e : Bool} (hq : meetL f g = meetL (f.drop k) (g.drop k)) (hf : k < f.length) (hg : k < g.length) (ha : ((tk f k).toList == [62]) = a) (hb : ((tk g k).toList == [62]) = b) (hc : ((tk f k).toList == (tk g k).toList) = c) (hd : ((tk f k).toList == [42]) = d) (he : ((tk g k).toList == [42]) = e) :
    meetL f g = (a || (b || ((c || (d || e)) && meetL (f.drop (k + 1)) (g.drop (k + 1))))) := by
  rw [hq, meet_step hf hg]; unfold gtB stB eqB; rw [ha, hb, hc, hd, he]
end Go.Proofs.YtmccpkpeimejhahGreatDoor

namespace Go.Proofs.YtmccpkpeimejhahGreatDoor
open Go.RowKit

theorem below_drewN {B : Nat} {a w : World} (h : Below B a w) (n : Nat) : Below B a (w.drewN n) := h.trans ⟨rfl, rfl, rfl, Nat.le_refl _, fun _ _ => rfl⟩
def pairErr (a b : Int) : Int := if a = 0 then b else a
theorem err_range (wild : Bool) (s : ByteArray) : 0 ≤ errS wild s ∧ errS wild s ≤ 3 := by
  unfold errS Pl.errOf
  split
  · omega
  · split <;> omega
theorem few {wild : Bool} {s : ByteArray} (h : errS wild s = 0) : (Pl.toks s).length ≤ 8 := by
  rcases Nat.lt_or_ge 8 (Pl.toks s).length with h2 | h2
  · rw [err_many (by simpa [manyB] using h2)] at h
    omega
  · exact h2
def matchB (f s : ByteArray) : Bool := (errS true f == 0 && errS false s == 0) && coverL (Pl.toks f) (Pl.toks s)
def overlapB (f g : ByteArray) : Bool := (errS true f == 0 && errS true g == 0) && meetL (Pl.toks f) (Pl.toks g)
def coversB (f g : ByteArray) : Bool := (errS true f == 0 && errS true g == 0) && coverL (Pl.toks f) (Pl.toks g)
theorem ret_two {a b : Bool} {c d : Int} (h : b = a) (g : d = c) : Ending.returned (.tuple #[.bool a, .int .i64 c]) = .returned (.tuple #[.bool b, .int .i64 d]) := by rw [h, g]
end Go.Proofs.YtmccpkpeimejhahGreatDoor
