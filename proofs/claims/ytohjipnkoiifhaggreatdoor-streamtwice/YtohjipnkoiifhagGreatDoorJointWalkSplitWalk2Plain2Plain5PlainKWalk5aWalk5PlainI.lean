/-
  Contract of strings.Split at a dot, where there are few pieces, whatever the text's length.
  Contracts of subject.hasTooManyTokens, tokens, Subject and Filter: they answer the errors of the plain functions.
  Plain facts on rows of tokens: what covers, what meets, what takes.
  What Match, Overlap and Covers answer, pure.
  Plain laws of rows of tokens: a row covers itself, what covers a cover covers, what covers both ways is one; what takes in common meets. No walk.
  Contracts of subject.cover and Match.
  Contracts of subject.meet, bothFilters, Overlap and Covers.
  Plain laws of an index as a list of entries that lies in the order of their tokens: where a subject belongs, what Put, Drop, Get, Find make of the list. No walk.
-/
import Derived.Test.YtohjipnkoiifhagGreatDoorWalk1
import Derived.Test.YtohjipnkoiifhagGreatDoorShelfS
import Derived.Lib.IndexBytes
import Derived.Deep.OwnRows
namespace Go.Proofs.YtohjipnkoiifhagGreatDoor
open Go.RowKit

/-- the k-th text of a list -/
def tk (l : List ByteArray) (k : Nat) : ByteArray := l[k]?.getD ByteArray.empty
/-- strings that lie side by side in a block -/
def Row (w : World) (b o : Nat) (l : List ByteArray) : Prop := ∀ k, k < l.length → w.cell? ⟨b, o + k, none⟩ = some (.string (tk l k))
theorem Row.below {w w' : World} {b o : Nat} {l : List ByteArray} (h : Row w b o l) {B : Nat} (hb : Below B w w') (hB : b < B) : Row w' b o l := by
  intro k hk
  rw [hb.cell (p := ⟨b, o + k, none⟩) hB]
  exact h k hk

theorem info9 : (Tryz.prog.info? 9).map (fun i => (i.zero, i.size, i.bytes)) = some (some (.string ByteArray.empty), 1, 16) := by kernel_rfl
/-- a row of strings that the call itself has laid -/
def Own (w : World) (B g cap : Nat) (l : List ByteArray) : Prop := w.ownsRow B 9 1 (.slice (some ⟨g, 0, none⟩) l.length cap) l.length (l.map Value.string)
theorem own_cells {W : World} {B g cap : Nat} {l : List ByteArray} (h : Own W B g cap l) : ∀ k, k < l.length → W.cell? ⟨g, k, none⟩ = some (.string (tk l k)) := by
  intro k hk
  rw [World.ownsRow.cellAt h k (by omega)]
  simp [tk, List.getElem?_eq_getElem hk]
theorem own_free {W : World} {B g cap : Nat} {l : List ByteArray} (h : Own W B g cap l) (j : Nat) : W.frozen? ⟨g, j, none⟩ = false := World.ownsRow.frozenAt h j
theorem own_base {W : World} {B g cap : Nat} {l : List ByteArray} (h : Own W B g cap l) : B ≤ g ∧ g < W.heap.size := World.ownsRow.lt h g rfl
theorem own_set {W : World} {B g cap : Nat} {l : List ByteArray} (h : Own W B g cap l) (k : Nat) (t : ByteArray) : Own (W.setCell ⟨g, k, none⟩ (.string t)) B g cap (l.set k t) := by
  have h2 := (World.ownsRow.stored h k (.string t)).1
  unfold Own
  rw [List.length_set, List.map_set]
  exact h2

theorem one_cell (s : ByteArray) : ∀ u ∈ [Value.string s], u.oneCell' = true := by
  intro u hu; simp at hu; subst hu; rfl

/-- the state of the cutting: k pieces are laid, 'rest' is still to be cut -/
def Cut (s : ByteArray) (xs : List ByteArray) (rest : ByteArray) (k : Nat) : Prop :=
  xs.length = (Pl.toks s).length ∧ k + (Pl.pcs rest.data.toList).length = (Pl.toks s).length ∧ (xs.take k).map (·.data.toList) ++ Pl.pcs rest.data.toList = Pl.pcs s.data.toList ∧ rest.size ≤ s.size
theorem cut_start (s : ByteArray) : Cut s (List.replicate (Pl.toks s).length ByteArray.empty) s 0 := ⟨by simp, by rw [Pl.toks_length]; omega, rfl, Nat.le_refl _⟩
theorem index_hit {l : List UInt8} (h : l.count 46 ≠ 0) : ∃ m : Nat, Lib.indexByte l 46 = m ∧ m < l.length ∧ (l.take m).count 46 = 0 ∧ l = l.take m ++ 46 :: l.drop (m + 1) := by
  have e := Lib.index_one l 46
  have hge := Lib.index_ge l [46]
  have hne : Lib.index l [46] ≠ -1 := fun x => h (Pl.index_one_none x)
  obtain ⟨m, hm⟩ : ∃ m : Nat, Lib.index l [46] = m := ⟨(Lib.index l [46]).toNat, by omega⟩
  obtain ⟨h1, h2⟩ := Pl.index_one_hit hm
  refine ⟨m, by rw [← e]; exact hm, ?_, h1, h2⟩
  have hr := Lib.index_room l [46] (by omega)
  simp at hr
  omega
theorem cut_step {s : ByteArray} {xs : List ByteArray} {rest : ByteArray} {k : Nat} (h : Cut s xs rest k) (hk : k + 1 < (Pl.toks s).length) :
    ∃ m : Nat, Lib.indexByte rest.data.toList 46 = m ∧ m < rest.size ∧ Cut s (xs.set k (rest.extract 0 m)) (rest.extract (m + 1) rest.size) (k + 1) := by
  obtain ⟨h1, h2, h3, h4⟩ := h
  have hc : rest.data.toList.count 46 ≠ 0 := by rw [Pl.pcs_length] at h2; omega
  obtain ⟨m, hm, hl, hz, he⟩ := index_hit hc
  have hsz : rest.data.toList.length = rest.size := by simp
  have e1 : (rest.extract 0 m).data.toList = rest.data.toList.take m := by rw [Lib.extract_data]; simp
  have e2 : (rest.extract (m + 1) rest.size).data.toList = rest.data.toList.drop (m + 1) := by
    rw [Lib.extract_data]
    exact List.take_of_length_le (by simp)
  have e3 : Pl.pcs rest.data.toList = rest.data.toList.take m :: Pl.pcs (rest.data.toList.drop (m + 1)) := by
    have := Pl.pcs_hit (rest.data.toList.take m) (rest.data.toList.drop (m + 1)) hz
    rw [← he] at this
    exact this
  refine ⟨m, hm, by omega, by simpa using h1, ?_, ?_, ?_⟩
  · rw [e2]
    rw [e3, List.length_cons] at h2
    omega
  · rw [e2, List.take_succ_eq_append_getElem (by simp; omega), List.map_append, List.map_cons, List.map_nil, List.take_set_of_le (by omega), List.getElem_set_self, e1, List.append_assoc]
    rw [e3] at h3
    exact h3
  · rw [ByteArray.size_extract]; omega
theorem cut_end {s : ByteArray} {xs : List ByteArray} {rest : ByteArray} {k : Nat} (h : Cut s xs rest k) (hk : ¬ k + 1 < (Pl.toks s).length) : k + 1 = (Pl.toks s).length ∧ xs.set k rest = Pl.toks s := by
  obtain ⟨h1, h2, h3, _⟩ := h
  have hp := Pl.pcs_length rest.data.toList
  have hk1 : k + 1 = (Pl.toks s).length := by omega
  have hz : Pl.pcs rest.data.toList = [rest.data.toList] := Pl.pcs_none (by omega)
  refine ⟨hk1, ?_⟩
  refine List.map_inj_right (f := fun x : ByteArray => x.data.toList) (fun a b hab => WideShapes.bytes_inj hab) |>.1 ?_
  rw [Pl.toks_data, ← h3, hz]
  have e : xs.set k rest = xs.take k ++ [rest] := by
    rw [List.set_eq_take_append_cons_drop, if_pos (by omega), List.drop_of_length_le (by omega)]
  rw [e, List.map_append]
  rfl

set_option maxRecDepth 100000 in
set_option maxHeartbeats 1000000 in
theorem genSplit_few (s : ByteArray) (w : World) (hs : s.size ≤ 140737488355328) (h8 : (Pl.toks s).length ≤ 8) :
    Calls Tryz.prog 155 #[.string s, .string ⟨#[46]⟩, .int .i64 0, .int .i64 (-1)] w fun e w' => e = .returned (.slice (some ⟨w.heap.size, 0, none⟩) (Pl.toks s).length (Pl.toks s).length) ∧ Own w' w.heap.size w.heap.size (Pl.toks s).length (Pl.toks s) ∧ Below w.heap.size w w' := by
  obtain ⟨i0, hi, hz0, hz1, hz2⟩ := info_parts info9
  have hc : Lib.countByte s.data.toList 46 + 1 = (Pl.toks s).length := by rw [Pl.toks_length, Pl.pcs_length]; rfl
  have hle : Lib.countByte s.data.toList 46 ≤ s.size := by
    have : Lib.countByte s.data.toList 46 ≤ s.data.toList.length := List.count_le_length
    simpa using this
  obtain ⟨N, hN⟩ : ∃ N, (Pl.toks s).length = N := ⟨_, rfl⟩
  rw [hN] at hc h8
  obtain ⟨c, hcc⟩ : ∃ c, Lib.countByte s.data.toList 46 = c := ⟨_, rfl⟩
  rw [hcc] at hc hle
  have HC := hide hcc
  have HN := hide hN
  clear hcc hN
  have hmin : min ((c : Int) + 1) ((s.size : Int) + 1) = (N : Int) := by omega
  have hmk := run_make_row' (P := Tryz.prog) 41 9 (.string ByteArray.empty) 16 Tryz.underlying41 info9 rfl .i64 .i64 N (by omega) (by omega)
  go_enter Tryz.func155, Tryz.ntmps155
  go_wp2_with (first | (go_at_call 130; refine (Tryz.strings_Count_one s 46 _).mono ?_; rintro e w0 ⟨rfl, rfl⟩; rw [unhide HC]))
  clear hmk hmin
  go_loopw [0, 10] (fun sv i wr => ∃ (k : Nat) (xs : List ByteArray) (rest : ByteArray), sv = .string rest ∧ i = .int .i64 k ∧ Hid (Cut s xs rest k) ∧ Hid (xs.length = N) ∧ k < N ∧ rest.size ≤ s.size ∧ Own wr w0.heap.size w0.heap.size N xs ∧ Below w0.heap.size w0 wr) (fun _ i _ => N - (intOf i).toNat)
  case atStart =>
    refine ⟨0, List.replicate N ByteArray.empty, s, rfl, rfl, hide ?_, hide (by simp), by omega, Nat.le_refl _, ?_, (Below.refl _ _).alloc (Nat.le_refl _) _⟩
    · have := cut_start s
      rwa [unhide HN] at this
    · have h := World.ownsRow_lit (base := w0.heap.size) (e := 9) (size := 1) w0 (madeCells #[.string ByteArray.empty] N) N (Nat.le_refl _) (by unfold maxLen; omega) (by rw [size_madeCells]; omega)
      rw [toList_madeCells_one] at h
      unfold Own
      rw [List.length_replicate, List.map_replicate]
      exact h
  case round =>
    obtain ⟨k, xs, rest, rfl, rfl, hcut, hxl, hkN, hrs, hown, hb⟩ := hrel
    have hc1 := own_cells hown k (by have := unhide hxl; omega)
    have hf1 := own_free hown k
    have Hown := hide hown
    clear hown
    by_cases hlt : k + 1 < N
    · obtain ⟨m, hm, hml, hnext⟩ := cut_step (unhide hcut) (by rw [unhide HN]; exact hlt)
      have HM := hide hm
      have Hnext := hide hnext
      clear hm hnext
      go_wp2_with (first | (go_at_call 154; refine (Tryz.strings_Index_one rest 46 _).mono ?_; rintro e w3 ⟨rfl, rfl⟩; rw [unhide HM]))
      refine ⟨⟨k + 1, xs.set k (rest.extract 0 m), rest.extract (m + 1) rest.size, rfl, by go_num, Hnext, hide (by rw [List.length_set]; exact unhide hxl), by omega, by rw [ByteArray.size_extract]; omega, own_set (unhide Hown) k _, hb.setCell (Nat.le_refl _) _⟩, ?_⟩
      simp [intOf]; omega
    · obtain ⟨e1, e2⟩ := cut_end (unhide hcut) (by rw [unhide HN]; exact hlt)
      have E2 := hide e2
      have E1 := hide e1
      have hke : k + 1 = N := by rw [e1, unhide HN]
      clear e1 e2
      go_wp2_with fail
      go_ret
      have R := own_set (unhide Hown) k rest
      rw [unhide E2] at R
      rw [unhide HN]
      exact ⟨rfl, R, hb.setCell (Nat.le_refl _) _⟩

set_option maxHeartbeats 400000 in
theorem split_few (s : ByteArray) (w : World) (hs : s.size ≤ 140737488355328) (h8 : (Pl.toks s).length ≤ 8) :
    Calls Tryz.prog 131 #[.string s, .string ⟨#[46]⟩] w fun e w' => ∃ b, e = .returned (.slice (some ⟨b, 0, none⟩) (Pl.toks s).length (Pl.toks s).length) ∧ w.heap.size ≤ b ∧ b < w'.heap.size ∧ Below w.heap.size w w' ∧ Row w' b 0 (Pl.toks s) := by
  go_enter Tryz.func131, Tryz.ntmps131
  go_wp2_with fail
  refine (genSplit_few s _ hs h8).mono ?_
  rintro e w1 ⟨rfl, hown, hb⟩
  go_wp2_with fail
  go_ret
  exact ⟨w.heap.size, rfl, Nat.le_refl _, (own_base hown).2, hb, fun k hk => by rw [Nat.zero_add]; exact own_cells hown k hk⟩
end Go.Proofs.YtohjipnkoiifhagGreatDoor

namespace Go.Proofs.YtohjipnkoiifhagGreatDoor
open Go.RowKit

def errS (wild : Bool) (s : ByteArray) : Int := Pl.errOf wild (Pl.pcs s.data.toList)
def manyB (s : ByteArray) : Bool := decide (8 < (Pl.toks s).length)

set_option maxHeartbeats 400000 in
theorem many_any (s : ByteArray) (w : World) (hs : s.size ≤ 140737488355328) :
    Calls Tryz.prog 101 #[.string s] w fun e w' => e = .returned (.bool (manyB s)) ∧ w' = w := by
  have hc : Lib.countByte s.data.toList 46 + 1 = (Pl.toks s).length := by rw [Pl.toks_length, Pl.pcs_length]; rfl
  have hl : Lib.countByte s.data.toList 46 ≤ 140737488355328 := by
    have : Lib.countByte s.data.toList 46 ≤ s.data.toList.length := List.count_le_length
    simp at this; omega
  have Hc := hide hc
  clear hc
  go_enter Tryz.func101, Tryz.ntmps101
  go_wp2_with (go_at_call 130; refine (Tryz.strings_Count_one s 46 _).mono ?_; rintro e w' ⟨rfl, rfl⟩)
  go_ret
  refine ⟨ret_bool ?_, rfl⟩
  have := unhide Hc
  simp [manyB]
  omega

set_option maxHeartbeats 400000 in
theorem tokens_any (s : ByteArray) (w : World) (hs : s.size ≤ 140737488355328) (h8 : (Pl.toks s).length ≤ 8) :
    Calls Tryz.prog 102 #[.string s] w fun e w' => ∃ b, e = .returned (.slice (some ⟨b, 0, none⟩) (Pl.toks s).length (Pl.toks s).length) ∧ w.heap.size ≤ b ∧ b < w'.heap.size ∧ Below w.heap.size w w' ∧ Row w' b 0 (Pl.toks s) := by
  go_enter Tryz.func102, Tryz.ntmps102
  go_wp2_with (go_at_call 131; refine (split_few s _ hs h8).mono ?_; rintro e w' ⟨b, rfl, h1, h2, h3, h4⟩)
  go_ret
  exact ⟨b, rfl, h1, h2, h3, h4⟩

theorem subj_bad {s : ByteArray} {k : Nat} (h : manyB s = false) (hk : k < (Pl.toks s).length) (g : isPlainB (tk (Pl.toks s) k) = false) : errS false s = 3 := by
  simp only [manyB, decide_eq_false_iff_not] at h
  refine Pl.errOf_bad (k := k) (by rwa [← Pl.toks_length]) (by rwa [← Pl.toks_length]) ?_
  rw [Pl.toks_at]
  simp only [Pl.tokOk, Bool.false_and, Bool.or_false]
  exact g
theorem subj_good {s : ByteArray} (h : manyB s = false) (g : ∀ k, k < (Pl.toks s).length → isPlainB (tk (Pl.toks s) k) = true) : errS false s = 0 := by
  simp only [manyB, decide_eq_false_iff_not] at h
  refine Pl.errOf_good (by rwa [← Pl.toks_length]) ?_
  simp only [Pl.goodTo, List.all_eq_true, List.mem_range]
  intro i hi
  rw [← Pl.toks_length] at hi
  rw [Pl.toks_at]
  simp only [Pl.tokOk, Bool.false_and, Bool.or_false]
  exact g i hi
theorem err_many {wild : Bool} {s : ByteArray} (h : manyB s = true) : errS wild s = 2 :=
  Pl.errOf_large (by rw [← Pl.toks_length]; simpa [manyB] using h)
theorem ret_eq {k : IntKind} {a b : Int} (h : b = a) : Ending.returned (.int k a) = .returned (.int k b) := by rw [h]

/-- each token is no longer than the text -/
theorem tok_size (s : ByteArray) (k : Nat) : (tk (Pl.toks s) k).size ≤ s.size := by
  unfold tk
  have h := Pl.toks_at s k
  have h2 : ((Pl.pcs s.data.toList)[k]?.getD []).length ≤ s.data.toList.length := by
    cases e : (Pl.pcs s.data.toList)[k]? with
    | none => simp
    | some p => exact Pl.pcs_short _ _ (List.mem_of_getElem? e)
  rw [h] at h2
  simpa using h2

set_option maxHeartbeats 400000 in
theorem subject_any (s : ByteArray) (w : World) (hs : s.size ≤ 140737488355328) :
    Calls Tryz.prog 63 #[.string s] w fun e w' => e = .returned (.int .i64 (errS false s)) ∧ Below w.heap.size w w' := by
  cases hb : manyB s with
  | true =>
    have Hb := hide hb
    clear hb
    go_enter Tryz.func63, Tryz.ntmps63
    go_wp2_with (go_at_call 101; refine (many_any _ _ hs).mono ?_; rintro e w' ⟨rfl, rfl⟩; rw [unhide Hb])
    go_ret
    exact ⟨ret_eq (err_many (unhide Hb)), Below.refl _ _⟩
  | false =>
    have Hb := hide hb
    have hl : (Pl.toks s).length ≤ 8 := by simpa [manyB] using hb
    clear hb
    go_enter Tryz.func63, Tryz.ntmps63
    go_wp2_with (first
      | (go_at_call 101; refine (many_any _ _ hs).mono ?_; rintro e w' ⟨rfl, rfl⟩; rw [unhide Hb])
      | (go_at_call 102; refine (tokens_any _ _ hs hl).mono ?_; rintro e w1 ⟨b, rfl, h1, h2, h3, h4⟩))
    have hcell : ∀ k, k < (Pl.toks s).length → w1.cell? ⟨b, k, none⟩ = some (.string (tk (Pl.toks s) k)) := fun k hk => by have := h4 k hk; rwa [Nat.zero_add] at this
    go_loop [10] (fun i => ∃ k : Nat, k ≤ (Pl.toks s).length ∧ i = .int .i64 k ∧ Hid (∀ j, j < k → isPlainB (tk (Pl.toks s) j) = true)) (fun i => (Pl.toks s).length - (intOf i).toNat)
    case atStart => exact ⟨0, Nat.zero_le _, rfl, hide (fun j h => absurd h (Nat.not_lt_zero j))⟩
    case round =>
      obtain ⟨k, hk, rfl, hq⟩ := hrel
      by_cases hlt : k < (Pl.toks s).length
      · have hc1 := hcell k hlt
        have hz := tok_size s k
        cases ht : isPlainB (tk (Pl.toks s) k) with
        | false =>
          have Ht := hide ht
          have Hz := hide hz
          clear ht hcell hz
          go_wp2_with (go_at_call 103; refine (plain_any _ _ (by have := unhide Hz; unfold maxLen; omega)).mono ?_; rintro e w' ⟨rfl, rfl⟩; rw [unhide Ht])
          go_ret
          exact ⟨ret_eq (subj_bad (unhide Hb) hlt (unhide Ht)), h3⟩
        | true =>
          have Ht := hide ht
          have Hz := hide hz
          clear ht hcell hz
          go_wp2_with (go_at_call 103; refine (plain_any _ _ (by have := unhide Hz; unfold maxLen; omega)).mono ?_; rintro e w' ⟨rfl, rfl⟩; rw [unhide Ht])
          go_round
          case rel => exact ⟨k + 1, by omega, by go_num, hide (fun j h => by
            rcases Nat.lt_succ_iff_lt_or_eq.1 h with h | h
            · exact unhide hq j h
            · subst h; exact unhide Ht)⟩
          case measure => simp [intOf]; omega
      · go_wp2
        go_ret
        exact ⟨ret_eq (subj_good (unhide Hb) (fun j hj => unhide hq j (by omega))), h3⟩

/-- is a token right in a filter? -/
def fOk (s : ByteArray) (k : Nat) : Bool := isPlainB (tk (Pl.toks s) k) || (((tk (Pl.toks s) k).toList == [42]) || (((tk (Pl.toks s) k).toList == [62]) && decide (k + 1 = (Pl.toks s).length)))
theorem byte_eq (t : ByteArray) (c : UInt8) : (t.data.toList == [c]) = (t.toList == [c]) := by
  rw [ByteArray.toList_eq]
theorem fOk_eq (s : ByteArray) (k : Nat) : Pl.tokOk true (decide (k + 1 = (Pl.pcs s.data.toList).length)) ((Pl.pcs s.data.toList)[k]?.getD []) = fOk s k := by
  rw [Pl.toks_at, ← Pl.toks_length]
  unfold Pl.tokOk fOk
  rw [byte_eq, byte_eq]
  simp only [isPlainB, tk, Bool.true_and]
theorem filt_bad {s : ByteArray} {k : Nat} (h : manyB s = false) (hk : k < (Pl.toks s).length) (g : fOk s k = false) : errS true s = 3 := by
  simp only [manyB, decide_eq_false_iff_not] at h
  exact Pl.errOf_bad (k := k) (by rwa [← Pl.toks_length]) (by rwa [← Pl.toks_length]) (by rw [fOk_eq]; exact g)
theorem filt_good {s : ByteArray} (h : manyB s = false) (g : ∀ k, k < (Pl.toks s).length → fOk s k = true) : errS true s = 0 := by
  simp only [manyB, decide_eq_false_iff_not] at h
  refine Pl.errOf_good (by rwa [← Pl.toks_length]) ?_
  simp only [Pl.goodTo, List.all_eq_true, List.mem_range]
  intro i hi
  rw [← Pl.toks_length] at hi
  rw [fOk_eq]
  exact g i hi
theorem fOk_of {s : ByteArray} {k : Nat} {a b c d : Bool} (h1 : isPlainB (tk (Pl.toks s) k) = a) (h2 : ((tk (Pl.toks s) k).toList == [42]) = b) (h3 : ((tk (Pl.toks s) k).toList == [62]) = c) (h4 : decide (k + 1 = (Pl.toks s).length) = d) : fOk s k = (a || (b || (c && d))) := by
  unfold fOk; rw [h1, h2, h3, h4]

set_option maxHeartbeats 1000000 in
theorem filter_any (s : ByteArray) (w : World) (hs : s.size ≤ 140737488355328) :
    Calls Tryz.prog 72 #[.string s] w fun e w' => e = .returned (.int .i64 (errS true s)) ∧ Below w.heap.size w w' := by
  cases hb : manyB s with
  | true =>
    have Hb := hide hb
    clear hb
    go_enter Tryz.func72, Tryz.ntmps72
    go_wp2_with (go_at_call 101; refine (many_any _ _ hs).mono ?_; rintro e w' ⟨rfl, rfl⟩; rw [unhide Hb])
    go_ret
    exact ⟨ret_eq (err_many (unhide Hb)), Below.refl _ _⟩
  | false =>
    have Hb := hide hb
    have hl : (Pl.toks s).length ≤ 8 := by simpa [manyB] using hb
    clear hb
    go_enter Tryz.func72, Tryz.ntmps72
    go_wp2_with (first
      | (go_at_call 101; refine (many_any _ _ hs).mono ?_; rintro e w' ⟨rfl, rfl⟩; rw [unhide Hb])
      | (go_at_call 102; refine (tokens_any _ _ hs hl).mono ?_; rintro e w1 ⟨b, rfl, h1, h2, h3, h4⟩))
    have hcell : ∀ k, k < (Pl.toks s).length → w1.cell? ⟨b, k, none⟩ = some (.string (tk (Pl.toks s) k)) := fun k hk => by have := h4 k hk; rwa [Nat.zero_add] at this
    go_loop [13] (fun i => ∃ k : Nat, k ≤ (Pl.toks s).length ∧ i = .int .i64 k ∧ Hid (∀ j, j < k → fOk s j = true)) (fun i => (Pl.toks s).length - (intOf i).toNat)
    case atStart => exact ⟨0, Nat.zero_le _, rfl, hide (fun j h => absurd h (Nat.not_lt_zero j))⟩
    case round =>
      obtain ⟨k, hk, rfl, hq⟩ := hrel
      by_cases hlt : k < (Pl.toks s).length
      · have hc1 := hcell k hlt
        have Hz := hide (tok_size s k)
        clear hcell
        cases hp : isPlainB (tk (Pl.toks s) k) <;> cases ha : ((tk (Pl.toks s) k).toList == [42]) <;> cases hg : ((tk (Pl.toks s) k).toList == [62]) <;> cases he : decide (k + 1 = (Pl.toks s).length)
        all_goals first
          | (exfalso; rw [eq_of_beq ha] at hg; revert hg; decide)
          | skip
        all_goals
          have Hf := hide (fOk_of hp ha hg he)
          have Hp := hide hp
          have hlast : ((k : Int) == ((Pl.toks s).length : Int) - 1) = decide (k + 1 = (Pl.toks s).length) := by rw [Bool.eq_iff_iff]; simp; omega
          rw [he] at hlast
          clear hp he
          go_wp2_with (go_at_call 103; refine (plain_any _ _ (by have := unhide Hz; unfold maxLen; omega)).mono ?_; rintro e w' ⟨rfl, rfl⟩; rw [unhide Hp])
          first
            | (go_ret; exact ⟨ret_eq (filt_bad (unhide Hb) hlt (unhide Hf)), h3⟩)
            | (go_round
               case rel => exact ⟨k + 1, by omega, by go_num, hide (fun j h => by
                 rcases Nat.lt_succ_iff_lt_or_eq.1 h with h | h
                 · exact unhide hq j h
                 · subst h; exact unhide Hf)⟩
               case measure => simp [intOf]; omega)
      · go_wp2
        go_ret
        exact ⟨ret_eq (filt_good (unhide Hb) (fun j hj => unhide hq j (by omega))), h3⟩
end Go.Proofs.YtohjipnkoiifhagGreatDoor

namespace Go.Proofs.YtohjipnkoiifhagGreatDoor
open Go.RowKit

def gtB (t : ByteArray) : Bool := t.toList == [62]
def stB (t : ByteArray) : Bool := t.toList == [42]
def eqB (a b : ByteArray) : Bool := a.toList == b.toList
def coverL : List ByteArray → List ByteArray → Bool
  | [], g => g.isEmpty
  | _ :: _, [] => false
  | f :: fs, g :: gs => gtB f || (!gtB g && ((stB f || eqB f g) && coverL fs gs))
def meetL : List ByteArray → List ByteArray → Bool
  | [], g => g.isEmpty
  | _ :: _, [] => false
  | f :: fs, g :: gs => gtB f || (gtB g || ((eqB f g || (stB f || stB g)) && meetL fs gs))
def takesL : List ByteArray → List ByteArray → Bool
  | [], s => s.isEmpty
  | _ :: _, [] => false
  | f :: fs, s :: ss => gtB f || ((stB f || eqB f s) && takesL fs ss)

theorem drop_tk {l : List ByteArray} {k : Nat} (h : k < l.length) : l.drop k = tk l k :: l.drop (k + 1) := by
  rw [List.drop_eq_getElem_cons h]
  simp [tk, List.getElem?_eq_getElem h]
theorem cover_step {f g : List ByteArray} {k : Nat} (hf : k < f.length) (hg : k < g.length) : coverL (f.drop k) (g.drop k) = (gtB (tk f k) || (!gtB (tk g k) && ((stB (tk f k) || eqB (tk f k) (tk g k)) && coverL (f.drop (k + 1)) (g.drop (k + 1))))) := by
  rw [drop_tk hf, drop_tk hg, coverL]
theorem cover_end {f g : List ByteArray} {k : Nat} (h : k ≤ f.length) (h2 : k ≤ g.length) (he : k = f.length ∨ k = g.length) : coverL (f.drop k) (g.drop k) = decide (f.length = g.length) := by
  rw [Bool.eq_iff_iff]
  rcases Nat.lt_or_ge k f.length with hf | hf
  · rw [drop_tk hf, show g.drop k = [] from List.drop_of_length_le (by omega), coverL]
    simp; omega
  · rw [List.drop_of_length_le hf, coverL]
    simp; omega
theorem meet_step {f g : List ByteArray} {k : Nat} (hf : k < f.length) (hg : k < g.length) : meetL (f.drop k) (g.drop k) = (gtB (tk f k) || (gtB (tk g k) || ((eqB (tk f k) (tk g k) || (stB (tk f k) || stB (tk g k))) && meetL (f.drop (k + 1)) (g.drop (k + 1))))) := by
  rw [drop_tk hf, drop_tk hg, meetL]
theorem meet_end {f g : List ByteArray} {k : Nat} (h : k ≤ f.length) (h2 : k ≤ g.length) (he : k = f.length ∨ k = g.length) : meetL (f.drop k) (g.drop k) = decide (f.length = g.length) := by
  rw [Bool.eq_iff_iff]
  rcases Nat.lt_or_ge k f.length with hf | hf
  · rw [drop_tk hf, show g.drop k = [] from List.drop_of_length_le (by omega), meetL]
    simp; omega
  · rw [List.drop_of_length_le hf, meetL]
    simp; omega
theorem cov_of {f g : List ByteArray} {k : Nat} {a b c d : Bool} (hq : coverL f g = coverL (f.drop k) (g.drop k)) (hf : k < f.length) (hg : k < g.length) (ha : ((tk f k).toList == [62]) = a) (hb : ((tk g k).toList == [62]) = b) (hc : ((tk f k).toList == [42]) = c) (hd : ((tk f k).toList == (tk g k).toList) = d) :
    coverL f g = (a || (!b && ((c || d) && coverL (f.drop (k + 1)) (g.drop (k + 1))))) := by
  rw [hq, cover_step hf hg]; unfold gtB stB eqB; rw [ha, hb, hc, hd]
theorem meet_of {f g : List ByteArray} {k : Nat} {a b c d e : Bool} (hq : meetL f g = meetL (f.drop k) (g.drop k)) (hf : k < f.length) (hg : k < g.length) (ha : ((tk f k).toList == [62]) = a) (hb : ((tk g k).toList == [62]) = b) (hc : ((tk f k).toList == (tk g k).toList) = c) (hd : ((tk f k).toList == [42]) = d) (he : ((tk g k).toList == [42]) = e) :
    meetL f g = (a || (b || ((c || (d || e)) && meetL (f.drop (k + 1)) (g.drop (k + 1))))) := by
  rw [hq, meet_step hf hg]; unfold gtB stB eqB; rw [ha, hb, hc, hd, he]
end Go.Proofs.YtohjipnkoiifhagGreatDoor

namespace Go.Proofs.YtohjipnkoiifhagGreatDoor
open Go.RowKit

theorem below_drewN {B : Nat} {a w : World} (h : Below B a w) (n : Nat) : Below B a (w.drewN n) := h.trans ⟨rfl, rfl, rfl, Nat.le_refl _, fun _ _ => rfl⟩
def pairErr (a b : Int) : Int := if a = 0 then b else a
theorem err_range (wild : Bool) (s : ByteArray) : 0 ≤ errS wild s ∧ errS wild s ≤ 3 := by
  unfold errS Pl.errOf
  split
  · omega
  · split <;> omega
theorem few {wild : Bool} {s : ByteArray} (h : errS wild s = 0) : (Pl.toks s).length ≤ 8 := by
  rcases Nat.lt_or_ge 8 (Pl.toks s).length with h2 | h2
  · rw [err_many (by simpa [manyB] using h2)] at h
    omega
  · exact h2
def matchB (f s : ByteArray) : Bool := (errS true f == 0 && errS false s == 0) && coverL (Pl.toks f) (Pl.toks s)
def overlapB (f g : ByteArray) : Bool := (errS true f == 0 && errS true g == 0) && meetL (Pl.toks f) (Pl.toks g)
def coversB (f g : ByteArray) : Bool := (errS true f == 0 && errS true g == 0) && coverL (Pl.toks f) (Pl.toks g)
theorem ret_two {a b : Bool} {c d : Int} (h : b = a) (g : d = c) : Ending.returned (.tuple #[.bool a, .int .i64 c]) = .returned (.tuple #[.bool b, .int .i64 d]) := by rw [h, g]
end Go.Proofs.YtohjipnkoiifhagGreatDoor

namespace Go.Proofs.YtohjipnkoiifhagGreatDoor
open Go.RowKit

theorem eqB_iff {a b : ByteArray} : eqB a b = true ↔ a = b := by
  unfold eqB
  rw [beq_iff_eq, ByteArray.toList_eq, ByteArray.toList_eq]
  exact ⟨fun h => WideShapes.bytes_inj h, fun h => by rw [h]⟩
theorem eqB_self (a : ByteArray) : eqB a a = true := eqB_iff.2 rfl
theorem gt_eq {a b : ByteArray} (h : gtB a = true) (g : gtB b = true) : a = b := by
  unfold gtB at h g
  exact eqB_iff.1 (by unfold eqB; rw [eq_of_beq h, eq_of_beq g]; rfl)
theorem st_eq {a b : ByteArray} (h : stB a = true) (g : stB b = true) : a = b := by
  unfold stB at h g
  exact eqB_iff.1 (by unfold eqB; rw [eq_of_beq h, eq_of_beq g]; rfl)

theorem coverL_self : ∀ l : List ByteArray, coverL l l = true
  | [] => rfl
  | x :: l => by
    rw [coverL, coverL_self l, eqB_self]
    cases gtB x <;> simp
theorem meetL_self : ∀ l : List ByteArray, meetL l l = true
  | [] => rfl
  | x :: l => by
    rw [meetL, meetL_self l, eqB_self]
    cases gtB x <;> simp
theorem coverL_gt {x : ByteArray} (h : gtB x = true) : ∀ {l : List ByteArray}, l ≠ [] → coverL [x] l = true
  | [], hl => absurd rfl hl
  | y :: l, _ => by rw [coverL, h]; rfl
theorem coverL_cons {x y : ByteArray} {f g : List ByteArray} : coverL (x :: f) (y :: g) = true ↔ (gtB x = true ∨ (gtB y = false ∧ (stB x = true ∨ x = y) ∧ coverL f g = true)) := by
  rw [coverL]
  simp only [Bool.or_eq_true, Bool.and_eq_true, Bool.not_eq_true', eqB_iff]
theorem meetL_cons {x y : ByteArray} {f g : List ByteArray} : meetL (x :: f) (y :: g) = true ↔ (gtB x = true ∨ gtB y = true ∨ ((x = y ∨ stB x = true ∨ stB y = true) ∧ meetL f g = true)) := by
  rw [meetL]
  simp only [Bool.or_eq_true, Bool.and_eq_true, eqB_iff]
theorem coverL_nil {g : List ByteArray} : coverL [] g = true ↔ g = [] := by cases g <;> simp [coverL]
theorem coverL_none {x : ByteArray} {f : List ByteArray} : coverL (x :: f) [] = false := rfl
theorem meetL_nil {g : List ByteArray} : meetL [] g = true ↔ g = [] := by cases g <;> simp [meetL]
theorem meetL_none {x : ByteArray} {f : List ByteArray} : meetL (x :: f) [] = false := rfl

theorem coverL_trans : ∀ (f g h : List ByteArray), coverL f g = true → coverL g h = true → coverL f h = true
  | [], g, h, a, b => by
    obtain rfl := coverL_nil.1 a
    exact b
  | x :: f, [], h, a, b => by cases a
  | x :: f, y :: g, [], a, b => by cases b
  | x :: f, y :: g, z :: h, a, b => by
    rw [coverL_cons] at a b ⊢
    rcases a with a | ⟨a1, a2, a3⟩
    · exact Or.inl a
    · rcases b with b | ⟨b1, b2, b3⟩
      · rw [a1] at b; cases b
      · refine Or.inr ⟨b1, ?_, coverL_trans f g h a3 b3⟩
        rcases a2 with a2 | rfl
        · exact Or.inl a2
        · exact b2
theorem coverL_meetL : ∀ (f g : List ByteArray), coverL f g = true → meetL f g = true
  | [], g, a => by rw [meetL_nil]; exact coverL_nil.1 a
  | x :: f, [], a => by cases a
  | x :: f, y :: g, a => by
    rw [coverL_cons] at a
    rw [meetL_cons]
    rcases a with a | ⟨_, a2, a3⟩
    · exact Or.inl a
    · refine Or.inr (Or.inr ⟨?_, coverL_meetL f g a3⟩)
      rcases a2 with a2 | rfl
      · exact Or.inr (Or.inl a2)
      · exact Or.inl rfl
theorem meetL_symm : ∀ (f g : List ByteArray), meetL f g = true → meetL g f = true
  | [], g, a => by obtain rfl := meetL_nil.1 a; rfl
  | x :: f, [], a => by cases a
  | x :: f, y :: g, a => by
    rw [meetL_cons] at a ⊢
    rcases a with a | a | ⟨a1, a2⟩
    · exact Or.inr (Or.inl a)
    · exact Or.inl a
    · refine Or.inr (Or.inr ⟨?_, meetL_symm f g a2⟩)
      rcases a1 with rfl | a1 | a1
      · exact Or.inl rfl
      · exact Or.inr (Or.inr a1)
      · exact Or.inr (Or.inl a1)
theorem meetL_comm (f g : List ByteArray) : meetL f g = meetL g f := by
  rw [Bool.eq_iff_iff]
  exact ⟨meetL_symm f g, meetL_symm g f⟩
theorem meetL_of_common : ∀ (f g s : List ByteArray), coverL f s = true → coverL g s = true → meetL f g = true
  | [], g, s, a, b => by
    obtain rfl := coverL_nil.1 a
    cases g with
    | nil => rfl
    | cons => cases b
  | x :: f, g, [], a, b => by cases a
  | x :: f, [], y :: s, a, b => by cases b
  | x :: f, z :: g, y :: s, a, b => by
    rw [coverL_cons] at a b
    rw [meetL_cons]
    rcases a with a | ⟨_, a2, a3⟩
    · exact Or.inl a
    · rcases b with b | ⟨_, b2, b3⟩
      · exact Or.inr (Or.inl b)
      · refine Or.inr (Or.inr ⟨?_, meetL_of_common f g s a3 b3⟩)
        rcases a2 with a2 | rfl
        · exact Or.inr (Or.inl a2)
        · rcases b2 with b2 | rfl
          · exact Or.inr (Or.inr b2)
          · exact Or.inl rfl
theorem meetL_cover : ∀ (f g h : List ByteArray), coverL f g = true → meetL g h = true → meetL f h = true
  | [], g, h, a, b => by
    obtain rfl := coverL_nil.1 a
    exact b
  | x :: f, [], h, a, b => by cases a
  | x :: f, y :: g, [], a, b => by cases b
  | x :: f, y :: g, z :: h, a, b => by
    rw [coverL_cons] at a
    rw [meetL_cons] at b ⊢
    rcases a with a | ⟨a1, a2, a3⟩
    · exact Or.inl a
    · rcases b with b | b | ⟨b1, b2⟩
      · rw [a1] at b; cases b
      · exact Or.inr (Or.inl b)
      · refine Or.inr (Or.inr ⟨?_, meetL_cover f g h a3 b2⟩)
        rcases a2 with a2 | rfl
        · exact Or.inr (Or.inl a2)
        · exact b1
/-- the sign for all that is left stands last, if anywhere -/
def lastOnly : List ByteArray → Prop
  | [] => True
  | x :: l => (gtB x = true → l = []) ∧ lastOnly l
theorem coverL_antisymm : ∀ (f g : List ByteArray), lastOnly f → lastOnly g → coverL f g = true → coverL g f = true → f = g
  | [], g, _, _, a, _ => (coverL_nil.1 a).symm
  | x :: f, [], _, _, a, _ => by cases a
  | x :: f, y :: g, p, q, a, b => by
    rw [coverL_cons] at a b
    rcases a with a | ⟨a1, a2, a3⟩
    · rcases b with b | ⟨b1, _, _⟩
      · obtain rfl := gt_eq a b
        rw [p.1 a, q.1 b]
      · rw [a] at b1; cases b1
    · rcases b with b | ⟨_, b2, b3⟩
      · rw [a1] at b; cases b
      · rw [coverL_antisymm f g p.2 q.2 a3 b3]
        rcases a2 with a2 | rfl
        · rcases b2 with b2 | rfl
          · rw [st_eq a2 b2]
          · rfl
        · rfl
/-- a row without wildcards covers just itself -/
theorem coverL_plain : ∀ (f g : List ByteArray), (∀ t ∈ f, gtB t = false ∧ stB t = false) → (∀ t ∈ g, gtB t = false) → (coverL f g = true ↔ f = g)
  | [], g, _, _ => by rw [coverL_nil]; exact eq_comm
  | x :: f, [], _, _ => by rw [coverL_none]; simp
  | x :: f, y :: g, p, q => by
    rw [coverL_cons]
    obtain ⟨p1, p2⟩ := p x (by simp)
    have ih := coverL_plain f g (fun t ht => p t (by simp [ht])) (fun t ht => q t (by simp [ht]))
    rw [p1, p2, q y (by simp), ih]
    simp

/-- the text out of its pieces -/
def joinD : List (List UInt8) → List UInt8
  | [] => []
  | [p] => p
  | p :: q :: r => p ++ 46 :: joinD (q :: r)
theorem joinD_pcs : ∀ l : List UInt8, joinD (Pl.pcs l) = l
  | [] => rfl
  | c :: r => by
    have ih := joinD_pcs r
    rw [Pl.pcs]
    cases e : Pl.pcs r with
    | nil => exact absurd e (Pl.pcs_ne r)
    | cons p q =>
      rw [e] at ih
      by_cases h : c = 46
      · rw [if_pos h, joinD, ih, h]; rfl
      · rw [if_neg h, List.modifyHead_cons]
        cases q with
        | nil => rw [joinD] at ih ⊢; rw [ih]
        | cons a b => rw [joinD] at ih ⊢; rw [List.cons_append, ih]
theorem toks_inj {s t : ByteArray} (h : Pl.toks s = Pl.toks t) : s = t := by
  have e := congrArg (List.map (·.data.toList)) h
  rw [Pl.toks_data, Pl.toks_data] at e
  have e2 := congrArg joinD e
  rw [joinD_pcs, joinD_pcs] at e2
  exact WideShapes.bytes_inj e2
theorem toks_ne (s : ByteArray) : Pl.toks s ≠ [] := by
  intro h
  have := Pl.toks_length s
  rw [h, Pl.pcs_length] at this
  simp at this

theorem good_of {wild : Bool} {s : ByteArray} (h : errS wild s = 0) : ¬ 8 < (Pl.pcs s.data.toList).length ∧ Pl.goodTo wild (Pl.pcs s.data.toList) (Pl.pcs s.data.toList).length = true := by
  unfold errS Pl.errOf at h
  split at h
  · omega
  · rename_i h8
    split at h
    · rename_i hg; exact ⟨h8, hg⟩
    · omega
theorem tok_of {wild : Bool} {s : ByteArray} (h : errS wild s = 0) {k : Nat} (hk : k < (Pl.toks s).length) : Pl.tokOk wild (decide (k + 1 = (Pl.pcs s.data.toList).length)) (tk (Pl.toks s) k).data.toList = true := by
  have g := (good_of h).2
  simp only [Pl.goodTo, List.all_eq_true, List.mem_range] at g
  have := g k (by rw [← Pl.toks_length]; exact hk)
  rw [Pl.toks_at] at this
  exact this
theorem subject_filter {s : ByteArray} (h : errS false s = 0) : errS true s = 0 := by
  obtain ⟨h8, hg⟩ := good_of h
  refine Pl.errOf_good h8 ?_
  simp only [Pl.goodTo, List.all_eq_true, List.mem_range] at hg ⊢
  intro i hi
  have := hg i hi
  simp only [Pl.tokOk, Bool.false_and, Bool.or_false] at this
  simp [Pl.tokOk, this]
theorem plain_sign {t : ByteArray} (h : isPlainB t = true) : gtB t = false ∧ stB t = false := by
  refine ⟨?_, ?_⟩
  · cases e : gtB t with
    | false => rfl
    | true =>
      unfold gtB at e
      rw [ByteArray.toList_eq] at e
      unfold isPlainB at h
      rw [eq_of_beq e] at h
      revert h
      decide
  · cases e : stB t with
    | false => rfl
    | true =>
      unfold stB at e
      rw [ByteArray.toList_eq] at e
      unfold isPlainB at h
      rw [eq_of_beq e] at h
      revert h
      decide
theorem subject_signs {s : ByteArray} (h : errS false s = 0) : ∀ t ∈ Pl.toks s, gtB t = false ∧ stB t = false := by
  intro t ht
  obtain ⟨k, hk, rfl⟩ := List.mem_iff_getElem.1 ht
  have := tok_of h hk
  simp only [Pl.tokOk, Bool.false_and, Bool.or_false] at this
  have e : tk (Pl.toks s) k = (Pl.toks s)[k] := by simp [tk, List.getElem?_eq_getElem hk]
  rw [e] at this
  exact plain_sign this
theorem lastOnly_of : ∀ (l : List ByteArray), (∀ k, k < l.length → gtB (tk l k) = true → k + 1 = l.length) → lastOnly l
  | [], _ => trivial
  | x :: l, h => by
    refine ⟨fun hx => ?_, lastOnly_of l (fun k hk hg => ?_)⟩
    · have := h 0 (by simp) (by simpa [tk] using hx)
      simpa using this
    · have := h (k + 1) (by simpa using hk) (by simpa [tk] using hg)
      simpa using this
theorem filter_last {s : ByteArray} (h : errS true s = 0) : lastOnly (Pl.toks s) := by
  refine lastOnly_of _ fun k hk hg => ?_
  have := tok_of h hk
  rw [← Pl.toks_length] at this
  unfold Pl.tokOk at this
  have hp : isPlainB (tk (Pl.toks s) k) = false := by
    cases e : isPlainB (tk (Pl.toks s) k) with
    | false => rfl
    | true => rw [(plain_sign e).1] at hg; cases hg
  unfold isPlainB at hp
  have hs : ((tk (Pl.toks s) k).data.toList == [42]) = false := by
    unfold gtB at hg
    rw [ByteArray.toList_eq] at hg
    rw [eq_of_beq hg]
    decide
  rw [hp, hs] at this
  simp at this
  exact this.2

theorem coversB_self {s : ByteArray} (h : errS true s = 0) : coversB s s = true := by
  unfold coversB; rw [h, coverL_self]; rfl
theorem overlapB_self {s : ByteArray} (h : errS true s = 0) : overlapB s s = true := by
  unfold overlapB; rw [h, meetL_self]; rfl
theorem gt_text : errS true ⟨#[62]⟩ = 0 ∧ Pl.toks ⟨#[62]⟩ = [⟨#[62]⟩] := by decide +kernel
theorem coversB_all {s : ByteArray} (h : errS true s = 0) : coversB ⟨#[62]⟩ s = true := by
  unfold coversB; rw [h, gt_text.1, gt_text.2, coverL_gt (by decide +kernel) (toks_ne s)]; rfl
theorem coversB_none {s : ByteArray} (h : (errS true s == 0) = false) : coversB s s = false := by
  unfold coversB; rw [h]; rfl
theorem matchB_self {s : ByteArray} (h : errS false s = 0) : matchB s s = true := by
  unfold matchB; rw [h, subject_filter h, coverL_self]; rfl
theorem matchB_subjects {s t : ByteArray} (h : errS false s = 0) (g : errS false t = 0) : matchB s t = (s.toList == t.toList) := by
  have e : matchB s t = coverL (Pl.toks s) (Pl.toks t) := by unfold matchB; rw [subject_filter h, g]; rfl
  rw [e, Bool.eq_iff_iff, coverL_plain _ _ (subject_signs h) (fun x hx => (subject_signs g x hx).1)]
  refine ⟨fun he => ?_, fun he => ?_⟩
  · rw [toks_inj he]; simp
  · rw [eqB_iff.1 he]
theorem match_overlap {f g s : ByteArray} (a : matchB f s = true) (b : matchB g s = true) : overlapB f g = true := by
  unfold matchB at a b
  simp only [Bool.and_eq_true] at a b
  unfold overlapB
  rw [a.1.1, b.1.1, meetL_of_common _ _ _ a.2 b.2]; rfl
theorem overlap_comm (f g : ByteArray) : overlapB f g = overlapB g f := by
  unfold overlapB
  rw [meetL_comm, Bool.and_comm (errS true f == 0)]
theorem covers_match {f g s : ByteArray} (a : coversB f g = true) (b : matchB g s = true) : matchB f s = true := by
  unfold coversB at a
  unfold matchB at b ⊢
  simp only [Bool.and_eq_true] at a b
  rw [a.1.1, b.1.2, coverL_trans _ _ _ a.2 b.2]; rfl
theorem covers_overlap {f g : ByteArray} (a : coversB f g = true) : overlapB f g = true := by
  unfold coversB at a
  unfold overlapB
  simp only [Bool.and_eq_true] at a
  rw [a.1.1, a.1.2, coverL_meetL _ _ a.2]; rfl
theorem covers_trans {f g h : ByteArray} (a : coversB f g = true) (b : coversB g h = true) : coversB f h = true := by
  unfold coversB at a b ⊢
  simp only [Bool.and_eq_true] at a b
  rw [a.1.1, b.1.2, coverL_trans _ _ _ a.2 b.2]; rfl
theorem covers_meet {f g h : ByteArray} (a : coversB f g = true) (b : overlapB g h = true) : overlapB f h = true := by
  unfold coversB at a
  unfold overlapB at b ⊢
  simp only [Bool.and_eq_true] at a b
  rw [a.1.1, b.1.2, meetL_cover _ _ _ a.2 b.2]; rfl
theorem covers_both {f g : ByteArray} (a : coversB f g = true) (b : coversB g f = true) : (f.toList == g.toList) = true := by
  unfold coversB at a b
  simp only [Bool.and_eq_true] at a b
  have h1 : errS true f = 0 := by simpa using a.1.1
  have h2 : errS true g = 0 := by simpa using a.1.2
  rw [toks_inj (coverL_antisymm _ _ (filter_last h1) (filter_last h2) a.2 b.2)]
  simp
theorem takes_cover2 : ∀ (f s : List ByteArray), (∀ t ∈ s, gtB t = false) → takesL f s = coverL f s
  | [], _, _ => rfl
  | _ :: _, [], _ => rfl
  | f :: fs, s :: ss, h => by
    rw [takesL, coverL, takes_cover2 fs ss (fun t ht => h t (by simp [ht])), h s (by simp)]
    simp
theorem takes_match {f s : ByteArray} (hf : errS true f = 0) (hs : errS false s = 0) : takesL (Pl.toks f) (Pl.toks s) = matchB f s := by
  rw [takes_cover2 _ _ (fun t ht => (subject_signs hs t ht).1)]
  unfold matchB
  rw [hf, hs]
  simp
end Go.Proofs.YtohjipnkoiifhagGreatDoor

namespace Go.Proofs.YtohjipnkoiifhagGreatDoor
open Go.RowKit

set_option maxRecDepth 100000 in
set_option maxHeartbeats 1000000 in
theorem cover_any (bf bg : Nat) (f g : List ByteArray) (w : World) (hf : Row w bf 0 f) (hg : Row w bg 0 g) (nf : f.length ≤ 8) :
    Calls Tryz.prog 108 #[.slice (some ⟨bf, 0, none⟩) f.length f.length, .slice (some ⟨bg, 0, none⟩) g.length g.length] w fun e w' => e = .returned (.bool (coverL f g)) ∧ ∃ n, w' = w.drewN n := by
  have Hf := hide hf
  have Hg := hide hg
  clear hf hg
  go_enter Tryz.func108, Tryz.ntmps108
  go_wp2
  go_loopw [11] (fun i wr => ∃ k : Nat, k ≤ f.length ∧ k ≤ g.length ∧ i = .int .i64 k ∧ Hid (coverL f g = coverL (f.drop k) (g.drop k)) ∧ ∃ n, wr = w.drewN n) (fun i _ => f.length - (intOf i).toNat)
  case atStart => exact ⟨0, Nat.zero_le _, Nat.zero_le _, rfl, hide rfl, 0, rfl⟩
  case round =>
    obtain ⟨k, hk, hk2, rfl, hq, n, rfl⟩ := hrel
    by_cases hlt : k < f.length ∧ k < g.length
    · obtain ⟨h1, h2⟩ := hlt
      have hc1 : w.cell? ⟨bf, k, none⟩ = some (.string (tk f k)) := by have := unhide Hf k h1; rwa [Nat.zero_add] at this
      have hc2 : w.cell? ⟨bg, k, none⟩ = some (.string (tk g k)) := by have := unhide Hg k h2; rwa [Nat.zero_add] at this
      have hmin : (k : Int) < min (f.length : Int) (g.length : Int) := by omega
      cases ha : ((tk f k).toList == [62])
      · cases hb : ((tk g k).toList == [62])
        · cases hc : ((tk f k).toList == [42])
          · cases hd : ((tk f k).toList == (tk g k).toList)
            · have R := hide (cov_of (unhide hq) h1 h2 ha hb hc hd)
              go_wp2
              go_quiet (fail)
              go_wp2
              go_ret
              exact ⟨ret_is (unhide R), _, World.drewN_drewN _ _ _⟩
            · have R := hide (cov_of (unhide hq) h1 h2 ha hb hc hd)
              go_wp2
              go_quiet (fail)
              go_wp2
              exact ⟨⟨k + 1, by omega, by omega, by go_num, hide (unhide R), _, rfl⟩, by simp [intOf]; omega⟩
          · have R := hide (cov_of (unhide hq) h1 h2 ha hb hc rfl)
            go_wp2
            go_quiet (fail)
            go_wp2
            exact ⟨⟨k + 1, by omega, by omega, by go_num, hide (unhide R), _, rfl⟩, by simp [intOf]; omega⟩
        · have R := hide (cov_of (unhide hq) h1 h2 ha hb rfl rfl)
          go_wp2
          go_ret
          exact ⟨ret_is (unhide R), _, rfl⟩
      · have R := hide (cov_of (unhide hq) h1 h2 ha rfl rfl rfl)
        go_wp2
        go_ret
        exact ⟨ret_is (unhide R), _, rfl⟩
    · have hmin : ¬ (k : Int) < min (f.length : Int) (g.length : Int) := by omega
      have R := hide ((unhide hq).trans (cover_end hk hk2 (by omega)))
      go_wp2
      go_ret
      refine ⟨ret_bool ?_, _, rfl⟩
      rw [unhide R]
      simp
      omega
set_option maxHeartbeats 400000 in
theorem match_any (f s : ByteArray) (w : World) (hf : f.size ≤ 140737488355328) (hs : s.size ≤ 140737488355328) :
    Calls Tryz.prog 73 #[.string f, .string s] w fun e w' => e = .returned (.tuple #[.bool (matchB f s), .int .i64 (pairErr (errS true f) (errS false s))]) ∧ Below w.heap.size w w' := by
  cases he : ((errS true f) == 0)
  · have R : matchB f s = false := by unfold matchB; rw [he]; rfl
    have R2 : pairErr (errS true f) (errS false s) = errS true f := if_neg (by simpa using he)
    have HR := hide R
    have HR2 := hide R2
    clear R R2
    go_enter Tryz.func73, Tryz.ntmps73
    go_wp2_with (go_at_call 72; refine (filter_any f _ hf).mono ?_; rintro e w1 ⟨rfl, hb⟩)
    go_ret2
    exact ⟨ret_two (unhide HR) (unhide HR2), hb⟩
  · have e0 : errS true f = 0 := by simpa using he
    have R2 : pairErr (errS true f) (errS false s) = errS false s := if_pos e0
    have HR2 := hide R2
    have n1 := few e0
    have E0 := hide e0
    clear R2 e0
    cases hc : ((errS false s) == 0)
    · have R : matchB f s = false := by unfold matchB; rw [hc, Bool.and_false]; rfl
      have HR := hide R
      clear R
      go_enter Tryz.func73, Tryz.ntmps73
      go_wp2_with fail
      refine (filter_any f _ hf).mono ?_
      rintro e w1 ⟨rfl, hb⟩
      go_wp2_with fail
      refine (subject_any s _ hs).mono ?_
      rintro e w2 ⟨rfl, hb2⟩
      go_wp2
      go_ret2
      exact ⟨ret_two (unhide HR) (unhide HR2), hb.trans (hb2.mono hb.size)⟩
    · have R : matchB f s = coverL (Pl.toks f) (Pl.toks s) := by unfold matchB; rw [he, hc]; rfl
      have HR := hide R
      have e1 : errS false s = 0 := by simpa using hc
      have n2 := few e1
      have E1 := hide e1
      clear R e1
      go_enter Tryz.func73, Tryz.ntmps73
      go_wp2_with fail
      refine (filter_any f _ hf).mono ?_
      rintro e w1 ⟨rfl, hb⟩
      go_wp2_with fail
      refine (subject_any s _ hs).mono ?_
      rintro e w2 ⟨rfl, hb2⟩
      go_wp2_with fail
      refine (tokens_any f _ hf n1).mono ?_
      rintro e w3 ⟨bf, rfl, h1, h2, hb3, hr3⟩
      go_wp2_with fail
      refine (tokens_any s _ hs n2).mono ?_
      rintro e w4 ⟨bs, rfl, h5, h6, hb4, hr4⟩
      go_wp2_with fail
      refine (cover_any bf bs _ _ _ (hr3.below hb4 h2) hr4 n1).mono ?_
      rintro e w5 ⟨rfl, n, rfl⟩
      go_wp2
      go_ret2
      have h12 := hb.trans (hb2.mono hb.size)
      have h13 := h12.trans (hb3.mono h12.size)
      have h14 := h13.trans (hb4.mono h13.size)
      exact ⟨ret_two (unhide HR) (by rw [unhide HR2, unhide E1]), below_drewN h14 n⟩
/-- the same contracts, with the answers known -/
theorem filter_at {f : ByteArray} {x : Int} (h : errS true f = x) (w : World) (hf : f.size ≤ 140737488355328) :
    Calls Tryz.prog 72 #[.string f] w fun e w' => e = .returned (.int .i64 x) ∧ Below w.heap.size w w' := by
  subst h; exact filter_any f w hf
theorem subject_at {f : ByteArray} {x : Int} (h : errS false f = x) (w : World) (hf : f.size ≤ 140737488355328) :
    Calls Tryz.prog 63 #[.string f] w fun e w' => e = .returned (.int .i64 x) ∧ Below w.heap.size w w' := by
  subst h; exact subject_any f w hf
theorem match_at {f s : ByteArray} {a : Bool} {x : Int} (h1 : matchB f s = a) (h2 : pairErr (errS true f) (errS false s) = x) (hf : f.size ≤ 140737488355328) (hs : s.size ≤ 140737488355328) (w : World) :
    Calls Tryz.prog 73 #[.string f, .string s] w fun e w' => e = .returned (.tuple #[.bool a, .int .i64 x]) ∧ Below w.heap.size w w' := by
  subst h1 h2; exact match_any f s w hf hs
end Go.Proofs.YtohjipnkoiifhagGreatDoor

namespace Go.Proofs.YtohjipnkoiifhagGreatDoor
open Go.RowKit

set_option maxRecDepth 100000 in
set_option maxHeartbeats 1000000 in
theorem meet_any (bf bg : Nat) (f g : List ByteArray) (w : World) (hf : Row w bf 0 f) (hg : Row w bg 0 g) (nf : f.length ≤ 8) :
    Calls Tryz.prog 151 #[.slice (some ⟨bf, 0, none⟩) f.length f.length, .slice (some ⟨bg, 0, none⟩) g.length g.length] w fun e w' => e = .returned (.bool (meetL f g)) ∧ ∃ n, w' = w.drewN n := by
  have Hf := hide hf
  have Hg := hide hg
  clear hf hg
  go_enter Tryz.func151, Tryz.ntmps151
  go_wp2
  go_loopw [11] (fun i wr => ∃ k : Nat, k ≤ f.length ∧ k ≤ g.length ∧ i = .int .i64 k ∧ Hid (meetL f g = meetL (f.drop k) (g.drop k)) ∧ ∃ n, wr = w.drewN n) (fun i _ => f.length - (intOf i).toNat)
  case atStart => exact ⟨0, Nat.zero_le _, Nat.zero_le _, rfl, hide rfl, 0, rfl⟩
  case round =>
    obtain ⟨k, hk, hk2, rfl, hq, n, rfl⟩ := hrel
    by_cases hlt : k < f.length ∧ k < g.length
    · obtain ⟨h1, h2⟩ := hlt
      have hc1 : w.cell? ⟨bf, k, none⟩ = some (.string (tk f k)) := by have := unhide Hf k h1; rwa [Nat.zero_add] at this
      have hc2 : w.cell? ⟨bg, k, none⟩ = some (.string (tk g k)) := by have := unhide Hg k h2; rwa [Nat.zero_add] at this
      have hmin : (k : Int) < min (f.length : Int) (g.length : Int) := by omega
      cases ha : ((tk f k).toList == [62])
      · cases hb : ((tk g k).toList == [62])
        · cases hc : ((tk f k).toList == (tk g k).toList)
          · cases hd : ((tk f k).toList == [42])
            · cases he : ((tk g k).toList == [42])
              · have R := hide (meet_of (unhide hq) h1 h2 ha hb hc hd he)
                go_wp2
                go_quiet (fail)
                go_wp2
                go_ret
                exact ⟨ret_is (unhide R), _, World.drewN_drewN _ _ _⟩
              · have R := hide (meet_of (unhide hq) h1 h2 ha hb hc hd he)
                go_wp2
                go_quiet (fail)
                go_wp2
                exact ⟨⟨k + 1, by omega, by omega, by go_num, hide (unhide R), _, rfl⟩, by simp [intOf]; omega⟩
            · have R := hide (meet_of (unhide hq) h1 h2 ha hb hc hd rfl)
              go_wp2
              go_quiet (fail)
              go_wp2
              exact ⟨⟨k + 1, by omega, by omega, by go_num, hide (unhide R), _, rfl⟩, by simp [intOf]; omega⟩
          · have R := hide (meet_of (unhide hq) h1 h2 ha hb hc rfl rfl)
            go_wp2
            go_quiet (fail)
            go_wp2
            exact ⟨⟨k + 1, by omega, by omega, by go_num, hide (unhide R), _, rfl⟩, by simp [intOf]; omega⟩
        · have R := hide (meet_of (unhide hq) h1 h2 ha hb rfl rfl rfl)
          go_wp2
          go_ret
          exact ⟨ret_is (unhide R), _, rfl⟩
      · have R := hide (meet_of (unhide hq) h1 h2 ha rfl rfl rfl rfl)
        go_wp2
        go_ret
        exact ⟨ret_is (unhide R), _, rfl⟩
    · have hmin : ¬ (k : Int) < min (f.length : Int) (g.length : Int) := by omega
      have R := hide ((unhide hq).trans (meet_end hk hk2 (by omega)))
      go_wp2
      go_ret
      refine ⟨ret_bool ?_, _, rfl⟩
      rw [unhide R]
      simp
      omega
set_option maxHeartbeats 400000 in
theorem both_any (f g : ByteArray) (w : World) (hf : f.size ≤ 140737488355328) (hg : g.size ≤ 140737488355328) :
    Calls Tryz.prog 150 #[.string f, .string g] w fun e w' => e = .returned (.int .i64 (pairErr (errS true f) (errS true g))) ∧ Below w.heap.size w w' := by
  cases he : ((errS true f) == 0)
  · go_enter Tryz.func150, Tryz.ntmps150
    go_wp2_with (go_at_call 72; refine (filter_any f _ hf).mono ?_; rintro e w1 ⟨rfl, hb⟩)
    go_ret
    exact ⟨ret_eq (if_neg (by simpa using he)), hb⟩
  · have e0 : errS true f = 0 := by simpa using he
    have E0 := hide e0
    go_enter Tryz.func150, Tryz.ntmps150
    clear e0
    go_wp2_with fail
    refine (filter_any f _ hf).mono ?_
    rintro e w1 ⟨rfl, hb⟩
    go_wp2_with fail
    refine (filter_any g _ hg).mono ?_
    rintro e w2 ⟨rfl, hb2⟩
    go_wp2
    go_ret
    exact ⟨ret_eq (if_pos (unhide E0)), hb.trans (hb2.mono hb.size)⟩
set_option maxHeartbeats 400000 in
theorem overlap_any (f g : ByteArray) (w : World) (hf : f.size ≤ 140737488355328) (hg : g.size ≤ 140737488355328) :
    Calls Tryz.prog 129 #[.string f, .string g] w fun e w' => e = .returned (.tuple #[.bool (overlapB f g), .int .i64 (pairErr (errS true f) (errS true g))]) ∧ Below w.heap.size w w' := by
  cases he : (pairErr (errS true f) (errS true g) == 0)
  · have R : overlapB f g = false := by
      unfold overlapB
      cases h1 : (errS true f == 0)
      · rfl
      · cases h2 : (errS true g == 0)
        · rfl
        · exfalso
          unfold pairErr at he
          rw [if_pos (by simpa using h1), h2] at he
          cases he
    have HR := hide R
    clear R
    go_enter Tryz.func129, Tryz.ntmps129
    go_wp2_with fail
    refine (both_any f g _ hf hg).mono ?_
    rintro e w1 ⟨rfl, hb⟩
    go_wp2
    go_ret2
    exact ⟨ret_two (unhide HR) rfl, hb⟩
  · have h1 : (errS true f == 0) = true := by
      cases h1 : (errS true f == 0)
      · unfold pairErr at he
        rw [if_neg (by simpa using h1), h1] at he
        cases he
      · rfl
    have h2 : (errS true g == 0) = true := by
      unfold pairErr at he
      rwa [if_pos (by simpa using h1)] at he
    have R : overlapB f g = meetL (Pl.toks f) (Pl.toks g) := by unfold overlapB; rw [h1, h2]; rfl
    have HR := hide R
    have n1 : (Pl.toks f).length ≤ 8 := few (wild := true) (by simpa using h1)
    have n2 : (Pl.toks g).length ≤ 8 := few (wild := true) (by simpa using h2)
    have E := hide (show pairErr (errS true f) (errS true g) = 0 by simpa using he)
    clear R h1 h2
    go_enter Tryz.func129, Tryz.ntmps129
    go_wp2_with fail
    refine (both_any f g _ hf hg).mono ?_
    rintro e w1 ⟨rfl, hb⟩
    go_wp2_with fail
    refine (tokens_any f _ hf n1).mono ?_
    rintro e w3 ⟨bf, rfl, h1, h2, hb3, hr3⟩
    go_wp2_with fail
    refine (tokens_any g _ hg n2).mono ?_
    rintro e w4 ⟨bs, rfl, h5, h6, hb4, hr4⟩
    go_wp2_with fail
    refine (meet_any bf bs _ _ _ (hr3.below hb4 h2) hr4 n1).mono ?_
    rintro e w5 ⟨rfl, n, rfl⟩
    go_wp2
    go_ret2
    have h13 := hb.trans (hb3.mono hb.size)
    have h14 := h13.trans (hb4.mono h13.size)
    exact ⟨ret_two (unhide HR) (unhide E), below_drewN h14 n⟩
theorem overlap_at {f s : ByteArray} {a : Bool} {x : Int} (h1 : overlapB f s = a) (h2 : pairErr (errS true f) (errS true s) = x) (hf : f.size ≤ 140737488355328) (hs : s.size ≤ 140737488355328) (w : World) :
    Calls Tryz.prog 129 #[.string f, .string s] w fun e w' => e = .returned (.tuple #[.bool a, .int .i64 x]) ∧ Below w.heap.size w w' := by
  subst h1 h2; exact overlap_any f s w hf hs
end Go.Proofs.YtohjipnkoiifhagGreatDoor

namespace Go.Proofs.YtohjipnkoiifhagGreatDoor
open Go.RowKit

/-- the order of texts -/
def ltS (a b : ByteArray) : Bool := Op.bytesLess a.toList b.toList
theorem bl_irrefl : ∀ x : List UInt8, Op.bytesLess x x = false
  | [] => rfl
  | a :: x => by simp [Op.bytesLess, bl_irrefl x]
theorem bl_trans : ∀ x y z : List UInt8, Op.bytesLess x y = true → Op.bytesLess y z = true → Op.bytesLess x z = true
  | _, [], _, h, _ => by simp [Op.bytesLess] at h
  | _, _ :: _, [], _, h => by simp [Op.bytesLess] at h
  | [], _ :: _, _ :: _, _, _ => by simp [Op.bytesLess]
  | a :: x, b :: y, c :: z, h, g => by
    simp only [Op.bytesLess, Bool.or_eq_true, Bool.and_eq_true, decide_eq_true_eq, beq_iff_eq] at h g ⊢
    rcases h with h | ⟨rfl, h⟩
    · rcases g with g | ⟨rfl, g⟩
      · exact .inl (UInt8.lt_trans h g)
      · exact .inl h
    · rcases g with g | ⟨rfl, g⟩
      · exact .inl g
      · exact .inr ⟨rfl, bl_trans x y z h g⟩
theorem bl_total : ∀ x y : List UInt8, Op.bytesLess x y = true ∨ x = y ∨ Op.bytesLess y x = true
  | [], [] => .inr (.inl rfl)
  | [], _ :: _ => .inl (by simp [Op.bytesLess])
  | _ :: _, [] => .inr (.inr (by simp [Op.bytesLess]))
  | a :: x, b :: y => by
    simp only [Op.bytesLess, Bool.or_eq_true, Bool.and_eq_true, decide_eq_true_eq, beq_iff_eq, List.cons.injEq]
    by_cases e : a = b
    · subst e
      rcases bl_total x y with h | h | h
      · exact .inl (.inr ⟨rfl, h⟩)
      · exact .inr (.inl ⟨rfl, h⟩)
      · exact .inr (.inr (.inr ⟨rfl, h⟩))
    · have : a < b ∨ b < a := by
        simp only [UInt8.lt_iff_toNat_lt]
        have : a.toNat ≠ b.toNat := fun h => e (UInt8.toNat_inj.1 h)
        omega
      rcases this with h | h
      · exact .inl (.inl h)
      · exact .inr (.inr (.inl h))
theorem ltS_irrefl (a : ByteArray) : ltS a a = false := bl_irrefl _
theorem ltS_trans {a b c : ByteArray} (h : ltS a b = true) (g : ltS b c = true) : ltS a c = true := bl_trans _ _ _ h g
theorem ltS_total {a b : ByteArray} (h : eqB a b = false) : ltS a b = true ∨ ltS b a = true := by
  rcases bl_total a.toList b.toList with h1 | h1 | h1
  · exact .inl h1
  · unfold eqB at h; rw [h1] at h; simp at h
  · exact .inr h1

/-- the order of rows of tokens: the shorter row first, if it is the beginning of the other one -/
def bef : List ByteArray → List ByteArray → Bool
  | _, [] => false
  | [], _ :: _ => true
  | a :: f, b :: g => if eqB a b then bef f g else ltS a b
def cmpS (a b : ByteArray) : Int := if ltS a b then -1 else if eqB a b then 0 else 1
def cmpL : List ByteArray → List ByteArray → Int
  | [], [] => 0
  | [], _ :: _ => -1
  | _ :: _, [] => 1
  | a :: f, b :: g => if eqB a b then cmpL f g else if ltS a b then -1 else 1
theorem cmpS_eq {a b : ByteArray} (h : eqB a b = true) : cmpS a b = 0 := by
  have := eqB_iff.1 h; subst this
  simp [cmpS, ltS_irrefl, eqB_self]
theorem cmpL_bef : ∀ f g : List ByteArray, decide (cmpL f g < 0) = bef f g
  | [], [] => rfl
  | [], _ :: _ => rfl
  | _ :: _, [] => rfl
  | a :: f, b :: g => by
    unfold cmpL bef
    split
    · exact cmpL_bef f g
    · cases ltS a b <;> rfl
theorem cmpL_zero : ∀ f g : List ByteArray, cmpL f g = 0 ↔ f = g
  | [], [] => by simp [cmpL]
  | [], _ :: _ => by simp [cmpL]
  | _ :: _, [] => by simp [cmpL]
  | a :: f, b :: g => by
    unfold cmpL
    split
    · rename_i h
      rw [cmpL_zero f g, eqB_iff.1 h]
      simp
    · rename_i h
      have hn : ¬ (a :: f = b :: g) := fun e => h (by rw [(List.cons.inj e).1]; exact eqB_self b)
      refine ⟨fun e => ?_, fun e => absurd e hn⟩
      split at e <;> omega
theorem cmpL_range : ∀ f g : List ByteArray, -1 ≤ cmpL f g ∧ cmpL f g ≤ 1
  | [], [] => by simp [cmpL]
  | [], _ :: _ => by simp [cmpL]
  | _ :: _, [] => by simp [cmpL]
  | a :: f, b :: g => by
    unfold cmpL
    split
    · exact cmpL_range f g
    · split <;> omega
theorem bef_irrefl : ∀ f : List ByteArray, bef f f = false
  | [] => rfl
  | a :: f => by rw [bef, if_pos (eqB_self a)]; exact bef_irrefl f
theorem bef_trans : ∀ f g h : List ByteArray, bef f g = true → bef g h = true → bef f h = true
  | _, [], _, h, _ => by simp [bef] at h
  | _, _ :: _, [], _, h => by simp [bef] at h
  | [], _ :: _, _ :: _, _, _ => rfl
  | a :: f, b :: g, c :: h, h1, h2 => by
    unfold bef at h1 h2 ⊢
    cases e1 : eqB a b
    · rw [if_neg (by rw [e1]; simp)] at h1
      cases e2 : eqB b c
      · rw [if_neg (by rw [e2]; simp)] at h2
        have h3 := ltS_trans h1 h2
        have : eqB a c = false := by
          cases e : eqB a c
          · rfl
          · rw [eqB_iff.1 e, ltS_irrefl] at h3; cases h3
        rw [if_neg (by rw [this]; simp)]
        exact h3
      · have := eqB_iff.1 e2; subst this
        rw [if_neg (by rw [e1]; simp)]
        exact h1
    · have := eqB_iff.1 e1; subst this
      rw [if_pos e1] at h1
      cases e2 : eqB a c
      · rw [if_neg (by rw [e2]; simp)] at h2
        rw [if_neg (by simp)]
        exact h2
      · rw [if_pos e2] at h2
        rw [if_pos rfl]
        exact bef_trans f g h h1 h2
theorem bef_total : ∀ f g : List ByteArray, bef f g = true ∨ f = g ∨ bef g f = true
  | [], [] => .inr (.inl rfl)
  | [], _ :: _ => .inl rfl
  | _ :: _, [] => .inr (.inr rfl)
  | a :: f, b :: g => by
    unfold bef
    cases e : eqB a b
    · have e' : eqB b a = false := by
        cases e2 : eqB b a
        · rfl
        · rw [eqB_iff.1 e2, eqB_self] at e; cases e
      rw [if_neg (by simp), e', if_neg (by simp)]
      rcases ltS_total e with h | h
      · exact .inl h
      · exact .inr (.inr h)
    · have := eqB_iff.1 e; subst this
      rw [if_pos rfl, if_pos e]
      rcases bef_total f g with h | h | h
      · exact .inl h
      · exact .inr (.inl (by rw [h]))
      · exact .inr (.inr h)

abbrev Ent := ByteArray × Int
/-- the k-th entry -/
def en (l : List Ent) (k : Nat) : Ent := l[k]?.getD (ByteArray.empty, 0)
def el (e s : ByteArray) : Bool := bef (Pl.toks e) (Pl.toks s)
def Ord (es : List Ent) : Prop := es.Pairwise fun a b => el a.1 b.1 = true
def Good (es : List Ent) : Prop := Ord es ∧ es.length ≤ 100 ∧ ∀ e ∈ es, errS false e.1 = 0 ∧ e.1.size ≤ 140737488355328
/-- where a subject is, or belongs -/
def place : List Ent → ByteArray → Nat
  | [], _ => 0
  | e :: es, s => if el e.1 s then place es s + 1 else 0
def hasAt (es : List Ent) (s : ByteArray) : Bool := decide (place es s < es.length) && eqB (en es (place es s)).1 s

theorem en_mem {es : List Ent} {k : Nat} (h : k < es.length) : en es k ∈ es := by
  unfold en; rw [List.getElem?_eq_getElem h]; exact List.getElem_mem h
theorem en_get {es : List Ent} {k : Nat} (h : k < es.length) : en es k = es[k] := by
  unfold en; rw [List.getElem?_eq_getElem h]; rfl
theorem el_irrefl (s : ByteArray) : el s s = false := bef_irrefl _
theorem el_trans {a b c : ByteArray} (h : el a b = true) (g : el b c = true) : el a c = true := bef_trans _ _ _ h g
theorem el_eq {a b : ByteArray} (h : el a b = false) (g : el b a = false) : a = b := by
  rcases bef_total (Pl.toks a) (Pl.toks b) with x | x | x
  · unfold el at h; rw [x] at h; cases h
  · exact toks_inj x
  · unfold el at g; rw [x] at g; cases g
theorem place_le : ∀ (es : List Ent) (s : ByteArray), place es s ≤ es.length
  | [], _ => Nat.le_refl _
  | e :: es, s => by
    unfold place
    have := place_le es s
    split <;> simp <;> omega
theorem place_lt : ∀ (es : List Ent) (s : ByteArray) (j : Nat), j < place es s → el (en es j).1 s = true
  | [], _, j, h => absurd h (Nat.not_lt_zero j)
  | e :: es, s, j, h => by
    unfold place at h
    split at h
    · rename_i he
      cases j with
      | zero => exact he
      | succ j => exact place_lt es s j (by omega)
    · omega
theorem place_at : ∀ (es : List Ent) (s : ByteArray), place es s < es.length → el (en es (place es s)).1 s = false
  | [], _, h => absurd h (Nat.not_lt_zero _)
  | e :: es, s, h => by
    unfold place at h ⊢
    split at h
    · rename_i he
      rw [if_pos he]
      exact place_at es s (by simpa using h)
    · rename_i he
      rw [if_neg he]
      exact Bool.eq_false_iff.2 he
theorem ord_lt {es : List Ent} (h : Ord es) {i j : Nat} (hij : i < j) (hj : j < es.length) : el (en es i).1 (en es j).1 = true := by
  rw [en_get (by omega), en_get hj]
  exact List.pairwise_iff_getElem.1 h i j (by omega) hj hij
theorem place_ge {es : List Ent} (h : Ord es) (s : ByteArray) (j : Nat) (h1 : place es s ≤ j) (h2 : j < es.length) : el (en es j).1 s = false := by
  have ha := place_at es s (by omega)
  rcases Nat.eq_or_lt_of_le h1 with e | hlt
  · rw [← e]; exact ha
  · cases e : el (en es j).1 s
    · rfl
    · rw [el_trans (ord_lt h hlt h2) e] at ha; cases ha
theorem place_is {es : List Ent} {s : ByteArray} {i : Nat} (hi : i ≤ es.length) (h1 : ∀ j, j < i → el (en es j).1 s = true) (h2 : ∀ j, i ≤ j → j < es.length → el (en es j).1 s = false) : i = place es s := by
  rcases Nat.lt_trichotomy i (place es s) with h | h | h
  · have a := place_lt es s i h
    have := place_le es s
    rw [h2 i (Nat.le_refl _) (by omega)] at a; cases a
  · exact h
  · have a := place_at es s (by omega)
    rw [h1 _ h] at a; cases a
theorem place_hit {es : List Ent} (h : Ord es) {s : ByteArray} {j : Nat} (hj : j < es.length) (e : (en es j).1 = s) : j = place es s := by
  refine place_is (by omega) (fun i hi => ?_) (fun i hi hl => ?_)
  · rw [← e]; exact ord_lt h hi hj
  · rcases Nat.eq_or_lt_of_le hi with q | q
    · rw [← q, e]; exact el_irrefl s
    · cases x : el (en es i).1 s
      · rfl
      · have := el_trans (ord_lt h q hl) x
        rw [e, el_irrefl] at this; cases this
theorem has_hit {es : List Ent} (h : Ord es) {s : ByteArray} {j : Nat} (hj : j < es.length) (e : (en es j).1 = s) : hasAt es s = true ∧ place es s = j := by
  have p := place_hit h hj e
  refine ⟨?_, p.symm⟩
  unfold hasAt
  rw [← p, e, eqB_self]
  simp [hj]
theorem has_none {es : List Ent} {s : ByteArray} (h : ∀ j, j < es.length → eqB (en es j).1 s = false) : hasAt es s = false := by
  unfold hasAt
  by_cases hp : place es s < es.length
  · rw [h _ hp]; simp
  · simp [hp]
theorem has_at {es : List Ent} {s : ByteArray} (h : hasAt es s = true) : place es s < es.length ∧ (en es (place es s)).1 = s := by
  unfold hasAt at h
  simp only [Bool.and_eq_true, decide_eq_true_eq] at h
  exact ⟨h.1, eqB_iff.1 h.2⟩
theorem has_cmp {es : List Ent} (s : ByteArray) (h : place es s < es.length) : hasAt es s = decide (cmpL (Pl.toks (en es (place es s)).1) (Pl.toks s) = 0) := by
  unfold hasAt
  rw [Bool.eq_iff_iff]
  simp only [Bool.and_eq_true, decide_eq_true_eq, cmpL_zero]
  exact ⟨fun x => by rw [eqB_iff.1 x.2], fun x => ⟨h, eqB_iff.2 (toks_inj x)⟩⟩

/-- what Put makes of the list, where there is room or the subject is there -/
def insL (es : List Ent) (p : Nat) (e : Ent) : List Ent := es.take p ++ e :: es.drop p
def delL (es : List Ent) (p : Nat) : List Ent := es.take p ++ es.drop (p + 1)
def putE (es : List Ent) (s : ByteArray) : Int := if errS false s = 0 then (if hasAt es s then 0 else if 100 ≤ es.length then 8 else 0) else errS false s
def putL (es : List Ent) (s : ByteArray) (n : Int) : List Ent := if errS false s = 0 then (if hasAt es s then es.set (place es s) (s, n) else if 100 ≤ es.length then es else insL es (place es s) (s, n)) else es
def seeE (es : List Ent) (s : ByteArray) : Int := if errS false s = 0 then (if hasAt es s then 0 else 4) else errS false s
def dropL (es : List Ent) (s : ByteArray) : List Ent := if errS false s = 0 then (if hasAt es s then delL es (place es s) else es) else es
def getN (es : List Ent) (s : ByteArray) : Int := if errS false s = 0 then (if hasAt es s then (en es (place es s)).2 else 0) else 0
def findL (es : List Ent) (f : ByteArray) : List Ent := es.filter fun e => matchB f e.1

theorem insL_length {es : List Ent} {p : Nat} {e : Ent} (h : p ≤ es.length) : (insL es p e).length = es.length + 1 := by
  simp [insL]; omega
theorem delL_length {es : List Ent} {p : Nat} (h : p < es.length) : (delL es p).length = es.length - 1 := by
  simp [delL]; omega
theorem ord_ins {es : List Ent} (h : Ord es) {s : ByteArray} (n : Int) (hn : hasAt es s = false) : Ord (insL es (place es s) (s, n)) := by
  have hb : ∀ j, place es s ≤ j → j < es.length → el s (en es j).1 = true := by
    intro j h1 h2
    have a := place_ge h s j h1 h2
    rcases bef_total (Pl.toks s) (Pl.toks (en es j).1) with x | x | x
    · exact x
    · rw [(has_hit h h2 (toks_inj x).symm).1] at hn; cases hn
    · unfold el at a; rw [x] at a; cases a
  unfold Ord insL
  rw [List.pairwise_append]
  refine ⟨h.sublist (List.take_sublist _ _), ?_, ?_⟩
  · rw [List.pairwise_cons]
    refine ⟨fun a ha => ?_, h.sublist (List.drop_sublist _ _)⟩
    obtain ⟨j, hj, e⟩ := List.mem_iff_getElem.1 ha
    rw [List.getElem_drop] at e
    have hl : place es s + j < es.length := by simpa using (by simp at hj; omega : place es s + j < es.length)
    have := hb (place es s + j) (by omega) hl
    rw [en_get hl, e] at this
    exact this
  · intro a ha b hb'
    obtain ⟨i, hi, e⟩ := List.mem_iff_getElem.1 ha
    rw [List.getElem_take] at e
    have hi2 : i < place es s ∧ i < es.length := by simp at hi; omega
    have h1 := place_lt es s i hi2.1
    rw [en_get hi2.2, e] at h1
    rcases List.mem_cons.1 hb' with q | q
    · rw [q]; exact h1
    · obtain ⟨j, hj, e2⟩ := List.mem_iff_getElem.1 q
      rw [List.getElem_drop] at e2
      have hl : place es s + j < es.length := by simp at hj; omega
      have := hb (place es s + j) (by omega) hl
      rw [en_get hl, e2] at this
      exact el_trans h1 this
theorem ord_set {es : List Ent} (h : Ord es) {s : ByteArray} (n : Int) (hs : hasAt es s = true) : Ord (es.set (place es s) (s, n)) := by
  obtain ⟨h1, h2⟩ := has_at hs
  unfold Ord
  rw [List.pairwise_iff_getElem]
  intro i j hi hj hij
  rw [List.length_set] at hi hj
  have hk := ord_lt h hij hj
  rw [en_get hi, en_get hj] at hk
  rw [en_get h1] at h2
  rw [List.getElem_set, List.getElem_set]
  split
  · rename_i q
    subst q
    rw [if_neg (by omega)]
    rw [h2] at hk
    exact hk
  · split
    · rename_i q
      subst q
      rw [h2] at hk
      exact hk
    · exact hk
theorem ord_del {es : List Ent} (h : Ord es) (p : Nat) : Ord (delL es p) := by
  have e : delL es p = es.eraseIdx p := by
    unfold delL; rw [List.eraseIdx_eq_take_drop_succ]
  rw [e]
  exact List.Pairwise.sublist (List.eraseIdx_sublist _ _) h
theorem mem_ins {es : List Ent} {p : Nat} {e x : Ent} (h : x ∈ insL es p e) : x = e ∨ x ∈ es := by
  unfold insL at h
  rcases List.mem_append.1 h with h | h
  · exact .inr (List.mem_of_mem_take h)
  · rcases List.mem_cons.1 h with h | h
    · exact .inl h
    · exact .inr (List.mem_of_mem_drop h)
theorem mem_del {es : List Ent} {p : Nat} {x : Ent} (h : x ∈ delL es p) : x ∈ es := by
  unfold delL at h
  rcases List.mem_append.1 h with h | h
  · exact List.mem_of_mem_take h
  · exact List.mem_of_mem_drop h
theorem good_put {es : List Ent} (h : Good es) {s : ByteArray} (n : Int) (hz : s.size ≤ 140737488355328) : Good (putL es s n) := by
  obtain ⟨h1, h2, h3⟩ := h
  unfold putL
  split
  · rename_i he
    split
    · rename_i hh
      refine ⟨ord_set h1 n hh, by rw [List.length_set]; exact h2, fun e hm => ?_⟩
      rcases List.mem_or_eq_of_mem_set hm with q | q
      · exact h3 e q
      · rw [q]; exact ⟨he, hz⟩
    · rename_i hh
      split
      · exact ⟨h1, h2, h3⟩
      · refine ⟨ord_ins h1 n (Bool.eq_false_iff.2 hh), by rw [insL_length (place_le _ _)]; omega, fun e hm => ?_⟩
        rcases mem_ins hm with q | q
        · rw [q]; exact ⟨he, hz⟩
        · exact h3 e q
  · exact ⟨h1, h2, h3⟩
theorem good_drop {es : List Ent} (h : Good es) (s : ByteArray) : Good (dropL es s) := by
  obtain ⟨h1, h2, h3⟩ := h
  unfold dropL
  split
  · split
    · rename_i hh
      have := (has_at hh).1
      exact ⟨ord_del h1 _, by rw [delL_length this]; omega, fun e hm => h3 e (mem_del hm)⟩
    · exact ⟨h1, h2, h3⟩
  · exact ⟨h1, h2, h3⟩
theorem good_nil : Good [] := ⟨List.Pairwise.nil, by simp, fun e h => by simp at h⟩
end Go.Proofs.YtohjipnkoiifhagGreatDoor
