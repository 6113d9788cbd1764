/-
  Contracts of subject.hasTooManyTokens, tokens, Subject and Filter: they answer the errors of the plain functions.
-/
import Derived.Test.YtcbfmjjodfnacaaDoorWalkSplit
namespace Go.Proofs.YtcbfmjjodfnacaaDoor
open Go.RowKit

def errS (wild : Bool) (s : ByteArray) : Int := Pl.errOf wild (Pl.pcs s.data.toList)
def manyB (s : ByteArray) : Bool := decide (8 < (Pl.toks s).length)

set_option maxHeartbeats 400000 in
theorem many_any (s : ByteArray) (w : World) (hs : s.size ≤ 140737488355328) :
    Calls Tryd.prog 40 #[.string s] w fun e w' => e = .returned (.bool (manyB s)) ∧ w' = w := by
  have hc : Lib.countByte s.data.toList 46 + 1 = (Pl.toks s).length := by rw [Pl.toks_length, Pl.pcs_length]; rfl
  have hl : Lib.countByte s.data.toList 46 ≤ 140737488355328 := by
    have : Lib.countByte s.data.toList 46 ≤ s.data.toList.length := List.count_le_length
    simp at this; omega
  have Hc := hide hc
  clear hc
  go_enter Tryd.func40, Tryd.ntmps40
  go_wp2_with (go_at_call 53; refine (Tryd.strings_Count_one s 46 _).mono ?_; rintro e w' ⟨rfl, rfl⟩)
  go_ret
  refine ⟨ret_bool ?_, rfl⟩
  have := unhide Hc
  simp [manyB]
  omega

set_option maxHeartbeats 400000 in
theorem tokens_any (s : ByteArray) (w : World) (hs : s.size ≤ 140737488355328) (h8 : (Pl.toks s).length ≤ 8) :
    Calls Tryd.prog 41 #[.string s] w fun e w' => ∃ b, e = .returned (.slice (some ⟨b, 0, none⟩) (Pl.toks s).length (Pl.toks s).length) ∧ w.heap.size ≤ b ∧ b < w'.heap.size ∧ Below w.heap.size w w' ∧ Row w' b 0 (Pl.toks s) := by
  go_enter Tryd.func41, Tryd.ntmps41
  go_wp2_with (go_at_call 45; refine (split_few s _ hs h8).mono ?_; rintro e w' ⟨b, rfl, h1, h2, h3, h4⟩)
  go_ret
  exact ⟨b, rfl, h1, h2, h3, h4⟩

theorem subj_bad {s : ByteArray} {k : Nat} (h : manyB s = false) (hk : k < (Pl.toks s).length) (g : isPlainB (tk (Pl.toks s) k) = false) : errS false s = 3 := by
  simp only [manyB, decide_eq_false_iff_not] at h
  refine Pl.errOf_bad (k := k) (by rwa [← Pl.toks_length]) (by rwa [← Pl.toks_length]) ?_
  rw [Pl.toks_at]
  simp only [Pl.tokOk, Bool.false_and, Bool.or_false]
  exact g
theorem subj_good {s : ByteArray} (h : manyB s = false) (g : ∀ k, k < (Pl.toks s).length → isPlainB (tk (Pl.toks s) k) = true) : errS false s = 0 := by
  simp only [manyB, decide_eq_false_iff_not] at h
  refine Pl.errOf_good (by rwa [← Pl.toks_length]) ?_
  simp only [Pl.goodTo, List.all_eq_true, List.mem_range]
  intro i hi
  rw [← Pl.toks_length] at hi
  rw [Pl.toks_at]
  simp only [Pl.tokOk, Bool.false_and, Bool.or_false]
  exact g i hi
theorem err_many {wild : Bool} {s : ByteArray} (h : manyB s = true) : errS wild s = 2 :=
  Pl.errOf_large (by rw [← Pl.toks_length]; simpa [manyB] using h)
theorem ret_eq {k : IntKind} {a b : Int} (h : b = a) : Ending.returned (.int k a) = .returned (.int k b) := by rw [h]

/-- each token is no longer than the text -/
theorem tok_size (s : ByteArray) (k : Nat) : (tk (Pl.toks s) k).size ≤ s.size := by
  unfold tk
  have h := Pl.toks_at s k
  have h2 : ((Pl.pcs s.data.toList)[k]?.getD []).length ≤ s.data.toList.length := by
    cases e : (Pl.pcs s.data.toList)[k]? with
    | none => simp
    | some p => exact Pl.pcs_short _ _ (List.mem_of_getElem? e)
  rw [h] at h2
  simpa using h2

def fOk (s : ByteArray) (k : Nat) : Bool := isPlainB (tk (Pl.toks s) k) || (((tk (Pl.toks s) k).toList == [42]) || (((tk (Pl.toks s) k).toList == [62]) && decide (k + 1 = (Pl.toks s).length)))
theorem byte_eq (t : ByteArray) (c : UInt8) : (t.data.toList == [c]) = (t.toList == [c]) := by
  rw [ByteArray.toList_eq]
theorem fOk_eq (s : ByteArray) (k : Nat) : Pl.tokOk true (decide (k + 1 = (Pl.pcs s.data.toList).length)) ((Pl.pcs s.data.toList)[k]?.getD []) = fOk s k := by
  rw [Pl.toks_at, ← Pl.toks_length]
  unfold Pl.tokOk fOk
  rw [byte_eq, byte_eq]
  simp only [isPlainB, tk, Bool.true_and]
theorem filt_bad {s : ByteArray} {k : Nat} (h : manyB s = false) (hk : k < (Pl.toks s).length) (g : fOk s k = false) : errS true s = 3 := by
  simp only [manyB, decide_eq_false_iff_not] at h
  exact Pl.errOf_bad (k := k) (by rwa [← Pl.toks_length]) (by rwa [← Pl.toks_length]) (by rw [fOk_eq]; exact g)
theorem filt_good {s : ByteArray} (h : manyB s = false) (g : ∀ k, k < (Pl.toks s).length → fOk s k = true) : errS true s = 0 := by
  simp only [manyB, decide_eq_false_iff_not] at h
  refine Pl.errOf_good (by rwa [← Pl.toks_length]) ?_
  simp only [Pl.goodTo, List.all_eq_true, List.mem_range]
  intro i hi
  rw [← Pl.toks_length] at hi
  rw [fOk_eq]
  exact g i hi
theorem fOk_of {s : ByteArray} {k : Nat} {a b c d : Bool} (h1 : isPlainB (tk (Pl.toks s) k) = a) (h2 : ((tk (Pl.toks s) k).toList == [42]) = b) (h3 : ((tk (Pl.toks s) k).toList == [62]) = c) (h4 : decide (k + 1 = (Pl.toks s).length) = d) : fOk s k = (a || (b || (c && d))) := by
  unfold fOk; rw [h1, h2, h3, h4]

set_option maxHeartbeats 1000000 in
theorem filter_any (s : ByteArray) (w : World) (hs : s.size ≤ 140737488355328) :
    Calls Tryd.prog 22 #[.string s] w fun e w' => e = .returned (.int .i64 (errS true s)) ∧ Below w.heap.size w w' := by
  cases hb : manyB s with
  | true =>
    have Hb := hide hb
    clear hb
    go_enter Tryd.func22, Tryd.ntmps22
    go_wp2_with (go_at_call 40; refine (many_any _ _ hs).mono ?_; rintro e w' ⟨rfl, rfl⟩; rw [unhide Hb])
    go_ret
    exact ⟨ret_eq (err_many (unhide Hb)), Below.refl _ _⟩
  | false =>
    have Hb := hide hb
    have hl : (Pl.toks s).length ≤ 8 := by simpa [manyB] using hb
    clear hb
    go_enter Tryd.func22, Tryd.ntmps22
    go_wp2_with (first
      | (go_at_call 40; refine (many_any _ _ hs).mono ?_; rintro e w' ⟨rfl, rfl⟩; rw [unhide Hb])
      | (go_at_call 41; refine (tokens_any _ _ hs hl).mono ?_; rintro e w1 ⟨b, rfl, h1, h2, h3, h4⟩))
    have hcell : ∀ k, k < (Pl.toks s).length → w1.cell? ⟨b, k, none⟩ = some (.string (tk (Pl.toks s) k)) := fun k hk => by have := h4 k hk; rwa [Nat.zero_add] at this
    go_loop [13] (fun i => ∃ k : Nat, k ≤ (Pl.toks s).length ∧ i = .int .i64 k ∧ Hid (∀ j, j < k → fOk s j = true)) (fun i => (Pl.toks s).length - (intOf i).toNat)
    case atStart => exact ⟨0, Nat.zero_le _, rfl, hide (fun j h => absurd h (Nat.not_lt_zero j))⟩
    case round =>
      obtain ⟨k, hk, rfl, hq⟩ := hrel
      by_cases hlt : k < (Pl.toks s).length
      · have hc1 := hcell k hlt
        have Hz := hide (tok_size s k)
        clear hcell
        cases hp : isPlainB (tk (Pl.toks s) k) <;> cases ha : ((tk (Pl.toks s) k).toList == [42]) <;> cases hg : ((tk (Pl.toks s) k).toList == [62]) <;> cases he : decide (k + 1 = (Pl.toks s).length)
        all_goals first
          | (exfalso; rw [eq_of_beq ha] at hg; revert hg; decide)
          | skip
        all_goals
          have Hf := hide (fOk_of hp ha hg he)
          have Hp := hide hp
          have hlast : ((k : Int) == ((Pl.toks s).length : Int) - 1) = decide (k + 1 = (Pl.toks s).length) := by rw [Bool.eq_iff_iff]; simp; omega
          rw [he] at hlast
          clear hp he
          go_wp2_with (go_at_call 42; refine (plain_any _ _ (by have := unhide Hz; unfold maxLen; omega)).mono ?_; rintro e w' ⟨rfl, rfl⟩; rw [unhide Hp])
          first
            | (go_ret; exact ⟨ret_eq (filt_bad (unhide Hb) hlt (unhide Hf)), h3⟩)
            | (go_round
               case rel => exact ⟨k + 1, by omega, by go_num, hide (fun j h => by
                 rcases Nat.lt_succ_iff_lt_or_eq.1 h with h | h
                 · exact unhide hq j h
                 · subst h; exact unhide Hf)⟩
               case measure => simp [intOf]; omega)
      · go_wp2
        go_ret
        exact ⟨ret_eq (filt_good (unhide Hb) (fun j hj => unhide hq j (by omega))), h3⟩
end Go.Proofs.YtcbfmjjodfnacaaDoor
