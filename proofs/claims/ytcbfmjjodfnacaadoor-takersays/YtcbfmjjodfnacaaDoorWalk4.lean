/-
  Contract of rillref.tokens, Subject and Filter: the errors of the plain functions.
-/
import Derived.Test.YtcbfmjjodfnacaaDoorWalk3
namespace Go.Proofs.YtcbfmjjodfnacaaDoor
open Go.RowKit

def inI (n lo hi : Int) : Bool := decide (lo ≤ n) && decide (n ≤ hi)
set_option maxHeartbeats 400000 in
theorem in_any (n lo hi : Int) (w : World) :
    Calls Tryd.prog 17 #[.int .i64 n, .int .i64 lo, .int .i64 hi] w fun e w' => e = .returned (.bool (inI n lo hi)) ∧ w' = w := by
  by_cases h1 : lo ≤ n <;> by_cases h2 : n ≤ hi
  all_goals
    go_enter Tryd.func17, Tryd.ntmps17
    go_wp2
    go_ret
    exact ⟨by simp [inI, *], rfl⟩

/-- a byte as the document's answer asks it (a dot is never met there) -/
def rB (c : Int) : Bool := decide (32 < c) && (decide (c < 127) && (decide (c ≠ 42) && decide (c ≠ 62)))
def okTo (t : ByteArray) (k : Nat) : Bool := inI t.size 1 16 && (t.data.toList.take k).all fun c => rB c.toNat
theorem okTo_zero (t : ByteArray) : okTo t 0 = inI t.size 1 16 := by simp [okTo]
theorem okTo_succ (t : ByteArray) (k : Nat) (h : k < t.size) : okTo t (k + 1) = (okTo t k && rB (t[k].toNat : Int)) := by
  unfold okTo
  rw [take_snoc t k h, List.all_append, Bool.and_assoc]
  simp
theorem okTo_all (t : ByteArray) (h : t.data.toList.count 46 = 0) : okTo t t.size = isPlainB t := by
  have e : t.data.toList.length = t.size := by simp
  unfold okTo isPlainB Pl.plainB inI
  rw [List.take_of_length_le (by omega), Bool.and_assoc, e]
  congr 1
  · rw [Bool.eq_iff_iff]; simp; omega
  congr 1
  · rw [Bool.eq_iff_iff]; simp; omega
  have hf : ∀ c ∈ t.data.toList, rB (c.toNat : Int) = Pl.tokB c := by
    intro c hc
    have hne : c ≠ 46 := by
      intro e
      subst e
      exact absurd hc (List.count_eq_zero.1 h)
    have hne2 : c.toNat ≠ 46 := fun e => hne (UInt8.toNat_inj.1 (by simpa using e))
    unfold rB Pl.tokB
    rw [Bool.eq_iff_iff]
    simp
    omega
  rw [Bool.eq_iff_iff, List.all_eq_true, List.all_eq_true]
  exact ⟨fun g c hc => by rw [← hf c hc]; exact g c hc, fun g c hc => by rw [hf c hc]; exact g c hc⟩
theorem isPcs_at {s : ByteArray} {l : List ByteArray} (h : isPcs s s.size l) (k : Nat) : (Pl.pcs s.data.toList)[k]?.getD [] = (tk l k).data.toList := by
  have e : s.data.toList.take s.size = s.data.toList := List.take_of_length_le (by simp)
  unfold isPcs at h
  rw [e] at h
  rw [← h, List.getElem?_map]
  unfold tk
  cases l[k]? <;> rfl
theorem isPcs_length {s : ByteArray} {l : List ByteArray} (h : isPcs s s.size l) : l.length = (Pl.pcs s.data.toList).length := by
  have e : s.data.toList.take s.size = s.data.toList := List.take_of_length_le (by simp)
  unfold isPcs at h
  rw [e] at h
  rw [← h, List.length_map]
theorem isPcs_free {s : ByteArray} {l : List ByteArray} (h : isPcs s s.size l) (k : Nat) : (tk l k).data.toList.count 46 = 0 := by
  rw [← isPcs_at h]
  cases e : (Pl.pcs s.data.toList)[k]? with
  | none => rfl
  | some p => exact Pl.pcs_free _ _ (List.mem_of_getElem? e)
theorem isPcs_tk_size {s : ByteArray} {l : List ByteArray} (h : isPcs s s.size l) (k : Nat) : (tk l k).size ≤ s.size := by
  have e := isPcs_at h k
  have h2 : ((Pl.pcs s.data.toList)[k]?.getD []).length ≤ s.data.toList.length := by
    cases e : (Pl.pcs s.data.toList)[k]? with
    | none => simp
    | some p => exact Pl.pcs_short _ _ (List.mem_of_getElem? e)
  rw [e] at h2
  simpa using h2
/-- is a piece right, as the document's answer asks it? -/
def rOk (wild : Bool) (l : List ByteArray) (k : Nat) : Bool := isPlainB (tk l k) || (wild && ((tk l k).toList == [42] || ((tk l k).toList == [62] && decide (k + 1 = l.length))))
theorem rOk_eq {s : ByteArray} {l : List ByteArray} (h : isPcs s s.size l) (wild : Bool) (k : Nat) : Pl.tokOk wild (decide (k + 1 = (Pl.pcs s.data.toList).length)) ((Pl.pcs s.data.toList)[k]?.getD []) = rOk wild l k := by
  rw [isPcs_at h, ← isPcs_length h]
  unfold Pl.tokOk rOk
  rw [byte_eq, byte_eq]
  rfl
theorem r_bad {s : ByteArray} {l : List ByteArray} {wild : Bool} {k : Nat} (h : isPcs s s.size l) (h8 : l.length ≤ 8) (hk : k < l.length) (g : rOk wild l k = false) : errS wild s = 3 := by
  rw [isPcs_length h] at h8 hk
  exact Pl.errOf_bad (k := k) (by omega) hk (by rw [rOk_eq h]; exact g)
theorem r_good {s : ByteArray} {l : List ByteArray} {wild : Bool} (h : isPcs s s.size l) (h8 : l.length ≤ 8) (g : ∀ k, k < l.length → rOk wild l k = true) : errS wild s = 0 := by
  rw [isPcs_length h] at h8
  refine Pl.errOf_good (by omega) ?_
  simp only [Pl.goodTo, List.all_eq_true, List.mem_range]
  intro i hi
  rw [← isPcs_length h] at hi
  rw [rOk_eq h]
  exact g i hi
def dots (s : ByteArray) (k : Nat) : Nat := (s.data.toList.take k).count 46
theorem dots_succ (s : ByteArray) (k : Nat) (h : k < s.size) : dots s (k + 1) = dots s k + if s[k] = 46 then 1 else 0 := by
  unfold dots
  rw [take_snoc s k h, List.count_append]
  congr 1
  by_cases e : s[k] = 46
  · rw [if_pos e, e]; rfl
  · rw [if_neg e]; simp [e]
theorem dots_le (s : ByteArray) (k : Nat) : dots s k ≤ k := by
  unfold dots
  have h : List.count 46 (s.data.toList.take k) ≤ (s.data.toList.take k).length := List.count_le_length
  have h2 : (s.data.toList.take k).length ≤ k := List.length_take_le _ _
  omega
theorem dots_all (s : ByteArray) : dots s s.size + 1 = (Pl.pcs s.data.toList).length := by
  unfold dots
  rw [List.take_of_length_le (by simp), Pl.pcs_length]

theorem rOk_of {wild : Bool} {l : List ByteArray} {k : Nat} {a b c d : Bool} (h1 : isPlainB (tk l k) = a) (h2 : ((tk l k).toList == [42]) = b) (h3 : ((tk l k).toList == [62]) = c) (h4 : decide (k + 1 = l.length) = d) : rOk wild l k = (a || (wild && (b || (c && d)))) := by
  unfold rOk; rw [h1, h2, h3, h4]
theorem rOk_at {wild : Bool} {t : ByteArray} {l : List ByteArray} {k : Nat} {a b c d : Bool} (e : t = tk l k) (h1 : isPlainB t = a) (h2 : (t.toList == [42]) = b) (h3 : (t.toList == [62]) = c) (h4 : decide (k + 1 = l.length) = d) : rOk wild l k = (a || (wild && (b || (c && d)))) := by
  subst e; exact rOk_of h1 h2 h3 h4
theorem ret_pair {v v' : Value} {a b : Int} (hv : v = v') (h : b = a) : Ending.returned (.tuple #[v, .int .i64 a]) = .returned (.tuple #[v', .int .i64 b]) := by rw [h, hv]

set_option maxRecDepth 100000 in
set_option maxHeartbeats 2000000 in
theorem rtokens_any (wild : Bool) (s : ByteArray) (w : World) (hs : s.size ≤ 140737488355328) :
    Calls Tryd.prog 30 #[.string s, .bool wild] w fun e w' => (∃ v, e = .returned (.tuple #[v, .int .i64 (errS wild s)])) ∧ Below w.heap.size w w' := by
  go_enter Tryd.func30, Tryd.ntmps30
  go_wp2
  go_loop [6, 7] (fun n i => ∃ k : Nat, k ≤ s.size ∧ i = .int .i64 k ∧ n = .int .i64 (dots s k + 1)) (fun _ i => s.size - (intOf i).toNat)
  case atStart => exact ⟨0, Nat.zero_le _, rfl, rfl⟩
  case round =>
    obtain ⟨k, hk, rfl, rfl⟩ := hrel
    have hdk := dots_le s k
    by_cases hlt : k < s.size
    · have Hd := hide (dots_succ s k hlt)
      by_cases hd : s[k] = 46
      · go_wp2
        go_round
        case rel => exact ⟨k + 1, by omega, by go_num, by rw [unhide Hd, if_pos hd]; go_num⟩
        case measure => simp [intOf]; omega
      · have hne : ((s[k].toNat : Int) == 46) = false := by rw [beq_eq_false_iff_ne]; intro e; exact hd (UInt8.toNat_inj.1 (by simp; omega))
        go_wp2
        go_round
        case rel => exact ⟨k + 1, by omega, by go_num, by rw [unhide Hd, if_neg hd]; go_num⟩
        case measure => simp [intOf]; omega
    · obtain rfl : k = s.size := by omega
      have Ha := hide (dots_all s)
      by_cases h8 : 8 < dots s s.size + 1
      · go_wp2
        go_ret2
        exact ⟨⟨_, ret_pair rfl (Pl.errOf_large (by rw [← unhide Ha]; exact h8))⟩, Below.refl _ _⟩
      · go_wp2_with (go_at_call 26; refine (pieces_any s _ hs (by have := unhide Ha; omega)).mono ?_; rintro e w1 ⟨g, cap, l, rfl, hown, hp, hb⟩)
        have hln : l.length = dots s s.size + 1 := by rw [isPcs_length hp]; exact (unhide Ha).symm
        have Hln := hide hln
        have Hp := hide hp
        have Hown := hide hown
        have hdn : dots s s.size + 1 ≤ 8 := by omega
        have hcell : ∀ k, k < l.length → w1.cell? ⟨g, k, none⟩ = some (.string (tk l k)) := own_cells hown
        have Hcell := hide hcell
        clear hln hp hown hdk hlt hk hcell
        go_wp2
        go_loop [9] (fun i => ∃ k : Nat, k ≤ l.length ∧ i = .int .i64 k ∧ Hid (∀ j, j < k → rOk wild l j = true)) (fun i => l.length - (intOf i).toNat)
        case atStart => exact ⟨0, Nat.zero_le _, rfl, hide (fun j h => absurd h (Nat.not_lt_zero j))⟩
        case round =>
          obtain ⟨k, hk, rfl, hq⟩ := hrel
          by_cases hlt : k < l.length
          · have hkd : k < dots s s.size + 1 := by have := unhide Hln; omega
            have hc1 := unhide Hcell k hlt
            have hts := isPcs_tk_size (unhide Hp) k
            obtain ⟨t, ht⟩ : ∃ t, t = tk l k := ⟨_, rfl⟩
            rw [← ht] at hc1 hts
            have Ht := hide ht
            clear ht
            go_wp2_with (go_at_call 17; refine (in_any _ _ _ _).mono ?_; rintro e w' ⟨rfl, rfl⟩)
            go_loop [10, 11] (fun ok i => ∃ m : Nat, m ≤ t.size ∧ i = .int .i64 m ∧ ok = .bool (okTo t m)) (fun _ i => t.size - (intOf i).toNat)
            case atStart => exact ⟨0, Nat.zero_le _, rfl, by rw [okTo_zero]⟩
            case round =>
              obtain ⟨m, hm, rfl, rfl⟩ := hrel
              by_cases hmt : m < t.size
              · have Hs := hide (okTo_succ t m hmt)
                cases hok : okTo t m
                · rw [hok] at Hs
                  go_wp2
                  go_round
                  case rel => exact ⟨m + 1, by omega, by go_num, by rw [unhide Hs]; rfl⟩
                  case measure => simp [intOf]; omega
                · rw [hok] at Hs
                  go_wp2
                  all_goals
                    go_round
                    case rel => exact ⟨m + 1, by omega, by go_num, congrArg Value.bool (by rw [unhide Hs, Bool.eq_iff_iff]; simp [rB]; omega)⟩
                    case measure => simp [intOf]; omega
              · obtain rfl : m = t.size := by omega
                have hpl : okTo t t.size = isPlainB t := by
                  have := isPcs_free (unhide Hp) k
                  rw [← unhide Ht] at this
                  exact okTo_all t this
                have Hkl : Hid (decide (k + 1 = l.length) = decide (k = dots s s.size)) := by
                  have := unhide Hln
                  exact hide (by rw [Bool.eq_iff_iff]; simp; omega)
                rw [hpl]
                have hlast : ((k : Int) == (dots s s.size : Int)) = decide (k = dots s s.size) := by rw [Bool.eq_iff_iff]; simp; omega
                have Hf := hide (rOk_at (wild := wild) (a := isPlainB t) (b := t.toList == [42]) (c := t.toList == [62]) (unhide Ht) rfl rfl rfl (unhide Hkl))
                clear hpl Hkl
                cases wild
                · rw [Bool.false_and, Bool.or_false] at Hf
                  cases hpb : isPlainB t
                  all_goals rw [hpb] at Hf
                  · skip
                    go_wp2
                    go_ret2
                    exact ⟨⟨_, ret_pair rfl (r_bad (unhide Hp) (by have := unhide Hln; omega) hlt (unhide Hf))⟩, hb⟩
                  · skip
                    go_wp2
                    go_round
                    case rel => exact ⟨k + 1, by omega, by go_num, hide (fun j h => by
                      rcases Nat.lt_succ_iff_lt_or_eq.1 h with h | h
                      · exact unhide hq j h
                      · subst h; exact unhide Hf)⟩
                    case measure => simp [intOf]; omega
                · rw [Bool.true_and] at Hf
                  cases ha : (t.toList == [42])
                  · rw [ha, Bool.false_or] at Hf
                    cases hg : (t.toList == [62])
                    · rw [hg, Bool.false_and, Bool.or_false] at Hf
                      cases hpb : isPlainB t
                      all_goals rw [hpb] at Hf
                      · skip
                        go_wp2
                        go_ret2
                        exact ⟨⟨_, ret_pair rfl (r_bad (unhide Hp) (by have := unhide Hln; omega) hlt (unhide Hf))⟩, hb⟩
                      · skip
                        go_wp2
                        go_round
                        case rel => exact ⟨k + 1, by omega, by go_num, hide (fun j h => by
                          rcases Nat.lt_succ_iff_lt_or_eq.1 h with h | h
                          · exact unhide hq j h
                          · subst h; exact unhide Hf)⟩
                        case measure => simp [intOf]; omega
                    · rw [hg, Bool.true_and] at Hf
                      cases he : decide (k = dots s s.size)
                      · rw [he] at Hf hlast
                        rw [Bool.or_false] at Hf
                        clear he
                        cases hpb : isPlainB t
                        all_goals rw [hpb] at Hf
                        · skip
                          go_wp2
                          go_ret2
                          exact ⟨⟨_, ret_pair rfl (r_bad (unhide Hp) (by have := unhide Hln; omega) hlt (unhide Hf))⟩, hb⟩
                        · skip
                          go_wp2
                          go_round
                          case rel => exact ⟨k + 1, by omega, by go_num, hide (fun j h => by
                            rcases Nat.lt_succ_iff_lt_or_eq.1 h with h | h
                            · exact unhide hq j h
                            · subst h; exact unhide Hf)⟩
                          case measure => simp [intOf]; omega
                      · rw [he] at Hf hlast
                        rw [Bool.or_true] at Hf
                        clear he
                        go_wp2
                        go_round
                        case rel => exact ⟨k + 1, by omega, by go_num, hide (fun j h => by
                          rcases Nat.lt_succ_iff_lt_or_eq.1 h with h | h
                          · exact unhide hq j h
                          · subst h; exact unhide Hf)⟩
                        case measure => simp [intOf]; omega
                  · rw [ha, Bool.true_or, Bool.or_true] at Hf
                    go_wp2
                    go_round
                    case rel => exact ⟨k + 1, by omega, by go_num, hide (fun j h => by
                      rcases Nat.lt_succ_iff_lt_or_eq.1 h with h | h
                      · exact unhide hq j h
                      · subst h; exact unhide Hf)⟩
                    case measure => simp [intOf]; omega
          · have hkd : ¬ k < dots s s.size + 1 := by have := unhide Hln; omega
            go_wp2
            go_ret2
            exact ⟨⟨_, ret_pair rfl (r_good (unhide Hp) (by have := unhide Hln; omega) (fun j hj => unhide hq j (by omega)))⟩, hb⟩

set_option maxHeartbeats 400000 in
theorem rfilter_any (s : ByteArray) (w : World) (hs : s.size ≤ 140737488355328) :
    Calls Tryd.prog 16 #[.string s] w fun e w' => e = .returned (.int .i64 (errS true s)) ∧ Below w.heap.size w w' := by
  go_enter Tryd.func16, Tryd.ntmps16
  go_wp2_with (go_at_call 30; refine (rtokens_any true s _ hs).mono ?_; rintro e w1 ⟨⟨v, rfl⟩, hb⟩)
  go_ret
  exact ⟨rfl, hb⟩
end Go.Proofs.YtcbfmjjodfnacaaDoor
