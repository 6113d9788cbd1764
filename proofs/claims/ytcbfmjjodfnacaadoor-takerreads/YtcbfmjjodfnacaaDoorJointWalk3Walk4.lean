/-
  Contract of rillref.Pieces at a dot: it lays the pieces into a row of its own.
  Contract of rillref.tokens, Subject and Filter: the errors of the plain functions.
-/
import Derived.Test.YtcbfmjjodfnacaaDoorWalk2
import Derived.RegionTactic
import Derived.ChangeAlike
namespace Go.Proofs.YtcbfmjjodfnacaaDoor
open Go.RowKit

def isPcs (s : ByteArray) (k : Nat) (l : List ByteArray) : Prop := l.map (·.data.toList) = Pl.pcs (s.data.toList.take k)

theorem isPcs_zero (s : ByteArray) : isPcs s 0 [ByteArray.empty] := rfl
theorem take_snoc (s : ByteArray) (k : Nat) (h : k < s.size) : s.data.toList.take (k + 1) = s.data.toList.take k ++ [s[k]] := by
  rw [List.take_succ_eq_append_getElem (by simpa using h)]; rfl
theorem isPcs_ne {s : ByteArray} {k : Nat} {l : List ByteArray} (h : isPcs s k l) : l ≠ [] := by
  intro e; subst e
  exact Pl.pcs_ne _ h.symm
theorem isPcs_dot {s : ByteArray} {k : Nat} {l : List ByteArray} (h : isPcs s k l) (hk : k < s.size) (hd : s[k] = 46) : isPcs s (k + 1) (l ++ [ByteArray.empty]) := by
  unfold isPcs at *
  rw [take_snoc s k hk, hd, Pl.pcs_snoc_dot, ← h, List.map_append]
  rfl
theorem isPcs_byte {s : ByteArray} {k : Nat} {i : List ByteArray} {t : ByteArray} (h : isPcs s k (i ++ [t])) (hk : k < s.size) (hd : s[k] ≠ 46) : isPcs s (k + 1) (i ++ [t ++ s.extract k (k + 1)]) := by
  unfold isPcs at *
  have e := Pl.pcs_snoc (s.data.toList.take k) s[k] hd (i.map (·.data.toList)) t.data.toList (by rw [← h, List.map_append]; rfl)
  rw [take_snoc s k hk, e, List.map_append]
  congr 1
  rw [List.map_cons, List.map_nil, ByteArray.data_append, Array.toList_append, Lib.extract_data]
  congr 2
  rw [Nat.add_sub_cancel_left, List.drop_eq_getElem_cons (by simpa using hk)]
  rfl

theorem isPcs_len {s : ByteArray} {k : Nat} {l : List ByteArray} (h : isPcs s k l) : l.length ≤ (Pl.pcs s.data.toList).length := by
  have h1 : l.length = (Pl.pcs (s.data.toList.take k)).length := by rw [← h, List.length_map]
  rw [h1, Pl.pcs_length, Pl.pcs_length]
  have := (List.take_sublist k s.data.toList).count_le 46
  omega
theorem isPcs_size {s : ByteArray} {k : Nat} {i : List ByteArray} {t : ByteArray} (h : isPcs s k (i ++ [t])) : t.size ≤ s.size := by
  have h1 : t.data.toList ∈ Pl.pcs (s.data.toList.take k) := by rw [← h]; simp
  have h2 := Pl.pcs_short _ _ h1
  have h3 : (s.data.toList.take k).length ≤ s.size := by simp; omega
  have h4 : t.data.toList.length = t.size := by simp
  omega
theorem own_last {W : World} {B g cap : Nat} {i : List ByteArray} {t : ByteArray} (h : Own W B g cap (i ++ [t])) : W.cell? ⟨g, i.length, none⟩ = some (.string t) := by
  have := World.ownsRow.cellAt h i.length (by simp)
  rw [this]
  simp
theorem rel_dot {s : ByteArray} {k g cap g1 cap1 : Nat} {l : List ByteArray} {w wr w1 : World} {o : Obj} (hlt : k < s.size) (hd : s[k] = 46) (hown : Own wr w.heap.size g cap l) (hp : isPcs s k l) (hb : Below w.heap.size w wr)
    (h1 : w1.ownsRow w.heap.size 9 1 (.slice (some ⟨g1, 0, none⟩) (l.length + 1) cap1) (l.length + 1) (l.map Value.string ++ [.string ByteArray.empty]))
    (hg : (wr.alloc o).grownBy w1 (Value.ownBlock (.slice (some ⟨g, 0, none⟩) l.length cap))) :
    Own w1 w.heap.size g1 cap1 (l ++ [ByteArray.empty]) ∧ isPcs s (k + 1) (l ++ [ByteArray.empty]) ∧ Below w.heap.size w w1 := by
  refine ⟨?_, isPcs_dot hp hlt hd, ?_⟩
  · unfold Own
    rw [List.length_append, List.map_append]
    exact h1
  · refine (hb.alloc hb.size o).grown hg (by have := hb.size; simp; omega) ?_
    intro j hj
    have := (own_base hown).1
    simp [Value.ownBlock] at hj
    omega

theorem rel_byte {s : ByteArray} {k g cap : Nat} {i : List ByteArray} {t : ByteArray} {w wr : World} (hlt : k < s.size) (hd : s[k] ≠ 46) (hown : Own wr w.heap.size g cap (i ++ [t])) (hp : isPcs s k (i ++ [t])) (hb : Below w.heap.size w wr) :
    Own (wr.setCell ⟨g, i.length, none⟩ (.string (t ++ s.extract k (k + 1)))) w.heap.size g cap (i ++ [t ++ s.extract k (k + 1)]) ∧ isPcs s (k + 1) (i ++ [t ++ s.extract k (k + 1)]) ∧
      Below w.heap.size w (wr.setCell ⟨g, i.length, none⟩ (.string (t ++ s.extract k (k + 1)))) := by
  refine ⟨?_, isPcs_byte hp hlt hd, hb.setCell (own_base hown).1 _⟩
  have h := (World.ownsRow.stored hown i.length (.string (t ++ s.extract k (k + 1)))).1
  unfold Own
  have e : (i ++ [t]).length = (i ++ [t ++ s.extract k (k + 1)]).length := by simp
  rw [e] at h
  rw [List.map_append, List.map_cons, List.map_nil, List.set_append_right _ _ (by simp)] at h
  rw [List.map_append]
  simpa using h

set_option maxHeartbeats 1000000 in
theorem pieces_any (s : ByteArray) (w : World) (hs : s.size ≤ 140737488355328) (hn : (Pl.pcs s.data.toList).length ≤ 1099511627776) :
    Calls Tryd.prog 26 #[.string s, .int .u8 46] w fun e w' => ∃ g cap l, e = .returned (.slice (some ⟨g, 0, none⟩) l.length cap) ∧ Own w' w.heap.size g cap l ∧ isPcs s s.size l ∧ Below w.heap.size w w' := by
  obtain ⟨i0, hi, hz0, hz1, hz2⟩ := info_parts info9
  go_enter Tryd.func26, Tryd.ntmps26
  go_wp2
  go_loopw [5, 6] (fun out i wr => ∃ (k g cap : Nat) (l : List ByteArray), k ≤ s.size ∧ i = .int .i64 k ∧ out = .slice (some ⟨g, 0, none⟩) l.length cap ∧ Own wr w.heap.size g cap l ∧ Hid (isPcs s k l) ∧ Below w.heap.size w wr) (fun _ i _ => s.size - (intOf i).toNat)
  case atStart => exact ⟨0, w.heap.size, 1, [ByteArray.empty], Nat.zero_le _, rfl, rfl, World.ownsRow_lit w #[.string ByteArray.empty] 1 (Nat.le_refl _) (by decide) rfl, hide (isPcs_zero s), (Below.refl _ _).alloc (Nat.le_refl _) _⟩
  case round =>
    obtain ⟨k, g, cap, l, hk, rfl, rfl, hown, hp, hb⟩ := hrel
    by_cases hlt : k < s.size
    · by_cases hd : s[k] = 46
      · have hlen : l.length ≤ 1099511627776 := Nat.le_trans (isPcs_len (unhide hp)) hn
        have hsz := hb.size
        have hown2 : wr.ownsRow w.heap.size 9 1 (.slice (some ⟨g, 0, none⟩) l.length cap) l.length (l.map Value.string) := hown
        go_wp2_with (at_builtin; refine wpList_append_own _ rfl (.tmp 19) (.tmp 20) 40 rfl w.heap.size 9 i0 (.string ByteArray.empty) 1 16 Tryd.underlying40 hi hz0 hz1 hz2 rfl (by decide) _ _ _ rfl (hown2.alloc _) ⟨wr.heap.size, 0, none⟩ 1 1 [.string ByteArray.empty] rfl rfl (one_new _ _ _) (one_cell _) (by unfold maxLen; omega) (by omega) (by simp; omega) ?_; intro v' w1 hown1 hgrow _)
        obtain ⟨g1, cap1, rfl⟩ := own_some hown1
        have R := rel_dot hlt hd hown (unhide hp) hb hown1 hgrow
        clear hown hown2 hown1 hgrow hb hp
        go_wp2
        go_roundw
        case rel => exact ⟨k + 1, g1, cap1, l ++ [ByteArray.empty], by omega, by go_num, by simp, R.1, hide R.2.1, R.2.2⟩
        case measure => simp [intOf]; omega
      · obtain ⟨i, t, rfl⟩ : ∃ i t, l = i ++ [t] := ⟨l.dropLast, l.getLast (isPcs_ne (unhide hp)), (List.dropLast_concat_getLast _).symm⟩
        have hc := own_last hown
        have hf := own_free hown i.length
        have hl1 : ((i ++ [t]).length : Int) - 1 = (i.length : Int) := by simp
        have hl2 : (i ++ [t]).length = i.length + 1 := by simp
        have hlen : i.length ≤ 1099511627776 := by have := isPcs_len (unhide hp); simp at this; omega
        have hne : ((s[k].toNat : Int) == 46) = false := by rw [beq_eq_false_iff_ne]; intro e; exact hd (UInt8.toNat_inj.1 (by simp; omega))
        have hts : t.size ≤ s.size := isPcs_size (unhide hp)
        have hex : (s.extract k (k + 1)).size ≤ 1 := by rw [ByteArray.size_extract]; omega
        have hsum : t.size + (s.extract k (k + 1)).size ≤ 9223372036854775807 := by omega
        have Hown := hide hown
        clear hown hl1
        go_wp2
        go_region
        all_goals go_wp2
        all_goals
          have R := rel_byte hlt hd (unhide Hown) (unhide hp) hb
          refine ⟨⟨k + 1, g, cap, i ++ [t ++ s.extract k (k + 1)], by omega, by go_num, by simp, R.1.drew, hide R.2.1, R.2.2.drew⟩, ?_⟩
          simp [intOf]; omega
    · go_wp2
      go_ret
      obtain rfl : k = s.size := by omega
      exact ⟨g, cap, l, rfl, hown, unhide hp, hb⟩
end Go.Proofs.YtcbfmjjodfnacaaDoor

namespace Go.Proofs.YtcbfmjjodfnacaaDoor
open Go.RowKit

def inI (n lo hi : Int) : Bool := decide (lo ≤ n) && decide (n ≤ hi)
set_option maxHeartbeats 400000 in
theorem in_any (n lo hi : Int) (w : World) :
    Calls Tryd.prog 17 #[.int .i64 n, .int .i64 lo, .int .i64 hi] w fun e w' => e = .returned (.bool (inI n lo hi)) ∧ w' = w := by
  by_cases h1 : lo ≤ n <;> by_cases h2 : n ≤ hi
  all_goals
    go_enter Tryd.func17, Tryd.ntmps17
    go_wp2
    go_ret
    exact ⟨by simp [inI, *], rfl⟩

/-- a byte as the document's answer asks it (a dot is never met there) -/
def rB (c : Int) : Bool := decide (32 < c) && (decide (c < 127) && (decide (c ≠ 42) && decide (c ≠ 62)))
def okTo (t : ByteArray) (k : Nat) : Bool := inI t.size 1 16 && (t.data.toList.take k).all fun c => rB c.toNat
theorem okTo_zero (t : ByteArray) : okTo t 0 = inI t.size 1 16 := by simp [okTo]
theorem okTo_succ (t : ByteArray) (k : Nat) (h : k < t.size) : okTo t (k + 1) = (okTo t k && rB (t[k].toNat : Int)) := by
  unfold okTo
  rw [take_snoc t k h, List.all_append, Bool.and_assoc]
  simp
theorem okTo_all (t : ByteArray) (h : t.data.toList.count 46 = 0) : okTo t t.size = isPlainB t := by
  have e : t.data.toList.length = t.size := by simp
  unfold okTo isPlainB Pl.plainB inI
  rw [List.take_of_length_le (by omega), Bool.and_assoc, e]
  congr 1
  · rw [Bool.eq_iff_iff]; simp; omega
  congr 1
  · rw [Bool.eq_iff_iff]; simp; omega
  have hf : ∀ c ∈ t.data.toList, rB (c.toNat : Int) = Pl.tokB c := by
    intro c hc
    have hne : c ≠ 46 := by
      intro e
      subst e
      exact absurd hc (List.count_eq_zero.1 h)
    have hne2 : c.toNat ≠ 46 := fun e => hne (UInt8.toNat_inj.1 (by simpa using e))
    unfold rB Pl.tokB
    rw [Bool.eq_iff_iff]
    simp
    omega
  rw [Bool.eq_iff_iff, List.all_eq_true, List.all_eq_true]
  exact ⟨fun g c hc => by rw [← hf c hc]; exact g c hc, fun g c hc => by rw [hf c hc]; exact g c hc⟩
theorem isPcs_at {s : ByteArray} {l : List ByteArray} (h : isPcs s s.size l) (k : Nat) : (Pl.pcs s.data.toList)[k]?.getD [] = (tk l k).data.toList := by
  have e : s.data.toList.take s.size = s.data.toList := List.take_of_length_le (by simp)
  unfold isPcs at h
  rw [e] at h
  rw [← h, List.getElem?_map]
  unfold tk
  cases l[k]? <;> rfl
theorem isPcs_length {s : ByteArray} {l : List ByteArray} (h : isPcs s s.size l) : l.length = (Pl.pcs s.data.toList).length := by
  have e : s.data.toList.take s.size = s.data.toList := List.take_of_length_le (by simp)
  unfold isPcs at h
  rw [e] at h
  rw [← h, List.length_map]
theorem isPcs_free {s : ByteArray} {l : List ByteArray} (h : isPcs s s.size l) (k : Nat) : (tk l k).data.toList.count 46 = 0 := by
  rw [← isPcs_at h]
  cases e : (Pl.pcs s.data.toList)[k]? with
  | none => rfl
  | some p => exact Pl.pcs_free _ _ (List.mem_of_getElem? e)
theorem isPcs_tk_size {s : ByteArray} {l : List ByteArray} (h : isPcs s s.size l) (k : Nat) : (tk l k).size ≤ s.size := by
  have e := isPcs_at h k
  have h2 : ((Pl.pcs s.data.toList)[k]?.getD []).length ≤ s.data.toList.length := by
    cases e : (Pl.pcs s.data.toList)[k]? with
    | none => simp
    | some p => exact Pl.pcs_short _ _ (List.mem_of_getElem? e)
  rw [e] at h2
  simpa using h2
/-- is a piece right, as the document's answer asks it? -/
def rOk (wild : Bool) (l : List ByteArray) (k : Nat) : Bool := isPlainB (tk l k) || (wild && ((tk l k).toList == [42] || ((tk l k).toList == [62] && decide (k + 1 = l.length))))
theorem rOk_eq {s : ByteArray} {l : List ByteArray} (h : isPcs s s.size l) (wild : Bool) (k : Nat) : Pl.tokOk wild (decide (k + 1 = (Pl.pcs s.data.toList).length)) ((Pl.pcs s.data.toList)[k]?.getD []) = rOk wild l k := by
  rw [isPcs_at h, ← isPcs_length h]
  unfold Pl.tokOk rOk
  rw [byte_eq, byte_eq]
  rfl
theorem r_bad {s : ByteArray} {l : List ByteArray} {wild : Bool} {k : Nat} (h : isPcs s s.size l) (h8 : l.length ≤ 8) (hk : k < l.length) (g : rOk wild l k = false) : errS wild s = 3 := by
  rw [isPcs_length h] at h8 hk
  exact Pl.errOf_bad (k := k) (by omega) hk (by rw [rOk_eq h]; exact g)
theorem r_good {s : ByteArray} {l : List ByteArray} {wild : Bool} (h : isPcs s s.size l) (h8 : l.length ≤ 8) (g : ∀ k, k < l.length → rOk wild l k = true) : errS wild s = 0 := by
  rw [isPcs_length h] at h8
  refine Pl.errOf_good (by omega) ?_
  simp only [Pl.goodTo, List.all_eq_true, List.mem_range]
  intro i hi
  rw [← isPcs_length h] at hi
  rw [rOk_eq h]
  exact g i hi
def dots (s : ByteArray) (k : Nat) : Nat := (s.data.toList.take k).count 46
theorem dots_succ (s : ByteArray) (k : Nat) (h : k < s.size) : dots s (k + 1) = dots s k + if s[k] = 46 then 1 else 0 := by
  unfold dots
  rw [take_snoc s k h, List.count_append]
  congr 1
  by_cases e : s[k] = 46
  · rw [if_pos e, e]; rfl
  · rw [if_neg e]; simp [e]
theorem dots_le (s : ByteArray) (k : Nat) : dots s k ≤ k := by
  unfold dots
  have h : List.count 46 (s.data.toList.take k) ≤ (s.data.toList.take k).length := List.count_le_length
  have h2 : (s.data.toList.take k).length ≤ k := List.length_take_le _ _
  omega
theorem dots_all (s : ByteArray) : dots s s.size + 1 = (Pl.pcs s.data.toList).length := by
  unfold dots
  rw [List.take_of_length_le (by simp), Pl.pcs_length]

theorem rOk_of {wild : Bool} {l : List ByteArray} {k : Nat} {a b c d : Bool} (h1 : isPlainB (tk l k) = a) (h2 : ((tk l k).toList == [42]) = b) (h3 : ((tk l k).toList == [62]) = c) (h4 : decide (k + 1 = l.length) = d) : rOk wild l k = (a || (wild && (b || (c && d)))) := by
  unfold rOk; rw [h1, h2, h3, h4]
theorem rOk_at {wild : Bool} {t : ByteArray} {l : List ByteArray} {k : Nat} {a b c d : Bool} (e : t = tk l k) (h1 : isPlainB t = a) (h2 : (t.toList == [42]) = b) (h3 : (t.toList == [62]) = c) (h4 : decide (k + 1 = l.length) = d) : rOk wild l k = (a || (wild && (b || (c && d)))) := by
  subst e; exact rOk_of h1 h2 h3 h4
theorem ret_pair {v v' : Value} {a b : Int} (hv : v = v') (h : b = a) : Ending.returned (.tuple #[v, .int .i64 a]) = .returned (.tuple #[v', .int .i64 b]) := by rw [h, hv]

set_option maxRecDepth 100000 in
set_option maxHeartbeats 2000000 in
theorem rtokens_any (wild : Bool) (s : ByteArray) (w : World) (hs : s.size ≤ 140737488355328) :
    Calls Tryd.prog 30 #[.string s, .bool wild] w fun e w' => (∃ v, e = .returned (.tuple #[v, .int .i64 (errS wild s)])) ∧ Below w.heap.size w w' := by
  go_enter Tryd.func30, Tryd.ntmps30
  go_wp2
  go_loop [6, 7] (fun n i => ∃ k : Nat, k ≤ s.size ∧ i = .int .i64 k ∧ n = .int .i64 (dots s k + 1)) (fun _ i => s.size - (intOf i).toNat)
  case atStart => exact ⟨0, Nat.zero_le _, rfl, rfl⟩
  case round =>
    obtain ⟨k, hk, rfl, rfl⟩ := hrel
    have hdk := dots_le s k
    by_cases hlt : k < s.size
    · have Hd := hide (dots_succ s k hlt)
      by_cases hd : s[k] = 46
      · go_wp2
        go_round
        case rel => exact ⟨k + 1, by omega, by go_num, by rw [unhide Hd, if_pos hd]; go_num⟩
        case measure => simp [intOf]; omega
      · have hne : ((s[k].toNat : Int) == 46) = false := by rw [beq_eq_false_iff_ne]; intro e; exact hd (UInt8.toNat_inj.1 (by simp; omega))
        go_wp2
        go_round
        case rel => exact ⟨k + 1, by omega, by go_num, by rw [unhide Hd, if_neg hd]; go_num⟩
        case measure => simp [intOf]; omega
    · obtain rfl : k = s.size := by omega
      have Ha := hide (dots_all s)
      by_cases h8 : 8 < dots s s.size + 1
      · go_wp2
        go_ret2
        exact ⟨⟨_, ret_pair rfl (Pl.errOf_large (by rw [← unhide Ha]; exact h8))⟩, Below.refl _ _⟩
      · go_wp2_with (go_at_call 26; refine (pieces_any s _ hs (by have := unhide Ha; omega)).mono ?_; rintro e w1 ⟨g, cap, l, rfl, hown, hp, hb⟩)
        have hln : l.length = dots s s.size + 1 := by rw [isPcs_length hp]; exact (unhide Ha).symm
        have Hln := hide hln
        have Hp := hide hp
        have Hown := hide hown
        have hdn : dots s s.size + 1 ≤ 8 := by omega
        have hcell : ∀ k, k < l.length → w1.cell? ⟨g, k, none⟩ = some (.string (tk l k)) := own_cells hown
        have Hcell := hide hcell
        clear hln hp hown hdk hlt hk hcell
        go_wp2
        go_loop [9] (fun i => ∃ k : Nat, k ≤ l.length ∧ i = .int .i64 k ∧ Hid (∀ j, j < k → rOk wild l j = true)) (fun i => l.length - (intOf i).toNat)
        case atStart => exact ⟨0, Nat.zero_le _, rfl, hide (fun j h => absurd h (Nat.not_lt_zero j))⟩
        case round =>
          obtain ⟨k, hk, rfl, hq⟩ := hrel
          by_cases hlt : k < l.length
          · have hkd : k < dots s s.size + 1 := by have := unhide Hln; omega
            have hc1 := unhide Hcell k hlt
            have hts := isPcs_tk_size (unhide Hp) k
            obtain ⟨t, ht⟩ : ∃ t, t = tk l k := ⟨_, rfl⟩
            rw [← ht] at hc1 hts
            have Ht := hide ht
            clear ht
            go_wp2_with (go_at_call 17; refine (in_any _ _ _ _).mono ?_; rintro e w' ⟨rfl, rfl⟩)
            go_loop [10, 11] (fun ok i => ∃ m : Nat, m ≤ t.size ∧ i = .int .i64 m ∧ ok = .bool (okTo t m)) (fun _ i => t.size - (intOf i).toNat)
            case atStart => exact ⟨0, Nat.zero_le _, rfl, by rw [okTo_zero]⟩
            case round =>
              obtain ⟨m, hm, rfl, rfl⟩ := hrel
              by_cases hmt : m < t.size
              · have Hs := hide (okTo_succ t m hmt)
                cases hok : okTo t m
                · rw [hok] at Hs
                  go_wp2
                  go_round
                  case rel => exact ⟨m + 1, by omega, by go_num, by rw [unhide Hs]; rfl⟩
                  case measure => simp [intOf]; omega
                · rw [hok] at Hs
                  go_wp2
                  all_goals
                    go_round
                    case rel => exact ⟨m + 1, by omega, by go_num, congrArg Value.bool (by rw [unhide Hs, Bool.eq_iff_iff]; simp [rB]; omega)⟩
                    case measure => simp [intOf]; omega
              · obtain rfl : m = t.size := by omega
                have hpl : okTo t t.size = isPlainB t := by
                  have := isPcs_free (unhide Hp) k
                  rw [← unhide Ht] at this
                  exact okTo_all t this
                have Hkl : Hid (decide (k + 1 = l.length) = decide (k = dots s s.size)) := by
                  have := unhide Hln
                  exact hide (by rw [Bool.eq_iff_iff]; simp; omega)
                rw [hpl]
                have hlast : ((k : Int) == (dots s s.size : Int)) = decide (k = dots s s.size) := by rw [Bool.eq_iff_iff]; simp; omega
                have Hf := hide (rOk_at (wild := wild) (a := isPlainB t) (b := t.toList == [42]) (c := t.toList == [62]) (unhide Ht) rfl rfl rfl (unhide Hkl))
                clear hpl Hkl
                cases wild
                · rw [Bool.false_and, Bool.or_false] at Hf
                  cases hpb : isPlainB t
                  all_goals rw [hpb] at Hf
                  · skip
                    go_wp2
                    go_ret2
                    exact ⟨⟨_, ret_pair rfl (r_bad (unhide Hp) (by have := unhide Hln; omega) hlt (unhide Hf))⟩, hb⟩
                  · skip
                    go_wp2
                    go_round
                    case rel => exact ⟨k + 1, by omega, by go_num, hide (fun j h => by
                      rcases Nat.lt_succ_iff_lt_or_eq.1 h with h | h
                      · exact unhide hq j h
                      · subst h; exact unhide Hf)⟩
                    case measure => simp [intOf]; omega
                · rw [Bool.true_and] at Hf
                  cases ha : (t.toList == [42])
                  · rw [ha, Bool.false_or] at Hf
                    cases hg : (t.toList == [62])
                    · rw [hg, Bool.false_and, Bool.or_false] at Hf
                      cases hpb : isPlainB t
                      all_goals rw [hpb] at Hf
                      · skip
                        go_wp2
                        go_ret2
                        exact ⟨⟨_, ret_pair rfl (r_bad (unhide Hp) (by have := unhide Hln; omega) hlt (unhide Hf))⟩, hb⟩
                      · skip
                        go_wp2
                        go_round
                        case rel => exact ⟨k + 1, by omega, by go_num, hide (fun j h => by
                          rcases Nat.lt_succ_iff_lt_or_eq.1 h with h | h
                          · exact unhide hq j h
                          · subst h; exact unhide Hf)⟩
                        case measure => simp [intOf]; omega
                    · rw [hg, Bool.true_and] at Hf
                      cases he : decide (k = dots s s.size)
                      · rw [he] at Hf hlast
                        rw [Bool.or_false] at Hf
                        clear he
                        cases hpb : isPlainB t
                        all_goals rw [hpb] at Hf
                        · skip
                          go_wp2
                          go_ret2
                          exact ⟨⟨_, ret_pair rfl (r_bad (unhide Hp) (by have := unhide Hln; omega) hlt (unhide Hf))⟩, hb⟩
                        · skip
                          go_wp2
                          go_round
                          case rel => exact ⟨k + 1, by omega, by go_num, hide (fun j h => by
                            rcases Nat.lt_succ_iff_lt_or_eq.1 h with h | h
                            · exact unhide hq j h
                            · subst h; exact unhide Hf)⟩
                          case measure => simp [intOf]; omega
                      · rw [he] at Hf hlast
                        rw [Bool.or_true] at Hf
                        clear he
                        go_wp2
                        go_round
                        case rel => exact ⟨k + 1, by omega, by go_num, hide (fun j h => by
                          rcases Nat.lt_succ_iff_lt_or_eq.1 h with h | h
                          · exact unhide hq j h
                          · subst h; exact unhide Hf)⟩
                        case measure => simp [intOf]; omega
                  · rw [ha, Bool.true_or, Bool.or_true] at Hf
                    go_wp2
                    go_round
                    case rel => exact ⟨k + 1, by omega, by go_num, hide (fun j h => by
                      rcases Nat.lt_succ_iff_lt_or_eq.1 h with h | h
                      · exact unhide hq j h
                      · subst h; exact unhide Hf)⟩
                    case measure => simp [intOf]; omega
          · have hkd : ¬ k < dots s s.size + 1 := by have := unhide Hln; omega
            go_wp2
            go_ret2
            exact ⟨⟨_, ret_pair rfl (r_good (unhide Hp) (by have := unhide Hln; omega) (fun j hj => unhide hq j (by omega)))⟩, hb⟩

set_option maxHeartbeats 400000 in
theorem rfilter_any (s : ByteArray) (w : World) (hs : s.size ≤ 140737488355328) :
    Calls Tryd.prog 16 #[.string s] w fun e w' => e = .returned (.int .i64 (errS true s)) ∧ Below w.heap.size w w' := by
  go_enter Tryd.func16, Tryd.ntmps16
  go_wp2_with (go_at_call 30; refine (rtokens_any true s _ hs).mono ?_; rintro e w1 ⟨⟨v, rfl⟩, hb⟩)
  go_ret
  exact ⟨rfl, hb⟩
end Go.Proofs.YtcbfmjjodfnacaaDoor
