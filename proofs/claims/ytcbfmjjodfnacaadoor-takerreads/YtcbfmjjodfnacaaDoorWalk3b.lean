/-
  Contract of rillref.Pieces at any byte: it lays the pieces into a row of its own.
-/
import Derived.Test.YtcbfmjjodfnacaaDoorJointWalk3Walk4
import Derived.Test.YtcbfmjjodfnacaaDoorJointPapPdPapPwPapPr
namespace Go.Proofs.YtcbfmjjodfnacaaDoor
open Go.RowKit

def isCut (b : UInt8) (s : ByteArray) (k : Nat) (l : List ByteArray) : Prop := l.map (·.data.toList) = Pn.cut b (s.data.toList.take k)

theorem isCut_zero (b : UInt8) (s : ByteArray) : isCut b s 0 [ByteArray.empty] := rfl
theorem isCut_ne {b : UInt8} {s : ByteArray} {k : Nat} {l : List ByteArray} (h : isCut b s k l) : l ≠ [] := by
  intro e; subst e
  exact Pn.cut_ne b _ h.symm
theorem isCut_dot {b : UInt8} {s : ByteArray} {k : Nat} {l : List ByteArray} (h : isCut b s k l) (hk : k < s.size) (hd : s[k] = b) : isCut b s (k + 1) (l ++ [ByteArray.empty]) := by
  unfold isCut at *
  rw [take_snoc s k hk, hd, Pn.cut_snoc_at, ← h, List.map_append]
  rfl
theorem isCut_byte {b : UInt8} {s : ByteArray} {k : Nat} {i : List ByteArray} {t : ByteArray} (h : isCut b s k (i ++ [t])) (hk : k < s.size) (hd : s[k] ≠ b) : isCut b s (k + 1) (i ++ [t ++ s.extract k (k + 1)]) := by
  unfold isCut at *
  have e := Pn.cut_snoc b (s.data.toList.take k) s[k] hd (i.map (·.data.toList)) t.data.toList (by rw [← h, List.map_append]; rfl)
  rw [take_snoc s k hk, e, List.map_append]
  congr 1
  rw [List.map_cons, List.map_nil, ByteArray.data_append, Array.toList_append, Lib.extract_data]
  congr 2
  rw [Nat.add_sub_cancel_left, List.drop_eq_getElem_cons (by simpa using hk)]
  rfl

theorem isCut_len {b : UInt8} {s : ByteArray} {k : Nat} {l : List ByteArray} (h : isCut b s k l) : l.length ≤ (Pn.cut b s.data.toList).length := by
  have h1 : l.length = (Pn.cut b (s.data.toList.take k)).length := by rw [← h, List.length_map]
  rw [h1, Pn.cut_length, Pn.cut_length]
  have := (List.take_sublist k s.data.toList).count_le b
  omega
theorem isCut_size {b : UInt8} {s : ByteArray} {k : Nat} {i : List ByteArray} {t : ByteArray} (h : isCut b s k (i ++ [t])) : t.size ≤ s.size := by
  have h1 : t.data.toList ∈ Pn.cut b (s.data.toList.take k) := by rw [← h]; simp
  have h2 := Pn.cut_short b _ _ h1
  have h3 : (s.data.toList.take k).length ≤ s.size := by simp; omega
  have h4 : t.data.toList.length = t.size := by simp
  omega
theorem rel_cut {b : UInt8} {s : ByteArray} {k g cap g1 cap1 : Nat} {l : List ByteArray} {w wr w1 : World} {o : Obj} (hlt : k < s.size) (hd : s[k] = b) (hown : Own wr w.heap.size g cap l) (hp : isCut b s k l) (hb : Below w.heap.size w wr)
    (h1 : w1.ownsRow w.heap.size 9 1 (.slice (some ⟨g1, 0, none⟩) (l.length + 1) cap1) (l.length + 1) (l.map Value.string ++ [.string ByteArray.empty]))
    (hg : (wr.alloc o).grownBy w1 (Value.ownBlock (.slice (some ⟨g, 0, none⟩) l.length cap))) :
    Own w1 w.heap.size g1 cap1 (l ++ [ByteArray.empty]) ∧ isCut b s (k + 1) (l ++ [ByteArray.empty]) ∧ Below w.heap.size w w1 := by
  refine ⟨?_, isCut_dot hp hlt hd, ?_⟩
  · unfold Own
    rw [List.length_append, List.map_append]
    exact h1
  · refine (hb.alloc hb.size o).grown hg (by have := hb.size; simp; omega) ?_
    intro j hj
    have := (own_base hown).1
    simp [Value.ownBlock] at hj
    omega

theorem rel_more {b : UInt8} {s : ByteArray} {k g cap : Nat} {i : List ByteArray} {t : ByteArray} {w wr : World} (hlt : k < s.size) (hd : s[k] ≠ b) (hown : Own wr w.heap.size g cap (i ++ [t])) (hp : isCut b s k (i ++ [t])) (hb : Below w.heap.size w wr) :
    Own (wr.setCell ⟨g, i.length, none⟩ (.string (t ++ s.extract k (k + 1)))) w.heap.size g cap (i ++ [t ++ s.extract k (k + 1)]) ∧ isCut b s (k + 1) (i ++ [t ++ s.extract k (k + 1)]) ∧
      Below w.heap.size w (wr.setCell ⟨g, i.length, none⟩ (.string (t ++ s.extract k (k + 1)))) := by
  refine ⟨?_, isCut_byte hp hlt hd, hb.setCell (own_base hown).1 _⟩
  have h := (World.ownsRow.stored hown i.length (.string (t ++ s.extract k (k + 1)))).1
  unfold Own
  have e : (i ++ [t]).length = (i ++ [t ++ s.extract k (k + 1)]).length := by simp
  rw [e] at h
  rw [List.map_append, List.map_cons, List.map_nil, List.set_append_right _ _ (by simp)] at h
  rw [List.map_append]
  simpa using h

set_option maxHeartbeats 1000000 in
theorem pieces_at (b : UInt8) (s : ByteArray) (w : World) (hs : s.size ≤ 140737488355328) (hn : (Pn.cut b s.data.toList).length ≤ 1099511627776) :
    Calls Tryd.prog 26 #[.string s, .int .u8 (b.toNat : Int)] w fun e w' => ∃ g cap l, e = .returned (.slice (some ⟨g, 0, none⟩) l.length cap) ∧ Own w' w.heap.size g cap l ∧ isCut b s s.size l ∧ Below w.heap.size w w' := by
  obtain ⟨i0, hi, hz0, hz1, hz2⟩ := info_parts info9
  go_enter Tryd.func26, Tryd.ntmps26
  go_wp2
  go_loopw [5, 6] (fun out i wr => ∃ (k g cap : Nat) (l : List ByteArray), k ≤ s.size ∧ i = .int .i64 k ∧ out = .slice (some ⟨g, 0, none⟩) l.length cap ∧ Own wr w.heap.size g cap l ∧ Hid (isCut b s k l) ∧ Below w.heap.size w wr) (fun _ i _ => s.size - (intOf i).toNat)
  case atStart => exact ⟨0, w.heap.size, 1, [ByteArray.empty], Nat.zero_le _, rfl, rfl, World.ownsRow_lit w #[.string ByteArray.empty] 1 (Nat.le_refl _) (by decide) rfl, hide (isCut_zero b s), (Below.refl _ _).alloc (Nat.le_refl _) _⟩
  case round =>
    obtain ⟨k, g, cap, l, hk, rfl, rfl, hown, hp, hb⟩ := hrel
    by_cases hlt : k < s.size
    · by_cases hd : s[k] = b
      · have hlen : l.length ≤ 1099511627776 := Nat.le_trans (isCut_len (unhide hp)) hn
        have hsz := hb.size
        have hown2 : wr.ownsRow w.heap.size 9 1 (.slice (some ⟨g, 0, none⟩) l.length cap) l.length (l.map Value.string) := hown
        go_wp2_with (at_builtin; refine wpList_append_own _ rfl (.tmp 19) (.tmp 20) 40 rfl w.heap.size 9 i0 (.string ByteArray.empty) 1 16 Tryd.underlying40 hi hz0 hz1 hz2 rfl (by decide) _ _ _ rfl (hown2.alloc _) ⟨wr.heap.size, 0, none⟩ 1 1 [.string ByteArray.empty] rfl rfl (one_new _ _ _) (one_cell _) (by unfold maxLen; omega) (by omega) (by simp; omega) ?_; intro v' w1 hown1 hgrow _)
        obtain ⟨g1, cap1, rfl⟩ := own_some hown1
        have R := rel_cut hlt hd hown (unhide hp) hb hown1 hgrow
        clear hown hown2 hown1 hgrow hb hp
        go_wp2
        go_roundw
        case rel => exact ⟨k + 1, g1, cap1, l ++ [ByteArray.empty], by omega, by go_num, by simp, R.1, hide R.2.1, R.2.2⟩
        case measure => simp [intOf]; omega
      · obtain ⟨i, t, rfl⟩ : ∃ i t, l = i ++ [t] := ⟨l.dropLast, l.getLast (isCut_ne (unhide hp)), (List.dropLast_concat_getLast _).symm⟩
        have hc := own_last hown
        have hf := own_free hown i.length
        have hl1 : ((i ++ [t]).length : Int) - 1 = (i.length : Int) := by simp
        have hl2 : (i ++ [t]).length = i.length + 1 := by simp
        have hlen : i.length ≤ 1099511627776 := by have := isCut_len (unhide hp); simp at this; omega
        have hne : ((s[k].toNat : Int) == (b.toNat : Int)) = false := by rw [beq_eq_false_iff_ne]; intro e; exact hd (UInt8.toNat_inj.1 (by omega))
        have hts : t.size ≤ s.size := isCut_size (unhide hp)
        have hex : (s.extract k (k + 1)).size ≤ 1 := by rw [ByteArray.size_extract]; omega
        have hsum : t.size + (s.extract k (k + 1)).size ≤ 9223372036854775807 := by omega
        have Hown := hide hown
        clear hown hl1
        go_wp2
        go_region
        all_goals go_wp2
        all_goals
          have R := rel_more hlt hd (unhide Hown) (unhide hp) hb
          refine ⟨⟨k + 1, g, cap, i ++ [t ++ s.extract k (k + 1)], by omega, by go_num, by simp, R.1.drew, hide R.2.1, R.2.2.drew⟩, ?_⟩
          simp [intOf]; omega
    · go_wp2
      go_ret
      obtain rfl : k = s.size := by omega
      exact ⟨g, cap, l, rfl, hown, unhide hp, hb⟩
end Go.Proofs.YtcbfmjjodfnacaaDoor
