/-
  Contract of rillkeep.shown: the subject that two filters show.
-/
import Derived.Test.YthldjmljdklkfadDoorWalkK1
import Derived.Test.YthldjmljdklkfadDoorPlainJ
import Derived.Test.YthldjmljdklkfadDoorShelfJ
namespace Go.Proofs.YthldjmljdklkfadDoor
open Go.RowKit

/-- what the call has gathered -/
def Got (w : World) (B : Nat) (v : Value) (a b : List ByteArray) (k : Nat) : Prop := w.ownsRow B 9 1 v k ((List.range k).map fun j => Value.string (pickT a b j))
theorem got_next {w wr w1 : World} {B : Nat} {v v' : Value} {a b : List ByteArray} {k : Nat} {t : ByteArray} {o : Obj} (ht : pickT a b k = t) (hown : Got wr B v a b k) (hb : Below B w wr) (hB : B ≤ w.heap.size)
    (h1 : w1.ownsRow B 9 1 v' (k + 1) (((List.range k).map fun j => Value.string (pickT a b j)) ++ [.string t])) (hg : (wr.alloc o).grownBy w1 v.ownBlock) :
    Got w1 B v' a b (k + 1) ∧ Below B w w1 := by
  refine ⟨?_, ?_⟩
  · unfold Got
    rw [List.range_succ, List.map_append, List.map_cons, List.map_nil, ht]
    exact h1
  · have hs := hb.size
    refine (hb.alloc (by omega) o).grown hg (by simp; omega) ?_
    intro j hj
    exact (World.ownsRow.lt hown j hj).1

theorem got_value {w : World} {B : Nat} {v : Value} {a b : List ByteArray} {k : Nat} (h : Got w B v a b k) (hk : 0 < k) : ∃ g cap, v = .slice (some ⟨g, 0, none⟩) k cap ∧ k ≤ cap ∧ g < w.heap.size ∧ ∀ (j : Nat) x, ((List.range k).map (pickT a b))[j]? = some x → w.cell? ⟨g, 0 + j, none⟩ = some (.string x) := by
  obtain ⟨n, rfl⟩ : ∃ n, k = n + 1 := ⟨k - 1, by omega⟩
  obtain ⟨g, cap, rfl⟩ := own_some h
  refine ⟨g, cap, rfl, ?_, (World.ownsRow.lt h g rfl).2, fun j x hj => ?_⟩
  · rcases h.2 with ⟨h', _⟩ | ⟨g', cap', cur, h', _, _, hn, _⟩
    · simp at h'
    · simp only [Value.slice.injEq] at h'
      omega
  · have hlt : j < n + 1 := by
      rcases Nat.lt_or_ge j (n + 1) with h | h
      · exact h
      · rw [List.getElem?_eq_none (by simpa using h)] at hj; cases hj
    rw [Nat.zero_add, World.ownsRow.cellAt h j (by omega)]
    rw [List.getElem?_map] at hj ⊢
    cases e : (List.range (n + 1))[j]? with
    | none => rw [e] at hj; cases hj
    | some q => rw [e] at hj; cases hj; rfl
theorem join_len : ∀ (ps : List (List UInt8)) (m : Nat), (∀ p ∈ ps, p.length ≤ m) → (Lib.join ps [46]).length ≤ ps.length * (m + 1)
  | [], m, _ => by simp [Lib.join_nil]
  | [p], m, h => by rw [Lib.join_one]; have := h p (by simp); simp; omega
  | p :: q :: r, m, h => by
    have e : Lib.join (p :: q :: r) [46] = p ++ 46 :: Lib.join (q :: r) [46] := by simp [Lib.join, List.intercalate]
    have ih := join_len (q :: r) m (fun x hx => h x (by simp [hx]))
    have hp := h p (by simp)
    rw [e, List.length_append, List.length_cons]
    rw [List.length_cons (a := p), Nat.add_mul]
    omega
theorem plain_short {t : ByteArray} (h : isPlainB t = true) : t.data.toList.length ≤ 16 := by
  unfold isPlainB Pl.plainB at h
  simp only [Bool.and_eq_true, decide_eq_true_eq] at h
  exact h.2.1
theorem join_any {f g : ByteArray} {w : World} {B : Nat} {v : Value} (ef : errS true f = 0) (eg : errS true g = 0) (h : Got w B v (Pl.toks f) (Pl.toks g) (max (Pl.toks f).length (Pl.toks g).length)) :
    Calls Tryd.prog 22 #[v, .string ⟨#[46]⟩] w fun e w' => e = .returned (.string (shownS (Pl.toks f) (Pl.toks g))) ∧ Below w.heap.size w w' := by
  have n1 := few ef
  have n2 := few eg
  have n3 : (Pl.toks f).length ≠ 0 := fun e => toks_ne f (List.length_eq_zero_iff.1 e)
  obtain ⟨b, cap, rfl, hc, hb, hcell⟩ := got_value h (by omega)
  have hl : (shownL (Pl.toks f) (Pl.toks g)).length = max (Pl.toks f).length (Pl.toks g).length := by simp [shownL]
  have hj := join_len ((shownL (Pl.toks f) (Pl.toks g)).map (·.data.toList)) 16 (fun p hp => by
    obtain ⟨t, ht, rfl⟩ := List.mem_map.1 hp
    exact plain_short (shown_plain ef eg t ht))
  rw [List.length_map, hl] at hj
  have c := Tryd.strings_Join b 0 cap (shownL (Pl.toks f) (Pl.toks g)) ⟨#[46]⟩ w hcell hb (by omega) (by omega) (by show (Lib.join ((shownL (Pl.toks f) (Pl.toks g)).map (·.data.toList)) [46]).length ≤ _; omega)
  rw [hl] at c
  exact c

/-- the four ways of a token -/
theorem ways {f : ByteArray} (h : errS true f = 0) (k : Nat) :
    (¬ k < (Pl.toks f).length ∧ xOf (Pl.toks f) k = none) ∨ (k < (Pl.toks f).length ∧ ((tk (Pl.toks f) k).toList == [42]) = true ∧ xOf (Pl.toks f) k = none) ∨
    (k < (Pl.toks f).length ∧ ((tk (Pl.toks f) k).toList == [42]) = false ∧ ((tk (Pl.toks f) k).toList == [62]) = true ∧ xOf (Pl.toks f) k = none) ∨
    (k < (Pl.toks f).length ∧ ((tk (Pl.toks f) k).toList == [42]) = false ∧ ((tk (Pl.toks f) k).toList == [62]) = false ∧ ((tk (Pl.toks f) k).toList == []) = false ∧ xOf (Pl.toks f) k = some (tk (Pl.toks f) k)) := by
  by_cases hk : k < (Pl.toks f).length
  · refine Or.inr ?_
    cases hs : ((tk (Pl.toks f) k).toList == [42]) with
    | true => exact Or.inl ⟨hk, rfl, by unfold xOf stB; rw [hs]; simp⟩
    | false =>
      refine Or.inr ?_
      cases hg : ((tk (Pl.toks f) k).toList == [62]) with
      | true => exact Or.inl ⟨hk, rfl, rfl, by unfold xOf gtB; rw [hg]; simp⟩
      | false =>
        have e : xOf (Pl.toks f) k = some (tk (Pl.toks f) k) := by unfold xOf stB gtB; rw [hs, hg]; simp [hk]
        refine Or.inr ⟨hk, rfl, rfl, ?_, e⟩
        have hp := xOf_plain h e
        cases hn : ((tk (Pl.toks f) k).toList == []) with
        | false => rfl
        | true =>
          rw [ByteArray.toList_eq] at hn
          unfold isPlainB at hp
          rw [eq_of_beq hn] at hp
          revert hp
          decide
  · exact Or.inl ⟨hk, by unfold xOf; simp [hk]⟩

set_option maxRecDepth 100000 in
set_option maxHeartbeats 4000000 in
theorem shown_any (f g : ByteArray) (w : World) (hf : f.size ≤ 140737488355328) (hg : g.size ≤ 140737488355328) (ef : errS true f = 0) (eg : errS true g = 0) :
    Calls Tryd.prog 14 #[.string f, .string g] w fun e w' => e = .returned (.string (shownS (Pl.toks f) (Pl.toks g))) ∧ Below w.heap.size w w' := by
  obtain ⟨i0, hi, hz0, hz1, hz2⟩ := info_parts info9
  have na := few ef
  have nb := few eg
  have EF := hide ef
  have EG := hide eg
  clear ef eg
  go_enter Tryd.func14, Tryd.ntmps14
  go_wp2_with fail
  refine (split_few f _ hf na).mono ?_
  rintro e w1 ⟨ba, rfl, l1, l2, b1, r1⟩
  go_wp2_with fail
  refine (split_few g _ hg nb).mono ?_
  rintro e w2 ⟨bb, rfl, l3, l4, b2, r2⟩
  have R1 := hide (r1.below b2 l2)
  have R2 := hide r2
  have hlt1 : ba < w2.heap.size := by have := b2.size; omega
  have bw := bstep b1 b2
  clear r1 r2 b1 b2 l1 l2 l3
  go_wp2_with fail
  go_loopw [7, 8] (fun out i wr => ∃ k : Nat, k ≤ max (Pl.toks f).length (Pl.toks g).length ∧ i = .int .i64 k ∧ Got wr w2.heap.size out (Pl.toks f) (Pl.toks g) k ∧ Below w2.heap.size w2 wr) (fun _ i _ => max (Pl.toks f).length (Pl.toks g).length - (intOf i).toNat)
  case atStart => exact ⟨0, Nat.zero_le _, rfl, World.ownsRow_nil _ _ _ _, Below.refl _ _⟩
  case round =>
    obtain ⟨k, hk, rfl, hown, hb⟩ := hrel
    have hsz := hb.size
    have hown2 : wr.ownsRow w2.heap.size 9 1 u7 k ((List.range k).map fun j => Value.string (pickT (Pl.toks f) (Pl.toks g) j)) := hown
    have hca : ∀ (h : k < (Pl.toks f).length), wr.cell? ⟨ba, k, none⟩ = some (.string (tk (Pl.toks f) k)) := fun h => by have := (unhide R1).below hb hlt1 k h; rwa [Nat.zero_add] at this
    have hcb : ∀ (h : k < (Pl.toks g).length), wr.cell? ⟨bb, k, none⟩ = some (.string (tk (Pl.toks g) k)) := fun h => by have := (unhide R2).below hb l4 k h; rwa [Nat.zero_add] at this
    have hsym : k ≤ 8 := by omega
    rcases ways (unhide EF) k with ⟨ha, xa⟩ | ⟨ha, sa, xa⟩ | ⟨ha, sa, ga, xa⟩ | ⟨ha, sa, ga, ea, xa⟩
    · rcases ways (unhide EG) k with ⟨hb2, xb⟩ | ⟨hb2, sb, xb⟩ | ⟨hb2, sb, gb, xb⟩ | ⟨hb2, sb, gb, eb, xb⟩
      · clear hca hcb
        obtain rfl : k = max (Pl.toks f).length (Pl.toks g).length := by omega
        have Hown := hide hown
        have HX := hide (And.intro xa xb)
        clear xa xb hown hown2
        go_wp2_with fail
        refine (join_any (unhide EF) (unhide EG) (unhide Hown)).mono ?_
        rintro e w3 ⟨rfl, b3⟩
        go_wp2_with fail
        go_ret
        exact ⟨rfl, bw.trans ((hb.mono bw.size).trans (b3.mono (Nat.le_trans bw.size hsz)))⟩
      · have cb := hcb hb2
        clear hca hcb
        have HT := hide (show pickT (Pl.toks f) (Pl.toks g) k = ⟨#[120]⟩ from by unfold pickT; rw [xa, xb]; rfl)
        clear xa xb
        go_wp2_with (at_builtin; refine wpList_append_own _ rfl _ _ 31 rfl w2.heap.size 9 i0 (.string ByteArray.empty) 1 16 Tryd.underlying31 hi hz0 hz1 hz2 rfl (by decide) _ _ _ rfl (hown2.alloc _) ⟨wr.heap.size, 0, none⟩ 1 1 [.string (⟨#[120]⟩)] rfl rfl (one_new _ _ _) (one_cell _) (by unfold maxLen; omega) (by omega) (by simp; omega) ?_; intro v' w3 hown1 hgrow _)
        have R := got_next (unhide HT) hown hb (Nat.le_refl _) hown1 hgrow
        clear hown hown2 hown1 hgrow hb
        go_wp2_with fail
        go_roundw
        case rel => exact ⟨k + 1, by omega, by go_num, R.1, R.2⟩
        case measure => simp [intOf]; omega
      · have cb := hcb hb2
        clear hca hcb
        have HT := hide (show pickT (Pl.toks f) (Pl.toks g) k = ⟨#[120]⟩ from by unfold pickT; rw [xa, xb]; rfl)
        clear xa xb
        go_wp2_with (at_builtin; refine wpList_append_own _ rfl _ _ 31 rfl w2.heap.size 9 i0 (.string ByteArray.empty) 1 16 Tryd.underlying31 hi hz0 hz1 hz2 rfl (by decide) _ _ _ rfl (hown2.alloc _) ⟨wr.heap.size, 0, none⟩ 1 1 [.string (⟨#[120]⟩)] rfl rfl (one_new _ _ _) (one_cell _) (by unfold maxLen; omega) (by omega) (by simp; omega) ?_; intro v' w3 hown1 hgrow _)
        have R := got_next (unhide HT) hown hb (Nat.le_refl _) hown1 hgrow
        clear hown hown2 hown1 hgrow hb
        go_wp2_with fail
        go_roundw
        case rel => exact ⟨k + 1, by omega, by go_num, R.1, R.2⟩
        case measure => simp [intOf]; omega
      · have cb := hcb hb2
        clear hca hcb
        have HT := hide (show pickT (Pl.toks f) (Pl.toks g) k = tk (Pl.toks g) k from by unfold pickT; rw [xa, xb]; rfl)
        clear xa xb
        go_wp2_with (at_builtin; refine wpList_append_own _ rfl _ _ 31 rfl w2.heap.size 9 i0 (.string ByteArray.empty) 1 16 Tryd.underlying31 hi hz0 hz1 hz2 rfl (by decide) _ _ _ rfl (hown2.alloc _) ⟨wr.heap.size, 0, none⟩ 1 1 [.string (tk (Pl.toks g) k)] rfl rfl (one_new _ _ _) (one_cell _) (by unfold maxLen; omega) (by omega) (by simp; omega) ?_; intro v' w3 hown1 hgrow _)
        have R := got_next (unhide HT) hown hb (Nat.le_refl _) hown1 hgrow
        clear hown hown2 hown1 hgrow hb
        go_wp2_with fail
        go_roundw
        case rel => exact ⟨k + 1, by omega, by go_num, R.1, R.2⟩
        case measure => simp [intOf]; omega
    · rcases ways (unhide EG) k with ⟨hb2, xb⟩ | ⟨hb2, sb, xb⟩ | ⟨hb2, sb, gb, xb⟩ | ⟨hb2, sb, gb, eb, xb⟩
      · have ca := hca ha
        clear hca hcb
        have HT := hide (show pickT (Pl.toks f) (Pl.toks g) k = ⟨#[120]⟩ from by unfold pickT; rw [xa, xb]; rfl)
        clear xa xb
        go_wp2_with (at_builtin; refine wpList_append_own _ rfl _ _ 31 rfl w2.heap.size 9 i0 (.string ByteArray.empty) 1 16 Tryd.underlying31 hi hz0 hz1 hz2 rfl (by decide) _ _ _ rfl (hown2.alloc _) ⟨wr.heap.size, 0, none⟩ 1 1 [.string (⟨#[120]⟩)] rfl rfl (one_new _ _ _) (one_cell _) (by unfold maxLen; omega) (by omega) (by simp; omega) ?_; intro v' w3 hown1 hgrow _)
        have R := got_next (unhide HT) hown hb (Nat.le_refl _) hown1 hgrow
        clear hown hown2 hown1 hgrow hb
        go_wp2_with fail
        go_roundw
        case rel => exact ⟨k + 1, by omega, by go_num, R.1, R.2⟩
        case measure => simp [intOf]; omega
      · have ca := hca ha
        have cb := hcb hb2
        clear hca hcb
        have HT := hide (show pickT (Pl.toks f) (Pl.toks g) k = ⟨#[120]⟩ from by unfold pickT; rw [xa, xb]; rfl)
        clear xa xb
        go_wp2_with (at_builtin; refine wpList_append_own _ rfl _ _ 31 rfl w2.heap.size 9 i0 (.string ByteArray.empty) 1 16 Tryd.underlying31 hi hz0 hz1 hz2 rfl (by decide) _ _ _ rfl (hown2.alloc _) ⟨wr.heap.size, 0, none⟩ 1 1 [.string (⟨#[120]⟩)] rfl rfl (one_new _ _ _) (one_cell _) (by unfold maxLen; omega) (by omega) (by simp; omega) ?_; intro v' w3 hown1 hgrow _)
        have R := got_next (unhide HT) hown hb (Nat.le_refl _) hown1 hgrow
        clear hown hown2 hown1 hgrow hb
        go_wp2_with fail
        go_roundw
        case rel => exact ⟨k + 1, by omega, by go_num, R.1, R.2⟩
        case measure => simp [intOf]; omega
      · have ca := hca ha
        have cb := hcb hb2
        clear hca hcb
        have HT := hide (show pickT (Pl.toks f) (Pl.toks g) k = ⟨#[120]⟩ from by unfold pickT; rw [xa, xb]; rfl)
        clear xa xb
        go_wp2_with (at_builtin; refine wpList_append_own _ rfl _ _ 31 rfl w2.heap.size 9 i0 (.string ByteArray.empty) 1 16 Tryd.underlying31 hi hz0 hz1 hz2 rfl (by decide) _ _ _ rfl (hown2.alloc _) ⟨wr.heap.size, 0, none⟩ 1 1 [.string (⟨#[120]⟩)] rfl rfl (one_new _ _ _) (one_cell _) (by unfold maxLen; omega) (by omega) (by simp; omega) ?_; intro v' w3 hown1 hgrow _)
        have R := got_next (unhide HT) hown hb (Nat.le_refl _) hown1 hgrow
        clear hown hown2 hown1 hgrow hb
        go_wp2_with fail
        go_roundw
        case rel => exact ⟨k + 1, by omega, by go_num, R.1, R.2⟩
        case measure => simp [intOf]; omega
      · have ca := hca ha
        have cb := hcb hb2
        clear hca hcb
        have HT := hide (show pickT (Pl.toks f) (Pl.toks g) k = tk (Pl.toks g) k from by unfold pickT; rw [xa, xb]; rfl)
        clear xa xb
        go_wp2_with (at_builtin; refine wpList_append_own _ rfl _ _ 31 rfl w2.heap.size 9 i0 (.string ByteArray.empty) 1 16 Tryd.underlying31 hi hz0 hz1 hz2 rfl (by decide) _ _ _ rfl (hown2.alloc _) ⟨wr.heap.size, 0, none⟩ 1 1 [.string (tk (Pl.toks g) k)] rfl rfl (one_new _ _ _) (one_cell _) (by unfold maxLen; omega) (by omega) (by simp; omega) ?_; intro v' w3 hown1 hgrow _)
        have R := got_next (unhide HT) hown hb (Nat.le_refl _) hown1 hgrow
        clear hown hown2 hown1 hgrow hb
        go_wp2_with fail
        go_roundw
        case rel => exact ⟨k + 1, by omega, by go_num, R.1, R.2⟩
        case measure => simp [intOf]; omega
    · rcases ways (unhide EG) k with ⟨hb2, xb⟩ | ⟨hb2, sb, xb⟩ | ⟨hb2, sb, gb, xb⟩ | ⟨hb2, sb, gb, eb, xb⟩
      · have ca := hca ha
        clear hca hcb
        have HT := hide (show pickT (Pl.toks f) (Pl.toks g) k = ⟨#[120]⟩ from by unfold pickT; rw [xa, xb]; rfl)
        clear xa xb
        go_wp2_with (at_builtin; refine wpList_append_own _ rfl _ _ 31 rfl w2.heap.size 9 i0 (.string ByteArray.empty) 1 16 Tryd.underlying31 hi hz0 hz1 hz2 rfl (by decide) _ _ _ rfl (hown2.alloc _) ⟨wr.heap.size, 0, none⟩ 1 1 [.string (⟨#[120]⟩)] rfl rfl (one_new _ _ _) (one_cell _) (by unfold maxLen; omega) (by omega) (by simp; omega) ?_; intro v' w3 hown1 hgrow _)
        have R := got_next (unhide HT) hown hb (Nat.le_refl _) hown1 hgrow
        clear hown hown2 hown1 hgrow hb
        go_wp2_with fail
        go_roundw
        case rel => exact ⟨k + 1, by omega, by go_num, R.1, R.2⟩
        case measure => simp [intOf]; omega
      · have ca := hca ha
        have cb := hcb hb2
        clear hca hcb
        have HT := hide (show pickT (Pl.toks f) (Pl.toks g) k = ⟨#[120]⟩ from by unfold pickT; rw [xa, xb]; rfl)
        clear xa xb
        go_wp2_with (at_builtin; refine wpList_append_own _ rfl _ _ 31 rfl w2.heap.size 9 i0 (.string ByteArray.empty) 1 16 Tryd.underlying31 hi hz0 hz1 hz2 rfl (by decide) _ _ _ rfl (hown2.alloc _) ⟨wr.heap.size, 0, none⟩ 1 1 [.string (⟨#[120]⟩)] rfl rfl (one_new _ _ _) (one_cell _) (by unfold maxLen; omega) (by omega) (by simp; omega) ?_; intro v' w3 hown1 hgrow _)
        have R := got_next (unhide HT) hown hb (Nat.le_refl _) hown1 hgrow
        clear hown hown2 hown1 hgrow hb
        go_wp2_with fail
        go_roundw
        case rel => exact ⟨k + 1, by omega, by go_num, R.1, R.2⟩
        case measure => simp [intOf]; omega
      · have ca := hca ha
        have cb := hcb hb2
        clear hca hcb
        have HT := hide (show pickT (Pl.toks f) (Pl.toks g) k = ⟨#[120]⟩ from by unfold pickT; rw [xa, xb]; rfl)
        clear xa xb
        go_wp2_with (at_builtin; refine wpList_append_own _ rfl _ _ 31 rfl w2.heap.size 9 i0 (.string ByteArray.empty) 1 16 Tryd.underlying31 hi hz0 hz1 hz2 rfl (by decide) _ _ _ rfl (hown2.alloc _) ⟨wr.heap.size, 0, none⟩ 1 1 [.string (⟨#[120]⟩)] rfl rfl (one_new _ _ _) (one_cell _) (by unfold maxLen; omega) (by omega) (by simp; omega) ?_; intro v' w3 hown1 hgrow _)
        have R := got_next (unhide HT) hown hb (Nat.le_refl _) hown1 hgrow
        clear hown hown2 hown1 hgrow hb
        go_wp2_with fail
        go_roundw
        case rel => exact ⟨k + 1, by omega, by go_num, R.1, R.2⟩
        case measure => simp [intOf]; omega
      · have ca := hca ha
        have cb := hcb hb2
        clear hca hcb
        have HT := hide (show pickT (Pl.toks f) (Pl.toks g) k = tk (Pl.toks g) k from by unfold pickT; rw [xa, xb]; rfl)
        clear xa xb
        go_wp2_with (at_builtin; refine wpList_append_own _ rfl _ _ 31 rfl w2.heap.size 9 i0 (.string ByteArray.empty) 1 16 Tryd.underlying31 hi hz0 hz1 hz2 rfl (by decide) _ _ _ rfl (hown2.alloc _) ⟨wr.heap.size, 0, none⟩ 1 1 [.string (tk (Pl.toks g) k)] rfl rfl (one_new _ _ _) (one_cell _) (by unfold maxLen; omega) (by omega) (by simp; omega) ?_; intro v' w3 hown1 hgrow _)
        have R := got_next (unhide HT) hown hb (Nat.le_refl _) hown1 hgrow
        clear hown hown2 hown1 hgrow hb
        go_wp2_with fail
        go_roundw
        case rel => exact ⟨k + 1, by omega, by go_num, R.1, R.2⟩
        case measure => simp [intOf]; omega
    · rcases ways (unhide EG) k with ⟨hb2, xb⟩ | ⟨hb2, sb, xb⟩ | ⟨hb2, sb, gb, xb⟩ | ⟨hb2, sb, gb, eb, xb⟩
      · have ca := hca ha
        clear hca hcb
        have HT := hide (show pickT (Pl.toks f) (Pl.toks g) k = tk (Pl.toks f) k from by unfold pickT; rw [xa]; rfl)
        clear xa xb
        go_wp2_with (at_builtin; refine wpList_append_own _ rfl _ _ 31 rfl w2.heap.size 9 i0 (.string ByteArray.empty) 1 16 Tryd.underlying31 hi hz0 hz1 hz2 rfl (by decide) _ _ _ rfl (hown2.alloc _) ⟨wr.heap.size, 0, none⟩ 1 1 [.string (tk (Pl.toks f) k)] rfl rfl (one_new _ _ _) (one_cell _) (by unfold maxLen; omega) (by omega) (by simp; omega) ?_; intro v' w3 hown1 hgrow _)
        have R := got_next (unhide HT) hown hb (Nat.le_refl _) hown1 hgrow
        clear hown hown2 hown1 hgrow hb
        go_wp2_with fail
        go_roundw
        case rel => exact ⟨k + 1, by omega, by go_num, R.1, R.2⟩
        case measure => simp [intOf]; omega
      · have ca := hca ha
        have cb := hcb hb2
        clear hca hcb
        have HT := hide (show pickT (Pl.toks f) (Pl.toks g) k = tk (Pl.toks f) k from by unfold pickT; rw [xa]; rfl)
        clear xa xb
        go_wp2_with (at_builtin; refine wpList_append_own _ rfl _ _ 31 rfl w2.heap.size 9 i0 (.string ByteArray.empty) 1 16 Tryd.underlying31 hi hz0 hz1 hz2 rfl (by decide) _ _ _ rfl (hown2.alloc _) ⟨wr.heap.size, 0, none⟩ 1 1 [.string (tk (Pl.toks f) k)] rfl rfl (one_new _ _ _) (one_cell _) (by unfold maxLen; omega) (by omega) (by simp; omega) ?_; intro v' w3 hown1 hgrow _)
        have R := got_next (unhide HT) hown hb (Nat.le_refl _) hown1 hgrow
        clear hown hown2 hown1 hgrow hb
        go_wp2_with fail
        go_roundw
        case rel => exact ⟨k + 1, by omega, by go_num, R.1, R.2⟩
        case measure => simp [intOf]; omega
      · have ca := hca ha
        have cb := hcb hb2
        clear hca hcb
        have HT := hide (show pickT (Pl.toks f) (Pl.toks g) k = tk (Pl.toks f) k from by unfold pickT; rw [xa]; rfl)
        clear xa xb
        go_wp2_with (at_builtin; refine wpList_append_own _ rfl _ _ 31 rfl w2.heap.size 9 i0 (.string ByteArray.empty) 1 16 Tryd.underlying31 hi hz0 hz1 hz2 rfl (by decide) _ _ _ rfl (hown2.alloc _) ⟨wr.heap.size, 0, none⟩ 1 1 [.string (tk (Pl.toks f) k)] rfl rfl (one_new _ _ _) (one_cell _) (by unfold maxLen; omega) (by omega) (by simp; omega) ?_; intro v' w3 hown1 hgrow _)
        have R := got_next (unhide HT) hown hb (Nat.le_refl _) hown1 hgrow
        clear hown hown2 hown1 hgrow hb
        go_wp2_with fail
        go_roundw
        case rel => exact ⟨k + 1, by omega, by go_num, R.1, R.2⟩
        case measure => simp [intOf]; omega
      · have ca := hca ha
        have cb := hcb hb2
        clear hca hcb
        have HT := hide (show pickT (Pl.toks f) (Pl.toks g) k = tk (Pl.toks f) k from by unfold pickT; rw [xa]; rfl)
        clear xa xb
        go_wp2_with (at_builtin; refine wpList_append_own _ rfl _ _ 31 rfl w2.heap.size 9 i0 (.string ByteArray.empty) 1 16 Tryd.underlying31 hi hz0 hz1 hz2 rfl (by decide) _ _ _ rfl (hown2.alloc _) ⟨wr.heap.size, 0, none⟩ 1 1 [.string (tk (Pl.toks f) k)] rfl rfl (one_new _ _ _) (one_cell _) (by unfold maxLen; omega) (by omega) (by simp; omega) ?_; intro v' w3 hown1 hgrow _)
        have R := got_next (unhide HT) hown hb (Nat.le_refl _) hown1 hgrow
        clear hown hown2 hown1 hgrow hb
        go_wp2_with fail
        go_roundw
        case rel => exact ⟨k + 1, by omega, by go_num, R.1, R.2⟩
        case measure => simp [intOf]; omega
end Go.Proofs.YthldjmljdklkfadDoor
