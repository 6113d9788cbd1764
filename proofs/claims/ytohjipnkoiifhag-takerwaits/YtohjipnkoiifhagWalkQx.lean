/-
  The law TakerWaits: slices.Contains at numbers, the walk.
-/
import Derived.Test.YtohjipnkoiifhagWalkQw
import Derived.Deep.DeepCutAuto
namespace Go.Proofs.Ytohjipnkoiifhag
open Go.RowKit

set_option maxHeartbeats 1000000 in
theorem index_num (a : Option Addr) (l : List Int) (c : Nat) (x : Int) (w : World) (hsl : Dk.SlI w a l) (hl : l.length ≤ 140737488355328) (hx : ∃ k, k < l.length ∧ Dk.nth l k = x) :
    Calls Try.prog 6 #[.slice a l.length c, .int .i64 x] w fun e w' => (∃ k : Nat, e = .returned (.int .i64 (k : Int))) ∧ w' = w := by
  obtain ⟨q, hq, hqx⟩ := hx
  have HS := hide hsl
  have HX := hide hqx
  clear hsl hqx
  go_enter Try.func6, Try.ntmps6
  go_wp2
  go_loop [8] (fun iv => ∃ i : Nat, iv = .int .i64 i ∧ i ≤ q) (fun iv => l.length - (intOf iv).toNat)
  case atStart => exact ⟨0, rfl, Nat.zero_le _⟩
  case round =>
    obtain ⟨i, rfl, hi⟩ := hrel
    have hlt : i < l.length := by omega
    obtain ⟨g, o, rfl, _, e1⟩ := unhide HS i hlt
    by_cases h : x = Dk.nth l i
    · rw [← h] at e1
      clear h
      go_wp2
      go_ret
      exact ⟨⟨i, rfl⟩, rfl⟩
    · have hne : i ≠ q := fun z => h (by rw [z]; exact (unhide HX).symm)
      obtain ⟨y, hy⟩ : ∃ y, y = Dk.nth l i := ⟨_, rfl⟩
      rw [← hy] at e1 h
      have hb : (x == y) = false := by rw [beq_eq_false_iff_ne]; exact h
      clear hy h
      go_wp2
      go_round
      case rel => exact ⟨i + 1, by go_num, by omega⟩
      case measure => simp [intOf]; omega
set_option maxHeartbeats 1000000 in
theorem contains_num (a : Option Addr) (l : List Int) (c : Nat) (x : Int) (w : World) (hsl : Dk.SlI w a l) (hl : l.length ≤ 140737488355328) (hx : ∃ k, k < l.length ∧ Dk.nth l k = x) :
    Calls Try.prog 5 #[.slice a l.length c, .int .i64 x] w fun e w' => e = .returned (.bool true) ∧ w' = w := by
  have P1 := hide (index_num a l c x w hsl hl hx)
  clear hsl hx
  go_enter Try.func5, Try.ntmps5
  go_wp2_with fail
  refine (unhide P1).mono ?_
  rintro e w1 ⟨⟨k, rfl⟩, rfl⟩
  have hk : (0 : Int) ≤ (k : Int) := by omega
  go_wp2_with fail
  go_ret
  refine ⟨?_, rfl⟩
  first | rfl | simp
def t35 : Tk.Tkr := ⟨⟨#[]⟩, ⟨#[]⟩, 0, 0, 0, 0, [3, 5], 0, 0, false⟩
theorem two_nums (w : World) (T : TypeId) : Dk.SlI (w.alloc (.cells #[.int .i64 3, .int .i64 5] T)) (some ⟨w.heap.size, 0, none⟩) [3, 5] := fun k hk => by
  refine ⟨w.heap.size, 0, rfl, by simp, ?_⟩
  rw [cell_of_row _ w.heap.size (0 + k) _ _ _ (heap_alloc_new w _), Nat.zero_add]
  have : k < 2 := by simpa using hk
  rcases k with _ | _ | k
  · rfl
  · rfl
  · omega
theorem wait35 (W : World) (g : Nat) (h : Dk.SlI W (some ⟨g, 0, none⟩) [3, 5]) :
    Calls Try.prog 4 #[.agg #[.string ⟨#[]⟩, .string ⟨#[]⟩, .int .i64 0, .int .i64 0, .int .i64 0, .int .i64 0, .slice (some ⟨g, 0, none⟩) 2 2, .int .i64 0, .int .i64 0, .bool false], .int .i64 7] W fun e w' => e = .returned (.int .i64 5) ∧ Below W.heap.size W w' := by
  have h5 : Tk.waitV t35 7 = 5 := Tk.wait_at (k := 1) (by decide) (by decide)
  have := wait_any t35 (some ⟨g, 0, none⟩) 2 7 W h (by decide)
  rw [h5] at this
  exact this
set_option maxRecDepth 100000 in
set_option maxHeartbeats 2000000 in
theorem waits_law (t : Tk.Tkr) (a : Option Addr) (c : Nat) (n : Int) (w : World) (hsl : Dk.SlI w a t.bo) (hl : t.bo.length ≤ 140737488355328) :
    Calls Try.prog 3 #[tkV t a c, .int .i64 n] w fun e w' => e = .returned (.bool true) ∧ Below w.heap.size w w' := by
  have b0 : Below w.heap.size w (w.alloc (tkO t a c)) := (Below.refl _ _).alloc (Nat.le_refl _) _
  have hcs := TB.new w t a c
  obtain ⟨W0, hW0⟩ : ∃ W0, W0 = w.alloc (tkO t a c) := ⟨_, rfl⟩
  obtain ⟨b, hb⟩ : ∃ b, b = w.heap.size := ⟨_, rfl⟩
  have b1 : Below W0.heap.size W0 (W0.alloc (.cells #[.int .i64 3, .int .i64 5] 3)) := (Below.refl _ _).alloc (Nat.le_refl _) _
  have P1 := hide (wait35 (W0.alloc (.cells #[.int .i64 3, .int .i64 5] 3)) W0.heap.size (two_nums W0 3))
  have HW := hide (fun (W : World) (hW : Below W0.heap.size W0 W) => show TB W b t a c ∧ Dk.SlI W a t.bo ∧ Below w.heap.size w W from by
    subst hW0
    subst hb
    exact ⟨hcs.next hW, nums_on (nums_on hsl b0) hW, bstep b0 hW⟩)
  have B1 := hide b1
  clear hcs hsl b0 b1
  go_enter Try.func3, Try.ntmps3
  go_upto_region 1 with fail
  rw [← hW0, ← hb]
  clear hb hW0
  go_wp2_with fail
  refine (unhide P1).mono ?_
  rintro e w1 ⟨rfl, k1⟩
  have B2 := hide (bstep (unhide B1) k1)
  obtain ⟨⟨hbl, c0, c1, c2, c3, c4, c5, c6, c7, c8, c9⟩, hs1, _⟩ := unhide HW w1 (unhide B2)
  have P2 := hide (wait_any t a c n w1 hs1 hl)
  clear P1 k1 B1 hs1
  go_wp2_with fail
  refine (unhide P2).mono ?_
  rintro e w2 ⟨rfl, k2⟩
  have B3 := hide (bstep (unhide B2) k2)
  clear P2 k2 B2 hbl c0 c1 c2 c3 c4 c5 c6 c7 c8 c9
  obtain ⟨⟨hbl, c0, c1, c2, c3, c4, c5, c6, c7, c8, c9⟩, hs2, be⟩ := unhide HW w2 (unhide B3)
  have BE := hide be
  clear be HW B3
  by_cases h0 : t.bo = []
  · rw [Tk.wait_none h0]
    have hz : t.bo.length = 0 := by rw [h0]; rfl
    rw [hz] at c6
    clear h0 hs2 hz
    go_wp2_with fail
    go_ret
    refine ⟨?_, unhide BE⟩
    first | rfl | simp
  · have hp : 0 < t.bo.length := by
      cases hb : t.bo with
      | nil => exact absurd hb h0
      | cons x y => simp
    have hg0 : ((t.bo.length : Int) == 0) = false := by rw [beq_eq_false_iff_ne]; omega
    by_cases h1 : n ≤ 1
    · have hv := Tk.wait_at (n := n) hp (k := 0) (by omega)
      have PC := hide (contains_num a t.bo c (Tk.waitV t n) w2 hs2 hl ⟨0, hp, hv.symm⟩)
      obtain ⟨g, o, rfl, _, e1⟩ := hs2 0 hp
      rw [← hv, Nat.add_zero] at e1
      generalize Tk.waitV t n = x at *
      have q1 : decide (1 < n) = false := decide_eq_false (by omega)
      by_cases h2 : n < (t.bo.length : Int)
      · have q2 : decide (n < (t.bo.length : Int)) = true := decide_eq_true h2
        clear hv hs2 h0
        go_wp2_with (go_at_call 5; refine (unhide PC).mono ?_; rintro e w3 ⟨rfl, rfl⟩)
        all_goals go_ret
        all_goals refine ⟨?_, unhide BE⟩
        all_goals first | rfl | simp
      · have hL : t.bo.length = 1 := by omega
        have q2 : decide (n < (1 : Int)) = false := decide_eq_false (by omega)
        rw [hL] at c6 PC hg0
        clear hv hs2 h0 hp h2 hl hL
        go_wp2_with (go_at_call 5; refine (unhide PC).mono ?_; rintro e w3 ⟨rfl, rfl⟩)
        all_goals go_ret
        all_goals refine ⟨?_, unhide BE⟩
        all_goals first | rfl | simp
    · have q1 : decide (1 < n) = true := decide_eq_true (by omega)
      by_cases h2 : n < (t.bo.length : Int)
      · obtain ⟨k, rfl⟩ : ∃ k : Nat, n = (k : Int) + 1 := ⟨(n - 1).toNat, by omega⟩
        have hv := Tk.wait_at (n := (k : Int) + 1) (t := t) (k := k) (by omega) (by omega)
        have PC := hide (contains_num a t.bo c (Tk.waitV t ((k : Int) + 1)) w2 hs2 hl ⟨k, by omega, hv.symm⟩)
        generalize Tk.waitV t ((k : Int) + 1) = x at *
        have q2 : decide ((k : Int) + 1 < (t.bo.length : Int)) = true := decide_eq_true h2
        clear hv hs2 h0
        go_wp2_with (go_at_call 5; refine (unhide PC).mono ?_; rintro e w3 ⟨rfl, rfl⟩)
        all_goals go_ret
        all_goals refine ⟨?_, unhide BE⟩
        all_goals first | rfl | simp
      · obtain ⟨k, hk⟩ : ∃ k : Nat, t.bo.length = k + 1 := ⟨t.bo.length - 1, by omega⟩
        have hv := Tk.wait_at (n := n) (t := t) (k := k) (by omega) (by omega)
        have PC := hide (contains_num a t.bo c (Tk.waitV t n) w2 hs2 hl ⟨k, by omega, hv.symm⟩)
        obtain ⟨g, o, rfl, _, e1⟩ := hs2 k (by omega)
        rw [← hv] at e1
        generalize Tk.waitV t n = x at *
        have q2 : decide (n < (t.bo.length : Int)) = false := decide_eq_false h2
        rw [hk] at c6 PC hg0 q2 hl
        clear hv hs2 h0 hp h2 hk
        go_wp2_with (go_at_call 5; refine (unhide PC).mono ?_; rintro e w3 ⟨rfl, rfl⟩)
        all_goals go_ret
        all_goals refine ⟨?_, unhide BE⟩
        all_goals first | rfl | simp
end Go.Proofs.Ytohjipnkoiifhag
