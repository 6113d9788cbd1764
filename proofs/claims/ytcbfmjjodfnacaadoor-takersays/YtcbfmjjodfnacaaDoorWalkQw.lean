/-
  Contract of the landed taker.Wait.
-/
import Derived.Test.YtcbfmjjodfnacaaDoorRowQa
namespace Go.Proofs.YtcbfmjjodfnacaaDoor
open Go.RowKit

set_option maxHeartbeats 1000000 in
theorem wait_any (t : Tk.Tkr) (a : Option Addr) (c : Nat) (n : Int) (w : World) (hsl : Dk.SlI w a t.bo) (hl : t.bo.length ≤ 140737488355328) :
    Calls Tryd.prog 10 #[tkV t a c, .int .i64 n] w fun e w' => e = .returned (.int .i64 (Tk.waitV t n)) ∧ Below w.heap.size w w' := by
  have b0 : Below w.heap.size w (w.alloc (tkO t a c)) := (Below.refl _ _).alloc (Nat.le_refl _) _
  have hsl0 := nums_on hsl b0
  have hcs := TB.new w t a c
  by_cases h0 : t.bo = []
  · rw [Tk.wait_none h0]
    have hz : t.bo.length = 0 := by rw [h0]; rfl
    have c6 := hcs.c6
    have c5 := hcs.c5
    unfold tkV
    unfold tkO at b0 c5 c6
    rw [hz] at b0 c5 c6 ⊢
    have B0 := hide b0
    clear b0 hsl h0 hz hcs hsl0
    go_enter Tryd.func10, Tryd.ntmps10
    go_wp2
    go_ret
    exact ⟨rfl, unhide B0⟩
  · have hp : 0 < t.bo.length := by
      cases hb : t.bo with
      | nil => exact absurd hb h0
      | cons x y => simp
    have c6 := hcs.c6
    have B0 := hide b0
    have hg0 : ((t.bo.length : Int) == 0) = false := by rw [beq_eq_false_iff_ne]; omega
    by_cases h1 : n ≤ 1
    · rw [Tk.wait_at hp (k := 0) (by omega)]
      obtain ⟨g, o, rfl, _, e1⟩ := hsl0 0 hp
      obtain ⟨x, hx⟩ : ∃ x, Dk.nth t.bo 0 = x := ⟨_, rfl⟩
      rw [hx] at e1 ⊢
      rw [Nat.add_zero] at e1
      clear b0 hsl h0 hcs hsl0 hx
      go_enter Tryd.func10, Tryd.ntmps10
      go_wp2
      all_goals go_ret
      all_goals exact ⟨rfl, unhide B0⟩
    · by_cases h2 : n ≤ (t.bo.length : Int)
      · obtain ⟨k, rfl⟩ : ∃ k : Nat, n = (k : Int) + 1 := ⟨(n - 1).toNat, by omega⟩
        have hkl : k < t.bo.length := by omega
        rw [Tk.wait_at hkl (by omega)]
        obtain ⟨g, o, rfl, _, e1⟩ := hsl0 k hkl
        obtain ⟨x, hx⟩ : ∃ x, Dk.nth t.bo k = x := ⟨_, rfl⟩
        rw [hx] at e1 ⊢
        have hk1 : (k : Int) < (t.bo.length : Int) := by omega
        clear b0 hsl h0 hcs hsl0 hx
        go_enter Tryd.func10, Tryd.ntmps10
        go_wp2
        all_goals go_ret
        all_goals exact ⟨rfl, unhide B0⟩
      · obtain ⟨k, hk⟩ : ∃ k : Nat, t.bo.length = k + 1 := ⟨t.bo.length - 1, by omega⟩
        rw [Tk.wait_at (k := k) (by omega) (by omega)]
        obtain ⟨g, o, rfl, _, e1⟩ := hsl0 k (by omega)
        obtain ⟨x, hx⟩ : ∃ x, Dk.nth t.bo k = x := ⟨_, rfl⟩
        rw [hx] at e1 ⊢
        clear b0 hsl h0 hcs hsl0 hx
        unfold tkV
        unfold tkO at *
        rw [hk] at hg0 hl h2 c6 e1 B0 ⊢
        clear hk hp
        go_enter Tryd.func10, Tryd.ntmps10
        go_wp2
        all_goals go_ret
        all_goals exact ⟨rfl, unhide B0⟩
end Go.Proofs.YtcbfmjjodfnacaaDoor
