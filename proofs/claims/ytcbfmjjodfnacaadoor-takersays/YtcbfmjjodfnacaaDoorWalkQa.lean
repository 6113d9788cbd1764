/-
  Contracts of the landed package taker: isWithin, isStartRight, areWaitsRight, isAckRight, Check, Wait.
-/
import Derived.Test.YtcbfmjjodfnacaaDoorRowQa
import Derived.Test.YtcbfmjjodfnacaaDoorPapQa
import Derived.Test.YtcbfmjjodfnacaaDoorWalkY1
import Derived.Test.YtcbfmjjodfnacaaDoorWalk2
namespace Go.Proofs.YtcbfmjjodfnacaaDoor
open Go.RowKit

set_option maxHeartbeats 400000 in
theorem within_any (n lo hi : Int) (w : World) :
    Calls Tryd.prog 43 #[.int .i64 n, .int .i64 lo, .int .i64 hi] w fun e w' => e = .returned (.bool (Tk.inB n lo hi)) ∧ w' = w := by
  unfold Tk.inB
  by_cases h1 : lo ≤ n
  · have e1 : decide (lo ≤ n) = true := decide_eq_true h1
    rw [e1, Bool.true_and]
    clear h1
    go_enter Tryd.func43, Tryd.ntmps43
    go_wp2
    go_ret
    exact ⟨rfl, rfl⟩
  · have e1 : decide (lo ≤ n) = false := decide_eq_false h1
    rw [e1, Bool.false_and]
    clear h1
    go_enter Tryd.func43, Tryd.ntmps43
    go_wp2
    go_ret
    exact ⟨rfl, rfl⟩
section
variable {t : Tk.Tkr} {a : Option Addr} {c : Nat} {w : World}
theorem tkb0 : Below w.heap.size w (w.alloc (tkO t a c)) := (Below.refl _ _).alloc (Nat.le_refl _) _
set_option maxHeartbeats 1000000 in
theorem start_any (t : Tk.Tkr) (a : Option Addr) (c : Nat) (w : World) :
    Calls Tryd.prog 23 #[tkV t a c] w fun e w' => e = .returned (.bool (Tk.startB t)) ∧ Below w.heap.size w w' := by
  have B0 := hide (tkb0 (t := t) (a := a) (c := c) (w := w))
  obtain ⟨_, c0, c1, c2, c3, c4, c5, c6, c7, c8, c9⟩ := TB.new w t a c
  unfold Tk.startB
  by_cases h3 : t.fr = 3
  · rw [if_pos h3]
    have e3 : (t.fr == 3) = true := by simpa using h3
    obtain ⟨R, hR⟩ : ∃ R, Tk.inB t.st 1 999999999 = R := ⟨_, rfl⟩
    have HR := hide hR
    rw [hR]
    clear h3 hR
    go_enter Tryd.func23, Tryd.ntmps23
    go_wp2_with (go_at_call 43; refine (within_any _ _ _ _).mono ?_; rintro e w2 ⟨rfl, rfl⟩; rw [unhide HR])
    go_ret
    exact ⟨rfl, unhide B0⟩
  · rw [if_neg h3]
    have e3 : (t.fr == 3) = false := by simpa using h3
    cases hR : Tk.inB t.fr 0 2 with
    | false =>
      have HR := hide hR
      rw [Bool.false_and]
      clear h3 hR
      go_enter Tryd.func23, Tryd.ntmps23
      go_wp2_with (go_at_call 43; refine (within_any _ _ _ _).mono ?_; rintro e w2 ⟨rfl, rfl⟩; rw [unhide HR])
      go_ret
      exact ⟨rfl, unhide B0⟩
    | true =>
      have HR := hide hR
      rw [Bool.true_and]
      clear h3 hR
      go_enter Tryd.func23, Tryd.ntmps23
      go_wp2_with (go_at_call 43; refine (within_any _ _ _ _).mono ?_; rintro e w2 ⟨rfl, rfl⟩; rw [unhide HR])
      go_ret
      refine ⟨?_, unhide B0⟩
      first | rfl | simp [beq_eq_decide]
set_option maxHeartbeats 1000000 in
theorem waits_any (t : Tk.Tkr) (a : Option Addr) (c : Nat) (w : World) (hsl : Dk.SlI w a t.bo) (hl : t.bo.length ≤ 140737488355328) :
    Calls Tryd.prog 44 #[tkV t a c] w fun e w' => e = .returned (.bool (Tk.waitsB t)) ∧ Below w.heap.size w w' := by
  have B0 := hide (tkb0 (t := t) (a := a) (c := c) (w := w))
  have HS := hide (nums_on hsl (unhide B0))
  have HT := hide (TB.new w t a c)
  obtain ⟨_, c0, c1, c2, c3, c4, c5, c6, c7, c8, c9⟩ := TB.new w t a c
  clear hsl
  obtain ⟨b, hb⟩ : ∃ b, b = w.heap.size := ⟨_, rfl⟩
  obtain ⟨W, hW⟩ : ∃ W, W = w.alloc (tkO t a c) := ⟨_, rfl⟩
  go_enter Tryd.func44, Tryd.ntmps44
  go_wp2_with fail
  rw [← hb, ← hW] at HT
  rw [← hW] at HS B0
  rw [← hb, ← hW]
  clear hb hW c0 c1 c2 c3 c4 c5 c6 c7 c8 c9
  go_loop [8] (fun iv => ∃ i : Nat, iv = .int .i64 i ∧ i ≤ t.bo.length ∧ Hid (∀ k, k < i → Tk.inB (Dk.nth t.bo k) 1 100000 = true)) (fun iv => t.bo.length - (intOf iv).toNat)
  case atStart => exact ⟨0, rfl, Nat.zero_le _, hide (fun k hk => absurd hk (Nat.not_lt_zero k))⟩
  case round =>
    obtain ⟨i, rfl, hi, hq⟩ := hrel
    by_cases hlt : i < t.bo.length
    · obtain ⟨g, o, rfl, _, e1⟩ := unhide HS i hlt
      have hm : Dk.nth t.bo i ∈ t.bo := by unfold Dk.nth; rw [List.getElem?_eq_getElem hlt]; exact List.getElem_mem hlt
      have HM := hide hm
      obtain ⟨x, hx⟩ : ∃ x, x = Dk.nth t.bo i := ⟨_, rfl⟩
      rw [← hx] at e1 HM
      have HX := hide hx
      clear hx hm
      cases hR : Tk.inB x 1 100000 with
      | false =>
        have HR := hide hR
        have HE : Hid (Tk.waitsB t = false) := hide (by
          unfold Tk.waitsB
          have : t.bo.all (fun n => Tk.inB n 1 100000) = false := by
            rw [List.all_eq_false]
            exact ⟨x, unhide HM, by rw [hR]; decide⟩
          rw [this]; rfl)
        clear hR
        go_wp2_with (go_at_call 43; refine (within_any _ _ _ _).mono ?_; rintro e w2 ⟨rfl, rfl⟩; rw [unhide HR])
        go_ret
        exact ⟨by rw [unhide HE]; rfl, unhide B0⟩
      | true =>
        have HR := hide hR
        clear hR
        go_wp2_with (go_at_call 43; refine (within_any _ _ _ _).mono ?_; rintro e w2 ⟨rfl, rfl⟩; rw [unhide HR])
        go_round
        case rel => exact ⟨i + 1, by go_num, by omega, hide (fun k hk => by
          rcases Nat.lt_succ_iff_lt_or_eq.1 hk with q | q
          · exact unhide hq k q
          · rw [q, ← unhide HX]; exact unhide HR)⟩
        case measure => simp [intOf]; omega
    · obtain rfl : i = t.bo.length := by omega
      have HE : Hid (Tk.waitsB t = Tk.inB t.wait 1 100000) := hide (by
        unfold Tk.waitsB
        have : t.bo.all (fun n => Tk.inB n 1 100000) = true := by
          rw [List.all_eq_true]
          intro x hx
          obtain ⟨k, hk, rfl⟩ := List.mem_iff_getElem.1 hx
          have := unhide hq k hk
          unfold Dk.nth at this
          rw [List.getElem?_eq_getElem hk] at this
          exact this
        rw [this]; rfl)
      obtain ⟨R, hR⟩ : ∃ R, Tk.inB t.wait 1 100000 = R := ⟨_, rfl⟩
      have HR := hide hR
      rw [hR] at HE
      have c5 := (unhide HT).c5
      have hbl := (unhide HT).lt
      clear hR hq HS HT
      go_wp2_with (go_at_call 43; refine (within_any _ _ _ _).mono ?_; rintro e w2 ⟨rfl, rfl⟩; rw [unhide HR])
      go_ret
      exact ⟨by rw [unhide HE]; rfl, unhide B0⟩
end
end Go.Proofs.YtcbfmjjodfnacaaDoor
