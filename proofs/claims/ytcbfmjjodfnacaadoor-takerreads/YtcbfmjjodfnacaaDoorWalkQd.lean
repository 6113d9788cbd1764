/-
  Contracts of the landed package taker: what stands behind a word (valueOfFrom, valueOfAck, valueOfNumber).
-/
import Derived.Test.YtcbfmjjodfnacaaDoorRowQa
import Derived.Test.YtcbfmjjodfnacaaDoorPapQb
import Derived.Test.YtcbfmjjodfnacaaDoorPapPf
import Derived.Test.YtcbfmjjodfnacaaDoorWalkB5a
namespace Go.Proofs.YtcbfmjjodfnacaaDoor
open Go.RowKit

/-- what a value function answers: whether the word is there, and what stands behind it -/
def ValIs (o : Option (List UInt8)) (e : Ending) : Prop := ∃ s : ByteArray, e = .returned (.tuple #[.string s, .bool o.isSome]) ∧ (∀ v, o = some v → s = Pn.bs v) ∧ s.size ≤ 1000
set_option maxHeartbeats 1000000 in
theorem val_num (n : Int) (w : World) (h : 0 ≤ n ∧ n ≤ 999999999) (hT : TabP w) :
    Calls Tryd.prog 34 #[.int .i64 n] w fun e w' => ValIs (Tk.numV n) e ∧ Below w.heap.size w w' := by
  have PI := hide (itoa_any n (by omega) (by omega) w hT)
  have hz := (Tk.itoa_low9 h).1
  have HV : Hid (ValIs (Tk.numV n) (.returned (.tuple #[.string (Pn.bs (Lib.itoa n)), .bool (n != 0)]))) := hide (by
    refine ⟨Pn.bs (Lib.itoa n), ?_, fun v hv => ?_, by rw [Pn.bs_size]; omega⟩
    · unfold Tk.numV
      by_cases e : n = 0
      · rw [if_pos e, e]; rfl
      · rw [if_neg e]
        have : (n != 0) = true := by simpa using e
        rw [this]; rfl
    · unfold Tk.numV at hv
      by_cases e : n = 0
      · rw [if_pos e] at hv; cases hv
      · rw [if_neg e] at hv; cases hv; rfl)
  clear h hz hT
  go_enter Tryd.func34, Tryd.ntmps34
  go_wp2_with fail
  refine (unhide PI).mono ?_
  rintro e w1 ⟨rfl, b1⟩
  have B1 := hide b1
  clear PI b1
  go_wp2_with fail
  go_ret2
  exact ⟨unhide HV, unhide B1⟩
set_option maxHeartbeats 1000000 in
theorem val_ack (n : Int) (w : World) :
    Calls Tryd.prog 33 #[.int .i64 n] w fun e w' => ValIs (Tk.ackV n) e ∧ Below w.heap.size w w' := by
  by_cases h0 : n = 0
  · have HV : Hid (ValIs (Tk.ackV n) (.returned (.tuple #[.string ⟨#[110, 111, 110, 101]⟩, .bool true]))) := hide ⟨⟨#[110, 111, 110, 101]⟩, by unfold Tk.ackV; rw [if_pos h0]; rfl, fun v hv => by unfold Tk.ackV at hv; rw [if_pos h0] at hv; cases hv; rfl, by decide⟩
    have e0 : (n == 0) = true := by simpa using h0
    clear h0
    go_enter Tryd.func33, Tryd.ntmps33
    go_wp2_with fail
    go_ret2
    exact ⟨unhide HV, Below.refl _ _⟩
  · have e0 : (n == 0) = false := by simpa using h0
    by_cases h1 : n = 1
    · have HV : Hid (ValIs (Tk.ackV n) (.returned (.tuple #[.string ⟨#[97, 108, 108]⟩, .bool true]))) := hide ⟨⟨#[97, 108, 108]⟩, by unfold Tk.ackV; rw [if_neg h0, if_pos h1]; rfl, fun v hv => by unfold Tk.ackV at hv; rw [if_neg h0, if_pos h1] at hv; cases hv; rfl, by decide⟩
      have e1 : (n == 1) = true := by simpa using h1
      clear h0 h1
      go_enter Tryd.func33, Tryd.ntmps33
      go_wp2_with fail
      go_ret2
      exact ⟨unhide HV, Below.refl _ _⟩
    · have HV : Hid (ValIs (Tk.ackV n) (.returned (.tuple #[.string ⟨#[]⟩, .bool false]))) := hide ⟨⟨#[]⟩, by unfold Tk.ackV; rw [if_neg h0, if_neg h1]; rfl, fun v hv => (by unfold Tk.ackV at hv; rw [if_neg h0, if_neg h1] at hv; cases hv), by decide⟩
      have e1 : (n == 1) = false := by simpa using h1
      clear h0 h1
      go_enter Tryd.func33, Tryd.ntmps33
      go_wp2_with fail
      go_ret2
      exact ⟨unhide HV, Below.refl _ _⟩
set_option maxHeartbeats 1000000 in
theorem val_from (t : Tk.Tkr) (a : Option Addr) (c : Nat) (w : World) (h : t.fr = 3 → 0 ≤ t.st ∧ t.st ≤ 999999999) (hT : TabP w) :
    Calls Tryd.prog 32 #[tkV t a c] w fun e w' => ValIs (Tk.fromV t) e ∧ Below w.heap.size w w' := by
  have b0 : Below w.heap.size w (w.alloc (tkO t a c)) := (Below.refl _ _).alloc (Nat.le_refl _) _
  have B0 := hide b0
  obtain ⟨_, c0, c1, c2, c3, c4, c5, c6, c7, c8, c9⟩ := TB.new w t a c
  have hT0 := hide (tabP_next hT b0)
  by_cases h1 : t.fr = 1
  · have HV : Hid (ValIs (Tk.fromV t) (.returned (.tuple #[.string ⟨#[108, 97, 115, 116]⟩, .bool true]))) := hide ⟨⟨#[108, 97, 115, 116]⟩, by unfold Tk.fromV; rw [if_pos h1]; rfl, fun v hv => by unfold Tk.fromV at hv; rw [if_pos h1] at hv; cases hv; rfl, by decide⟩
    have e1 : (t.fr == 1) = true := by simpa using h1
    clear h h1 b0 hT
    go_enter Tryd.func32, Tryd.ntmps32
    go_wp2_with fail
    go_ret2
    exact ⟨unhide HV, unhide B0⟩
  · have e1 : (t.fr == 1) = false := by simpa using h1
    by_cases h2 : t.fr = 2
    · have HV : Hid (ValIs (Tk.fromV t) (.returned (.tuple #[.string ⟨#[110, 101, 119]⟩, .bool true]))) := hide ⟨⟨#[110, 101, 119]⟩, by unfold Tk.fromV; rw [if_neg h1, if_pos h2]; rfl, fun v hv => by unfold Tk.fromV at hv; rw [if_neg h1, if_pos h2] at hv; cases hv; rfl, by decide⟩
      have e2 : (t.fr == 2) = true := by simpa using h2
      clear h h1 h2 b0 hT
      go_enter Tryd.func32, Tryd.ntmps32
      go_wp2_with fail
      go_ret2
      exact ⟨unhide HV, unhide B0⟩
    · have e2 : (t.fr == 2) = false := by simpa using h2
      by_cases h3 : t.fr = 3
      · have hs := h h3
        have hz := (Tk.itoa_low9 hs).1
        have HV : Hid (ValIs (Tk.fromV t) (.returned (.tuple #[.string (Pn.bs (Lib.itoa t.st)), .bool true]))) := hide ⟨(Pn.bs (Lib.itoa t.st)), by unfold Tk.fromV; rw [if_neg h1, if_neg h2, if_pos h3]; rfl, fun v hv => by unfold Tk.fromV at hv; rw [if_neg h1, if_neg h2, if_pos h3] at hv; cases hv; rfl, by rw [Pn.bs_size]; omega⟩
        have PI := hide (itoa_any t.st (by omega) (by omega) _ (unhide hT0))
        have e3 : (t.fr == 3) = true := by simpa using h3
        clear h h1 h2 h3 hs hz b0 hT
        go_enter Tryd.func32, Tryd.ntmps32
        go_wp2_with fail
        refine (unhide PI).mono ?_
        rintro e w1 ⟨rfl, b1⟩
        have B1 := hide (bstep (unhide B0) b1)
        clear PI b1
        go_wp2_with fail
        go_ret2
        exact ⟨unhide HV, unhide B1⟩
      · have HV : Hid (ValIs (Tk.fromV t) (.returned (.tuple #[.string ⟨#[]⟩, .bool false]))) := hide ⟨⟨#[]⟩, by unfold Tk.fromV; rw [if_neg h1, if_neg h2, if_neg h3]; rfl, fun v hv => (by unfold Tk.fromV at hv; rw [if_neg h1, if_neg h2, if_neg h3] at hv; cases hv), by decide⟩
        have e3 : (t.fr == 3) = false := by simpa using h3
        clear h h1 h2 h3 b0 hT
        go_enter Tryd.func32, Tryd.ntmps32
        go_wp2_with fail
        go_ret2
        exact ⟨unhide HV, unhide B0⟩
end Go.Proofs.YtcbfmjjodfnacaaDoor
