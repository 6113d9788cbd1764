/-
  Contracts of rillref.Named and values.
-/
import Derived.Test.YtcbfmjjodfnacaaDoorRowPl
import Derived.Test.YtcbfmjjodfnacaaDoorPapPn
import Derived.Test.YtcbfmjjodfnacaaDoorWalk4
import Derived.Deep.RegionHeld3
namespace Go.Proofs.YtcbfmjjodfnacaaDoor
open Go.RowKit

theorem named_good {s : ByteArray} (h : namedTo s s.size = true) : Pn.namedB s = inI (s.size : Int) 1 16 := by
  unfold namedTo at h
  rw [List.take_of_length_le (by simp)] at h
  unfold Pn.namedB inI
  rw [h, Bool.true_and]
  congr 1
  · simp; omega
  · simp; omega

set_option maxRecDepth 100000 in
set_option maxHeartbeats 4000000 in
theorem rnamed_any (s : ByteArray) (w : World) (hs : s.size ≤ 140737488355328) :
    Calls Tryd.prog 15 #[.string s] w fun e w' => e = .returned (.bool (Pn.namedB s)) ∧ Below w.heap.size w w' := by
  go_enter Tryd.func15, Tryd.ntmps15
  go_wp2_with fail
  go_loopw [3] (fun iv wr => ∃ (k : Nat), iv = .int .i64 k ∧ k ≤ s.size ∧ Hid (namedTo s k = true) ∧ Hid (Below w.heap.size w wr)) (fun iv _ => s.size - (intOf iv).toNat)
  case atStart => exact ⟨0, rfl, Nat.zero_le _, hide rfl, hide (Below.refl _ _)⟩
  case round =>
    obtain ⟨k, rfl, hk, HN, HB⟩ := hrel
    by_cases hlt : k < s.size
    · obtain ⟨n, hn⟩ : ∃ n, s[k].toNat = n := ⟨_, rfl⟩
      have hnb : Hid (Pn.nameB s[k] = ((decide (97 ≤ n) && decide (n ≤ 122)) || ((decide (48 ≤ n) && decide (n ≤ 57)) || decide (n = 45)))) := hide (by unfold Pn.nameB; rw [hn])
      by_cases h1 : 97 ≤ n <;> by_cases h2 : n ≤ 122 <;> by_cases h3 : 48 ≤ n <;> by_cases h4 : n ≤ 57 <;> by_cases h5 : n = 45
      all_goals first
        | (exfalso; omega)
        | (first | have g1 : decide ((97 : Int) ≤ (n : Int)) = true := decide_eq_true (by omega) | have g1 : decide ((97 : Int) ≤ (n : Int)) = false := decide_eq_false (by omega)
           first | have g2 : decide ((n : Int) ≤ 122) = true := decide_eq_true (by omega) | have g2 : decide ((n : Int) ≤ 122) = false := decide_eq_false (by omega)
           first | have g3 : decide ((48 : Int) ≤ (n : Int)) = true := decide_eq_true (by omega) | have g3 : decide ((48 : Int) ≤ (n : Int)) = false := decide_eq_false (by omega)
           first | have g4 : decide ((n : Int) ≤ 57) = true := decide_eq_true (by omega) | have g4 : decide ((n : Int) ≤ 57) = false := decide_eq_false (by omega)
           first | have g5 : ((n : Int) == 45) = true := by (rw [beq_iff_eq]; omega) | have g5 : ((n : Int) == 45) = false := by (rw [beq_eq_false_iff_ne]; omega)
           first
             | (have HS : Hid (namedTo s (k + 1) = true) := hide (by rw [namedTo_succ hlt, unhide HN, unhide hnb]; simp; omega)
                clear h1 h2 h3 h4 h5 hnb HN
                go_wp2_with fail
                refine ⟨⟨k + 1, by go_num, by omega, HS, HB⟩, ?_⟩
                simp [intOf]; omega)
             | (have HF : Hid (Pn.namedB s = false) := hide (named_bad hlt (by rw [unhide hnb]; simp; omega))
                clear h1 h2 h3 h4 h5 hnb HN
                go_wp2_with fail
                go_ret
                rw [unhide HF]
                exact ⟨rfl, unhide HB⟩))
    · obtain rfl : k = s.size := by omega
      have HI := hide (named_good (unhide HN))
      go_wp2_with fail
      refine (in_any _ _ _ _).mono ?_
      rintro e w1 ⟨rfl, rfl⟩
      go_wp2_with fail
      go_ret
      rw [unhide HI]
      exact ⟨rfl, unhide HB⟩
end Go.Proofs.YtcbfmjjodfnacaaDoor
