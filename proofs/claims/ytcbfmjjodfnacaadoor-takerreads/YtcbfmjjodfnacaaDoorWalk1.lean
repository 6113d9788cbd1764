/-
  Contracts of the small functions: what a token's byte is, what a plain token is, whether a number lies between two.
-/
import Derived.Test.YtcbfmjjodfnacaaDoorRows
import Derived.Test.YtcbfmjjodfnacaaDoorJointPlainPapPa
import Derived.Test.YtcbfmjjodfnacaaDoorBase0
import Derived.WalkKit
import Derived.WalkSpells
import Derived.WalkLawsBesides
import Derived.Deep.QuietTactic
import Derived.BigQuiet
namespace Go.Proofs.YtcbfmjjodfnacaaDoor
open Go.RowKit

def tokI (c : Int) : Bool := decide (33 ≤ c) && (decide (c ≤ 126) && (decide (c ≠ 46) && (decide (c ≠ 42) && decide (c ≠ 62))))


set_option maxHeartbeats 400000 in
theorem tok_any (c : Int) (w : World) :
    Calls Tryd.prog 54 #[.int .u8 c] w fun e w' => e = .returned (.bool (tokI c)) ∧ w' = w := by
  go_enter Tryd.func54, Tryd.ntmps54
  go_wp2
  all_goals go_ret
  all_goals refine ⟨ret_bool ?_, rfl⟩
  all_goals simp [tokI]
  all_goals omega

theorem tokI_byte (c : UInt8) : tokI (c.toNat : Int) = Pl.tokB c := by
  unfold tokI Pl.tokB
  rw [Bool.eq_iff_iff]
  simp
  omega

def isPlainB (s : ByteArray) : Bool := Pl.plainB s.data.toList
theorem plain_len {s : ByteArray} (h : s.size < 1 ∨ 16 < s.size) : isPlainB s = false := by
  unfold isPlainB Pl.plainB
  have : s.data.toList.length = s.size := by simp
  rcases h with h | h
  · rw [decide_eq_false (by omega)]; rfl
  · rw [decide_eq_false (p := s.data.toList.length ≤ 16) (by omega)]; simp
theorem plain_bad {s : ByteArray} {k : Nat} (hk : k < s.size) (h : tokI (s[k].toNat : Int) = false) : isPlainB s = false := by
  unfold isPlainB Pl.plainB
  rw [tokI_byte] at h
  have : s.data.toList.all Pl.tokB = false := by
    rw [List.all_eq_false]
    exact ⟨s[k], by simp [ByteArray.getElem_eq_getElem_data], by simp [h]⟩
  simp [this]
theorem plain_good {s : ByteArray} (h1 : 1 ≤ s.size) (h2 : s.size ≤ 16) (h : ∀ k (hk : k < s.size), tokI (s[k].toNat : Int) = true) : isPlainB s = true := by
  unfold isPlainB Pl.plainB
  have e : s.data.toList.length = s.size := by simp
  rw [decide_eq_true (by omega), decide_eq_true (by omega)]
  simp only [Bool.true_and, List.all_eq_true]
  intro c hc
  obtain ⟨k, hk, rfl⟩ := List.mem_iff_getElem.1 hc
  have := h k (by omega)
  rw [tokI_byte] at this
  simpa [ByteArray.getElem_eq_getElem_data] using this

set_option maxHeartbeats 400000 in
theorem plain_any (s : ByteArray) (w : World) (hs : s.size ≤ maxLen) :
    Calls Tryd.prog 42 #[.string s] w fun e w' => e = .returned (.bool (isPlainB s)) ∧ w' = w := by
  unfold maxLen at hs
  by_cases h1 : s.size < 1
  · go_enter Tryd.func42, Tryd.ntmps42
    go_wp2
    go_ret
    exact ⟨ret_is (plain_len (Or.inl h1)), rfl⟩
  by_cases h2 : 16 < s.size
  · go_enter Tryd.func42, Tryd.ntmps42
    go_wp2
    go_ret
    exact ⟨ret_is (plain_len (Or.inr h2)), rfl⟩
  go_enter Tryd.func42, Tryd.ntmps42
  go_wp2
  go_loop [14] (fun i => ∃ k : Nat, k ≤ s.size ∧ i = .int .i64 k ∧ Hid (∀ j (hj : j < s.size), j < k → tokI (s[j].toNat : Int) = true)) (fun i => s.size - (intOf i).toNat)
  case atStart => exact ⟨0, Nat.zero_le _, rfl, hide (fun j _ h => absurd h (Nat.not_lt_zero j))⟩
  case round =>
    obtain ⟨k, hk, rfl, hq⟩ := hrel
    by_cases hlt : k < s.size
    · cases ht : tokI (s[k].toNat : Int) with
      | false =>
        have Ht := hide ht
        clear ht
        go_wp2_with (go_at_call 54; refine (tok_any _ _).mono ?_; rintro e w' ⟨rfl, rfl⟩; rw [unhide Ht])
        go_ret
        exact ⟨ret_is (plain_bad hlt (unhide Ht)), rfl⟩
      | true =>
        have Ht := hide ht
        clear ht
        go_wp2_with (go_at_call 54; refine (tok_any _ _).mono ?_; rintro e w' ⟨rfl, rfl⟩; rw [unhide Ht])
        go_round
        case rel => exact ⟨k + 1, by omega, by go_num, hide (fun j hj h => by
          rcases Nat.lt_succ_iff_lt_or_eq.1 h with h | h
          · exact unhide hq j hj h
          · subst h; exact unhide Ht)⟩
        case measure => simp [intOf]; omega
    · go_wp2
      go_ret
      exact ⟨ret_is (plain_good (by omega) (by omega) (fun j hj => unhide hq j hj (by omega))), rfl⟩
end Go.Proofs.YtcbfmjjodfnacaaDoor
