/-
  Contract of pack.Sum: the CRC-32 of the text's bytes.
-/
import Derived.Test.YtmbnmljkioikjaaDoorRows
import Derived.Test.YtmbnmljkioikjaaDoorPlainN
import Derived.Test.YtmbnmljkioikjaaDoorBase0
import Derived.WalkKit
import Derived.WalkSpells
import Derived.WalkLawsBesides
import Derived.Deep.QuietTactic
import Derived.BigQuiet
import Derived.Laws.BitsAllLaws
namespace Go.Proofs.YtmbnmljkioikjaaDoor
open Go.RowKit

/-- the byte at a place -/
theorem byte_at (s : ByteArray) {k : Nat} (h : k < s.size) : s[k].toNat = Pk.at' s.data.toList k := by
  rw [Pk.at_get (by simpa using h)]; rfl
/-- pack's register behind m bits of byte k -/
def rg (l : List UInt8) (k m : Nat) : Nat := Pk.reg (Pk.bitAt l) (8 * k + m) ^^^ (Pk.at' l k / 2 ^ m)
theorem rg_lt (l : List UInt8) (k m : Nat) : rg l k m < 4294967296 :=
  Nat.xor_lt_two_pow (n := 32) (Pk.reg_lt (Pk.bitAt_lt l) _) (Nat.lt_of_le_of_lt (Nat.div_le_self _ _) (by have := Pk.at_lt l k; omega))
theorem rg_zero (l : List UInt8) (k : Nat) : rg l k 0 = Pk.reg (Pk.bitAt l) (8 * k) ^^^ Pk.at' l k := by unfold rg; simp
theorem rg_eight (l : List UInt8) (k : Nat) : rg l k 8 = Pk.reg (Pk.bitAt l) (8 * (k + 1)) := by
  unfold rg
  rw [Nat.div_eq_of_lt (by have := Pk.at_lt l k; omega), Nat.xor_zero]
  rfl
theorem rg_succ (l : List UInt8) {k m : Nat} (hm : m < 8) : rg l k (m + 1) = Pk.Z (rg l k m) := by
  unfold rg
  rw [← Nat.add_assoc, Pk.reg, Pk.bitAt, show (8 * k + m) / 8 = k from by omega, show (8 * k + m) % 8 = m from by omega]
  have hz : ∀ x, Pk.Z x = Pk.Z (x % 2) ^^^ (x / 2) := by
    intro x
    unfold Pk.Z
    have : x % 2 / 2 = 0 := by omega
    rw [this, Nat.zero_xor, Nat.mod_mod, Nat.xor_comm]
  rw [Pk.Z_xor, Pk.Z_xor _ (Pk.at' l k / 2 ^ m), hz (Pk.at' l k / 2 ^ m), Nat.pow_succ, ← Nat.div_div_eq_div_mul]
  ac_rfl
theorem Z_odd {r : Nat} (h : r % 2 = 1) : Pk.Z r = r / 2 ^^^ 3988292384 := by unfold Pk.Z; rw [if_pos h]
theorem Z_even {r : Nat} (h : r % 2 = 0) : Pk.Z r = r / 2 := by unfold Pk.Z; rw [if_neg (by omega), Nat.xor_zero]
theorem ones_xor {r : Nat} (h : r < 4294967296) : r ^^^ 4294967295 = 4294967295 - r := by
  apply Nat.eq_of_testBit_eq
  intro i
  have h1 := Nat.testBit_two_pow_sub_succ (n := 32) h i
  have e : 2 ^ 32 - (r + 1) = 4294967295 - r := by omega
  rw [e] at h1
  rw [h1, Nat.testBit_xor, show (4294967295 : Nat) = 2 ^ 32 - 1 from rfl, Nat.testBit_two_pow_sub_one]
  by_cases hi : i < 32
  · simp [hi]
  · have : r.testBit i = false := Nat.testBit_lt_two_pow (Nat.lt_of_lt_of_le h (show 2 ^ 32 ≤ 2 ^ i from Nat.pow_le_pow_right (by decide) (by omega)))
    simp [hi, this]

theorem and_one (r : Nat) (h : r < 4294967296) : bits .and .u32 (r : Int) 1 = ((r % 2 : Nat) : Int) := by
  rw [show (1 : Int) = ((1 : Nat) : Int) from rfl, u32_and_nat _ _ h (by decide), nat_mask1]
theorem xor_poly (r : Nat) (h : r < 4294967296) : bits .xor .u32 ((r : Int) / 2) 3988292384 = ((r / 2 ^^^ 3988292384 : Nat) : Int) := by
  rw [show (3988292384 : Int) = ((3988292384 : Nat) : Int) from rfl, show (r : Int) / 2 = ((r / 2 : Nat) : Int) from by omega, u32_xor_nat _ _ (by omega) (by decide)]
theorem xor_ones (r : Nat) (h : r < 4294967296) : bits .xor .u32 (r : Int) 4294967295 = ((4294967295 - r : Nat) : Int) := by
  rw [show (4294967295 : Int) = ((4294967295 : Nat) : Int) from rfl, u32_xor_nat _ _ h (by decide), ones_xor h]

set_option maxHeartbeats 1000000 in
theorem sum_any (s : ByteArray) (w : World) (hs : s.size ≤ 1000000000000000000) :
    Calls Tryd.prog 77 #[.string s] w fun e w' => e = .returned (.int .u32 (Pk.crc s.data.toList)) ∧ w' = w := by
  go_enter Tryd.func77, Tryd.ntmps77
  go_wp2_with fail
  go_loop [3, 8] (fun r i => ∃ k : Nat, k ≤ s.size ∧ i = .int .i64 k ∧ r = .int .u32 ((Pk.reg (Pk.bitAt s.data.toList) (8 * k) : Nat) : Int)) (fun _ i => s.size - (intOf i).toNat)
  case atStart => exact ⟨0, Nat.zero_le _, rfl, rfl⟩
  case round =>
    obtain ⟨k, hk, rfl, rfl⟩ := hrel
    by_cases hlt : k < s.size
    · have hx : bits .xor .u32 ((Pk.reg (Pk.bitAt s.data.toList) (8 * k) : Nat) : Int) ((s[k].toNat : Int) % 4294967296) = ((rg s.data.toList k 0 : Nat) : Int) := by
        have := Pk.at_lt s.data.toList k
        rw [byte_at s hlt, show ((Pk.at' s.data.toList k : Int)) % 4294967296 = (Pk.at' s.data.toList k : Int) from by omega, u32_xor_nat _ _ (Pk.reg_lt (Pk.bitAt_lt _) _) (by omega), rg_zero]
      have Hx := hide hx
      clear hx
      go_wp2_with fail
      simp only [unhide Hx]
      go_loop [3, 17] (fun r j => ∃ m : Nat, m ≤ 8 ∧ j = .int .i64 m ∧ r = .int .u32 ((rg s.data.toList k m : Nat) : Int)) (fun _ j => 8 - (intOf j).toNat)
      case atStart => exact ⟨0, by omega, rfl, rfl⟩
      case round =>
        obtain ⟨m, hm, rfl, rfl⟩ := hrel
        have hl := rg_lt s.data.toList k m
        by_cases hm8 : m < 8
        · have hn := rg_succ s.data.toList (k := k) hm8
          have e1 := and_one _ hl
          have e2 := xor_poly _ hl
          rcases Nat.mod_two_eq_zero_or_one (rg s.data.toList k m) with ho | ho
          · rw [Z_even ho] at hn
            rw [ho] at e1
            have Hn := hide hn
            clear hn ho e2
            go_wp2_with fail
            go_round
            case rel => exact ⟨m + 1, by omega, by go_num, by rw [unhide Hn]; simp⟩
            case measure => simp [intOf]; omega
          · rw [Z_odd ho] at hn
            rw [ho] at e1
            rw [← hn] at e2
            clear hn ho
            go_wp2_with fail
            go_round
            case rel => exact ⟨m + 1, by omega, by go_num, rfl⟩
            case measure => simp [intOf]; omega
        · obtain rfl : m = 8 := by omega
          have h8 := hide (rg_eight s.data.toList k)
          go_wp2_with fail
          go_round
          case rel => exact ⟨k + 1, by omega, by go_num, by rw [unhide h8]⟩
          case measure => simp [intOf]; omega
    · obtain rfl : k = s.size := by omega
      have hx := xor_ones _ (Pk.reg_lt (Pk.bitAt_lt s.data.toList) (8 * s.size))
      have Hx := hide hx
      clear hx
      go_wp2_with fail
      go_ret
      refine ⟨ret_int ?_, rfl⟩
      rw [unhide Hx, Pk.crc]
      simp
end Go.Proofs.YtmbnmljkioikjaaDoor
