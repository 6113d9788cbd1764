/-
  Contract of rillref.Sum: the CRC-32 of the text's bytes, bit by bit.
-/
import Derived.Test.YtmbnmljkioikjaaDoorWalkN1
namespace Go.Proofs.YtmbnmljkioikjaaDoor
open Go.RowKit

/-- the document's register behind m bits of byte k -/
def rr (l : List UInt8) (k m : Nat) : Nat := Pk.reg (Pk.bitAt l) (8 * k + m)
theorem rr_lt (l : List UInt8) (k m : Nat) : rr l k m < 4294967296 := Pk.reg_lt (Pk.bitAt_lt l) _
theorem rr_eight (l : List UInt8) (k : Nat) : rr l k 8 = rr l (k + 1) 0 := rfl
def tb (l : List UInt8) (k m : Nat) : Nat := Pk.at' l k / 2 ^ m % 2
theorem rr_same {l : List UInt8} {k m : Nat} (hm : m < 8) (h : rr l k m % 2 = tb l k m) : rr l k (m + 1) = rr l k m / 2 := by
  unfold rr tb at *
  rw [← Nat.add_assoc, Pk.reg, Pk.bitAt, show (8 * k + m) / 8 = k from by omega, show (8 * k + m) % 8 = m from by omega, ← h]
  rw [Z_even, Pk.xor_half]
  · simp
  · rw [Pk.xor_odd]; omega
theorem rr_other {l : List UInt8} {k m : Nat} (hm : m < 8) (h : rr l k m % 2 ≠ tb l k m) : rr l k (m + 1) = rr l k m / 2 ^^^ 3988292384 := by
  unfold rr tb at *
  rw [← Nat.add_assoc, Pk.reg, Pk.bitAt, show (8 * k + m) / 8 = k from by omega, show (8 * k + m) % 8 = m from by omega]
  rw [Z_odd, Pk.xor_half]
  · have : Pk.at' l k / 2 ^ m % 2 / 2 = 0 := by omega
    rw [this, Nat.xor_zero]
  · rw [Pk.xor_odd]; omega

theorem and_bit (s : ByteArray) {k : Nat} (h : k < s.size) (m : Nat) : bits .and .u32 ((s[k].toNat : Int) % 4294967296 / 2 ^ m) 1 = ((tb s.data.toList k m : Nat) : Int) := by
  have hb := Pk.at_lt s.data.toList k
  have e : ((s[k].toNat : Int) % 4294967296 / 2 ^ m) = ((Pk.at' s.data.toList k / 2 ^ m : Nat) : Int) := by
    rw [byte_at s h, show ((Pk.at' s.data.toList k : Int)) % 4294967296 = (Pk.at' s.data.toList k : Int) from by omega]
    simp
  rw [e, and_one _ (Nat.lt_of_le_of_lt (Nat.div_le_self _ _) (by omega))]
  rfl

set_option maxHeartbeats 1000000 in
theorem rsum_any (s : ByteArray) (w : World) (hs : s.size ≤ 1000000000000000000) :
    Calls Tryd.prog 55 #[.string s] w fun e w' => e = .returned (.int .u32 (Pk.crc s.data.toList)) ∧ w' = w := by
  go_enter Tryd.func55, Tryd.ntmps55
  go_wp2_with fail
  go_loop [3, 4] (fun r i => ∃ k : Nat, k ≤ s.size ∧ i = .int .i64 k ∧ r = .int .u32 ((rr s.data.toList k 0 : Nat) : Int)) (fun _ i => s.size - (intOf i).toNat)
  case atStart => exact ⟨0, Nat.zero_le _, rfl, rfl⟩
  case round =>
    obtain ⟨k, hk, rfl, rfl⟩ := hrel
    by_cases hlt : k < s.size
    · go_wp2_with fail
      go_loop [3, 5] (fun r j => ∃ m : Nat, m ≤ 8 ∧ j = .int .i64 m ∧ r = .int .u32 ((rr s.data.toList k m : Nat) : Int)) (fun _ j => 8 - (intOf j).toNat)
      case atStart => exact ⟨0, by omega, rfl, rfl⟩
      case round =>
        obtain ⟨m, hm, rfl, rfl⟩ := hrel
        have hl := rr_lt s.data.toList k m
        by_cases hm8 : m < 8
        · have e1 := and_one _ hl
          have e2 := xor_poly _ hl
          have e3 := hide (and_bit s hlt m)
          go_wp2_with fail
          · rename_i h
            rw [unhide e3] at h
            have h2 := rr_other (l := s.data.toList) (k := k) hm8 (fun e => WalkArith.int_ne' h (by omega))
            go_round
            case rel => exact ⟨m + 1, by omega, by go_num, by rw [h2]⟩
            case measure => simp [intOf]; omega
          · rename_i h
            rw [unhide e3] at h
            have h2 := rr_same (l := s.data.toList) (k := k) hm8 (by have := WalkArith.int_eq' h; omega)
            go_round
            case rel => exact ⟨m + 1, by omega, by go_num, by rw [h2]; simp⟩
            case measure => simp [intOf]; omega
        · obtain rfl : m = 8 := by omega
          have h8 := hide (rr_eight s.data.toList k)
          go_wp2_with fail
          go_round
          case rel => exact ⟨k + 1, by omega, by go_num, by rw [unhide h8]⟩
          case measure => simp [intOf]; omega
    · obtain rfl : k = s.size := by omega
      have hx := rr_lt s.data.toList s.size 0
      go_wp2_with fail
      go_ret
      refine ⟨ret_int ?_, rfl⟩
      rw [Pk.crc]
      unfold rr at *
      simp at *
      omega
end Go.Proofs.YtmbnmljkioikjaaDoor
