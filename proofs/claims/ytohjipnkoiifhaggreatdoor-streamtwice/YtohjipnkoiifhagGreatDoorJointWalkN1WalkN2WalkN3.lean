/-
  Contract of pack.Sum: the CRC-32 of the text's bytes.
  Contract of pack.ReadNumber.
  Contract of pack.Number: the number's bytes.
-/
import Derived.Test.YtohjipnkoiifhagGreatDoorRows
import Derived.Test.YtohjipnkoiifhagGreatDoorJointBase0PlainPapPaPapDRowZPapPdPapLPapMWorksDWorksEPlainNPlainRec
import Derived.WalkKit
import Derived.WalkSpells
import Derived.WalkLawsBesides
import Derived.Deep.QuietTactic
import Derived.BigQuiet
import Derived.Laws.BitsAllLaws
import Derived.RegionTactic
import Derived.ChangeAlike
import Derived.Laws.IdiomStrings
namespace Go.Proofs.YtohjipnkoiifhagGreatDoor
open Go.RowKit

/-- the byte at a place -/
theorem byte_at (s : ByteArray) {k : Nat} (h : k < s.size) : s[k].toNat = Pk.at' s.data.toList k := by
  rw [Pk.at_get (by simpa using h)]; rfl
/-- pack's register behind m bits of byte k -/
def rg (l : List UInt8) (k m : Nat) : Nat := Pk.reg (Pk.bitAt l) (8 * k + m) ^^^ (Pk.at' l k / 2 ^ m)
theorem rg_lt (l : List UInt8) (k m : Nat) : rg l k m < 4294967296 :=
  Nat.xor_lt_two_pow (n := 32) (Pk.reg_lt (Pk.bitAt_lt l) _) (Nat.lt_of_le_of_lt (Nat.div_le_self _ _) (by have := Pk.at_lt l k; omega))
theorem rg_zero (l : List UInt8) (k : Nat) : rg l k 0 = Pk.reg (Pk.bitAt l) (8 * k) ^^^ Pk.at' l k := by unfold rg; simp
theorem rg_eight (l : List UInt8) (k : Nat) : rg l k 8 = Pk.reg (Pk.bitAt l) (8 * (k + 1)) := by
  unfold rg
  rw [Nat.div_eq_of_lt (by have := Pk.at_lt l k; omega), Nat.xor_zero]
  rfl
theorem rg_succ (l : List UInt8) {k m : Nat} (hm : m < 8) : rg l k (m + 1) = Pk.Z (rg l k m) := by
  unfold rg
  rw [← Nat.add_assoc, Pk.reg, Pk.bitAt, show (8 * k + m) / 8 = k from by omega, show (8 * k + m) % 8 = m from by omega]
  have hz : ∀ x, Pk.Z x = Pk.Z (x % 2) ^^^ (x / 2) := by
    intro x
    unfold Pk.Z
    have : x % 2 / 2 = 0 := by omega
    rw [this, Nat.zero_xor, Nat.mod_mod, Nat.xor_comm]
  rw [Pk.Z_xor, Pk.Z_xor _ (Pk.at' l k / 2 ^ m), hz (Pk.at' l k / 2 ^ m), Nat.pow_succ, ← Nat.div_div_eq_div_mul]
  ac_rfl
theorem Z_odd {r : Nat} (h : r % 2 = 1) : Pk.Z r = r / 2 ^^^ 3988292384 := by unfold Pk.Z; rw [if_pos h]
theorem Z_even {r : Nat} (h : r % 2 = 0) : Pk.Z r = r / 2 := by unfold Pk.Z; rw [if_neg (by omega), Nat.xor_zero]
theorem ones_xor {r : Nat} (h : r < 4294967296) : r ^^^ 4294967295 = 4294967295 - r := by
  apply Nat.eq_of_testBit_eq
  intro i
  have h1 := Nat.testBit_two_pow_sub_succ (n := 32) h i
  have e : 2 ^ 32 - (r + 1) = 4294967295 - r := by omega
  rw [e] at h1
  rw [h1, Nat.testBit_xor, show (4294967295 : Nat) = 2 ^ 32 - 1 from rfl, Nat.testBit_two_pow_sub_one]
  by_cases hi : i < 32
  · simp [hi]
  · have : r.testBit i = false := Nat.testBit_lt_two_pow (Nat.lt_of_lt_of_le h (show 2 ^ 32 ≤ 2 ^ i from Nat.pow_le_pow_right (by decide) (by omega)))
    simp [hi, this]

theorem and_one (r : Nat) (h : r < 4294967296) : bits .and .u32 (r : Int) 1 = ((r % 2 : Nat) : Int) := by
  rw [show (1 : Int) = ((1 : Nat) : Int) from rfl, u32_and_nat _ _ h (by decide), nat_mask1]
theorem xor_poly (r : Nat) (h : r < 4294967296) : bits .xor .u32 ((r : Int) / 2) 3988292384 = ((r / 2 ^^^ 3988292384 : Nat) : Int) := by
  rw [show (3988292384 : Int) = ((3988292384 : Nat) : Int) from rfl, show (r : Int) / 2 = ((r / 2 : Nat) : Int) from by omega, u32_xor_nat _ _ (by omega) (by decide)]
theorem xor_ones (r : Nat) (h : r < 4294967296) : bits .xor .u32 (r : Int) 4294967295 = ((4294967295 - r : Nat) : Int) := by
  rw [show (4294967295 : Int) = ((4294967295 : Nat) : Int) from rfl, u32_xor_nat _ _ h (by decide), ones_xor h]

set_option maxHeartbeats 1000000 in
theorem sum_any (s : ByteArray) (w : World) (hs : s.size ≤ 1000000000000000000) :
    Calls Tryz.prog 120 #[.string s] w fun e w' => e = .returned (.int .u32 (Pk.crc s.data.toList)) ∧ w' = w := by
  go_enter Tryz.func120, Tryz.ntmps120
  go_wp2_with fail
  go_loop [3, 8] (fun r i => ∃ k : Nat, k ≤ s.size ∧ i = .int .i64 k ∧ r = .int .u32 ((Pk.reg (Pk.bitAt s.data.toList) (8 * k) : Nat) : Int)) (fun _ i => s.size - (intOf i).toNat)
  case atStart => exact ⟨0, Nat.zero_le _, rfl, rfl⟩
  case round =>
    obtain ⟨k, hk, rfl, rfl⟩ := hrel
    by_cases hlt : k < s.size
    · have hx : bits .xor .u32 ((Pk.reg (Pk.bitAt s.data.toList) (8 * k) : Nat) : Int) ((s[k].toNat : Int) % 4294967296) = ((rg s.data.toList k 0 : Nat) : Int) := by
        have := Pk.at_lt s.data.toList k
        rw [byte_at s hlt, show ((Pk.at' s.data.toList k : Int)) % 4294967296 = (Pk.at' s.data.toList k : Int) from by omega, u32_xor_nat _ _ (Pk.reg_lt (Pk.bitAt_lt _) _) (by omega), rg_zero]
      have Hx := hide hx
      clear hx
      go_wp2_with fail
      simp only [unhide Hx]
      go_loop [3, 17] (fun r j => ∃ m : Nat, m ≤ 8 ∧ j = .int .i64 m ∧ r = .int .u32 ((rg s.data.toList k m : Nat) : Int)) (fun _ j => 8 - (intOf j).toNat)
      case atStart => exact ⟨0, by omega, rfl, rfl⟩
      case round =>
        obtain ⟨m, hm, rfl, rfl⟩ := hrel
        have hl := rg_lt s.data.toList k m
        by_cases hm8 : m < 8
        · have hn := rg_succ s.data.toList (k := k) hm8
          have e1 := and_one _ hl
          have e2 := xor_poly _ hl
          rcases Nat.mod_two_eq_zero_or_one (rg s.data.toList k m) with ho | ho
          · rw [Z_even ho] at hn
            rw [ho] at e1
            have Hn := hide hn
            clear hn ho e2
            go_wp2_with fail
            go_round
            case rel => exact ⟨m + 1, by omega, by go_num, by rw [unhide Hn]; simp⟩
            case measure => simp [intOf]; omega
          · rw [Z_odd ho] at hn
            rw [ho] at e1
            rw [← hn] at e2
            clear hn ho
            go_wp2_with fail
            go_round
            case rel => exact ⟨m + 1, by omega, by go_num, rfl⟩
            case measure => simp [intOf]; omega
        · obtain rfl : m = 8 := by omega
          have h8 := hide (rg_eight s.data.toList k)
          go_wp2_with fail
          go_round
          case rel => exact ⟨k + 1, by omega, by go_num, by rw [unhide h8]⟩
          case measure => simp [intOf]; omega
    · obtain rfl : k = s.size := by omega
      have hx := xor_ones _ (Pk.reg_lt (Pk.bitAt_lt s.data.toList) (8 * s.size))
      have Hx := hide hx
      clear hx
      go_wp2_with fail
      go_ret
      refine ⟨ret_int ?_, rfl⟩
      rw [unhide Hx, Pk.crc]
      simp
end Go.Proofs.YtohjipnkoiifhagGreatDoor

namespace Go.Proofs.YtohjipnkoiifhagGreatDoor
open Go.RowKit

/-- what a reading of a number answers -/
def numV (l : List UInt8) : Value := .tuple #[.int .i64 (Pk.rd l).1, .int .i64 (Pk.rd l).2.1, .int .i64 (Pk.rd l).2.2]

/-- a group's seven bits -/
def grp (l : List UInt8) (k : Nat) : Nat := Pk.at' l k % 128
theorem grp_lt (l : List UInt8) (k : Nat) : grp l k < 128 := Nat.mod_lt _ (by decide)
theorem grp_ne {l : List UInt8} {k : Nat} (_ : Pk.at' l k < 128) (hz : ((grp l k : Int) == 0) = false) : Pk.at' l k ≠ 0 := by
  have := WalkArith.int_ne hz; unfold grp at this; omega
theorem grp_eq {l : List UInt8} {k : Nat} (h : Pk.at' l k < 128) (hz : ((grp l k : Int) == 0) = true) : Pk.at' l k = 0 := by
  have := WalkArith.int_eq hz; unfold grp at this; omega
theorem and_low (s : ByteArray) {k : Nat} (h : k < s.size) : bits .and .u8 (s[k].toNat : Int) 127 = ((grp s.data.toList k : Nat) : Int) := by
  have hb := Pk.at_lt s.data.toList k
  rw [byte_at s h, show (127 : Int) = ((127 : Nat) : Int) from rfl, u8_and_nat _ _ hb (by decide), nat_mask7]
  rfl
theorem and_high (s : ByteArray) {k : Nat} (h : k < s.size) : bits .and .u8 (s[k].toNat : Int) 128 = ((Pk.at' s.data.toList k / 128 * 128 : Nat) : Int) := by
  have hb := Pk.at_lt s.data.toList k
  rw [byte_at s h, show (128 : Int) = ((128 : Nat) : Int) from rfl, u8_and_nat _ _ hb (by decide), show (128 : Nat) = 2 ^ 7 from rfl, nat_bit]
  have : Pk.at' s.data.toList k / 2 ^ 7 % 2 = Pk.at' s.data.toList k / 2 ^ 7 := by omega
  rw [this]
theorem wraps63 (n : Int) (h₀ : 0 ≤ n) (h₁ : n < 2 ^ 63) : IntKind.i64.wrap n = n := by rw [IntKind.wrap_i64]; omega
theorem or_step (l : List UInt8) {k : Nat} (hk : k < 9) : bits .or .i64 ((Pk.val l 0 k : Nat) : Int) (wrap64 ((grp l k : Int) * 2 ^ (k * 7))) = ((Pk.val l 0 (k + 1) : Nat) : Int) := by
  have hv := Pk.val_lt l k 0
  have hg := grp_lt l k
  have e7 : (128 : Nat) ^ k = 2 ^ (k * 7) := by rw [show (128 : Nat) = 2 ^ 7 from rfl, ← Nat.pow_mul, Nat.mul_comm]
  have hp : (2 : Nat) ^ (k * 7) ≤ 2 ^ 56 := Nat.pow_le_pow_right (by decide) (by omega)
  have hm : grp l k * 2 ^ (k * 7) ≤ 127 * 2 ^ 56 := Nat.mul_le_mul (by omega) hp
  have hc : ((grp l k : Int) * 2 ^ (k * 7)) = ((grp l k * 2 ^ (k * 7) : Nat) : Int) := by simp
  rw [hc, IntWalk.wrap64_in _ ⟨by omega, by omega⟩]
  rw [e7] at hv
  rw [(bits_nat .i64 63 (by decide) wraps63 _ _ (by omega) (by omega)).2, Pk.val_last, e7, Nat.zero_add]
  congr 1
  rw [Nat.or_comm, Nat.mul_comm, ← Nat.two_pow_add_eq_or_of_lt hv, Nat.add_comm]
  rfl
theorem ret_num {l : List UInt8} {r : Nat × Nat × Nat} {v : Value} (h : Pk.rd l = r) (hv : v = .tuple #[.int .i64 r.1, .int .i64 r.2.1, .int .i64 r.2.2]) : Ending.returned v = .returned (numV l) := by
  unfold numV; rw [h, hv]
theorem rd_val {s : ByteArray} {k : Nat} (h1 : k < s.size) (h2 : k < 9) (h3 : ∀ j, j < k → 128 ≤ Pk.at' s.data.toList j) (h4 : Pk.at' s.data.toList k < 128) (h5 : k = 0 ∨ Pk.at' s.data.toList k ≠ 0) :
    Pk.rd s.data.toList = (Pk.val s.data.toList 0 (k + 1), k + 1, 0) := by
  have e : Pk.lead s.data.toList 9 = k := Pk.lead_eq (by omega) (by simp; omega) h3 (.inr (.inr h4))
  unfold Pk.rd
  rw [e, if_neg (by omega), if_neg (by simp; omega), if_neg (by omega)]
theorem rd_form {s : ByteArray} {k : Nat} (h1 : k < s.size) (h2 : k < 9) (h3 : ∀ j, j < k → 128 ≤ Pk.at' s.data.toList j) (h4 : Pk.at' s.data.toList k < 128) (h5 : 0 < k) (h6 : Pk.at' s.data.toList k = 0) :
    Pk.rd s.data.toList = (0, 0, 7) := by
  have e : Pk.lead s.data.toList 9 = k := Pk.lead_eq (by omega) (by simp; omega) h3 (.inr (.inr h4))
  unfold Pk.rd
  rw [e, if_neg (by omega), if_neg (by simp; omega), if_pos ⟨h5, h6⟩]
theorem rd_nine {l : List UInt8} (h1 : 9 ≤ l.length) (h3 : ∀ j, j < 9 → 128 ≤ Pk.at' l j) : Pk.rd l = (0, 0, 7) := by
  have e : Pk.lead l 9 = 9 := Pk.lead_eq (by omega) (by omega) h3 (.inl rfl)
  unfold Pk.rd
  rw [e, if_pos rfl]
theorem rd_more {l : List UInt8} (h1 : l.length < 9) (h3 : ∀ j, j < l.length → 128 ≤ Pk.at' l j) : Pk.rd l = (0, 0, 6) := by
  have e : Pk.lead l 9 = l.length := Pk.lead_eq (by omega) (by omega) h3 (.inr (.inl rfl))
  unfold Pk.rd
  rw [e, if_neg (by omega), if_pos rfl]

set_option maxHeartbeats 1000000 in
theorem readn_any (s : ByteArray) (w : World) (hs : s.size ≤ 1000000000000000000) :
    Calls Tryz.prog 167 #[.string s] w fun e w' => e = .returned (numV s.data.toList) ∧ w' = w := by
  by_cases h9 : 9 < s.size
  · go_enter Tryz.func167, Tryz.ntmps167
    go_wp2_with fail
    go_loop [5, 11] (fun n i => ∃ k : Nat, k ≤ 9 ∧ i = .int .i64 k ∧ n = .int .i64 ((Pk.val s.data.toList 0 k : Nat) : Int) ∧ Hid (∀ j, j < k → 128 ≤ Pk.at' s.data.toList j)) (fun _ i => 9 - (intOf i).toNat)
    case atStart => exact ⟨0, Nat.zero_le _, rfl, rfl, hide (fun j h => absurd h (Nat.not_lt_zero j))⟩
    case round =>
      obtain ⟨k, hk, rfl, rfl, hq⟩ := hrel
      by_cases hlt : k < 9
      · have hks : k < s.size := by omega
        have hgl := grp_lt s.data.toList k
        have g1 := and_low s hks
        have g2 := and_high s hks
        have g3 := or_step s.data.toList (k := k) (by omega)
        by_cases hc : Pk.at' s.data.toList k < 128
        · rw [show Pk.at' s.data.toList k / 128 = 0 from by omega] at g2
          have Hc := hide hc
          clear hc
          cases hz : ((grp s.data.toList k : Int) == 0) with
          | false =>
            have R := hide (rd_val hks (by omega) (unhide hq) (unhide Hc) (.inr (grp_ne (unhide Hc) hz)))
            go_wp2_with fail
            go_ret3
            exact ⟨ret_num (unhide R) rfl, rfl⟩
          | true =>
            by_cases hk0 : 0 < k
            · have R := hide (rd_form hks (by omega) (unhide hq) (unhide Hc) hk0 (grp_eq (unhide Hc) hz))
              go_wp2_with fail
              go_ret3
              exact ⟨ret_num (unhide R) rfl, rfl⟩
            · have R := hide (rd_val hks (by omega) (unhide hq) (unhide Hc) (.inl (by omega)))
              go_wp2_with fail
              go_ret3
              exact ⟨ret_num (unhide R) rfl, rfl⟩
        · rw [show Pk.at' s.data.toList k / 128 = 1 from by have := Pk.at_lt s.data.toList k; omega] at g2
          have Hc := hide hc
          clear hc
          go_wp2_with fail
          go_round
          case rel => exact ⟨k + 1, by omega, by go_num, rfl, hide (fun j h => by
            rcases Nat.lt_succ_iff_lt_or_eq.1 h with h | h
            · exact unhide hq j h
            · subst h; have := unhide Hc; omega)⟩
          case measure => simp [intOf]; omega
      · have R := hide (rd_nine (l := s.data.toList) (by simp; omega) (fun j hj => unhide hq j (by omega)))
        go_wp2_with fail
        go_ret3
        exact ⟨ret_num (unhide R) rfl, rfl⟩
  · go_enter Tryz.func167, Tryz.ntmps167
    go_wp2_with fail
    go_loop [5, 11] (fun n i => ∃ k : Nat, k ≤ s.size ∧ i = .int .i64 k ∧ n = .int .i64 ((Pk.val s.data.toList 0 k : Nat) : Int) ∧ Hid (∀ j, j < k → 128 ≤ Pk.at' s.data.toList j)) (fun _ i => s.size - (intOf i).toNat)
    case atStart => exact ⟨0, Nat.zero_le _, rfl, rfl, hide (fun j h => absurd h (Nat.not_lt_zero j))⟩
    case round =>
      obtain ⟨k, hk, rfl, rfl, hq⟩ := hrel
      by_cases hlt : k < s.size
      · have hks : k < s.size := by omega
        have hgl := grp_lt s.data.toList k
        have g1 := and_low s hks
        have g2 := and_high s hks
        have g3 := or_step s.data.toList (k := k) (by omega)
        by_cases hc : Pk.at' s.data.toList k < 128
        · rw [show Pk.at' s.data.toList k / 128 = 0 from by omega] at g2
          have Hc := hide hc
          clear hc
          cases hz : ((grp s.data.toList k : Int) == 0) with
          | false =>
            have R := hide (rd_val hks (by omega) (unhide hq) (unhide Hc) (.inr (grp_ne (unhide Hc) hz)))
            go_wp2_with fail
            go_ret3
            exact ⟨ret_num (unhide R) rfl, rfl⟩
          | true =>
            by_cases hk0 : 0 < k
            · have R := hide (rd_form hks (by omega) (unhide hq) (unhide Hc) hk0 (grp_eq (unhide Hc) hz))
              go_wp2_with fail
              go_ret3
              exact ⟨ret_num (unhide R) rfl, rfl⟩
            · have R := hide (rd_val hks (by omega) (unhide hq) (unhide Hc) (.inl (by omega)))
              go_wp2_with fail
              go_ret3
              exact ⟨ret_num (unhide R) rfl, rfl⟩
        · rw [show Pk.at' s.data.toList k / 128 = 1 from by have := Pk.at_lt s.data.toList k; omega] at g2
          have Hc := hide hc
          clear hc
          go_wp2_with fail
          go_round
          case rel => exact ⟨k + 1, by omega, by go_num, rfl, hide (fun j h => by
            rcases Nat.lt_succ_iff_lt_or_eq.1 h with h | h
            · exact unhide hq j h
            · subst h; have := unhide Hc; omega)⟩
          case measure => simp [intOf]; omega
      · by_cases h8 : s.size = 9
        · have R := hide (rd_nine (l := s.data.toList) (by simp; omega) (fun j hj => unhide hq j (by omega)))
          have h8' : 9 ≤ s.size := by omega
          clear h8
          go_wp2_with fail
          go_ret3
          exact ⟨ret_num (unhide R) rfl, rfl⟩
        · have R := hide (rd_more (l := s.data.toList) (by simp; omega) (fun j hj => unhide hq j (by simp at hj; omega)))
          have h8' : s.size < 9 := by omega
          clear h8
          go_wp2_with fail
          go_ret3
          exact ⟨ret_num (unhide R) rfl, rfl⟩
end Go.Proofs.YtohjipnkoiifhagGreatDoor

namespace Go.Proofs.YtohjipnkoiifhagGreatDoor
open Go.RowKit

/-- a row of bytes of the program's own -/
def Bts (w : World) (B : Nat) (v : Value) (l : List UInt8) : Prop := w.ownsRow B 5 1 v l.length (l.map fun b => Value.int .u8 b.toNat)
theorem infoB : (Tryz.prog.info? 5).map (fun i => (i.zero, i.size, i.bytes)) = some (some (.int .u8 0), 1, 1) := by kernel_rfl
theorem one_byte (n : Int) : ∀ u ∈ [Value.int .u8 n], u.oneCell' = true := by
  intro u hu; simp at hu; subst hu; rfl
/-- the state of the packing: the bytes are laid, m is left -/
def Packs (w0 w : World) (v : Value) (N m : Nat) (l : List UInt8) : Prop := Bts w w0.heap.size v l ∧ Below w0.heap.size w0 w ∧ l ++ Pk.enc m = Pk.enc N
theorem packs_len {w0 w : World} {v : Value} {N m : Nat} {l : List UInt8} (h : Packs w0 w v N m l) (hN : N < 9223372036854775808) : l.length < 9 := by
  have := Pk.enc_nine hN
  rw [← h.2.2, List.length_append] at this
  have := Pk.enc_pos m
  omega
theorem bts_next {w0 wr w1 : World} {v v' : Value} {l : List UInt8} {b : UInt8} {n : Int} {o : Obj} (hn : n = b.toNat) (hown : Bts wr w0.heap.size v l) (hb : Below w0.heap.size w0 wr)
    (h1 : w1.ownsRow w0.heap.size 5 1 v' (l.length + 1) ((l.map fun b => Value.int .u8 b.toNat) ++ [.int .u8 n])) (hg : (wr.alloc o).grownBy w1 v.ownBlock) :
    Bts w1 w0.heap.size v' (l ++ [b]) ∧ Below w0.heap.size w0 w1 := by
  refine ⟨?_, ?_⟩
  · unfold Bts
    rw [List.map_append, List.map_cons, List.map_nil, List.length_append, ← hn]
    exact h1
  · have hs := hb.size
    refine (hb.alloc (by omega) o).grown hg (by simp; omega) ?_
    intro j hj
    exact (World.ownsRow.lt hown j hj).1
/-- the byte of a group that goes on -/
def gb (m : Nat) : Nat := 128 + m % 128
theorem gb_lt (m : Nat) : gb m < 256 := by unfold gb; omega
theorem low_byte {m : Nat} (h : m < 9223372036854775808) : bits .or .i64 (bits .and .i64 (m : Int) 127) 128 = ((gb m : Nat) : Int) := by
  have e1 : bits .and .i64 (m : Int) 127 = ((m % 128 : Nat) : Int) := by
    rw [show (127 : Int) = ((127 : Nat) : Int) from rfl, (bits_nat .i64 63 (by decide) wraps63 m 127 (by omega) (by omega)).1, nat_mask7]
  rw [e1, show (128 : Int) = ((128 : Nat) : Int) from rfl, (bits_nat .i64 63 (by decide) wraps63 (m % 128) 128 (by omega) (by omega)).2]
  congr 1
  have := Nat.two_pow_add_eq_or_of_lt (i := 7) (b := m % 128) (by omega) 1
  rw [show 2 ^ 7 * 1 = 128 from rfl] at this
  rw [Nat.or_comm]
  exact this.symm

theorem bts_conv {w : World} {B g cap : Nat} {l : List UInt8} (h : Bts w B (.slice (some ⟨g, 0, none⟩) l.length cap) l) :
    (convert 108 9 (.slice (some ⟨g, 0, none⟩) l.length cap)).run Tryz.prog w = .ok (.string (bs l)) w := by
  refine run_convert_bytes_back w 108 9 5 ⟨g, 0, none⟩ cap l Tryz.underlying108 Tryz.underlying5 Tryz.underlying9 fun j hj => ?_
  have := World.ownsRow.cellAt h j (by omega)
  rw [addp, Nat.zero_add, this]
  simp [List.getElem?_eq_getElem hj]
set_option maxRecDepth 100000 in
set_option maxHeartbeats 1000000 in
theorem number_nat (N : Nat) (w : World) (hN : N < 9223372036854775808) :
    Calls Tryz.prog 119 #[.int .i64 N] w fun e w' => e = .returned (.string (bs (Pk.enc N))) ∧ Below w.heap.size w w' := by
  obtain ⟨i0, hi, hz0, hz1, hz2⟩ := info_parts infoB
  go_enter Tryz.func119, Tryz.ntmps119
  go_wp2_with fail
  go_loopw [3, 4] (fun r p wr => ∃ (m : Nat) (l : List UInt8), m ≤ N ∧ r = .int .i64 m ∧ Packs w wr p N m l) (fun r _ _ => (intOf r).toNat)
  case atStart => exact ⟨N, [], Nat.le_refl _, by simp, World.ownsRow_nil _ _ _ _, Below.refl _ _, rfl⟩
  case round =>
    obtain ⟨m, l, hm, rfl, hp⟩ := hrel
    have hlen := packs_len hp hN
    obtain ⟨hown, hb, he⟩ := hp
    have hown2 : wr.ownsRow w.heap.size 5 1 u4 l.length (l.map fun b => Value.int .u8 b.toNat) := hown
    have hsz := hb.size
    have HE := hide he
    clear he
    by_cases hlt : 127 < m
    · have hl := low_byte (m := m) (by omega)
      have hg := gb_lt m
      go_wp2_with (at_builtin; refine wpList_append_own _ rfl _ _ 108 rfl w.heap.size 5 i0 (.int .u8 0) 1 1 Tryz.underlying108 hi hz0 hz1 hz2 rfl (by decide) _ _ _ rfl (hown2.alloc _) ⟨wr.heap.size, 0, none⟩ 1 1 [.int .u8 ((gb m : Nat) : Int)] rfl rfl (one_new _ _ _) (one_byte _) (by unfold maxLen; omega) (by omega) (by simp; omega) ?_; intro v' w3 hown1 hgrow _)
      have R := bts_next (b := UInt8.ofNat (gb m)) (by rw [Pk.u8_of hg]) hown hb hown1 hgrow
      clear hown hown2 hown1 hgrow hb
      go_round
      case rel => exact ⟨m / 128, l ++ [UInt8.ofNat (gb m)], by omega, by simp, R.1, R.2, by rw [List.append_assoc, List.singleton_append, ← unhide HE, Pk.enc_large (n := m) (by omega)]; rfl⟩
      case measure => simp [intOf]; omega
    · go_wp2_with (at_builtin; refine wpList_append_own _ rfl _ _ 108 rfl w.heap.size 5 i0 (.int .u8 0) 1 1 Tryz.underlying108 hi hz0 hz1 hz2 rfl (by decide) _ _ _ rfl (hown2.alloc _) ⟨wr.heap.size, 0, none⟩ 1 1 [.int .u8 (m : Int)] rfl rfl (one_new _ _ _) (one_byte _) (by unfold maxLen; omega) (by omega) (by simp; omega) ?_; intro v' w3 hown1 hgrow _)
      have R := bts_next (b := UInt8.ofNat m) (by rw [Pk.u8_of (by omega)]) hown hb hown1 hgrow
      obtain ⟨g, cap, rfl⟩ := own_some hown1
      have hcv := bts_conv (l := l ++ [UInt8.ofNat m]) (by rw [List.length_append]; exact R.1)
      rw [List.length_append, List.length_singleton] at hcv
      have R2 := R.2
      clear hown hown2 hown1 hgrow hb R
      rw [hcv]
      go_wp2_with fail
      go_ret
      refine ⟨?_, R2⟩
      rw [← unhide HE, Pk.enc_small (n := m) (by omega)]
      rfl

set_option maxRecDepth 100000 in
set_option maxHeartbeats 1000000 in
theorem number_neg (n : Int) (N : Nat) (w : World) (hN0 : N = 0) (hn : n < 0) :
    Calls Tryz.prog 119 #[.int .i64 n] w fun e w' => e = .returned (.string (bs (Pk.enc N))) ∧ Below w.heap.size w w' := by
  obtain ⟨i0, hi, hz0, hz1, hz2⟩ := info_parts infoB
  have hN : N < 9223372036854775808 := by omega
  have HN := hide hN0
  clear hN0
  go_enter Tryz.func119, Tryz.ntmps119
  go_wp2_with fail
  go_loopw [3, 4] (fun r p wr => ∃ (m : Nat) (l : List UInt8), m ≤ N ∧ r = .int .i64 m ∧ Packs w wr p N m l) (fun r _ _ => (intOf r).toNat)
  case atStart => exact ⟨N, [], Nat.le_refl _, by rw [unhide HN]; rfl, World.ownsRow_nil _ _ _ _, Below.refl _ _, rfl⟩
  case round =>
    obtain ⟨m, l, hm, rfl, hp⟩ := hrel
    have hlen := packs_len hp hN
    obtain ⟨hown, hb, he⟩ := hp
    have hown2 : wr.ownsRow w.heap.size 5 1 u4 l.length (l.map fun b => Value.int .u8 b.toNat) := hown
    have hsz := hb.size
    have HE := hide he
    clear he
    by_cases hlt : 127 < m
    · have hl := low_byte (m := m) (by omega)
      have hg := gb_lt m
      go_wp2_with (at_builtin; refine wpList_append_own _ rfl _ _ 108 rfl w.heap.size 5 i0 (.int .u8 0) 1 1 Tryz.underlying108 hi hz0 hz1 hz2 rfl (by decide) _ _ _ rfl (hown2.alloc _) ⟨wr.heap.size, 0, none⟩ 1 1 [.int .u8 ((gb m : Nat) : Int)] rfl rfl (one_new _ _ _) (one_byte _) (by unfold maxLen; omega) (by omega) (by simp; omega) ?_; intro v' w3 hown1 hgrow _)
      have R := bts_next (b := UInt8.ofNat (gb m)) (by rw [Pk.u8_of hg]) hown hb hown1 hgrow
      clear hown hown2 hown1 hgrow hb
      go_round
      case rel => exact ⟨m / 128, l ++ [UInt8.ofNat (gb m)], by omega, by simp, R.1, R.2, by rw [List.append_assoc, List.singleton_append, ← unhide HE, Pk.enc_large (n := m) (by omega)]; rfl⟩
      case measure => simp [intOf]; omega
    · go_wp2_with (at_builtin; refine wpList_append_own _ rfl _ _ 108 rfl w.heap.size 5 i0 (.int .u8 0) 1 1 Tryz.underlying108 hi hz0 hz1 hz2 rfl (by decide) _ _ _ rfl (hown2.alloc _) ⟨wr.heap.size, 0, none⟩ 1 1 [.int .u8 (m : Int)] rfl rfl (one_new _ _ _) (one_byte _) (by unfold maxLen; omega) (by omega) (by simp; omega) ?_; intro v' w3 hown1 hgrow _)
      have R := bts_next (b := UInt8.ofNat m) (by rw [Pk.u8_of (by omega)]) hown hb hown1 hgrow
      obtain ⟨g, cap, rfl⟩ := own_some hown1
      have hcv := bts_conv (l := l ++ [UInt8.ofNat m]) (by rw [List.length_append]; exact R.1)
      rw [List.length_append, List.length_singleton] at hcv
      have R2 := R.2
      clear hown hown2 hown1 hgrow hb R
      rw [hcv]
      go_wp2_with fail
      go_ret
      refine ⟨?_, R2⟩
      rw [← unhide HE, Pk.enc_small (n := m) (by omega)]
      rfl

theorem number_any (n : Int) (w : World) (hn : n < 9223372036854775808) :
    Calls Tryz.prog 119 #[.int .i64 n] w fun e w' => e = .returned (.string (bs (Pk.enc n.toNat))) ∧ Below w.heap.size w w' := by
  by_cases h : n < 0
  · exact number_neg n n.toNat w (by omega) h
  · obtain ⟨N, rfl⟩ := Int.eq_ofNat_of_zero_le (show 0 ≤ n by omega)
    exact number_nat N w (by omega)

theorem cat_list (l : List UInt8) (s : ByteArray) : bs l ++ s = bs (l ++ s.data.toList) := by
  apply ByteArray.ext
  simp [bs, ByteArray.data_append]
set_option maxHeartbeats 400000 in
theorem text_any (s : ByteArray) (w : World) (hs : s.size ≤ 1000000000000000000) :
    Calls Tryz.prog 90 #[.string s] w fun e w' => e = .returned (.string (bs (Pk.txt s.data.toList))) ∧ Below w.heap.size w w' := by
  have hc : ¬ 9223372036854775807 < (bs (Pk.enc s.size)).size + s.size := by
    rw [bs_size]
    have := Pk.enc_nine (n := s.size) (by omega)
    omega
  have he := hide (cat_list (Pk.enc s.size) s)
  go_enter Tryz.func90, Tryz.ntmps90
  go_wp2_with fail
  refine (number_nat s.size _ (by omega)).mono ?_
  rintro e w1 ⟨rfl, b1⟩
  go_wp2_with fail
  go_ret
  refine ⟨?_, b1⟩
  rw [unhide he]
  unfold Pk.txt
  simp
end Go.Proofs.YtohjipnkoiifhagGreatDoor
