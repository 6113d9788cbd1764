/-
  Contract of pack.ReadNumber.
-/
import Derived.Test.YtmbnmljkioikjaaDoorWalkN1
namespace Go.Proofs.YtmbnmljkioikjaaDoor
open Go.RowKit

/-- what a reading of a number answers -/
def numV (l : List UInt8) : Value := .tuple #[.int .i64 (Pk.rd l).1, .int .i64 (Pk.rd l).2.1, .int .i64 (Pk.rd l).2.2]

/-- a group's seven bits -/
def grp (l : List UInt8) (k : Nat) : Nat := Pk.at' l k % 128
theorem grp_lt (l : List UInt8) (k : Nat) : grp l k < 128 := Nat.mod_lt _ (by decide)
theorem grp_ne {l : List UInt8} {k : Nat} (_ : Pk.at' l k < 128) (hz : ((grp l k : Int) == 0) = false) : Pk.at' l k ≠ 0 := by
  have := WalkArith.int_ne hz; unfold grp at this; omega
theorem grp_eq {l : List UInt8} {k : Nat} (h : Pk.at' l k < 128) (hz : ((grp l k : Int) == 0) = true) : Pk.at' l k = 0 := by
  have := WalkArith.int_eq hz; unfold grp at this; omega
theorem and_low (s : ByteArray) {k : Nat} (h : k < s.size) : bits .and .u8 (s[k].toNat : Int) 127 = ((grp s.data.toList k : Nat) : Int) := by
  have hb := Pk.at_lt s.data.toList k
  rw [byte_at s h, show (127 : Int) = ((127 : Nat) : Int) from rfl, u8_and_nat _ _ hb (by decide), nat_mask7]
  rfl
theorem and_high (s : ByteArray) {k : Nat} (h : k < s.size) : bits .and .u8 (s[k].toNat : Int) 128 = ((Pk.at' s.data.toList k / 128 * 128 : Nat) : Int) := by
  have hb := Pk.at_lt s.data.toList k
  rw [byte_at s h, show (128 : Int) = ((128 : Nat) : Int) from rfl, u8_and_nat _ _ hb (by decide), show (128 : Nat) = 2 ^ 7 from rfl, nat_bit]
  have : Pk.at' s.data.toList k / 2 ^ 7 % 2 = Pk.at' s.data.toList k / 2 ^ 7 := by omega
  rw [this]
theorem wraps63 (n : Int) (h₀ : 0 ≤ n) (h₁ : n < 2 ^ 63) : IntKind.i64.wrap n = n := by rw [IntKind.wrap_i64]; omega
theorem or_step (l : List UInt8) {k : Nat} (hk : k < 9) : bits .or .i64 ((Pk.val l 0 k : Nat) : Int) (wrap64 ((grp l k : Int) * 2 ^ (k * 7))) = ((Pk.val l 0 (k + 1) : Nat) : Int) := by
  have hv := Pk.val_lt l k 0
  have hg := grp_lt l k
  have e7 : (128 : Nat) ^ k = 2 ^ (k * 7) := by rw [show (128 : Nat) = 2 ^ 7 from rfl, ← Nat.pow_mul, Nat.mul_comm]
  have hp : (2 : Nat) ^ (k * 7) ≤ 2 ^ 56 := Nat.pow_le_pow_right (by decide) (by omega)
  have hm : grp l k * 2 ^ (k * 7) ≤ 127 * 2 ^ 56 := Nat.mul_le_mul (by omega) hp
  have hc : ((grp l k : Int) * 2 ^ (k * 7)) = ((grp l k * 2 ^ (k * 7) : Nat) : Int) := by simp
  rw [hc, IntWalk.wrap64_in _ ⟨by omega, by omega⟩]
  rw [e7] at hv
  rw [(bits_nat .i64 63 (by decide) wraps63 _ _ (by omega) (by omega)).2, Pk.val_last, e7, Nat.zero_add]
  congr 1
  rw [Nat.or_comm, Nat.mul_comm, ← Nat.two_pow_add_eq_or_of_lt hv, Nat.add_comm]
  rfl
theorem ret_num {l : List UInt8} {r : Nat × Nat × Nat} {v : Value} (h : Pk.rd l = r) (hv : v = .tuple #[.int .i64 r.1, .int .i64 r.2.1, .int .i64 r.2.2]) : Ending.returned v = .returned (numV l) := by
  unfold numV; rw [h, hv]
theorem rd_val {s : ByteArray} {k : Nat} (h1 : k < s.size) (h2 : k < 9) (h3 : ∀ j, j < k → 128 ≤ Pk.at' s.data.toList j) (h4 : Pk.at' s.data.toList k < 128) (h5 : k = 0 ∨ Pk.at' s.data.toList k ≠ 0) :
    Pk.rd s.data.toList = (Pk.val s.data.toList 0 (k + 1), k + 1, 0) := by
  have e : Pk.lead s.data.toList 9 = k := Pk.lead_eq (by omega) (by simp; omega) h3 (.inr (.inr h4))
  unfold Pk.rd
  rw [e, if_neg (by omega), if_neg (by simp; omega), if_neg (by omega)]
theorem rd_form {s : ByteArray} {k : Nat} (h1 : k < s.size) (h2 : k < 9) (h3 : ∀ j, j < k → 128 ≤ Pk.at' s.data.toList j) (h4 : Pk.at' s.data.toList k < 128) (h5 : 0 < k) (h6 : Pk.at' s.data.toList k = 0) :
    Pk.rd s.data.toList = (0, 0, 7) := by
  have e : Pk.lead s.data.toList 9 = k := Pk.lead_eq (by omega) (by simp; omega) h3 (.inr (.inr h4))
  unfold Pk.rd
  rw [e, if_neg (by omega), if_neg (by simp; omega), if_pos ⟨h5, h6⟩]
theorem rd_nine {l : List UInt8} (h1 : 9 ≤ l.length) (h3 : ∀ j, j < 9 → 128 ≤ Pk.at' l j) : Pk.rd l = (0, 0, 7) := by
  have e : Pk.lead l 9 = 9 := Pk.lead_eq (by omega) (by omega) h3 (.inl rfl)
  unfold Pk.rd
  rw [e, if_pos rfl]
theorem rd_more {l : List UInt8} (h1 : l.length < 9) (h3 : ∀ j, j < l.length → 128 ≤ Pk.at' l j) : Pk.rd l = (0, 0, 6) := by
  have e : Pk.lead l 9 = l.length := Pk.lead_eq (by omega) (by omega) h3 (.inr (.inl rfl))
  unfold Pk.rd
  rw [e, if_neg (by omega), if_pos rfl]

set_option maxHeartbeats 1000000 in
theorem readn_any (s : ByteArray) (w : World) (hs : s.size ≤ 1000000000000000000) :
    Calls Tryd.prog 78 #[.string s] w fun e w' => e = .returned (numV s.data.toList) ∧ w' = w := by
  by_cases h9 : 9 < s.size
  · go_enter Tryd.func78, Tryd.ntmps78
    go_wp2_with fail
    go_loop [5, 11] (fun n i => ∃ k : Nat, k ≤ 9 ∧ i = .int .i64 k ∧ n = .int .i64 ((Pk.val s.data.toList 0 k : Nat) : Int) ∧ Hid (∀ j, j < k → 128 ≤ Pk.at' s.data.toList j)) (fun _ i => 9 - (intOf i).toNat)
    case atStart => exact ⟨0, Nat.zero_le _, rfl, rfl, hide (fun j h => absurd h (Nat.not_lt_zero j))⟩
    case round =>
      obtain ⟨k, hk, rfl, rfl, hq⟩ := hrel
      by_cases hlt : k < 9
      · have hks : k < s.size := by omega
        have hgl := grp_lt s.data.toList k
        have g1 := and_low s hks
        have g2 := and_high s hks
        have g3 := or_step s.data.toList (k := k) (by omega)
        by_cases hc : Pk.at' s.data.toList k < 128
        · rw [show Pk.at' s.data.toList k / 128 = 0 from by omega] at g2
          have Hc := hide hc
          clear hc
          cases hz : ((grp s.data.toList k : Int) == 0) with
          | false =>
            have R := hide (rd_val hks (by omega) (unhide hq) (unhide Hc) (.inr (grp_ne (unhide Hc) hz)))
            go_wp2_with fail
            go_ret3
            exact ⟨ret_num (unhide R) rfl, rfl⟩
          | true =>
            by_cases hk0 : 0 < k
            · have R := hide (rd_form hks (by omega) (unhide hq) (unhide Hc) hk0 (grp_eq (unhide Hc) hz))
              go_wp2_with fail
              go_ret3
              exact ⟨ret_num (unhide R) rfl, rfl⟩
            · have R := hide (rd_val hks (by omega) (unhide hq) (unhide Hc) (.inl (by omega)))
              go_wp2_with fail
              go_ret3
              exact ⟨ret_num (unhide R) rfl, rfl⟩
        · rw [show Pk.at' s.data.toList k / 128 = 1 from by have := Pk.at_lt s.data.toList k; omega] at g2
          have Hc := hide hc
          clear hc
          go_wp2_with fail
          go_round
          case rel => exact ⟨k + 1, by omega, by go_num, rfl, hide (fun j h => by
            rcases Nat.lt_succ_iff_lt_or_eq.1 h with h | h
            · exact unhide hq j h
            · subst h; have := unhide Hc; omega)⟩
          case measure => simp [intOf]; omega
      · have R := hide (rd_nine (l := s.data.toList) (by simp; omega) (fun j hj => unhide hq j (by omega)))
        go_wp2_with fail
        go_ret3
        exact ⟨ret_num (unhide R) rfl, rfl⟩
  · go_enter Tryd.func78, Tryd.ntmps78
    go_wp2_with fail
    go_loop [5, 11] (fun n i => ∃ k : Nat, k ≤ s.size ∧ i = .int .i64 k ∧ n = .int .i64 ((Pk.val s.data.toList 0 k : Nat) : Int) ∧ Hid (∀ j, j < k → 128 ≤ Pk.at' s.data.toList j)) (fun _ i => s.size - (intOf i).toNat)
    case atStart => exact ⟨0, Nat.zero_le _, rfl, rfl, hide (fun j h => absurd h (Nat.not_lt_zero j))⟩
    case round =>
      obtain ⟨k, hk, rfl, rfl, hq⟩ := hrel
      by_cases hlt : k < s.size
      · have hks : k < s.size := by omega
        have hgl := grp_lt s.data.toList k
        have g1 := and_low s hks
        have g2 := and_high s hks
        have g3 := or_step s.data.toList (k := k) (by omega)
        by_cases hc : Pk.at' s.data.toList k < 128
        · rw [show Pk.at' s.data.toList k / 128 = 0 from by omega] at g2
          have Hc := hide hc
          clear hc
          cases hz : ((grp s.data.toList k : Int) == 0) with
          | false =>
            have R := hide (rd_val hks (by omega) (unhide hq) (unhide Hc) (.inr (grp_ne (unhide Hc) hz)))
            go_wp2_with fail
            go_ret3
            exact ⟨ret_num (unhide R) rfl, rfl⟩
          | true =>
            by_cases hk0 : 0 < k
            · have R := hide (rd_form hks (by omega) (unhide hq) (unhide Hc) hk0 (grp_eq (unhide Hc) hz))
              go_wp2_with fail
              go_ret3
              exact ⟨ret_num (unhide R) rfl, rfl⟩
            · have R := hide (rd_val hks (by omega) (unhide hq) (unhide Hc) (.inl (by omega)))
              go_wp2_with fail
              go_ret3
              exact ⟨ret_num (unhide R) rfl, rfl⟩
        · rw [show Pk.at' s.data.toList k / 128 = 1 from by have := Pk.at_lt s.data.toList k; omega] at g2
          have Hc := hide hc
          clear hc
          go_wp2_with fail
          go_round
          case rel => exact ⟨k + 1, by omega, by go_num, rfl, hide (fun j h => by
            rcases Nat.lt_succ_iff_lt_or_eq.1 h with h | h
            · exact unhide hq j h
            · subst h; have := unhide Hc; omega)⟩
          case measure => simp [intOf]; omega
      · by_cases h8 : s.size = 9
        · have R := hide (rd_nine (l := s.data.toList) (by simp; omega) (fun j hj => unhide hq j (by omega)))
          have h8' : 9 ≤ s.size := by omega
          clear h8
          go_wp2_with fail
          go_ret3
          exact ⟨ret_num (unhide R) rfl, rfl⟩
        · have R := hide (rd_more (l := s.data.toList) (by simp; omega) (fun j hj => unhide hq j (by simp at hj; omega)))
          have h8' : s.size < 9 := by omega
          clear h8
          go_wp2_with fail
          go_ret3
          exact ⟨ret_num (unhide R) rfl, rfl⟩
end Go.Proofs.YtmbnmljkioikjaaDoor
