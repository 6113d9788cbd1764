/-
  Contract of rillref.ReadNumber.
-/
import Derived.Test.YtmbnmljkioikjaaDoorWalkN2
namespace Go.Proofs.YtmbnmljkioikjaaDoor
open Go.RowKit

theorem val_room (l : List UInt8) (i : Nat) {m : Nat} (h : m ≤ 8) : Pk.val l i m < 72057594037927936 :=
  Nat.lt_of_lt_of_le (Pk.val_lt l m i) (Nat.le_trans (Nat.pow_le_pow_right (by decide) h) (by decide))
theorem val_round (s : ByteArray) {j k : Nat} (h : j < s.size) (hj : j ≤ k) (hk : k < 9) : wrap64 (((Pk.val s.data.toList (j + 1) (k - j) : Nat) : Int) * 128 + (wrap64 (s[j].toNat : Int)).tmod 128) = ((Pk.val s.data.toList j (k + 1 - j) : Nat) : Int) := by
  have hb := Pk.at_lt s.data.toList j
  have hv := val_room s.data.toList (j + 1) (m := k - j) (by omega)
  rw [show k + 1 - j = (k - j) + 1 from by omega, Pk.val_succ, byte_at s h, IntWalk.wrap64_in (Pk.at' s.data.toList j) ⟨by omega, by omega⟩, Int.tmod_eq_emod_of_nonneg (by omega), IntWalk.wrap64_in _ ⟨by omega, by omega⟩]
  omega

set_option maxRecDepth 100000 in
set_option maxHeartbeats 1000000 in
theorem rreadn_any (s : ByteArray) (w : World) (hs : s.size ≤ 1000000000000000000) :
    Calls Tryd.prog 65 #[.string s] w fun e w' => e = .returned (numV s.data.toList) ∧ w' = w := by
  go_enter Tryd.func65, Tryd.ntmps65
  go_wp2_with fail
  go_loop [5] (fun i => ∃ k : Nat, k ≤ 9 ∧ k ≤ s.size ∧ i = .int .i64 k ∧ Hid (∀ j, j < k → 128 ≤ Pk.at' s.data.toList j)) (fun i => 9 - (intOf i).toNat)
  case atStart => exact ⟨0, Nat.zero_le _, Nat.zero_le _, rfl, hide (fun j h => absurd h (Nat.not_lt_zero j))⟩
  case round =>
    obtain ⟨k, hk9, hk, rfl, hq⟩ := hrel
    by_cases h9 : k = 9
    · have R := hide (rd_nine (l := s.data.toList) (by simp; omega) (fun j hj => unhide hq j (by omega)))
      subst h9
      go_wp2_with fail
      all_goals go_ret3
      all_goals exact ⟨ret_num (unhide R) rfl, rfl⟩
    have h9' : k < 9 := by omega
    have h9e : ((k : Int) == 9) = false := by simp; omega
    clear h9
    by_cases hl : k = s.size
    · subst hl
      have R := hide (rd_more (l := s.data.toList) (by simp; omega) (fun j hj => unhide hq j (by simp at hj; omega)))
      go_wp2_with fail
      all_goals go_ret3
      all_goals exact ⟨ret_num (unhide R) rfl, rfl⟩
    have hks : k < s.size := by omega
    have hle : ((k : Int) == (s.size : Int)) = false := by simp; omega
    clear hl
    have HB := hide (byte_at s hks)
    by_cases hc : s[k].toNat < 128
    · have Hc : Hid (Pk.at' s.data.toList k < 128) := hide (by rw [← unhide HB]; exact hc)
      by_cases hk0 : 0 < k
      · by_cases hz : s[k].toNat = 0
        · have R := hide (rd_form hks (by omega) (unhide hq) (unhide Hc) hk0 (by rw [← unhide HB]; exact hz))
          have hz' : ((s[k].toNat : Int) == 0) = true := by simp [hz]
          clear hz
          go_wp2_with fail
          go_ret3
          exact ⟨ret_num (unhide R) rfl, rfl⟩
        · have R := hide (rd_val hks (by omega) (unhide hq) (unhide Hc) (.inr (by rw [← unhide HB]; exact hz)))
          have hz' : ((s[k].toNat : Int) == 0) = false := by simp [hz]
          clear hz
          go_wp2_with fail
          go_loop [6, 7] (fun n i => (∃ j : Nat, j ≤ k ∧ i = .int .i64 j ∧ n = .int .i64 ((Pk.val s.data.toList (j + 1) (k - j) : Nat) : Int)) ∨ (i = .int .i64 (-1) ∧ n = .int .i64 ((Pk.val s.data.toList 0 (k + 1) : Nat) : Int))) (fun _ i => (intOf i + 1).toNat)
          case atStart => exact .inl ⟨k, Nat.le_refl _, rfl, by rw [Nat.sub_self]; rfl⟩
          case round =>
            rcases hrel with ⟨j, hj, rfl, rfl⟩ | ⟨rfl, rfl⟩
            · have hjs : j < s.size := by omega
              have hv := val_room s.data.toList (j + 1) (m := k - j) (by omega)
              have e := hide (val_round s hjs (k := k) hj (by omega))
              go_wp2_with fail
              go_round
              case rel =>
                rcases Nat.eq_zero_or_pos j with h0 | h0
                · subst h0
                  exact .inr ⟨by go_num, congrArg (Value.int .i64) (unhide e)⟩
                · exact .inl ⟨j - 1, by omega, by go_num, by rw [show j - 1 + 1 = j from by omega, show k - (j - 1) = k + 1 - j from by omega, unhide e]⟩
              case measure => simp [intOf]
            · go_wp2_with fail
              go_ret3
              exact ⟨ret_num (unhide R) (by first | rfl | (simp; done)), rfl⟩
      · have R := hide (rd_val hks (by omega) (unhide hq) (unhide Hc) (.inl (by omega)))
        go_wp2_with fail
        go_loop [6, 7] (fun n i => (∃ j : Nat, j ≤ k ∧ i = .int .i64 j ∧ n = .int .i64 ((Pk.val s.data.toList (j + 1) (k - j) : Nat) : Int)) ∨ (i = .int .i64 (-1) ∧ n = .int .i64 ((Pk.val s.data.toList 0 (k + 1) : Nat) : Int))) (fun _ i => (intOf i + 1).toNat)
        case atStart => exact .inl ⟨k, Nat.le_refl _, rfl, by rw [Nat.sub_self]; rfl⟩
        case round =>
          rcases hrel with ⟨j, hj, rfl, rfl⟩ | ⟨rfl, rfl⟩
          · have hjs : j < s.size := by omega
            have hv := val_room s.data.toList (j + 1) (m := k - j) (by omega)
            have e := hide (val_round s hjs (k := k) hj (by omega))
            go_wp2_with fail
            go_round
            case rel =>
              rcases Nat.eq_zero_or_pos j with h0 | h0
              · subst h0
                exact .inr ⟨by go_num, congrArg (Value.int .i64) (unhide e)⟩
              · exact .inl ⟨j - 1, by omega, by go_num, by rw [show j - 1 + 1 = j from by omega, show k - (j - 1) = k + 1 - j from by omega, unhide e]⟩
            case measure => simp [intOf]
          · go_wp2_with fail
            go_ret3
            exact ⟨ret_num (unhide R) (by first | rfl | (simp; done)), rfl⟩
    · go_wp2_with fail
      go_round
      case rel => exact ⟨k + 1, by omega, by omega, by go_num, hide (fun j h => by
        rcases Nat.lt_succ_iff_lt_or_eq.1 h with h | h
        · exact unhide hq j h
        · subst h; have := unhide HB; omega)⟩
      case measure => simp [intOf]; omega
end Go.Proofs.YtmbnmljkioikjaaDoor
