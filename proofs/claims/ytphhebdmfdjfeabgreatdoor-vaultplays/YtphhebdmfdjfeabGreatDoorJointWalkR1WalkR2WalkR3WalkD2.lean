/-
  Contract of rillref.Sum: the CRC-32 of the text's bytes, bit by bit.
  Contract of rillref.ReadNumber.
  Contracts of rillref.Number, Text and ReadText.
  Contract of rillref.Coded: a right record's bytes.
-/
import Derived.Test.YtphhebdmfdjfeabGreatDoorJointWalkN1WalkN2WalkN3
import Derived.Test.YtphhebdmfdjfeabGreatDoorWalkN4
import Derived.Deep.RegionWith
import Derived.Deep.RegionLaw
import Derived.Test.YtphhebdmfdjfeabGreatDoorJointWalkC1WalkC2WalkC4
import Derived.Test.YtphhebdmfdjfeabGreatDoorJointRowTWalk3Walk4Walk6aWalkD1
import Derived.Deep.RegionHeldLaw
import Derived.Deep.DrawnRows
namespace Go.Proofs.YtphhebdmfdjfeabGreatDoor
open Go.RowKit

/-- the document's register behind m bits of byte k -/
def rr (l : List UInt8) (k m : Nat) : Nat := Pk.reg (Pk.bitAt l) (8 * k + m)
theorem rr_lt (l : List UInt8) (k m : Nat) : rr l k m < 4294967296 := Pk.reg_lt (Pk.bitAt_lt l) _
theorem rr_eight (l : List UInt8) (k : Nat) : rr l k 8 = rr l (k + 1) 0 := rfl
def tb (l : List UInt8) (k m : Nat) : Nat := Pk.at' l k / 2 ^ m % 2
theorem rr_same {l : List UInt8} {k m : Nat} (hm : m < 8) (h : rr l k m % 2 = tb l k m) : rr l k (m + 1) = rr l k m / 2 := by
  unfold rr tb at *
  rw [← Nat.add_assoc, Pk.reg, Pk.bitAt, show (8 * k + m) / 8 = k from by omega, show (8 * k + m) % 8 = m from by omega, ← h]
  rw [Z_even, Pk.xor_half]
  · simp
  · rw [Pk.xor_odd]; omega
theorem rr_other {l : List UInt8} {k m : Nat} (hm : m < 8) (h : rr l k m % 2 ≠ tb l k m) : rr l k (m + 1) = rr l k m / 2 ^^^ 3988292384 := by
  unfold rr tb at *
  rw [← Nat.add_assoc, Pk.reg, Pk.bitAt, show (8 * k + m) / 8 = k from by omega, show (8 * k + m) % 8 = m from by omega]
  rw [Z_odd, Pk.xor_half]
  · have : Pk.at' l k / 2 ^ m % 2 / 2 = 0 := by omega
    rw [this, Nat.xor_zero]
  · rw [Pk.xor_odd]; omega

theorem and_bit (s : ByteArray) {k : Nat} (h : k < s.size) (m : Nat) : bits .and .u32 ((s[k].toNat : Int) % 4294967296 / 2 ^ m) 1 = ((tb s.data.toList k m : Nat) : Int) := by
  have hb := Pk.at_lt s.data.toList k
  have e : ((s[k].toNat : Int) % 4294967296 / 2 ^ m) = ((Pk.at' s.data.toList k / 2 ^ m : Nat) : Int) := by
    rw [byte_at s h, show ((Pk.at' s.data.toList k : Int)) % 4294967296 = (Pk.at' s.data.toList k : Int) from by omega]
    simp
  rw [e, and_one _ (Nat.lt_of_le_of_lt (Nat.div_le_self _ _) (by omega))]
  rfl

set_option maxHeartbeats 1000000 in
theorem rsum_any (s : ByteArray) (w : World) (hs : s.size ≤ 1000000000000000000) :
    Calls Tryz.prog 90 #[.string s] w fun e w' => e = .returned (.int .u32 (Pk.crc s.data.toList)) ∧ w' = w := by
  go_enter Tryz.func90, Tryz.ntmps90
  go_wp2_with fail
  go_loop [3, 4] (fun r i => ∃ k : Nat, k ≤ s.size ∧ i = .int .i64 k ∧ r = .int .u32 ((rr s.data.toList k 0 : Nat) : Int)) (fun _ i => s.size - (intOf i).toNat)
  case atStart => exact ⟨0, Nat.zero_le _, rfl, rfl⟩
  case round =>
    obtain ⟨k, hk, rfl, rfl⟩ := hrel
    by_cases hlt : k < s.size
    · go_wp2_with fail
      go_loop [3, 5] (fun r j => ∃ m : Nat, m ≤ 8 ∧ j = .int .i64 m ∧ r = .int .u32 ((rr s.data.toList k m : Nat) : Int)) (fun _ j => 8 - (intOf j).toNat)
      case atStart => exact ⟨0, by omega, rfl, rfl⟩
      case round =>
        obtain ⟨m, hm, rfl, rfl⟩ := hrel
        have hl := rr_lt s.data.toList k m
        by_cases hm8 : m < 8
        · have e1 := and_one _ hl
          have e2 := xor_poly _ hl
          have e3 := hide (and_bit s hlt m)
          go_wp2_with fail
          · rename_i h
            rw [unhide e3] at h
            have h2 := rr_other (l := s.data.toList) (k := k) hm8 (fun e => WalkArith.int_ne' h (by omega))
            go_round
            case rel => exact ⟨m + 1, by omega, by go_num, by rw [h2]⟩
            case measure => simp [intOf]; omega
          · rename_i h
            rw [unhide e3] at h
            have h2 := rr_same (l := s.data.toList) (k := k) hm8 (by have := WalkArith.int_eq' h; omega)
            go_round
            case rel => exact ⟨m + 1, by omega, by go_num, by rw [h2]; simp⟩
            case measure => simp [intOf]; omega
        · obtain rfl : m = 8 := by omega
          have h8 := hide (rr_eight s.data.toList k)
          go_wp2_with fail
          go_round
          case rel => exact ⟨k + 1, by omega, by go_num, by rw [unhide h8]⟩
          case measure => simp [intOf]; omega
    · obtain rfl : k = s.size := by omega
      have hx := rr_lt s.data.toList s.size 0
      go_wp2_with fail
      go_ret
      refine ⟨ret_int ?_, rfl⟩
      rw [Pk.crc]
      unfold rr at *
      simp at *
      omega
end Go.Proofs.YtphhebdmfdjfeabGreatDoor

namespace Go.Proofs.YtphhebdmfdjfeabGreatDoor
open Go.RowKit

theorem val_room (l : List UInt8) (i : Nat) {m : Nat} (h : m ≤ 8) : Pk.val l i m < 72057594037927936 :=
  Nat.lt_of_lt_of_le (Pk.val_lt l m i) (Nat.le_trans (Nat.pow_le_pow_right (by decide) h) (by decide))
theorem val_round (s : ByteArray) {j k : Nat} (h : j < s.size) (hj : j ≤ k) (hk : k < 9) : wrap64 (((Pk.val s.data.toList (j + 1) (k - j) : Nat) : Int) * 128 + (wrap64 (s[j].toNat : Int)).tmod 128) = ((Pk.val s.data.toList j (k + 1 - j) : Nat) : Int) := by
  have hb := Pk.at_lt s.data.toList j
  have hv := val_room s.data.toList (j + 1) (m := k - j) (by omega)
  rw [show k + 1 - j = (k - j) + 1 from by omega, Pk.val_succ, byte_at s h, IntWalk.wrap64_in (Pk.at' s.data.toList j) ⟨by omega, by omega⟩, Int.tmod_eq_emod_of_nonneg (by omega), IntWalk.wrap64_in _ ⟨by omega, by omega⟩]
  omega

set_option maxRecDepth 100000 in
set_option maxHeartbeats 1000000 in
theorem rreadn_any (s : ByteArray) (w : World) (hs : s.size ≤ 1000000000000000000) :
    Calls Tryz.prog 91 #[.string s] w fun e w' => e = .returned (numV s.data.toList) ∧ w' = w := by
  go_enter Tryz.func91, Tryz.ntmps91
  go_wp2_with fail
  go_loop [5] (fun i => ∃ k : Nat, k ≤ 9 ∧ k ≤ s.size ∧ i = .int .i64 k ∧ Hid (∀ j, j < k → 128 ≤ Pk.at' s.data.toList j)) (fun i => 9 - (intOf i).toNat)
  case atStart => exact ⟨0, Nat.zero_le _, Nat.zero_le _, rfl, hide (fun j h => absurd h (Nat.not_lt_zero j))⟩
  case round =>
    obtain ⟨k, hk9, hk, rfl, hq⟩ := hrel
    by_cases h9 : k = 9
    · have R := hide (rd_nine (l := s.data.toList) (by simp; omega) (fun j hj => unhide hq j (by omega)))
      subst h9
      go_wp2_with fail
      all_goals go_ret3
      all_goals exact ⟨ret_num (unhide R) rfl, rfl⟩
    have h9' : k < 9 := by omega
    have h9e : ((k : Int) == 9) = false := by simp; omega
    clear h9
    by_cases hl : k = s.size
    · subst hl
      have R := hide (rd_more (l := s.data.toList) (by simp; omega) (fun j hj => unhide hq j (by simp at hj; omega)))
      go_wp2_with fail
      all_goals go_ret3
      all_goals exact ⟨ret_num (unhide R) rfl, rfl⟩
    have hks : k < s.size := by omega
    have hle : ((k : Int) == (s.size : Int)) = false := by simp; omega
    clear hl
    have HB := hide (byte_at s hks)
    by_cases hc : s[k].toNat < 128
    · have Hc : Hid (Pk.at' s.data.toList k < 128) := hide (by rw [← unhide HB]; exact hc)
      by_cases hk0 : 0 < k
      · by_cases hz : s[k].toNat = 0
        · have R := hide (rd_form hks (by omega) (unhide hq) (unhide Hc) hk0 (by rw [← unhide HB]; exact hz))
          have hz' : ((s[k].toNat : Int) == 0) = true := by simp [hz]
          clear hz
          go_wp2_with fail
          go_ret3
          exact ⟨ret_num (unhide R) rfl, rfl⟩
        · have R := hide (rd_val hks (by omega) (unhide hq) (unhide Hc) (.inr (by rw [← unhide HB]; exact hz)))
          have hz' : ((s[k].toNat : Int) == 0) = false := by simp [hz]
          clear hz
          go_wp2_with fail
          go_loop [6, 7] (fun n i => (∃ j : Nat, j ≤ k ∧ i = .int .i64 j ∧ n = .int .i64 ((Pk.val s.data.toList (j + 1) (k - j) : Nat) : Int)) ∨ (i = .int .i64 (-1) ∧ n = .int .i64 ((Pk.val s.data.toList 0 (k + 1) : Nat) : Int))) (fun _ i => (intOf i + 1).toNat)
          case atStart => exact .inl ⟨k, Nat.le_refl _, rfl, by rw [Nat.sub_self]; rfl⟩
          case round =>
            rcases hrel with ⟨j, hj, rfl, rfl⟩ | ⟨rfl, rfl⟩
            · have hjs : j < s.size := by omega
              have hv := val_room s.data.toList (j + 1) (m := k - j) (by omega)
              have e := hide (val_round s hjs (k := k) hj (by omega))
              go_wp2_with fail
              go_round
              case rel =>
                rcases Nat.eq_zero_or_pos j with h0 | h0
                · subst h0
                  exact .inr ⟨by go_num, congrArg (Value.int .i64) (unhide e)⟩
                · exact .inl ⟨j - 1, by omega, by go_num, by rw [show j - 1 + 1 = j from by omega, show k - (j - 1) = k + 1 - j from by omega, unhide e]⟩
              case measure => simp [intOf]
            · go_wp2_with fail
              go_ret3
              exact ⟨ret_num (unhide R) (by first | rfl | (simp; done)), rfl⟩
      · have R := hide (rd_val hks (by omega) (unhide hq) (unhide Hc) (.inl (by omega)))
        go_wp2_with fail
        go_loop [6, 7] (fun n i => (∃ j : Nat, j ≤ k ∧ i = .int .i64 j ∧ n = .int .i64 ((Pk.val s.data.toList (j + 1) (k - j) : Nat) : Int)) ∨ (i = .int .i64 (-1) ∧ n = .int .i64 ((Pk.val s.data.toList 0 (k + 1) : Nat) : Int))) (fun _ i => (intOf i + 1).toNat)
        case atStart => exact .inl ⟨k, Nat.le_refl _, rfl, by rw [Nat.sub_self]; rfl⟩
        case round =>
          rcases hrel with ⟨j, hj, rfl, rfl⟩ | ⟨rfl, rfl⟩
          · have hjs : j < s.size := by omega
            have hv := val_room s.data.toList (j + 1) (m := k - j) (by omega)
            have e := hide (val_round s hjs (k := k) hj (by omega))
            go_wp2_with fail
            go_round
            case rel =>
              rcases Nat.eq_zero_or_pos j with h0 | h0
              · subst h0
                exact .inr ⟨by go_num, congrArg (Value.int .i64) (unhide e)⟩
              · exact .inl ⟨j - 1, by omega, by go_num, by rw [show j - 1 + 1 = j from by omega, show k - (j - 1) = k + 1 - j from by omega, unhide e]⟩
            case measure => simp [intOf]
          · go_wp2_with fail
            go_ret3
            exact ⟨ret_num (unhide R) (by first | rfl | (simp; done)), rfl⟩
    · go_wp2_with fail
      go_round
      case rel => exact ⟨k + 1, by omega, by omega, by go_num, hide (fun j h => by
        rcases Nat.lt_succ_iff_lt_or_eq.1 h with h | h
        · exact unhide hq j h
        · subst h; have := unhide HB; omega)⟩
      case measure => simp [intOf]; omega
end Go.Proofs.YtphhebdmfdjfeabGreatDoor

namespace Go.Proofs.YtphhebdmfdjfeabGreatDoor
open Go.RowKit

theorem conv_one (w : World) (n : Nat) (h : n < 256) :
    (convert 96 9 (.slice (some ⟨w.heap.size, 0, none⟩) 1 1)).run Tryz.prog (w.alloc (.cells #[.int .u8 (n : Int)] 5)) = .ok (.string (bs [UInt8.ofNat n])) (w.alloc (.cells #[.int .u8 (n : Int)] 5)) := by
  refine run_convert_bytes_back _ 96 9 5 ⟨w.heap.size, 0, none⟩ 1 [UInt8.ofNat n] Tryz.underlying96 Tryz.underlying5 Tryz.underlying9 fun j hj => ?_
  have := one_new w (.int .u8 (n : Int)) 5 j (.int .u8 (n : Int)) (by
    have : j = 0 := by simpa using hj
    subst this; rfl)
  rw [this]
  have hj0 : j = 0 := by simpa using hj
  subst hj0
  simp only [List.getElem_cons_zero]
  rw [Pk.u8_of h]

theorem conv_at (N : Nat) (W : World) (a : Addr) (h : W.cell? a = some (.int .u8 (IntKind.u8.wrap (IntKind.i64.wrap (128 + (N : Int).tmod 128))))) :
    (convert 96 9 (.slice (some a) 1 1)).run Tryz.prog W = .ok (.string (bs [UInt8.ofNat (gb N)])) W := by
  refine run_convert_bytes_back _ 96 9 5 a 1 [UInt8.ofNat (gb N)] Tryz.underlying96 Tryz.underlying5 Tryz.underlying9 fun j hj => ?_
  have hj0 : j = 0 := by simpa using hj
  subst hj0
  simp only [List.getElem_cons_zero]
  rw [Pk.u8_of (gb_lt N), show a.add 0 = a from by simp [Addr.add], h, Int.tmod_eq_emod_of_nonneg (by omega), IntWalk.i64_in _ ⟨by omega, by omega⟩, IntWalk.u8_in _ ⟨by omega, by omega⟩]
  unfold gb
  simp

theorem enc_cat {N : Nat} (h : ¬ N < 128) : bs (Pk.enc N) = bs [UInt8.ofNat (gb N)] ++ bs (Pk.enc (N / 128)) := by
  rw [Pk.enc_large h, cat_list, bs_list]
  rfl

set_option maxRecDepth 100000 in
set_option maxHeartbeats 1000000 in
theorem rnumber_neg (n : Int) (w : World) (hn : n < 0) :
    Calls Tryz.prog 96 #[.int .i64 n] w fun e w' => e = .returned (.string (bs (Pk.enc 0))) ∧ Below w.heap.size w w' := by
  have hcv := hide (conv_one w 0 (by decide))
  go_enter Tryz.func96, Tryz.ntmps96
  go_wp2_with fail
  rw [show max n 0 = ((0 : Nat) : Int) from by omega, unhide hcv]
  go_wp2_with fail
  go_ret
  exact ⟨by rw [Pk.enc_small (by decide)]; rfl, (Below.refl _ _).alloc (Nat.le_refl _) _⟩

set_option maxRecDepth 100000 in
set_option maxHeartbeats 1000000 in
theorem rnumber_nat (N : Nat) : ∀ (w : World), N < 9223372036854775808 →
    Calls Tryz.prog 96 #[.int .i64 N] w fun e w' => e = .returned (.string (bs (Pk.enc N))) ∧ Below w.heap.size w w' := by
  induction N using Nat.strongRecOn with
  | _ N ih =>
    intro w hN
    by_cases h : N < 128
    · have hcv := hide (conv_one w N (by omega))
      clear ih
      go_enter Tryz.func96, Tryz.ntmps96
      go_wp2_with fail
      rw [unhide hcv]
      go_wp2_with fail
      go_ret
      exact ⟨by rw [Pk.enc_small (by omega)]; rfl, (Below.refl _ _).alloc (Nat.le_refl _) _⟩
    · have ih2 : Hid (∀ w : World, Calls Tryz.prog 96 #[.int .i64 (IntKind.i64.wrap ((N : Int) / 128))] w fun e w' => e = .returned (.string (bs (Pk.enc (N / 128)))) ∧ Below w.heap.size w w') := hide (fun w => by
        rw [IntWalk.i64_in _ ⟨by omega, by omega⟩]
        exact ih (N / 128) (by omega) w (by omega))
      clear ih
      have hcv := conv_at N
      have hsum : ¬ 9223372036854775807 < (bs [UInt8.ofNat (gb N)]).size + (bs (Pk.enc (N / 128))).size := by
        rw [bs_size, bs_size]
        have := Pk.enc_nine (n := N / 128) (by omega)
        simp
        omega
      go_enter Tryz.func96, Tryz.ntmps96
      go_wp2_with fail
      go_region_with (go_at_call 96; refine (unhide ih2 _).mono ?_; rintro e w1 ⟨rfl, b1⟩; have hc1 := fun h => b1.cell (p := ⟨w.heap.size, 0, none⟩) h)
      all_goals go_wp2_with fail
      all_goals go_ret
      · exact ⟨by rw [enc_cat (N := N) (by omega)]; rfl, ((Below.refl _ _).alloc (Nat.le_refl _) _).drew.trans (b1.mono (by simp))⟩
      · exact ⟨by rw [enc_cat (N := N) (by omega)]; rfl, ((Below.refl _ _).alloc (Nat.le_refl _) _).drew.trans (b1.mono (by simp))⟩
      · exact ⟨by rw [enc_cat (N := N) (by omega)]; rfl, (Below.trans (Below.refl _ _).drew b1).alloc b1.size _⟩

theorem rnumber_any (n : Int) (w : World) (hn : n < 9223372036854775808) :
    Calls Tryz.prog 96 #[.int .i64 n] w fun e w' => e = .returned (.string (bs (Pk.enc n.toNat))) ∧ Below w.heap.size w w' := by
  by_cases h : n < 0
  · rw [show n.toNat = 0 from by omega]
    exact rnumber_neg n w h
  · obtain ⟨N, rfl⟩ := Int.eq_ofNat_of_zero_le (show 0 ≤ n by omega)
    exact rnumber_nat N w (by omega)

set_option maxHeartbeats 400000 in
theorem rtext_any (s : ByteArray) (w : World) (hs : s.size ≤ 1000000000000000000) :
    Calls Tryz.prog 97 #[.string s] w fun e w' => e = .returned (.string (bs (Pk.txt s.data.toList))) ∧ Below w.heap.size w w' := by
  have hc : ¬ 9223372036854775807 < (bs (Pk.enc s.size)).size + s.size := by
    rw [bs_size]
    have := Pk.enc_nine (n := s.size) (by omega)
    omega
  have he := hide (cat_list (Pk.enc s.size) s)
  go_enter Tryz.func97, Tryz.ntmps97
  go_wp2_with fail
  refine (rnumber_nat s.size _ (by omega)).mono ?_
  rintro e w1 ⟨rfl, b1⟩
  go_wp2_with fail
  go_ret
  refine ⟨?_, b1⟩
  rw [unhide he]
  unfold Pk.txt
  simp

set_option maxRecDepth 100000 in
set_option maxHeartbeats 1000000 in
theorem rreadt_any (s : ByteArray) (most : Int) (w : World) (hs : s.size ≤ 281474976710656) :
    Calls Tryz.prog 89 #[.string s, .int .i64 most] w fun e w' => e = .returned (textV s.data.toList most) ∧ Below w.heap.size w w' := by
  obtain ⟨N, K, E, hr⟩ : ∃ N K E, Pk.rd s.data.toList = (N, K, E) := ⟨_, _, _, rfl⟩
  have hv : numV s.data.toList = .tuple #[.int .i64 N, .int .i64 K, .int .i64 E] := by unfold numV; rw [hr]
  by_cases hE : E = 0
  · subst hE
    have hg := Pk.rd_good (l := s.data.toList) (by rw [hr])
    rw [hr] at hg
    obtain ⟨-, hK, hN, -, hK9⟩ := hg
    simp only [] at hK hN hK9
    have hK' : K ≤ s.size := by simpa using hK
    clear hK
    by_cases h1 : most < N
    · have R := hide (rt_large hr h1)
      clear hr
      go_enter Tryz.func89, Tryz.ntmps89
      go_wp2_with fail
      refine (rreadn_any s _ (by omega)).mono ?_
      rintro e w1 ⟨rfl, rfl⟩
      rw [hv]
      go_wp2_with fail
      go_ret3
      exact ⟨ret_text (unhide R) rfl, Below.refl _ _⟩
    · by_cases h2 : s.size < K + N
      · have R := hide (rt_more hr h1 (by simpa using h2))
        clear hr
        go_enter Tryz.func89, Tryz.ntmps89
        go_wp2_with fail
        refine (rreadn_any s _ (by omega)).mono ?_
        rintro e w1 ⟨rfl, rfl⟩
        rw [hv]
        go_wp2_with fail
        go_ret3
        exact ⟨ret_text (unhide R) rfl, Below.refl _ _⟩
      · have R := hide (rt_good hr h1 (by simpa using h2))
        have hx := hide (cut_list s K N)
        clear hr
        go_enter Tryz.func89, Tryz.ntmps89
        go_wp2_with fail
        refine (rreadn_any s _ (by omega)).mono ?_
        rintro e w1 ⟨rfl, rfl⟩
        rw [hv]
        go_wp2_with fail
        go_ret3
        exact ⟨ret_text (unhide R) (by rw [← unhide hx]; rfl), Below.refl _ _⟩
  · have R := hide (rt_err (most := most) hr hE)
    have hE' : ((E : Int) != 0) = true := by simp [hE]
    have hE2 : ¬ ((E : Int) = 0) := by omega
    clear hr hE
    go_enter Tryz.func89, Tryz.ntmps89
    go_wp2_with fail
    refine (rreadn_any s _ (by omega)).mono ?_
    rintro e w1 ⟨rfl, rfl⟩
    rw [hv]
    go_wp2_with fail
    go_ret3
    exact ⟨ret_text (unhide R) rfl, Below.refl _ _⟩
end Go.Proofs.YtphhebdmfdjfeabGreatDoor

namespace Go.Proofs.YtphhebdmfdjfeabGreatDoor
open Go.RowKit
attribute [local go_sem ↓] Go.wp_at_zero Go.wp_at_succ

theorem bod_flat (k q t : Int) (s h d : ByteArray) : ((((bs [UInt8.ofNat k.toNat] ++ bs (Pk.enc q.toNat)) ++ bs (Pk.enc t.toNat)) ++ bs (Pk.txt s.data.toList)) ++ bs (Pk.txt h.data.toList)) ++ bs (Pk.txt d.data.toList) = bs (Pk.bod ⟨k, q, t, s.data.toList, h.data.toList, d.data.toList⟩) := by
  rw [cat_bs, cat_bs, cat_bs, cat_bs, cat_bs]
  unfold Pk.bod Pk.body
  simp

theorem conv_at1 (W : World) (a : Addr) (x : Int) (n : Nat) (hn : n < 256) (hx : x = n) (h : W.cell? a = some (.int .u8 x)) :
    (convert 96 9 (.slice (some a) 1 1)).run Tryz.prog W = .ok (.string (bs [UInt8.ofNat n])) W := by
  refine run_convert_bytes_back _ 96 9 5 a 1 [UInt8.ofNat n] Tryz.underlying96 Tryz.underlying5 Tryz.underlying9 fun j hj => ?_
  have hj0 : j = 0 := by simpa using hj
  subst hj0
  simp only [List.getElem_cons_zero]
  rw [Pk.u8_of hn, show a.add 0 = a from by simp [Addr.add], h, hx]
/-- the record's cells, and nothing below them is written -/
structure GW (w0 W : World) (k q t : Int) (s h d : ByteArray) : Prop where
  rb : RB W w0.heap.size k q t s h d
  bel : Below w0.heap.size w0 W
theorem GW.next {w0 W w' : World} {k q t : Int} {s h d : ByteArray} (g : GW w0 W k q t s h d) (b : Below W.heap.size W w') : GW w0 w' k q t s h d := ⟨g.rb.next b, bstep g.bel b⟩
theorem GW.drew {w0 W : World} {k q t : Int} {s h d : ByteArray} (g : GW w0 W k q t s h d) : GW w0 W.drew k q t s h d := g.next (Below.refl _ _).drew
theorem GW.alloc {w0 W : World} {k q t : Int} {s h d : ByteArray} (g : GW w0 W k q t s h d) (o : Obj) : GW w0 (W.alloc o) k q t s h d := g.next ((Below.refl _ _).alloc (Nat.le_refl _) o)
theorem GW.cells {w0 W : World} {k q t : Int} {s h d : ByteArray} (g : GW w0 W k q t s h d) : W.cell? ⟨w0.heap.size, 0, none⟩ = some (.int .i64 k) ∧ W.cell? ⟨w0.heap.size, 1, none⟩ = some (.int .i64 q) ∧ W.cell? ⟨w0.heap.size, 2, none⟩ = some (.int .i64 t) ∧ W.cell? ⟨w0.heap.size, 3, none⟩ = some (.string s) ∧ W.cell? ⟨w0.heap.size, 4, none⟩ = some (.string h) ∧ W.cell? ⟨w0.heap.size, 5, none⟩ = some (.string d) :=
  ⟨g.rb.c0, g.rb.c1, g.rb.c2, g.rb.c3, g.rb.c4, g.rb.c5⟩

theorem conv_le4 {c : Nat} (hl : c < 4294967296) : ∀ (W : World) (b : Nat), W.cell? ⟨b, 0, none⟩ = some (.int .u8 (IntKind.u8.wrap ((c : Int).tmod 256))) → W.cell? ⟨b, 1, none⟩ = some (.int .u8 (IntKind.u8.wrap ((IntKind.u32.wrap ((c : Int) / 256)).tmod 256))) →
    W.cell? ⟨b, 2, none⟩ = some (.int .u8 (IntKind.u8.wrap ((IntKind.u32.wrap ((c : Int) / 65536)).tmod 256))) → W.cell? ⟨b, 3, none⟩ = some (.int .u8 (IntKind.u8.wrap (IntKind.u32.wrap ((c : Int) / 16777216)))) →
    (convert 96 9 (.slice (some ⟨b, 0, none⟩) 4 4)).run Tryz.prog W = .ok (.string (bs (Pk.le4 c))) W := by
  intro W b h0 h1 h2 h3
  have u1 : IntKind.u32.wrap ((c : Int) / 256) = (c : Int) / 256 := IntWalk.u32_in _ ⟨by omega, by omega⟩
  have u2 : IntKind.u32.wrap ((c : Int) / 65536) = (c : Int) / 65536 := IntWalk.u32_in _ ⟨by omega, by omega⟩
  have u3 : IntKind.u32.wrap ((c : Int) / 16777216) = (c : Int) / 16777216 := IntWalk.u32_in _ ⟨by omega, by omega⟩
  rw [Int.tmod_eq_emod_of_nonneg (by omega), IntWalk.u8_in _ ⟨by omega, by omega⟩] at h0
  rw [u1, Int.tmod_eq_emod_of_nonneg (by omega), IntWalk.u8_in _ ⟨by omega, by omega⟩] at h1
  rw [u2, Int.tmod_eq_emod_of_nonneg (by omega), IntWalk.u8_in _ ⟨by omega, by omega⟩] at h2
  rw [u3, IntWalk.u8_in _ ⟨by omega, by omega⟩] at h3
  have hq := le4_cells hl
  refine run_convert_bytes_back W 96 9 5 ⟨b, 0, none⟩ 4 (Pk.le4 c) Tryz.underlying96 Tryz.underlying5 Tryz.underlying9 fun j hj => ?_
  have e : ((Pk.le4 c).map (fun b => Value.int .u8 (b.toNat : Int)))[j]? = some (.int .u8 ((Pk.le4 c)[j].toNat : Int)) := by rw [List.getElem?_map, List.getElem?_eq_getElem hj]; rfl
  rw [hq] at e
  rw [← e, addp, Nat.zero_add]
  have hj4 : j < 4 := hj
  match j, hj4 with
  | 0, _ => exact h0
  | 1, _ => exact h1
  | 2, _ => exact h2
  | 3, _ => exact h3
/-- the kind's byte in a block of its own -/
structure SL (W : World) (b : Nat) (k : Int) : Prop where
  lt : b < W.heap.size
  c : W.cell? ⟨b, 0, none⟩ = some (.int .u8 (IntKind.u8.wrap k))
theorem SL.next {W w' : World} {b : Nat} {k : Int} (x : SL W b k) (h : Below W.heap.size W w') : SL w' b k := ⟨Nat.lt_of_lt_of_le x.lt h.size, by rw [h.cell (p := ⟨b, 0, none⟩) x.lt]; exact x.c⟩
theorem SL.drew {W : World} {b : Nat} {k : Int} (x : SL W b k) : SL W.drew b k := x.next (Below.refl _ _).drew
theorem SL.new' (W : World) (b : Nat) (k : Int) (T : TypeId) (h : b = W.heap.size) : SL (W.alloc (.cells #[.int .u8 (IntKind.u8.wrap k)] T)) b k := by
  subst h; exact ⟨by simp, by simp⟩
theorem SL.new (W : World) (k : Int) (T : TypeId) : SL (W.alloc (.cells #[.int .u8 (IntKind.u8.wrap k)] T)) W.heap.size k := SL.new' W _ k T rfl
/-- behind the body's statement -/
def CMid (w0 : World) (k q t : Int) (s h d X0 X1 X2 X3 X4 X5 : ByteArray) : Exit → Act → World → Prop
  | .normal, a, W => (∃ v : Value, a = { tmps := #[.agg #[.int .i64 k, .int .i64 q, .int .i64 t, .string s, .string h, .string d], .pointer (some ⟨w0.heap.size, 0, none⟩), .string ⟨#[]⟩, .string (X0 ++ X1 ++ X2 ++ X3 ++ X4 ++ X5), undef, .pointer (some ⟨w0.heap.size, 0, none⟩), .int .i64 k, .int .u8 (IntKind.u8.wrap k), v, .string X0, .pointer (some ⟨w0.heap.size, 1, none⟩), .int .i64 q, .string X1, .string (X0 ++ X1), .pointer (some ⟨w0.heap.size, 2, none⟩), .int .i64 t, .string X2, .string (X0 ++ X1 ++ X2), .pointer (some ⟨w0.heap.size, 3, none⟩), .string s, .string X3, .string (X0 ++ X1 ++ X2 ++ X3), .pointer (some ⟨w0.heap.size, 4, none⟩), .string h, .string X4, .string (X0 ++ X1 ++ X2 ++ X3 ++ X4), .pointer (some ⟨w0.heap.size, 5, none⟩), .string d, .string X5, .string (X0 ++ X1 ++ X2 ++ X3 ++ X4 ++ X5), undef, undef, undef, undef, undef, undef, undef, undef, undef, undef, undef, undef, undef, undef, undef, undef, undef, undef, undef, undef, undef], defers := [] }) ∧ GW w0 W k q t s h d
  | _, _, _ => False

theorem CMid.mk {w0 : World} {k q t : Int} {s h d X0 X1 X2 X3 X4 X5 : ByteArray} {a : Act} {W : World} (x : ∃ v : Value, a = { tmps := #[.agg #[.int .i64 k, .int .i64 q, .int .i64 t, .string s, .string h, .string d], .pointer (some ⟨w0.heap.size, 0, none⟩), .string ⟨#[]⟩, .string (X0 ++ X1 ++ X2 ++ X3 ++ X4 ++ X5), undef, .pointer (some ⟨w0.heap.size, 0, none⟩), .int .i64 k, .int .u8 (IntKind.u8.wrap k), v, .string X0, .pointer (some ⟨w0.heap.size, 1, none⟩), .int .i64 q, .string X1, .string (X0 ++ X1), .pointer (some ⟨w0.heap.size, 2, none⟩), .int .i64 t, .string X2, .string (X0 ++ X1 ++ X2), .pointer (some ⟨w0.heap.size, 3, none⟩), .string s, .string X3, .string (X0 ++ X1 ++ X2 ++ X3), .pointer (some ⟨w0.heap.size, 4, none⟩), .string h, .string X4, .string (X0 ++ X1 ++ X2 ++ X3 ++ X4), .pointer (some ⟨w0.heap.size, 5, none⟩), .string d, .string X5, .string (X0 ++ X1 ++ X2 ++ X3 ++ X4 ++ X5), undef, undef, undef, undef, undef, undef, undef, undef, undef, undef, undef, undef, undef, undef, undef, undef, undef, undef, undef, undef, undef], defers := [] }) (g : GW w0 W k q t s h d) : CMid w0 k q t s h d X0 X1 X2 X3 X4 X5 .normal a W := ⟨x, g⟩

set_option maxRecDepth 100000 in
set_option maxHeartbeats 4000000 in
theorem rcoded_any (k q t : Int) (s h d : ByteArray) (w : World) (hE : chkV k q t s h d = 0) :
    Calls Tryz.prog 55 #[.agg #[.int .i64 k, .int .i64 q, .int .i64 t, .string s, .string h, .string d]] w fun e w' => e = .returned (.string (bs (Pk.cod ⟨k, q, t, s.data.toList, h.data.toList, d.data.toList⟩))) ∧ Below w.heap.size w w' := by
  obtain ⟨k1, k2, q1, q2, t1, t2, s1, s2⟩ := Pk.chk_len (r := ⟨k, q, t, s.data.toList, h.data.toList, d.data.toList⟩) hE
  simp only [len_size] at s1 s2 k1 k2 q1 q2 t1 t2
  obtain ⟨X0, hX0⟩ : ∃ X, X = bs [UInt8.ofNat k.toNat] := ⟨_, rfl⟩
  obtain ⟨X1, hX1⟩ : ∃ X, X = bs (Pk.enc q.toNat) := ⟨_, rfl⟩
  obtain ⟨X2, hX2⟩ : ∃ X, X = bs (Pk.enc t.toNat) := ⟨_, rfl⟩
  obtain ⟨X3, hX3⟩ : ∃ X, X = bs (Pk.txt s.data.toList) := ⟨_, rfl⟩
  obtain ⟨X4, hX4⟩ : ∃ X, X = bs (Pk.txt h.data.toList) := ⟨_, rfl⟩
  obtain ⟨X5, hX5⟩ : ∃ X, X = bs (Pk.txt d.data.toList) := ⟨_, rfl⟩
  have z0 : X0.size ≤ 1 := by rw [hX0, bs_size]; simp
  have z1 : X1.size ≤ 9 := by rw [hX1]; exact enc_size q2
  have z2 : X2.size ≤ 9 := by rw [hX2]; exact enc_size t2
  have z3 : X3.size ≤ 1009 := by rw [hX3]; exact txt_few (by omega)
  have z4 : X4.size ≤ 1009 := by rw [hX4]; exact txt_few (by omega)
  have z5 : X5.size ≤ 1009 := by rw [hX5]; exact txt_few (by omega)
  have c1 : ¬ 9223372036854775807 < X0.size + X1.size := by omega
  have c2 : ¬ 9223372036854775807 < X0.size + X1.size + X2.size := by omega
  have c3 : ¬ 9223372036854775807 < X0.size + X1.size + X2.size + X3.size := by omega
  have c4 : ¬ 9223372036854775807 < X0.size + X1.size + X2.size + X3.size + X4.size := by omega
  have c5 : ¬ 9223372036854775807 < X0.size + X1.size + X2.size + X3.size + X4.size + X5.size := by omega
  have hE2 := bod_flat k q t s h d
  rw [← hX0, ← hX1, ← hX2, ← hX3, ← hX4, ← hX5] at hE2
  have E := hide hE2
  have C1 : Hid (∀ W : World, GW w W k q t s h d → Calls Tryz.prog 96 #[.int .i64 q] W fun e w' => e = .returned (.string X1) ∧ GW w w' k q t s h d ∧ Below W.heap.size W w') := hide (fun W g => by rw [hX1]; exact (rnumber_any q W (by omega)).mono fun _ _ ⟨h1, h2⟩ => ⟨h1, g.next h2, h2⟩)
  have C2 : Hid (∀ W : World, GW w W k q t s h d → Calls Tryz.prog 96 #[.int .i64 t] W fun e w' => e = .returned (.string X2) ∧ GW w w' k q t s h d ∧ Below W.heap.size W w') := hide (fun W g => by rw [hX2]; exact (rnumber_any t W (by omega)).mono fun _ _ ⟨h1, h2⟩ => ⟨h1, g.next h2, h2⟩)
  have C3 : Hid (∀ W : World, GW w W k q t s h d → Calls Tryz.prog 97 #[.string s] W fun e w' => e = .returned (.string X3) ∧ GW w w' k q t s h d ∧ Below W.heap.size W w') := hide (fun W g => by rw [hX3]; exact (rtext_any s W (by omega)).mono fun _ _ ⟨h1, h2⟩ => ⟨h1, g.next h2, h2⟩)
  have C4 : Hid (∀ W : World, GW w W k q t s h d → Calls Tryz.prog 97 #[.string h] W fun e w' => e = .returned (.string X4) ∧ GW w w' k q t s h d ∧ Below W.heap.size W w') := hide (fun W g => by rw [hX4]; exact (rtext_any h W (by omega)).mono fun _ _ ⟨h1, h2⟩ => ⟨h1, g.next h2, h2⟩)
  have C5 : Hid (∀ W : World, GW w W k q t s h d → Calls Tryz.prog 97 #[.string d] W fun e w' => e = .returned (.string X5) ∧ GW w w' k q t s h d ∧ Below W.heap.size W w') := hide (fun W g => by rw [hX5]; exact (rtext_any d W (by omega)).mono fun _ _ ⟨h1, h2⟩ => ⟨h1, g.next h2, h2⟩)
  have hcv : ∀ (W : World) (a : Addr), W.cell? a = some (.int .u8 (IntKind.u8.wrap k)) → (convert 96 9 (.slice (some a) 1 1)).run Tryz.prog W = .ok (.string X0) W := by
    rw [hX0]; exact fun W a h => conv_at1 W a _ k.toNat (by omega) (by rw [IntWalk.u8_in _ ⟨by omega, by omega⟩]; omega) h
  have G0 : GW w (w.alloc (.cells #[.int .i64 k, .int .i64 q, .int .i64 t, .string s, .string h, .string d] 43)).drew k q t s h d := GW.drew ⟨RB.new w k q t s h d _, (Below.refl _ _).alloc (Nat.le_refl _) _⟩
  have G1 : GW w ((w.alloc (.cells #[.int .i64 k, .int .i64 q, .int .i64 t, .string s, .string h, .string d] 43)).alloc (.cells #[.int .u8 (IntKind.u8.wrap k)] 5)).drew k q t s h d := GW.drew (GW.alloc ⟨RB.new w k q t s h d _, (Below.refl _ _).alloc (Nat.le_refl _) _⟩ _)
  have s0 : SL ((w.alloc (.cells #[.int .i64 k, .int .i64 q, .int .i64 t, .string s, .string h, .string d] 43)).alloc (.cells #[.int .u8 (IntKind.u8.wrap k)] 5)).drew (w.heap.size + 1) k := SL.drew (SL.new' _ _ _ _ (by simp))
  clear hX0 hX1 hX2 hX3 hX4 hX5 hE2 s1 s2 q1 q2 t1 t2 z0 z1 z2 z3 z4 z5
  go_enter Tryz.func55, Tryz.ntmps55
  go_wp2_with fail
  refine Code.wp_mono (Q := CMid w k q t s h d X0 X1 X2 X3 X4 X5) ?_ ?_
  · rintro e a W hm
    cases e with
    | normal =>
      obtain ⟨⟨v, rfl⟩, g⟩ := hm
      have zB : (X0 ++ X1 ++ X2 ++ X3 ++ X4 ++ X5).size ≤ 1024 := by rw [unhide E, bs_size]; exact (Pk.bod_len hE).2
      have R : Hid (bs (Pk.cod ⟨k, q, t, s.data.toList, h.data.toList, d.data.toList⟩) = bs (Pk.txt (X0 ++ X1 ++ X2 ++ X3 ++ X4 ++ X5).data.toList) ++ bs (Pk.le4 (Pk.crc (X0 ++ X1 ++ X2 ++ X3 ++ X4 ++ X5).data.toList))) := hide (by rw [unhide E, bs_list, cat_bs]; rfl)
      have BG := hide g.bel
      clear C1 C2 C3 C4 C5 G0 G1 s0 hcv g c1 c2 c3 c4 c5 E hE
      generalize X0 ++ X1 ++ X2 ++ X3 ++ X4 ++ X5 = Y at zB R ⊢
      obtain ⟨c, hc⟩ : ∃ c, c = Pk.crc Y.data.toList := ⟨_, rfl⟩
      have hl : c < 4294967296 := by rw [hc]; exact Pk.crc_lt _
      obtain ⟨T, hT⟩ : ∃ T, T = bs (Pk.txt Y.data.toList) := ⟨_, rfl⟩
      rw [← hc, ← hT] at R
      have HC := hide hc
      have CT : Hid (∀ W : World, Calls Tryz.prog 97 #[.string Y] W fun e w' => e = .returned (.string T) ∧ Below W.heap.size W w') := hide (fun W => by rw [hT]; exact rtext_any Y W (by omega))
      have zT : T.size ≤ 1033 := by
        rw [hT, bs_size, Pk.txt, List.length_append, len_size]
        have := Pk.enc_nine (n := Y.size) (by omega)
        omega
      have hcv4 := conv_le4 hl
      have zF : ¬ 9223372036854775807 < T.size + (bs (Pk.le4 c)).size := by rw [bs_size, Pk.le4_len]; omega
      clear hc hT
      go_wp2_with fail
      refine (rsum_any Y _ (by omega)).mono ?_
      rintro e w9 ⟨rfl, rfl⟩
      rw [← unhide HC]
      go_wp2_with fail
      go_region_held_law (fun _ => True) (trivial)
        (first
          | (go_at_call 97; refine (unhide CT _).mono ?_; rintro e w10 ⟨rfl, b10⟩; have k0 := fun h => b10.cell (p := ⟨w9.heap.size, 0, none⟩) h; have k1 := fun h => b10.cell (p := ⟨w9.heap.size, 1, none⟩) h; have k2 := fun h => b10.cell (p := ⟨w9.heap.size, 2, none⟩) h; have k3 := fun h => b10.cell (p := ⟨w9.heap.size, 3, none⟩) h))
      all_goals go_wp2_with fail
      all_goals go_ret
      all_goals refine ⟨by rw [unhide R]; rfl, ?_⟩
      · exact (bstep (unhide BG).drew b10).alloc (bstep (unhide BG).drew b10).size _
      · exact bstep ((unhide BG).alloc (unhide BG).size _).drew b10
      · exact bstep ((unhide BG).alloc (unhide BG).size _).drew b10
    | _ => exact hm.elim
  go_region_held_law (fun w' => w'.cell? ⟨w.heap.size, 0, none⟩ = some (.int .i64 k) ∧ w'.cell? ⟨w.heap.size, 1, none⟩ = some (.int .i64 q) ∧ w'.cell? ⟨w.heap.size, 2, none⟩ = some (.int .i64 t) ∧ w'.cell? ⟨w.heap.size, 3, none⟩ = some (.string s) ∧ w'.cell? ⟨w.heap.size, 4, none⟩ = some (.string h) ∧ w'.cell? ⟨w.heap.size, 5, none⟩ = some (.string d))
    (first | exact GW.cells g5a | exact GW.cells g5 | exact GW.cells g4a | exact GW.cells g4 | exact GW.cells g3a | exact GW.cells g3 | exact GW.cells g2a | exact GW.cells g2 | exact GW.cells g1a | exact GW.cells g1 | exact GW.cells G1 | exact GW.cells G0 | go_keep)
    (first
      | (go_at_call 96; refine (unhide C1 _ (by first | exact G0 | exact G1)).mono ?_; rintro e w1 ⟨rfl, g1, b1⟩; have g1a := g1.alloc (.cells #[.int .u8 (IntKind.u8.wrap k)] 5); (first | (have s1 := SL.next s0 b1; have t1 := s1.c) | skip); clear C1)
      | (go_at_call 96; refine (unhide C2 _ (by first | exact g1 | exact g1a)).mono ?_; rintro e w2 ⟨rfl, g2, b2⟩; have g2a := g2.alloc (.cells #[.int .u8 (IntKind.u8.wrap k)] 5); (first | (have s2 := SL.next s1 b2; have t2 := s2.c) | (have s2 := SL.next (SL.new _ _ _) b2; have t2 := s2.c) | skip); clear C2)
      | (go_at_call 97; refine (unhide C3 _ (by first | exact g2 | exact g2a)).mono ?_; rintro e w3 ⟨rfl, g3, b3⟩; have g3a := g3.alloc (.cells #[.int .u8 (IntKind.u8.wrap k)] 5); (first | (have s3 := SL.next s2 b3; have t3 := s3.c) | (have s3 := SL.next (SL.new _ _ _) b3; have t3 := s3.c) | skip); clear C3)
      | (go_at_call 97; refine (unhide C4 _ (by first | exact g3 | exact g3a)).mono ?_; rintro e w4 ⟨rfl, g4, b4⟩; have g4a := g4.alloc (.cells #[.int .u8 (IntKind.u8.wrap k)] 5); (first | (have s4 := SL.next s3 b4; have t4 := s4.c) | (have s4 := SL.next (SL.new _ _ _) b4; have t4 := s4.c) | skip); clear C4)
      | (go_at_call 97; refine (unhide C5 _ (by first | exact g4 | exact g4a)).mono ?_; rintro e w5 ⟨rfl, g5, b5⟩; have g5a := g5.alloc (.cells #[.int .u8 (IntKind.u8.wrap k)] 5); (first | (have s5 := SL.next s4 b5; have t5 := s5.c) | (have s5 := SL.next (SL.new _ _ _) b5; have t5 := s5.c) | skip); clear C5))
  all_goals first | exact CMid.mk ⟨_, rfl⟩ g5 | exact CMid.mk ⟨_, rfl⟩ g5a
end Go.Proofs.YtphhebdmfdjfeabGreatDoor
