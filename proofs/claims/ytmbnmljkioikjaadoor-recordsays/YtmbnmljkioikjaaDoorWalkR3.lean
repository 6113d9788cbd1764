/-
  Contracts of rillref.Number, Text and ReadText.
-/
import Derived.Test.YtmbnmljkioikjaaDoorWalkN4
import Derived.Test.YtmbnmljkioikjaaDoorWalkR2
import Derived.Deep.RegionWith
import Derived.Deep.RegionLaw
namespace Go.Proofs.YtmbnmljkioikjaaDoor
open Go.RowKit

theorem conv_one (w : World) (n : Nat) (h : n < 256) :
    (convert 72 9 (.slice (some ⟨w.heap.size, 0, none⟩) 1 1)).run Tryd.prog (w.alloc (.cells #[.int .u8 (n : Int)] 5)) = .ok (.string (bs [UInt8.ofNat n])) (w.alloc (.cells #[.int .u8 (n : Int)] 5)) := by
  refine run_convert_bytes_back _ 72 9 5 ⟨w.heap.size, 0, none⟩ 1 [UInt8.ofNat n] Tryd.underlying72 Tryd.underlying5 Tryd.underlying9 fun j hj => ?_
  have := one_new w (.int .u8 (n : Int)) 5 j (.int .u8 (n : Int)) (by
    have : j = 0 := by simpa using hj
    subst this; rfl)
  rw [this]
  have hj0 : j = 0 := by simpa using hj
  subst hj0
  simp only [List.getElem_cons_zero]
  rw [Pk.u8_of h]

theorem conv_at (N : Nat) (W : World) (a : Addr) (h : W.cell? a = some (.int .u8 (IntKind.u8.wrap (IntKind.i64.wrap (128 + (N : Int).tmod 128))))) :
    (convert 72 9 (.slice (some a) 1 1)).run Tryd.prog W = .ok (.string (bs [UInt8.ofNat (gb N)])) W := by
  refine run_convert_bytes_back _ 72 9 5 a 1 [UInt8.ofNat (gb N)] Tryd.underlying72 Tryd.underlying5 Tryd.underlying9 fun j hj => ?_
  have hj0 : j = 0 := by simpa using hj
  subst hj0
  simp only [List.getElem_cons_zero]
  rw [Pk.u8_of (gb_lt N), show a.add 0 = a from by simp [Addr.add], h, Int.tmod_eq_emod_of_nonneg (by omega), IntWalk.i64_in _ ⟨by omega, by omega⟩, IntWalk.u8_in _ ⟨by omega, by omega⟩]
  unfold gb
  simp

theorem enc_cat {N : Nat} (h : ¬ N < 128) : bs (Pk.enc N) = bs [UInt8.ofNat (gb N)] ++ bs (Pk.enc (N / 128)) := by
  rw [Pk.enc_large h, cat_list, bs_list]
  rfl

set_option maxRecDepth 100000 in
set_option maxHeartbeats 1000000 in
theorem rnumber_neg (n : Int) (w : World) (hn : n < 0) :
    Calls Tryd.prog 53 #[.int .i64 n] w fun e w' => e = .returned (.string (bs (Pk.enc 0))) ∧ Below w.heap.size w w' := by
  have hcv := hide (conv_one w 0 (by decide))
  go_enter Tryd.func53, Tryd.ntmps53
  go_wp2_with fail
  rw [show max n 0 = ((0 : Nat) : Int) from by omega, unhide hcv]
  go_wp2_with fail
  go_ret
  exact ⟨by rw [Pk.enc_small (by decide)]; rfl, (Below.refl _ _).alloc (Nat.le_refl _) _⟩

set_option maxRecDepth 100000 in
set_option maxHeartbeats 1000000 in
theorem rnumber_nat (N : Nat) : ∀ (w : World), N < 9223372036854775808 →
    Calls Tryd.prog 53 #[.int .i64 N] w fun e w' => e = .returned (.string (bs (Pk.enc N))) ∧ Below w.heap.size w w' := by
  induction N using Nat.strongRecOn with
  | _ N ih =>
    intro w hN
    by_cases h : N < 128
    · have hcv := hide (conv_one w N (by omega))
      clear ih
      go_enter Tryd.func53, Tryd.ntmps53
      go_wp2_with fail
      rw [unhide hcv]
      go_wp2_with fail
      go_ret
      exact ⟨by rw [Pk.enc_small (by omega)]; rfl, (Below.refl _ _).alloc (Nat.le_refl _) _⟩
    · have ih2 : Hid (∀ w : World, Calls Tryd.prog 53 #[.int .i64 (IntKind.i64.wrap ((N : Int) / 128))] w fun e w' => e = .returned (.string (bs (Pk.enc (N / 128)))) ∧ Below w.heap.size w w') := hide (fun w => by
        rw [IntWalk.i64_in _ ⟨by omega, by omega⟩]
        exact ih (N / 128) (by omega) w (by omega))
      clear ih
      have hcv := conv_at N
      have hsum : ¬ 9223372036854775807 < (bs [UInt8.ofNat (gb N)]).size + (bs (Pk.enc (N / 128))).size := by
        rw [bs_size, bs_size]
        have := Pk.enc_nine (n := N / 128) (by omega)
        simp
        omega
      go_enter Tryd.func53, Tryd.ntmps53
      go_wp2_with fail
      go_region_with (go_at_call 53; refine (unhide ih2 _).mono ?_; rintro e w1 ⟨rfl, b1⟩; have hc1 := fun h => b1.cell (p := ⟨w.heap.size, 0, none⟩) h)
      all_goals go_wp2_with fail
      all_goals go_ret
      · exact ⟨by rw [enc_cat (N := N) (by omega)]; rfl, ((Below.refl _ _).alloc (Nat.le_refl _) _).drew.trans (b1.mono (by simp))⟩
      · exact ⟨by rw [enc_cat (N := N) (by omega)]; rfl, ((Below.refl _ _).alloc (Nat.le_refl _) _).drew.trans (b1.mono (by simp))⟩
      · exact ⟨by rw [enc_cat (N := N) (by omega)]; rfl, (Below.trans (Below.refl _ _).drew b1).alloc b1.size _⟩

theorem rnumber_any (n : Int) (w : World) (hn : n < 9223372036854775808) :
    Calls Tryd.prog 53 #[.int .i64 n] w fun e w' => e = .returned (.string (bs (Pk.enc n.toNat))) ∧ Below w.heap.size w w' := by
  by_cases h : n < 0
  · rw [show n.toNat = 0 from by omega]
    exact rnumber_neg n w h
  · obtain ⟨N, rfl⟩ := Int.eq_ofNat_of_zero_le (show 0 ≤ n by omega)
    exact rnumber_nat N w (by omega)

set_option maxHeartbeats 400000 in
theorem rtext_any (s : ByteArray) (w : World) (hs : s.size ≤ 1000000000000000000) :
    Calls Tryd.prog 54 #[.string s] w fun e w' => e = .returned (.string (bs (Pk.txt s.data.toList))) ∧ Below w.heap.size w w' := by
  have hc : ¬ 9223372036854775807 < (bs (Pk.enc s.size)).size + s.size := by
    rw [bs_size]
    have := Pk.enc_nine (n := s.size) (by omega)
    omega
  have he := hide (cat_list (Pk.enc s.size) s)
  go_enter Tryd.func54, Tryd.ntmps54
  go_wp2_with fail
  refine (rnumber_nat s.size _ (by omega)).mono ?_
  rintro e w1 ⟨rfl, b1⟩
  go_wp2_with fail
  go_ret
  refine ⟨?_, b1⟩
  rw [unhide he]
  unfold Pk.txt
  simp

set_option maxRecDepth 100000 in
set_option maxHeartbeats 1000000 in
theorem rreadt_any (s : ByteArray) (most : Int) (w : World) (hs : s.size ≤ 281474976710656) :
    Calls Tryd.prog 64 #[.string s, .int .i64 most] w fun e w' => e = .returned (textV s.data.toList most) ∧ Below w.heap.size w w' := by
  obtain ⟨N, K, E, hr⟩ : ∃ N K E, Pk.rd s.data.toList = (N, K, E) := ⟨_, _, _, rfl⟩
  have hv : numV s.data.toList = .tuple #[.int .i64 N, .int .i64 K, .int .i64 E] := by unfold numV; rw [hr]
  by_cases hE : E = 0
  · subst hE
    have hg := Pk.rd_good (l := s.data.toList) (by rw [hr])
    rw [hr] at hg
    obtain ⟨-, hK, hN, -, hK9⟩ := hg
    simp only [] at hK hN hK9
    have hK' : K ≤ s.size := by simpa using hK
    clear hK
    by_cases h1 : most < N
    · have R := hide (rt_large hr h1)
      clear hr
      go_enter Tryd.func64, Tryd.ntmps64
      go_wp2_with fail
      refine (rreadn_any s _ (by omega)).mono ?_
      rintro e w1 ⟨rfl, rfl⟩
      rw [hv]
      go_wp2_with fail
      go_ret3
      exact ⟨ret_text (unhide R) rfl, Below.refl _ _⟩
    · by_cases h2 : s.size < K + N
      · have R := hide (rt_more hr h1 (by simpa using h2))
        clear hr
        go_enter Tryd.func64, Tryd.ntmps64
        go_wp2_with fail
        refine (rreadn_any s _ (by omega)).mono ?_
        rintro e w1 ⟨rfl, rfl⟩
        rw [hv]
        go_wp2_with fail
        go_ret3
        exact ⟨ret_text (unhide R) rfl, Below.refl _ _⟩
      · have R := hide (rt_good hr h1 (by simpa using h2))
        have hx := hide (cut_list s K N)
        clear hr
        go_enter Tryd.func64, Tryd.ntmps64
        go_wp2_with fail
        refine (rreadn_any s _ (by omega)).mono ?_
        rintro e w1 ⟨rfl, rfl⟩
        rw [hv]
        go_wp2_with fail
        go_ret3
        exact ⟨ret_text (unhide R) (by rw [← unhide hx]; rfl), Below.refl _ _⟩
  · have R := hide (rt_err (most := most) hr hE)
    have hE' : ((E : Int) != 0) = true := by simp [hE]
    have hE2 : ¬ ((E : Int) = 0) := by omega
    clear hr hE
    go_enter Tryd.func64, Tryd.ntmps64
    go_wp2_with fail
    refine (rreadn_any s _ (by omega)).mono ?_
    rintro e w1 ⟨rfl, rfl⟩
    rw [hv]
    go_wp2_with fail
    go_ret3
    exact ⟨ret_text (unhide R) rfl, Below.refl _ _⟩
end Go.Proofs.YtmbnmljkioikjaaDoor
