/-
  Contract of rillref.Decoded: the record at the front, how many bytes it took, or the error.
-/
import Derived.Test.YtmbnmljkioikjaaDoorWalkR1
import Derived.Test.YtmbnmljkioikjaaDoorWalkR3
import Derived.Test.YtmbnmljkioikjaaDoorWalkC8
import Derived.Test.YtmbnmljkioikjaaDoorWalkD1
namespace Go.Proofs.YtmbnmljkioikjaaDoor
open Go.RowKit

/-- the sum's bytes, the m highest of them -/
def nS (l : List UInt8) (K : Nat) : Nat → Nat
  | 0 => 0
  | m + 1 => nS l K m * 256 + Pk.at' l (K + (3 - m))
theorem nS_lt (l : List UInt8) (K : Nat) : ∀ m, nS l K m < 256 ^ m
  | 0 => by simp [nS]
  | m + 1 => by
    have := nS_lt l K m
    have := Pk.at_lt l (K + (3 - m))
    rw [nS, Nat.pow_succ]
    omega
theorem nS_few (l : List UInt8) (K : Nat) {m : Nat} (h : m ≤ 4) : nS l K m < 4294967296 :=
  Nat.lt_of_lt_of_le (nS_lt l K m) (Nat.le_trans (Nat.pow_le_pow_right (by decide) h) (by decide))
theorem at_drop (l : List UInt8) (K j : Nat) : Pk.at' (l.drop K) j = Pk.at' l (K + j) := by
  unfold Pk.at'; rw [List.getElem?_drop]
theorem nS_four (l : List UInt8) (K : Nat) : nS l K 4 = Pk.num4 (l.drop K) := by
  unfold Pk.num4
  rw [at_drop, at_drop, at_drop, at_drop]
  show (((0 * 256 + Pk.at' l (K + 3)) * 256 + Pk.at' l (K + 2)) * 256 + Pk.at' l (K + 1)) * 256 + Pk.at' l (K + 0) = _
  omega
theorem sum_iff {l : List UInt8} {K c : Nat} (h : K + 4 ≤ l.length) (hc : c < 4294967296) : nS l K 4 = c ↔ (l.drop K).take 4 = Pk.le4 c := by
  rw [nS_four]
  have hl : 4 ≤ (l.drop K).length := by rw [List.length_drop]; omega
  constructor
  · intro e; rw [← e]; exact (Pk.le4_num4 hl).symm
  · intro e
    have := Pk.le4_num4 hl
    rw [e] at this
    refine Pk.le4_inj ?_ hc this
    rw [← nS_four]; exact nS_few l K (Nat.le_refl _)

theorem nS_round (s : ByteArray) {K j : Nat} (h : K + j < s.size) (hj : j ≤ 3) : wrap64 (((nS s.data.toList K (3 - j) : Nat) : Int) * 256 + wrap64 (s[K + j].toNat : Int)) = ((nS s.data.toList K (4 - j) : Nat) : Int) := by
  have hb := Pk.at_lt s.data.toList (K + j)
  have hv := nS_few s.data.toList K (m := 3 - j) (by omega)
  rw [show 4 - j = (3 - j) + 1 from by omega, nS, byte_at s h, IntWalk.wrap64_in (Pk.at' s.data.toList (K + j)) ⟨by omega, by omega⟩, IntWalk.wrap64_in _ ⟨by omega, by omega⟩, show 3 - (3 - j) = j from by omega]
  omega

set_option maxRecDepth 100000 in
set_option maxHeartbeats 400000 in
theorem rdecoded_A (s : ByteArray) (X : List UInt8) (K E : Nat) (w : World) (hs : s.size ≤ 281474976710656) (hr : Pk.rt s.data.toList 1024 = (X, K, E)) (hE : E ≠ 0) :
    Calls Tryd.prog 34 #[.string s] w fun e w' => e = .returned (decV s.data.toList) ∧ Below w.heap.size w w' := by
  have hv : textV s.data.toList 1024 = .tuple #[.string (bs X), .int .i64 K, .int .i64 E] := by unfold textV; rw [hr]
  have R := hide (decV_of (dec_A hr hE))
  have R0 := hide (RB.new w 0 0 0 ⟨#[]⟩ ⟨#[]⟩ ⟨#[]⟩ 49)
  have B0 : Hid (Below w.heap.size w (w.alloc (.cells #[.int .i64 0, .int .i64 0, .int .i64 0, .string ⟨#[]⟩, .string ⟨#[]⟩, .string ⟨#[]⟩] 49))) := hide ((Below.refl _ _).alloc (Nat.le_refl _) _)
  have hE' : ((E : Int) != 0) = true := by simp [hE]
  have hE2 : ¬ ((E : Int) = 0) := by omega
  clear hr hE
  go_enter Tryd.func34, Tryd.ntmps34
  go_wp2_with fail
  refine (rreadt_any s 1024 _ hs).mono ?_
  rintro e w1 ⟨rfl, b1⟩
  rw [hv]
  have R1 := (unhide R0).next b1
  have B1 := hide (bstep (unhide B0) b1)
  have H1 := hide R1
  obtain ⟨_, c0, c1, c2, c3, c4, c5, fr⟩ := R1
  have f0 := fr 0
  have f1 := fr 1
  have f2 := fr 2
  have f3 := fr 3
  have f4 := fr 4
  have f5 := fr 5
  clear R0 B0 b1 fr
  go_wp2_with fail
  refine bodyPost_ret (results_rec3 rfl rfl ((unhide H1).setAll _ _ _ _ _ _)) rfl ?_
  exact ⟨by rw [unhide R]; rfl, set6_below (unhide B1) (Nat.le_refl _)⟩

set_option maxRecDepth 100000 in
set_option maxHeartbeats 400000 in
theorem rdecoded_B (s : ByteArray) (X : List UInt8) (K : Nat) (w : World) (hs : s.size ≤ 281474976710656) (hr : Pk.rt s.data.toList 1024 = (X, K, 0)) (hK : K ≤ s.size) (h4 : s.size < K + 4) :
    Calls Tryd.prog 34 #[.string s] w fun e w' => e = .returned (decV s.data.toList) ∧ Below w.heap.size w w' := by
  have hv : textV s.data.toList 1024 = .tuple #[.string (bs X), .int .i64 K, .int .i64 0] := by unfold textV; rw [hr]; rfl
  have R := hide (decV_of (dec_B hr (by simpa using h4)))
  have R0 := hide (RB.new w 0 0 0 ⟨#[]⟩ ⟨#[]⟩ ⟨#[]⟩ 49)
  have B0 : Hid (Below w.heap.size w (w.alloc (.cells #[.int .i64 0, .int .i64 0, .int .i64 0, .string ⟨#[]⟩, .string ⟨#[]⟩, .string ⟨#[]⟩] 49))) := hide ((Below.refl _ _).alloc (Nat.le_refl _) _)
  clear hr
  go_enter Tryd.func34, Tryd.ntmps34
  go_wp2_with fail
  refine (rreadt_any s 1024 _ hs).mono ?_
  rintro e w1 ⟨rfl, b1⟩
  rw [hv]
  have R1 := (unhide R0).next b1
  have B1 := hide (bstep (unhide B0) b1)
  have H1 := hide R1
  obtain ⟨_, c0, c1, c2, c3, c4, c5, fr⟩ := R1
  have f0 := fr 0
  have f1 := fr 1
  have f2 := fr 2
  have f3 := fr 3
  have f4 := fr 4
  have f5 := fr 5
  clear R0 B0 b1 fr
  go_wp2_with fail
  refine bodyPost_ret (results_rec3 rfl rfl ((unhide H1).setAll _ _ _ _ _ _)) rfl ?_
  exact ⟨by rw [unhide R]; rfl, set6_below (unhide B1) (Nat.le_refl _)⟩

set_option maxRecDepth 100000 in
set_option maxHeartbeats 400000 in
theorem rdecoded_C (s : ByteArray) (X : List UInt8) (K : Nat) (w : World) (hs : s.size ≤ 281474976710656) (hr : Pk.rt s.data.toList 1024 = (X, K, 0)) (h4 : K + 4 ≤ s.size) (hX : X.length ≤ 1024) (hne : nS s.data.toList K 4 ≠ Pk.crc X ∨ X.length = 0) (hd : Pk.dec s.data.toList = (Pk.none', 0, 7)) :
    Calls Tryd.prog 34 #[.string s] w fun e w' => e = .returned (decV s.data.toList) ∧ Below w.heap.size w w' := by
  have hv : textV s.data.toList 1024 = .tuple #[.string (bs X), .int .i64 K, .int .i64 0] := by unfold textV; rw [hr]; rfl
  have R := hide (decV_of hd)
  have R0 := hide (RB.new w 0 0 0 ⟨#[]⟩ ⟨#[]⟩ ⟨#[]⟩ 49)
  have B0 : Hid (Below w.heap.size w (w.alloc (.cells #[.int .i64 0, .int .i64 0, .int .i64 0, .string ⟨#[]⟩, .string ⟨#[]⟩, .string ⟨#[]⟩] 49))) := hide ((Below.refl _ _).alloc (Nat.le_refl _) _)
  have HX := hide hX
  have HN := hide hne
  clear hr hd hne
  go_enter Tryd.func34, Tryd.ntmps34
  go_wp2_with fail
  refine (rreadt_any s 1024 _ hs).mono ?_
  rintro e w1 ⟨rfl, b1⟩
  rw [hv]
  have R1 := (unhide R0).next b1
  have B1 := hide (bstep (unhide B0) b1)
  have H1 := hide R1
  clear R0 B0 b1 R1
  go_wp2_with fail
  go_loop [8, 9] (fun a i => (∃ j : Nat, j ≤ 3 ∧ i = .int .i64 (j : Int) ∧ a = .int .i64 ((nS s.data.toList K (3 - j) : Nat) : Int)) ∨ (i = .int .i64 (-1) ∧ a = .int .i64 ((nS s.data.toList K 4 : Nat) : Int))) (fun _ i => (intOf i + 1).toNat)
  case atStart => exact .inl ⟨3, by decide, rfl, rfl⟩
  case round =>
    rcases hrel with ⟨j, hj, rfl, rfl⟩ | ⟨rfl, rfl⟩
    · have hl := nS_few s.data.toList K (m := 3 - j) (by omega)
      have hjs : K + j < s.size := by omega
      have e := hide (nS_round s hjs hj)
      go_wp2_with fail
      go_round
      case rel =>
        rcases Nat.eq_zero_or_pos j with h0 | h0
        · subst h0
          exact .inr ⟨by go_num, congrArg (Value.int .i64) (unhide e)⟩
        · exact .inl ⟨j - 1, by omega, by go_num, by rw [show 3 - (j - 1) = 4 - j from by omega, unhide e]⟩
      case measure => simp [intOf]
    · have hl4 := nS_few s.data.toList K (m := 4) (by decide)
      have hc4 := Pk.crc_lt X
      have R1 := unhide H1
      obtain ⟨_, c0, c1, c2, c3, c4, c5, fr⟩ := R1
      have f0 := fr 0
      have f1 := fr 1
      have f2 := fr 2
      have f3 := fr 3
      have f4 := fr 4
      have f5 := fr 5
      clear fr
      generalize hn : nS s.data.toList K 4 = n4 at hl4 HN ⊢
      generalize hcc : Pk.crc X = cc at hc4 HN
      have HCC := hide hcc
      clear hn hcc
      by_cases hq : n4 = cc
      · have hx0 : X.length = 0 := by
          rcases unhide HN with h | h
          · exact absurd hq h
          · exact h
        have hq' : ((n4 : Int) != (cc : Int)) = false := by simp; omega
        have hx1 : (bs X).size = 0 := by rw [bs_size]; exact hx0
        have hx2 : (((bs X).size : Int) == 0) = true := by simp [hx1]
        clear hq hx0 hx1
        go_wp2_with fail
        refine (rsum_any (bs X) _ (by rw [bs_size]; omega)).mono ?_
        rintro e w2 ⟨rfl, rfl⟩
        rw [bs_list, unhide HCC]
        go_wp2_with fail
        refine bodyPost_ret (results_rec3 rfl rfl ((unhide H1).setAll _ _ _ _ _ _)) rfl ?_
        exact ⟨by rw [unhide R]; rfl, set6_below (unhide B1) (Nat.le_refl _)⟩
      · have hq' : ((n4 : Int) != (cc : Int)) = true := by simp; omega
        clear hq
        go_wp2_with fail
        refine (rsum_any (bs X) _ (by rw [bs_size]; omega)).mono ?_
        rintro e w2 ⟨rfl, rfl⟩
        rw [bs_list, unhide HCC]
        go_wp2_with fail
        refine bodyPost_ret (results_rec3 rfl rfl ((unhide H1).setAll _ _ _ _ _ _)) rfl ?_
        exact ⟨by rw [unhide R]; rfl, set6_below (unhide B1) (Nat.le_refl _)⟩
end Go.Proofs.YtmbnmljkioikjaaDoor
