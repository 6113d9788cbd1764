/-
  Contract of record.Decode: the record at the front, how many bytes it took, or the error.
-/
import Derived.Test.YtohjipnkoiifhagGreatDoorJointWalkC5WalkC7
import Derived.Test.YtohjipnkoiifhagGreatDoorJointWalkC3WalkC4
namespace Go.Proofs.YtohjipnkoiifhagGreatDoor
open Go.RowKit

/-- what a decoding answers -/
def decV (l : List UInt8) : Value := .tuple #[recV (Pk.dec l).1, .int .i64 (Pk.dec l).2.1, .int .i64 (Pk.dec l).2.2]
theorem decV_of {l : List UInt8} {r : Pk.Rec} {n : Nat} {e : Int} (h : Pk.dec l = (r, n, e)) : decV l = .tuple #[recV r, .int .i64 n, .int .i64 e] := by unfold decV; rw [h]
theorem dec_A {l X : List UInt8} {K E : Nat} (hr : Pk.rt l 1024 = (X, K, E)) (h : E ≠ 0) : Pk.dec l = (Pk.none', 0, (E : Int)) := by
  unfold Pk.dec; rw [hr]; simp only []; rw [if_pos h]
theorem dec_B {l X : List UInt8} {K : Nat} (hr : Pk.rt l 1024 = (X, K, 0)) (h : l.length < K + 4) : Pk.dec l = (Pk.none', 0, 6) := by
  unfold Pk.dec; rw [hr]; simp only []; rw [if_neg (by simp), if_pos h]
theorem dec_C {l X : List UInt8} {K : Nat} (hr : Pk.rt l 1024 = (X, K, 0)) (h : ¬ l.length < K + 4) (h2 : (l.drop K).take 4 ≠ Pk.le4 (Pk.crc X)) : Pk.dec l = (Pk.none', 0, 7) := by
  unfold Pk.dec; rw [hr]; simp only []; rw [if_neg (by simp), if_neg h, if_pos h2]
theorem dec_D {l X : List UInt8} {K : Nat} (hr : Pk.rt l 1024 = (X, K, 0)) (h : ¬ l.length < K + 4) (h2 : (l.drop K).take 4 = Pk.le4 (Pk.crc X)) (h3 : X.length = 0 ∨ Pk.okB (X.drop 1) = false ∨ Pk.chk (Pk.recOf (Pk.at' X 0) (X.drop 1)) ≠ 0) : Pk.dec l = (Pk.none', 0, 7) := by
  unfold Pk.dec; rw [hr]; simp only []; rw [if_neg (by simp), if_neg h, if_neg (by rw [h2]; simp)]
  split
  · rfl
  split
  · rfl
  split
  · rfl
  · rename_i g1 g2 g3
    rcases h3 with h3 | h3 | h3
    · exact absurd h3 g1
    · exact absurd h3 g2
    · exact absurd h3 g3
theorem dec_F {l X : List UInt8} {K : Nat} (hr : Pk.rt l 1024 = (X, K, 0)) (h : ¬ l.length < K + 4) (h2 : (l.drop K).take 4 = Pk.le4 (Pk.crc X)) (h3 : X.length ≠ 0) (h4 : Pk.okB (X.drop 1) = true) (h5 : Pk.chk (Pk.recOf (Pk.at' X 0) (X.drop 1)) = 0) :
    Pk.dec l = (Pk.recOf (Pk.at' X 0) (X.drop 1), K + 4, 0) := by
  unfold Pk.dec; rw [hr]; simp only []; rw [if_neg (by simp), if_neg h, if_neg (by rw [h2]; simp), if_neg h3, if_neg (by rw [h4]; simp), if_neg (by rw [h5]; simp)]

theorem sum_cut {s : ByteArray} {K : Nat} (X : List UInt8) : ((s.extract K ((K : Int) + 4).toNat).toList == (bs (Pk.le4 (Pk.crc X))).toList) = ((s.data.toList.drop K).take 4 == Pk.le4 (Pk.crc X)) := by
  rw [show ((K : Int) + 4).toNat = K + 4 from by omega, cut_list, ByteArray.toList_eq, ByteArray.toList_eq, bs_list, bs_list]
theorem sum_other {s : ByteArray} {K : Nat} {X : List UInt8} (_ : K + 4 ≤ s.size) (h : (s.data.toList.drop K).take 4 ≠ Pk.le4 (Pk.crc X)) : ((s.extract K ((K : Int) + 4).toNat).toList == (bs (Pk.le4 (Pk.crc X))).toList) = false := by
  rw [sum_cut, beq_eq_false_iff_ne]; exact h
theorem sum_same {s : ByteArray} {K : Nat} {X : List UInt8} (_ : K + 4 ≤ s.size) (h : (s.data.toList.drop K).take 4 = Pk.le4 (Pk.crc X)) : ((s.extract K ((K : Int) + 4).toNat).toList == (bs (Pk.le4 (Pk.crc X))).toList) = true := by
  rw [sum_cut, beq_iff_eq]; exact h

set_option maxRecDepth 100000 in
set_option maxHeartbeats 400000 in
theorem decode_A (s : ByteArray) (X : List UInt8) (K E : Nat) (w : World) (hs : s.size ≤ 281474976710656) (hr : Pk.rt s.data.toList 1024 = (X, K, E)) (hE : E ≠ 0) :
    Calls Tryz.prog 135 #[.string s] w fun e w' => e = .returned (decV s.data.toList) ∧ Below w.heap.size w w' := by
  have hv : textV s.data.toList 1024 = .tuple #[.string (bs X), .int .i64 K, .int .i64 E] := by unfold textV; rw [hr]
  have R := hide (decV_of (dec_A hr hE))
  have R0 := hide (RB.new w 0 0 0 ⟨#[]⟩ ⟨#[]⟩ ⟨#[]⟩ 30)
  have B0 : Hid (Below w.heap.size w (w.alloc (.cells #[.int .i64 0, .int .i64 0, .int .i64 0, .string ⟨#[]⟩, .string ⟨#[]⟩, .string ⟨#[]⟩] 30))) := hide ((Below.refl _ _).alloc (Nat.le_refl _) _)
  have hE' : ((E : Int) != 0) = true := by simp [hE]
  have hE2 : ¬ ((E : Int) = 0) := by omega
  clear hr hE
  go_enter Tryz.func135, Tryz.ntmps135
  go_wp2_with fail
  refine (readt_any s 1024 _ hs).mono ?_
  rintro e w1 ⟨rfl, b1⟩
  rw [hv]
  have R1 := (unhide R0).next b1
  have B1 := hide (bstep (unhide B0) b1)
  have H1 := hide R1
  obtain ⟨_, c0, c1, c2, c3, c4, c5, fr⟩ := R1
  have f0 := fr 0
  have f1 := fr 1
  have f2 := fr 2
  have f3 := fr 3
  have f4 := fr 4
  have f5 := fr 5
  clear R0 B0 b1 fr
  go_wp2_with fail
  refine bodyPost_ret (results_rec3 rfl rfl ((unhide H1).setAll _ _ _ _ _ _)) rfl ?_
  exact ⟨by rw [unhide R]; rfl, set6_below (unhide B1) (Nat.le_refl _)⟩

set_option maxRecDepth 100000 in
set_option maxHeartbeats 400000 in
theorem decode_B (s : ByteArray) (X : List UInt8) (K : Nat) (w : World) (hs : s.size ≤ 281474976710656) (hr : Pk.rt s.data.toList 1024 = (X, K, 0)) (hK : K ≤ s.size) (h4 : s.size < K + 4) :
    Calls Tryz.prog 135 #[.string s] w fun e w' => e = .returned (decV s.data.toList) ∧ Below w.heap.size w w' := by
  have hv : textV s.data.toList 1024 = .tuple #[.string (bs X), .int .i64 K, .int .i64 0] := by unfold textV; rw [hr]; rfl
  have R := hide (decV_of (dec_B hr (by simpa using h4)))
  have R0 := hide (RB.new w 0 0 0 ⟨#[]⟩ ⟨#[]⟩ ⟨#[]⟩ 30)
  have B0 : Hid (Below w.heap.size w (w.alloc (.cells #[.int .i64 0, .int .i64 0, .int .i64 0, .string ⟨#[]⟩, .string ⟨#[]⟩, .string ⟨#[]⟩] 30))) := hide ((Below.refl _ _).alloc (Nat.le_refl _) _)
  clear hr
  go_enter Tryz.func135, Tryz.ntmps135
  go_wp2_with fail
  refine (readt_any s 1024 _ hs).mono ?_
  rintro e w1 ⟨rfl, b1⟩
  rw [hv]
  have R1 := (unhide R0).next b1
  have B1 := hide (bstep (unhide B0) b1)
  have H1 := hide R1
  obtain ⟨_, c0, c1, c2, c3, c4, c5, fr⟩ := R1
  have f0 := fr 0
  have f1 := fr 1
  have f2 := fr 2
  have f3 := fr 3
  have f4 := fr 4
  have f5 := fr 5
  clear R0 B0 b1 fr
  go_wp2_with fail
  refine bodyPost_ret (results_rec3 rfl rfl ((unhide H1).setAll _ _ _ _ _ _)) rfl ?_
  exact ⟨by rw [unhide R]; rfl, set6_below (unhide B1) (Nat.le_refl _)⟩

set_option maxRecDepth 100000 in
set_option maxHeartbeats 400000 in
theorem decode_C (s : ByteArray) (X : List UInt8) (K : Nat) (w : World) (hs : s.size ≤ 281474976710656) (hr : Pk.rt s.data.toList 1024 = (X, K, 0)) (h4 : K + 4 ≤ s.size) (hX : X.length ≤ 1024) (hne : (s.data.toList.drop K).take 4 ≠ Pk.le4 (Pk.crc X)) :
    Calls Tryz.prog 135 #[.string s] w fun e w' => e = .returned (decV s.data.toList) ∧ Below w.heap.size w w' := by
  have hv : textV s.data.toList 1024 = .tuple #[.string (bs X), .int .i64 K, .int .i64 0] := by unfold textV; rw [hr]; rfl
  have R := hide (decV_of (dec_C hr (by simpa using h4) hne))
  have R0 := hide (RB.new w 0 0 0 ⟨#[]⟩ ⟨#[]⟩ ⟨#[]⟩ 30)
  have B0 : Hid (Below w.heap.size w (w.alloc (.cells #[.int .i64 0, .int .i64 0, .int .i64 0, .string ⟨#[]⟩, .string ⟨#[]⟩, .string ⟨#[]⟩] 30))) := hide ((Below.refl _ _).alloc (Nat.le_refl _) _)
  have HX := hide hX
  have HB := hide (sum_other h4 hne)
  have i1 : (0 : Int) ≤ (K : Int) := by omega
  have i2 : (K : Int) ≤ (K : Int) + 4 := by omega
  have i3 : (K : Int) + 4 ≤ (s.size : Int) := by omega
  clear hr
  go_enter Tryz.func135, Tryz.ntmps135
  go_wp2_with fail
  refine (readt_any s 1024 _ hs).mono ?_
  rintro e w1 ⟨rfl, b1⟩
  rw [hv]
  have R1 := (unhide R0).next b1
  have B1 := hide (bstep (unhide B0) b1)
  have H1 := hide R1
  clear R0 B0 b1 R1
  go_wp2_with fail
  go_region_held3 (fun _ => True) (trivial)
    (first
      | (go_at_call 91; refine (sumof_any (bs X) _ (by rw [bs_size]; have := unhide HX; omega)).mono ?_; rintro e w2 ⟨rfl, b2⟩; rw [bs_list]))
  rw [unhide HB]
  have R2 := ((unhide H1).drew).next b2
  have B2 := hide (bstep (unhide B1).drew b2)
  have H2 := hide R2
  obtain ⟨_, c0, c1, c2, c3, c4, c5, fr⟩ := R2
  have f0 := fr 0
  have f1 := fr 1
  have f2 := fr 2
  have f3 := fr 3
  have f4 := fr 4
  have f5 := fr 5
  clear H1 B1 b2 fr
  go_wp2_with fail
  refine bodyPost_ret (results_rec3 rfl rfl ((unhide H2).setAll _ _ _ _ _ _)) rfl ?_
  exact ⟨by rw [unhide R]; rfl, set6_below (unhide B2) (Nat.le_refl _)⟩

set_option maxRecDepth 100000 in
set_option maxHeartbeats 400000 in
theorem decode_D (s : ByteArray) (X : List UInt8) (K : Nat) (w : World) (hs : s.size ≤ 281474976710656) (hr : Pk.rt s.data.toList 1024 = (X, K, 0)) (h4 : K + 4 ≤ s.size) (hX : X.length ≤ 1024) (he : (s.data.toList.drop K).take 4 = Pk.le4 (Pk.crc X)) (V : Value)
    (k q t : Int) (a b c : ByteArray) (hd : Pk.dec s.data.toList = (Pk.none', 0, 7)) (hV : V = .tuple #[.agg #[.int .i64 k, .int .i64 q, .int .i64 t, .string a, .string b, .string c], .bool false])
    (hc : ∀ W : World, Calls Tryz.prog 158 #[.string (bs X)] W fun e w' => e = .returned V ∧ Below W.heap.size W w') :
    Calls Tryz.prog 135 #[.string s] w fun e w' => e = .returned (decV s.data.toList) ∧ Below w.heap.size w w' := by
  subst hV
  have hv : textV s.data.toList 1024 = .tuple #[.string (bs X), .int .i64 K, .int .i64 0] := by unfold textV; rw [hr]; rfl
  have R := hide (decV_of hd)
  have HB := hide (sum_same h4 he)
  have R0 := hide (RB.new w 0 0 0 ⟨#[]⟩ ⟨#[]⟩ ⟨#[]⟩ 30)
  have B0 : Hid (Below w.heap.size w (w.alloc (.cells #[.int .i64 0, .int .i64 0, .int .i64 0, .string ⟨#[]⟩, .string ⟨#[]⟩, .string ⟨#[]⟩] 30))) := hide ((Below.refl _ _).alloc (Nat.le_refl _) _)
  have HX := hide hX
  have HC := hide hc
  have i1 : (0 : Int) ≤ (K : Int) := by omega
  have i2 : (K : Int) ≤ (K : Int) + 4 := by omega
  have i3 : (K : Int) + 4 ≤ (s.size : Int) := by omega
  clear hr he hd hc
  go_enter Tryz.func135, Tryz.ntmps135
  go_wp2_with fail
  refine (readt_any s 1024 _ hs).mono ?_
  rintro e w1 ⟨rfl, b1⟩
  rw [hv]
  have R1 := (unhide R0).next b1
  have B1 := hide (bstep (unhide B0) b1)
  have H1 := hide R1
  clear R0 B0 b1 R1
  go_wp2_with fail
  go_region_held3 (fun _ => True) (trivial)
    (first
      | (go_at_call 91; refine (sumof_any (bs X) _ (by rw [bs_size]; have := unhide HX; omega)).mono ?_; rintro e w2 ⟨rfl, b2⟩; rw [bs_list]))
  rw [unhide HB]
  have R2 := ((unhide H1).drew).next b2
  have B2 := hide (bstep (unhide B1).drew b2)
  have H2 := hide R2
  clear H1 B1 b2 R2
  go_wp2_with fail
  refine (unhide HC _).mono ?_
  rintro e w3 ⟨rfl, b3⟩
  have R3 := (unhide H2).next b3
  have B3 := hide (bstep (unhide B2) b3)
  have H3 := hide R3
  obtain ⟨hlt, c0, c1, c2, c3, c4, c5, fr⟩ := R3
  have f0 := fr 0
  have f1 := fr 1
  have f2 := fr 2
  have f3 := fr 3
  have f4 := fr 4
  have f5 := fr 5
  clear H2 B2 b3 fr
  go_wp2_with fail
  refine bodyPost_ret (results_rec3 rfl rfl (((unhide H3).setAll _ _ _ _ _ _).alloc _)) rfl ?_
  exact ⟨by rw [unhide R]; rfl, (set6_below (unhide B3) (Nat.le_refl _)).alloc (by simp; omega) _⟩

set_option maxRecDepth 100000 in
set_option maxHeartbeats 400000 in
theorem decode_E (s : ByteArray) (X : List UInt8) (K : Nat) (w : World) (hs : s.size ≤ 281474976710656) (hr : Pk.rt s.data.toList 1024 = (X, K, 0)) (h4 : K + 4 ≤ s.size) (hX : X.length ≤ 1024) (he : (s.data.toList.drop K).take 4 = Pk.le4 (Pk.crc X)) (V : Value)
    (k q t : Int) (a b c : ByteArray) (hd : Pk.dec s.data.toList = (Pk.none', 0, 7)) (hV : V = .tuple #[.agg #[.int .i64 k, .int .i64 q, .int .i64 t, .string a, .string b, .string c], .bool true]) (hk : chkV k q t a b c ≠ 0) (ha : a.size ≤ 1024) (hb : b.size ≤ 1024) (hcz : c.size ≤ 1024)
    (hc : ∀ W : World, Calls Tryz.prog 158 #[.string (bs X)] W fun e w' => e = .returned V ∧ Below W.heap.size W w') :
    Calls Tryz.prog 135 #[.string s] w fun e w' => e = .returned (decV s.data.toList) ∧ Below w.heap.size w w' := by
  subst hV
  have hv : textV s.data.toList 1024 = .tuple #[.string (bs X), .int .i64 K, .int .i64 0] := by unfold textV; rw [hr]; rfl
  have R := hide (decV_of hd)
  have HB := hide (sum_same h4 he)
  have R0 := hide (RB.new w 0 0 0 ⟨#[]⟩ ⟨#[]⟩ ⟨#[]⟩ 30)
  have B0 : Hid (Below w.heap.size w (w.alloc (.cells #[.int .i64 0, .int .i64 0, .int .i64 0, .string ⟨#[]⟩, .string ⟨#[]⟩, .string ⟨#[]⟩] 30))) := hide ((Below.refl _ _).alloc (Nat.le_refl _) _)
  have HX := hide hX
  have HC := hide hc
  obtain ⟨C, hC⟩ : ∃ C, chkV k q t a b c = C := ⟨_, rfl⟩
  rw [hC] at hk
  have CK : Hid (∀ W : World, Calls Tryz.prog 49 #[.agg #[.int .i64 k, .int .i64 q, .int .i64 t, .string a, .string b, .string c]] W fun e w' => e = .returned (.int .i64 C) ∧ Below W.heap.size W w') := hide (fun W => by rw [← hC]; exact check_any k q t a b c W (by omega) (by omega) (by omega))
  have hk' : (C != 0) = true := by simpa using hk
  have i1 : (0 : Int) ≤ (K : Int) := by omega
  have i2 : (K : Int) ≤ (K : Int) + 4 := by omega
  have i3 : (K : Int) + 4 ≤ (s.size : Int) := by omega
  clear hr he hd hc hC hk
  go_enter Tryz.func135, Tryz.ntmps135
  go_wp2_with fail
  refine (readt_any s 1024 _ hs).mono ?_
  rintro e w1 ⟨rfl, b1⟩
  rw [hv]
  have R1 := (unhide R0).next b1
  have B1 := hide (bstep (unhide B0) b1)
  have H1 := hide R1
  clear R0 B0 b1 R1
  go_wp2_with fail
  go_region_held3 (fun _ => True) (trivial)
    (first
      | (go_at_call 91; refine (sumof_any (bs X) _ (by rw [bs_size]; have := unhide HX; omega)).mono ?_; rintro e w2 ⟨rfl, b2⟩; rw [bs_list]))
  rw [unhide HB]
  have R2 := ((unhide H1).drew).next b2
  have B2 := hide (bstep (unhide B1).drew b2)
  have H2 := hide R2
  clear H1 B1 b2 R2
  go_wp2_with fail
  refine (unhide HC _).mono ?_
  rintro e w3 ⟨rfl, b3⟩
  have R3 := (unhide H2).next b3
  have B3 := hide (bstep (unhide B2) b3)
  have H3 := hide R3
  clear H2 B2 b3 R3
  go_wp2_with fail
  refine (unhide CK _).mono ?_
  rintro e w4 ⟨rfl, b4⟩
  have R4 := ((unhide H3).alloc _).next b4
  have B4 := hide (bstep ((unhide B3).alloc (Nat.le_of_lt (unhide H3).lt) _) b4)
  have H4 := hide R4
  obtain ⟨hlt, c0, c1, c2, c3, c4, c5, fr⟩ := R4
  have f0 := fr 0
  have f1 := fr 1
  have f2 := fr 2
  have f3 := fr 3
  have f4 := fr 4
  have f5 := fr 5
  clear H3 B3 b4 fr
  go_wp2_with fail
  refine bodyPost_ret (results_rec3 rfl rfl ((unhide H4).setAll _ _ _ _ _ _)) rfl ?_
  exact ⟨by rw [unhide R]; rfl, set6_below (unhide B4) (Nat.le_refl _)⟩

set_option maxRecDepth 100000 in
set_option maxHeartbeats 400000 in
theorem decode_F (s : ByteArray) (X : List UInt8) (K : Nat) (w : World) (hs : s.size ≤ 281474976710656) (hr : Pk.rt s.data.toList 1024 = (X, K, 0)) (h4 : K + 4 ≤ s.size) (hX : X.length ≤ 1024) (he : (s.data.toList.drop K).take 4 = Pk.le4 (Pk.crc X)) (V : Value)
    (k q t : Int) (a b c : ByteArray) (hd : decV s.data.toList = .tuple #[.agg #[.int .i64 k, .int .i64 q, .int .i64 t, .string a, .string b, .string c], .int .i64 ((K : Int) + 4), .int .i64 0]) (hV : V = .tuple #[.agg #[.int .i64 k, .int .i64 q, .int .i64 t, .string a, .string b, .string c], .bool true]) (hk : chkV k q t a b c = 0) (ha : a.size ≤ 1024) (hb : b.size ≤ 1024) (hcz : c.size ≤ 1024)
    (hc : ∀ W : World, Calls Tryz.prog 158 #[.string (bs X)] W fun e w' => e = .returned V ∧ Below W.heap.size W w') :
    Calls Tryz.prog 135 #[.string s] w fun e w' => e = .returned (decV s.data.toList) ∧ Below w.heap.size w w' := by
  subst hV
  have hv : textV s.data.toList 1024 = .tuple #[.string (bs X), .int .i64 K, .int .i64 0] := by unfold textV; rw [hr]; rfl
  have R := hide hd
  have HB := hide (sum_same h4 he)
  have R0 := hide (RB.new w 0 0 0 ⟨#[]⟩ ⟨#[]⟩ ⟨#[]⟩ 30)
  have B0 : Hid (Below w.heap.size w (w.alloc (.cells #[.int .i64 0, .int .i64 0, .int .i64 0, .string ⟨#[]⟩, .string ⟨#[]⟩, .string ⟨#[]⟩] 30))) := hide ((Below.refl _ _).alloc (Nat.le_refl _) _)
  have HX := hide hX
  have HC := hide hc
  have CK : Hid (∀ W : World, Calls Tryz.prog 49 #[.agg #[.int .i64 k, .int .i64 q, .int .i64 t, .string a, .string b, .string c]] W fun e w' => e = .returned (.int .i64 0) ∧ Below W.heap.size W w') := hide (fun W => by rw [← hk]; exact check_any k q t a b c W (by omega) (by omega) (by omega))
  have i1 : (0 : Int) ≤ (K : Int) := by omega
  have i2 : (K : Int) ≤ (K : Int) + 4 := by omega
  have i3 : (K : Int) + 4 ≤ (s.size : Int) := by omega
  clear hr he hd hc hk
  go_enter Tryz.func135, Tryz.ntmps135
  go_wp2_with fail
  refine (readt_any s 1024 _ hs).mono ?_
  rintro e w1 ⟨rfl, b1⟩
  rw [hv]
  have R1 := (unhide R0).next b1
  have B1 := hide (bstep (unhide B0) b1)
  have H1 := hide R1
  clear R0 B0 b1 R1
  go_wp2_with fail
  go_region_held3 (fun _ => True) (trivial)
    (first
      | (go_at_call 91; refine (sumof_any (bs X) _ (by rw [bs_size]; have := unhide HX; omega)).mono ?_; rintro e w2 ⟨rfl, b2⟩; rw [bs_list]))
  rw [unhide HB]
  have R2 := ((unhide H1).drew).next b2
  have B2 := hide (bstep (unhide B1).drew b2)
  have H2 := hide R2
  clear H1 B1 b2 R2
  go_wp2_with fail
  refine (unhide HC _).mono ?_
  rintro e w3 ⟨rfl, b3⟩
  have R3 := (unhide H2).next b3
  have B3 := hide (bstep (unhide B2) b3)
  have H3 := hide R3
  clear H2 B2 b3 R3
  go_wp2_with fail
  refine (unhide CK _).mono ?_
  rintro e w4 ⟨rfl, b4⟩
  have R4 := ((unhide H3).alloc _).next b4
  have B4 := hide (bstep ((unhide B3).alloc (Nat.le_of_lt (unhide H3).lt) _) b4)
  have H4 := hide R4
  have G4 := hide ((RB.new w3 k q t a b c 30).next b4)
  obtain ⟨hlt, c0, c1, c2, c3, c4, c5, fr⟩ := R4
  have f0 := fr 0
  have f1 := fr 1
  have f2 := fr 2
  have f3 := fr 3
  have f4 := fr 4
  have f5 := fr 5
  obtain ⟨_, d0, d1, d2, d3, d4, d5, _⟩ := unhide G4
  clear H3 B3 b4 fr G4
  go_wp2_with fail
  refine bodyPost_ret (results_rec3 rfl rfl ((unhide H4).setAll _ _ _ _ _ _)) rfl ?_
  exact ⟨by rw [unhide R]; rfl, set6_below (unhide B4) (Nat.le_refl _)⟩

theorem rt_size {l X : List UInt8} {K : Nat} (hr : Pk.rt l 1024 = (X, K, 0)) : K ≤ l.length ∧ X.length ≤ 1024 := by
  have := Pk.rt_one hr
  exact ⟨this.2.1, by omega⟩
theorem rec_few (r0 : List UInt8) : (Pk.rt r0 1024).1.length ≤ 1024 := by
  by_cases h : (Pk.rt r0 1024).2.2 = 0
  · have := (Pk.rt_one (l := r0) (most := 1024) (x := (Pk.rt r0 1024).1) (n := (Pk.rt r0 1024).2.1) (by rw [← h])).2.2
    omega
  · rw [(rt_bad h).1]; simp
theorem rec_s (c : Nat) (r0 : List UInt8) : (Pk.recOf c r0).s.length ≤ 1024 := by
  have e : (Pk.recOf c r0).s = (Pk.rt (Pk.p2 r0) 1024).1 := by simp only [Pk.recOf]
  rw [e]
  exact rec_few _
theorem rec_h (c : Nat) (r0 : List UInt8) : (Pk.recOf c r0).h.length ≤ 1024 := by
  have e : (Pk.recOf c r0).h = (Pk.rt (Pk.p3 r0) 1024).1 := by simp only [Pk.recOf]
  rw [e]
  exact rec_few _
theorem rec_d (c : Nat) (r0 : List UInt8) : (Pk.recOf c r0).d.length ≤ 1024 := by
  have e : (Pk.recOf c r0).d = (Pk.rt (Pk.p4 r0) 1024).1 := by simp only [Pk.recOf]
  rw [e]
  exact rec_few _
theorem chkV_rec (r : Pk.Rec) : chkV r.k r.q r.t (bs r.s) (bs r.h) (bs r.d) = Pk.chk r := by
  unfold chkV; simp only [bs_list]

theorem decode_any (s : ByteArray) (w : World) (hs : s.size ≤ 281474976710656) :
    Calls Tryz.prog 135 #[.string s] w fun e w' => e = .returned (decV s.data.toList) ∧ Below w.heap.size w w' := by
  obtain ⟨X, K, E, hr⟩ : ∃ X K E, Pk.rt s.data.toList 1024 = (X, K, E) := ⟨_, _, _, rfl⟩
  by_cases hE : E = 0
  · subst hE
    obtain ⟨hK, hX⟩ := rt_size hr
    rw [len_size] at hK
    by_cases h4 : s.size < K + 4
    · exact decode_B s X K w hs hr hK h4
    have h4' : ¬ s.data.toList.length < K + 4 := by rw [len_size]; exact h4
    by_cases hsum : (s.data.toList.drop K).take 4 = Pk.le4 (Pk.crc X)
    · by_cases h0 : X.length = 0
      · have hX0 : X = [] := List.length_eq_zero_iff.1 h0
        exact decode_D s X K w hs hr (by omega) hX hsum _ 0 0 0 ⟨#[]⟩ ⟨#[]⟩ ⟨#[]⟩ (dec_D hr h4' hsum (.inl h0)) rfl (fun W => by rw [hX0]; exact rbody_none W)
      · have hb : ∀ W : World, Calls Tryz.prog 158 #[.string (bs X)] W fun e w' => e = .returned (.tuple #[recV (Pk.recOf (Pk.at' X 0) (X.drop 1)), .bool (Pk.okB (X.drop 1))]) ∧ Below W.heap.size W w' := fun W => by
          have := rbody_some (bs X) W (by rw [bs_size]; omega) (by rw [bs_size]; omega)
          rw [bs_list] at this
          exact this
        have ho1 : (Pk.recOf (Pk.at' X 0) (X.drop 1)).s.length ≤ 1024 := rec_s _ _
        have ho2 : (Pk.recOf (Pk.at' X 0) (X.drop 1)).h.length ≤ 1024 := rec_h _ _
        have ho3 : (Pk.recOf (Pk.at' X 0) (X.drop 1)).d.length ≤ 1024 := rec_d _ _
        have hF := fun ho hc => decV_of (dec_F hr h4' hsum h0 ho hc)
        have hD := fun hc => dec_D hr h4' hsum (.inr (.inr hc))
        have hD2 := fun hc => dec_D hr h4' hsum (.inr (.inl hc))
        generalize Pk.recOf (Pk.at' X 0) (X.drop 1) = r at hb ho1 ho2 ho3 hF hD
        have hck := chkV_rec r
        cases ho : Pk.okB (X.drop 1) with
        | false =>
          rw [ho] at hb
          exact decode_D s X K w hs hr (by omega) hX hsum _ r.k r.q r.t (bs r.s) (bs r.h) (bs r.d) (hD2 ho) rfl hb
        | true =>
          rw [ho] at hb
          by_cases hc : Pk.chk r = 0
          · exact decode_F s X K w hs hr (by omega) hX hsum _ r.k r.q r.t (bs r.s) (bs r.h) (bs r.d) (hF ho hc) rfl (hck.trans hc) (by rw [bs_size]; exact ho1) (by rw [bs_size]; exact ho2) (by rw [bs_size]; exact ho3) hb
          · exact decode_E s X K w hs hr (by omega) hX hsum _ r.k r.q r.t (bs r.s) (bs r.h) (bs r.d) (hD hc) rfl (fun e => hc (hck.symm.trans e)) (by rw [bs_size]; exact ho1) (by rw [bs_size]; exact ho2) (by rw [bs_size]; exact ho3) hb
    · exact decode_C s X K w hs hr (by omega) hX hsum
  · exact decode_A s X K E w hs hr hE
end Go.Proofs.YtohjipnkoiifhagGreatDoor
