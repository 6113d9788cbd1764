/-
  Contracts of record.sumOf and bodyOf: a sum as four bytes, a record's body.
  Contract of record.bodyOf: a record's body.
  Contract of record.Encode: what is wrong with the record, or its bytes.
-/
import Derived.Test.YtphhebdmfdjfeabGreatDoorJointWalkN1WalkN2WalkN3
import Derived.Test.YtphhebdmfdjfeabGreatDoorJointBase0RowZPlainPlainNPlainRecPlainSPlainR2PapDPapLPapMPapGPapN
import Derived.Test.YtphhebdmfdjfeabGreatDoorJointRowGRowBRowSRowURowVRowE
import Derived.Deep.RegionWith
import Derived.Deep.RegionLaw
import Derived.Deep.RegionHeld3
import Derived.Test.YtphhebdmfdjfeabGreatDoorJointWalkC3WalkC6WalkG1rWorksSWorksTaWorksTWorksYPapW
namespace Go.Proofs.YtphhebdmfdjfeabGreatDoor
open Go.RowKit

/-- bytes that were laid into a new block are made a text -/
theorem conv_four (w : World) (x0 x1 x2 x3 : Int) (l : List UInt8) (h : l.map (fun b => Value.int .u8 (b.toNat : Int)) = [.int .u8 x0, .int .u8 x1, .int .u8 x2, .int .u8 x3]) :
    (convert 96 9 (.slice (some ⟨w.heap.size, 0, none⟩) 4 4)).run Tryz.prog (w.alloc (.cells #[.int .u8 x0, .int .u8 x1, .int .u8 x2, .int .u8 x3] 5)) = .ok (.string (bs l)) (w.alloc (.cells #[.int .u8 x0, .int .u8 x1, .int .u8 x2, .int .u8 x3] 5)) := by
  have hl : l.length = 4 := by have := congrArg List.length h; simpa using this
  have := run_convert_bytes_back (w.alloc (.cells #[.int .u8 x0, .int .u8 x1, .int .u8 x2, .int .u8 x3] 5)) 96 9 5 ⟨w.heap.size, 0, none⟩ 4 l Tryz.underlying96 Tryz.underlying5 Tryz.underlying9 (fun j hj => by
    have hj4 : j < 4 := by omega
    have e : (l.map (fun b => Value.int .u8 (b.toNat : Int)))[j]? = some (.int .u8 (l[j].toNat : Int)) := by simp [List.getElem?_eq_getElem hj]
    rw [h] at e
    rw [← e, addp, Nat.zero_add]
    match j, hj4 with
    | 0, _ => simp
    | 1, _ => simp
    | 2, _ => simp
    | 3, _ => simp)
  rw [hl] at this
  exact this
theorem conv_one' (w : World) (x : Int) (n : Nat) (h : n < 256) (hx : x = n) :
    (convert 96 9 (.slice (some ⟨w.heap.size, 0, none⟩) 1 1)).run Tryz.prog (w.alloc (.cells #[.int .u8 x] 5)) = .ok (.string (bs [UInt8.ofNat n])) (w.alloc (.cells #[.int .u8 x] 5)) := by
  subst hx
  refine run_convert_bytes_back _ 96 9 5 ⟨w.heap.size, 0, none⟩ 1 [UInt8.ofNat n] Tryz.underlying96 Tryz.underlying5 Tryz.underlying9 fun j hj => ?_
  have hj0 : j = 0 := by simpa using hj
  subst hj0
  have := one_new w (.int .u8 (n : Int)) 5 0 (.int .u8 (n : Int)) rfl
  rw [this]
  simp only [List.getElem_cons_zero]
  rw [Pk.u8_of h]
theorem le4_cells {c : Nat} (h : c < 4294967296) : (Pk.le4 c).map (fun b => Value.int .u8 (b.toNat : Int)) = [.int .u8 ((c : Int) % 256), .int .u8 ((c : Int) / 256 % 256), .int .u8 ((c : Int) / 65536 % 256), .int .u8 ((c : Int) / 16777216)] := by
  unfold Pk.le4
  simp only [List.map_cons, List.map_nil]
  rw [Pk.u8_of (by omega), Pk.u8_of (by omega), Pk.u8_of (by omega), Pk.u8_of (by omega)]
  rw [show c / 16777216 % 256 = c / 16777216 from by omega]
  simp

set_option maxRecDepth 100000 in
set_option maxHeartbeats 200000 in
theorem sumof_any (s : ByteArray) (w : World) (hs : s.size ≤ 1000000000000000000) :
    Calls Tryz.prog 100 #[.string s] w fun e w' => e = .returned (.string (bs (Pk.le4 (Pk.crc s.data.toList)))) ∧ Below w.heap.size w w' := by
  obtain ⟨c, hc⟩ : ∃ c, c = Pk.crc s.data.toList := ⟨_, rfl⟩
  have hl : c < 4294967296 := by rw [hc]; exact Pk.crc_lt _
  have HC := hide hc
  have hcv := hide (conv_four w _ _ _ _ _ (le4_cells hl))
  clear hc
  go_enter Tryz.func100, Tryz.ntmps100
  go_wp2_with fail
  refine (sum_any s _ hs).mono ?_
  rintro e w1 ⟨rfl, rfl⟩
  rw [← unhide HC]
  go_wp2_with fail
  rw [unhide hcv]
  go_wp2_with fail
  go_ret
  exact ⟨by rw [← unhide HC]; rfl, (Below.refl _ _).alloc (Nat.le_refl _) _⟩

theorem cat_bs (a b : List UInt8) : bs a ++ bs b = bs (a ++ b) := by rw [cat_list, bs_list]
theorem bod_cat (k q t : Int) (s h d : ByteArray) : (((bs [UInt8.ofNat k.toNat] ++ (bs (Pk.enc q.toNat) ++ bs (Pk.enc t.toNat))) ++ bs (Pk.txt s.data.toList)) ++ bs (Pk.txt h.data.toList)) ++ bs (Pk.txt d.data.toList) = bs (Pk.bod ⟨k, q, t, s.data.toList, h.data.toList, d.data.toList⟩) := by
  rw [cat_bs, cat_bs, cat_bs, cat_bs, cat_bs]
  unfold Pk.bod Pk.body
  simp
theorem txt_few {s : ByteArray} (h : s.size ≤ 1000) : (bs (Pk.txt s.data.toList)).size ≤ 1009 := by
  rw [bs_size, Pk.txt, List.length_append]
  have := Pk.enc_nine (n := s.data.toList.length) (by simp; omega)
  simp at this ⊢
  omega
theorem enc_size {n : Int} (h : n ≤ 1099511627776) : (bs (Pk.enc n.toNat)).size ≤ 9 := by
  rw [bs_size]; exact Pk.enc_nine (by omega)

end Go.Proofs.YtphhebdmfdjfeabGreatDoor

namespace Go.Proofs.YtphhebdmfdjfeabGreatDoor
open Go.RowKit

set_option maxRecDepth 100000 in
set_option maxHeartbeats 200000 in
theorem bodyof_any (k q t : Int) (s h d : ByteArray) (w : World) (hk0 : 1 ≤ k) (hk : k ≤ 4) (hq : q ≤ 1099511627776) (ht : t ≤ 1099511627776) (hs : s.size ≤ 1000) (hh : h.size ≤ 1000) (hd : d.size ≤ 1000) :
    Calls Tryz.prog 98 #[.agg #[.int .i64 k, .int .i64 q, .int .i64 t, .string s, .string h, .string d]] w fun e w' => e = .returned (.string (bs (Pk.bod ⟨k, q, t, s.data.toList, h.data.toList, d.data.toList⟩))) ∧ Below w.heap.size w w' := by
  obtain ⟨X0, hX0⟩ : ∃ X, X = bs [UInt8.ofNat k.toNat] := ⟨_, rfl⟩
  obtain ⟨X1, hX1⟩ : ∃ X, X = bs (Pk.enc q.toNat) := ⟨_, rfl⟩
  obtain ⟨X2, hX2⟩ : ∃ X, X = bs (Pk.enc t.toNat) := ⟨_, rfl⟩
  obtain ⟨X3, hX3⟩ : ∃ X, X = bs (Pk.txt s.data.toList) := ⟨_, rfl⟩
  obtain ⟨X4, hX4⟩ : ∃ X, X = bs (Pk.txt h.data.toList) := ⟨_, rfl⟩
  obtain ⟨X5, hX5⟩ : ∃ X, X = bs (Pk.txt d.data.toList) := ⟨_, rfl⟩
  have z0 : X0.size ≤ 1 := by rw [hX0, bs_size]; simp
  have z1 : X1.size ≤ 9 := by rw [hX1]; exact enc_size hq
  have z2 : X2.size ≤ 9 := by rw [hX2]; exact enc_size ht
  have z3 : X3.size ≤ 1009 := by rw [hX3]; exact txt_few hs
  have z4 : X4.size ≤ 1009 := by rw [hX4]; exact txt_few hh
  have z5 : X5.size ≤ 1009 := by rw [hX5]; exact txt_few hd
  have c1 : ¬ 9223372036854775807 < X1.size + X2.size := by omega
  have c2 : ¬ 9223372036854775807 < X0.size + (X1.size + X2.size) := by omega
  have c3 : ¬ 9223372036854775807 < X0.size + (X1.size + X2.size) + X3.size := by omega
  have c4 : ¬ 9223372036854775807 < X0.size + (X1.size + X2.size) + X3.size + X4.size := by omega
  have c5 : ¬ 9223372036854775807 < X0.size + (X1.size + X2.size) + X3.size + X4.size + X5.size := by omega
  have E := hide (bod_cat k q t s h d)
  rw [← hX0, ← hX1, ← hX2, ← hX3, ← hX4, ← hX5] at E
  have C1 : Hid (∀ W : World, Calls Tryz.prog 135 #[.int .i64 q] W fun e w' => e = .returned (.string X1) ∧ Below W.heap.size W w') := hide (fun W => by rw [hX1]; exact number_any q W (by omega))
  have C2 : Hid (∀ W : World, Calls Tryz.prog 135 #[.int .i64 t] W fun e w' => e = .returned (.string X2) ∧ Below W.heap.size W w') := hide (fun W => by rw [hX2]; exact number_any t W (by omega))
  have C3 : Hid (∀ W : World, Calls Tryz.prog 99 #[.string s] W fun e w' => e = .returned (.string X3) ∧ Below W.heap.size W w') := hide (fun W => by rw [hX3]; exact text_any s W (by omega))
  have C4 : Hid (∀ W : World, Calls Tryz.prog 99 #[.string h] W fun e w' => e = .returned (.string X4) ∧ Below W.heap.size W w') := hide (fun W => by rw [hX4]; exact text_any h W (by omega))
  have C5 : Hid (∀ W : World, Calls Tryz.prog 99 #[.string d] W fun e w' => e = .returned (.string X5) ∧ Below W.heap.size W w') := hide (fun W => by rw [hX5]; exact text_any d W (by omega))
  have hcv := hide (conv_one' (w.alloc (.cells #[.int .i64 k, .int .i64 q, .int .i64 t, .string s, .string h, .string d] 43)) k k.toNat (by omega) (by omega))
  rw [← hX0] at hcv
  clear hX0 hX1 hX2 hX3 hX4 hX5
  go_enter Tryz.func98, Tryz.ntmps98
  go_wp2_with fail
  have hcv2 := unhide hcv
  rw [show (w.alloc (.cells #[.int .i64 k, .int .i64 q, .int .i64 t, .string s, .string h, .string d] 43)).heap.size = w.heap.size + 1 from by simp] at hcv2
  rw [hcv2]
  clear hcv2 hcv
  go_wp2_with fail
  have B0 : Hid (Below w.heap.size w ((w.alloc (.cells #[.int .i64 k, .int .i64 q, .int .i64 t, .string s, .string h, .string d] 43)).alloc (.cells #[.int .u8 k] 5))) := hide (((Below.refl _ _).alloc (Nat.le_refl _) _).alloc (by simp) _)
  have R0 := hide ((RB.new w k q t s h d 43).alloc (.cells #[.int .u8 k] 5)).drew
  go_region_held3 (fun w' => w'.cell? ⟨w.heap.size, 1, none⟩ = some (.int .i64 q) ∧ w'.cell? ⟨w.heap.size, 2, none⟩ = some (.int .i64 t)) (first | (refine ⟨?_, ?_⟩ <;> assumption) | go_keep)
    (first
      | (go_at_call 135; refine (unhide C1 _).mono ?_; rintro e w2 ⟨rfl, b2⟩; have R2 := hide ((unhide R0).next b2); have d1 := (unhide R2).c1; have d2 := (unhide R2).c2; clear C1)
      | (go_at_call 135; refine (unhide C2 _).mono ?_; rintro e w3 ⟨rfl, b3⟩; have R3 := hide ((unhide R2).next b3); have e1 := (unhide R3).c1; have e2 := (unhide R3).c2; clear C2))
  have B3 := hide (bstep (bstep (unhide B0).drew b2) b3)
  have R4 := hide (unhide R3).drew
  have l3 := (unhide R4).c3
  have l4 := (unhide R4).c4
  have l5 := (unhide R4).c5
  clear b2 b3 d1 d2 e1 e2 B0 R0 R2 R3
  go_wp2_with fail
  go_region_held3 (fun w' => w'.cell? ⟨w.heap.size, 3, none⟩ = some (.string s) ∧ w'.cell? ⟨w.heap.size, 4, none⟩ = some (.string h) ∧ w'.cell? ⟨w.heap.size, 5, none⟩ = some (.string d)) (first | (refine ⟨?_, ?_, ?_⟩ <;> assumption) | go_keep)
    (first
      | (go_at_call 99; refine (unhide C3 _).mono ?_; rintro e w5 ⟨rfl, b5⟩; have R5 := hide ((unhide R4).next b5); have d3 := (unhide R5).c3; have d4 := (unhide R5).c4; have d5 := (unhide R5).c5; clear C3)
      | (go_at_call 99; refine (unhide C4 _).mono ?_; rintro e w6 ⟨rfl, b6⟩; have R6 := hide ((unhide R5).next b6); have e3 := (unhide R6).c3; have e4 := (unhide R6).c4; have e5 := (unhide R6).c5; clear C4)
      | (go_at_call 99; refine (unhide C5 _).mono ?_; rintro e w7 ⟨rfl, b7⟩; have R7 := hide ((unhide R6).next b7); have f3 := (unhide R7).c3; have f4 := (unhide R7).c4; have f5 := (unhide R7).c5; clear C5))
  go_wp2_with fail
  go_ret
  exact ⟨by rw [← unhide E]; rfl, bstep (bstep (bstep (unhide B3).drew b5) b6) b7⟩
end Go.Proofs.YtphhebdmfdjfeabGreatDoor

namespace Go.Proofs.YtphhebdmfdjfeabGreatDoor
open Go.RowKit

/-- what an encoding answers -/
def encV (k q t : Int) (s h d : ByteArray) : Value :=
  .tuple #[.string (if chkV k q t s h d = 0 then bs (Pk.cod ⟨k, q, t, s.data.toList, h.data.toList, d.data.toList⟩) else ⟨#[]⟩), .int .i64 (chkV k q t s h d)]
theorem encV_bad {k q t : Int} {s h d : ByteArray} {E : Int} (hE : chkV k q t s h d = E) (h0 : E ≠ 0) : encV k q t s h d = .tuple #[.string ⟨#[]⟩, .int .i64 E] := by
  unfold encV; rw [hE, if_neg h0]
theorem encV_good {k q t : Int} {s h d : ByteArray} (hE : chkV k q t s h d = 0) : encV k q t s h d = .tuple #[.string (bs (Pk.cod ⟨k, q, t, s.data.toList, h.data.toList, d.data.toList⟩)), .int .i64 0] := by
  unfold encV; rw [hE, if_pos rfl]

set_option maxRecDepth 100000 in
set_option maxHeartbeats 400000 in
theorem encode_any (k q t : Int) (s h d : ByteArray) (w : World) (hs : s.size ≤ 140737488355328) (hh : h.size ≤ 140737488355328) (hd : d.size ≤ 140737488355328) :
    Calls Tryz.prog 56 #[.agg #[.int .i64 k, .int .i64 q, .int .i64 t, .string s, .string h, .string d]] w fun e w' => e = .returned (encV k q t s h d) ∧ Below w.heap.size w w' := by
  obtain ⟨E, hE⟩ : ∃ E, chkV k q t s h d = E := ⟨_, rfl⟩
  have R0 := hide (RB.new w k q t s h d 43)
  have B0 : Hid (Below w.heap.size w (w.alloc (.cells #[.int .i64 k, .int .i64 q, .int .i64 t, .string s, .string h, .string d] 43))) := hide ((Below.refl _ _).alloc (Nat.le_refl _) _)
  by_cases h0 : E = 0
  · subst h0
    obtain ⟨k1, k2, q1, q2, t1, t2, s1, s2⟩ := Pk.chk_len (r := ⟨k, q, t, s.data.toList, h.data.toList, d.data.toList⟩) hE
    simp only [len_size] at s1 s2
    obtain ⟨B, hB⟩ : ∃ B, B = bs (Pk.bod ⟨k, q, t, s.data.toList, h.data.toList, d.data.toList⟩) := ⟨_, rfl⟩
    have zB : B.size ≤ 1024 := by rw [hB, bs_size]; exact (Pk.bod_len hE).2
    obtain ⟨X, hX⟩ : ∃ X, X = bs (Pk.txt B.data.toList) := ⟨_, rfl⟩
    obtain ⟨Y, hY⟩ : ∃ Y, Y = bs (Pk.le4 (Pk.crc B.data.toList)) := ⟨_, rfl⟩
    have zX : X.size ≤ 1033 := by
      rw [hX, bs_size, Pk.txt, List.length_append, len_size]
      have := Pk.enc_nine (n := B.size) (by omega)
      omega
    have zY : Y.size = 4 := by rw [hY, bs_size]; rfl
    have zC : ¬ 9223372036854775807 < X.size + Y.size := by omega
    have HE := hide hE
    have R : Hid (encV k q t s h d = .tuple #[.string (X ++ Y), .int .i64 0]) := hide (by
      rw [encV_good hE, hX, hY, cat_bs, hB, bs_list]; rfl)
    have CB : Hid (∀ W : World, Calls Tryz.prog 98 #[.agg #[.int .i64 k, .int .i64 q, .int .i64 t, .string s, .string h, .string d]] W fun e w' => e = .returned (.string B) ∧ Below W.heap.size W w') :=
      hide (fun W => by rw [hB]; exact bodyof_any k q t s h d W k1 k2 q2 t2 (by omega) (by omega) (by omega))
    have CX : Hid (∀ W : World, Calls Tryz.prog 99 #[.string B] W fun e w' => e = .returned (.string X) ∧ Below W.heap.size W w') := hide (fun W => by rw [hX]; exact text_any B W (by omega))
    have CY : Hid (∀ W : World, Calls Tryz.prog 100 #[.string B] W fun e w' => e = .returned (.string Y) ∧ Below W.heap.size W w') := hide (fun W => by rw [hY]; exact sumof_any B W (by omega))
    clear hE hB hX hY
    go_enter Tryz.func56, Tryz.ntmps56
    go_wp2_with fail
    refine (check_any _ _ _ _ _ _ _ hs hh hd).mono ?_
    rintro e w1 ⟨rfl, b1⟩
    rw [unhide HE]
    have R1 := (unhide R0).next b1
    have B1 := hide (bstep (unhide B0) b1)
    obtain ⟨_, c0, c1, c2, c3, c4, c5, _⟩ := R1
    clear R0 B0 b1
    go_wp2_with fail
    refine (unhide CB _).mono ?_
    rintro e w2 ⟨rfl, b2⟩
    clear c0 c1 c2 c3 c4 c5
    go_wp2_with fail
    refine (unhide CX _).mono ?_
    rintro e w3 ⟨rfl, b3⟩
    go_wp2_with fail
    refine (unhide CY _).mono ?_
    rintro e w4 ⟨rfl, b4⟩
    go_wp2_with fail
    go_ret2
    exact ⟨by rw [unhide R]; rfl, bstep (bstep (bstep (unhide B1) b2) b3) b4⟩
  · have R := hide (encV_bad hE h0)
    have HE := hide hE
    have h1 : (E != 0) = true := by simpa using h0
    clear hE h0
    go_enter Tryz.func56, Tryz.ntmps56
    go_wp2_with fail
    refine (check_any _ _ _ _ _ _ _ hs hh hd).mono ?_
    rintro e w1 ⟨rfl, b1⟩
    rw [unhide HE]
    go_wp2_with fail
    go_ret2
    exact ⟨by rw [unhide R]; rfl, bstep (unhide B0) b1⟩
end Go.Proofs.YtphhebdmfdjfeabGreatDoor
