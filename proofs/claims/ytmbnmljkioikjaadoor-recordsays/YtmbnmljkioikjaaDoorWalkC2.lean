/-
  Contract of record.bodyOf: a record's body.
-/
import Derived.Test.YtmbnmljkioikjaaDoorWalkC1
namespace Go.Proofs.YtmbnmljkioikjaaDoor
open Go.RowKit

set_option maxRecDepth 100000 in
set_option maxHeartbeats 200000 in
theorem bodyof_any (k q t : Int) (s h d : ByteArray) (w : World) (hk0 : 1 ≤ k) (hk : k ≤ 4) (hq : q ≤ 1099511627776) (ht : t ≤ 1099511627776) (hs : s.size ≤ 1000) (hh : h.size ≤ 1000) (hd : d.size ≤ 1000) :
    Calls Tryd.prog 56 #[.agg #[.int .i64 k, .int .i64 q, .int .i64 t, .string s, .string h, .string d]] w fun e w' => e = .returned (.string (bs (Pk.bod ⟨k, q, t, s.data.toList, h.data.toList, d.data.toList⟩))) ∧ Below w.heap.size w w' := by
  obtain ⟨X0, hX0⟩ : ∃ X, X = bs [UInt8.ofNat k.toNat] := ⟨_, rfl⟩
  obtain ⟨X1, hX1⟩ : ∃ X, X = bs (Pk.enc q.toNat) := ⟨_, rfl⟩
  obtain ⟨X2, hX2⟩ : ∃ X, X = bs (Pk.enc t.toNat) := ⟨_, rfl⟩
  obtain ⟨X3, hX3⟩ : ∃ X, X = bs (Pk.txt s.data.toList) := ⟨_, rfl⟩
  obtain ⟨X4, hX4⟩ : ∃ X, X = bs (Pk.txt h.data.toList) := ⟨_, rfl⟩
  obtain ⟨X5, hX5⟩ : ∃ X, X = bs (Pk.txt d.data.toList) := ⟨_, rfl⟩
  have z0 : X0.size ≤ 1 := by rw [hX0, bs_size]; simp
  have z1 : X1.size ≤ 9 := by rw [hX1]; exact enc_size hq
  have z2 : X2.size ≤ 9 := by rw [hX2]; exact enc_size ht
  have z3 : X3.size ≤ 1009 := by rw [hX3]; exact txt_few hs
  have z4 : X4.size ≤ 1009 := by rw [hX4]; exact txt_few hh
  have z5 : X5.size ≤ 1009 := by rw [hX5]; exact txt_few hd
  have c1 : ¬ 9223372036854775807 < X1.size + X2.size := by omega
  have c2 : ¬ 9223372036854775807 < X0.size + (X1.size + X2.size) := by omega
  have c3 : ¬ 9223372036854775807 < X0.size + (X1.size + X2.size) + X3.size := by omega
  have c4 : ¬ 9223372036854775807 < X0.size + (X1.size + X2.size) + X3.size + X4.size := by omega
  have c5 : ¬ 9223372036854775807 < X0.size + (X1.size + X2.size) + X3.size + X4.size + X5.size := by omega
  have E := hide (bod_cat k q t s h d)
  rw [← hX0, ← hX1, ← hX2, ← hX3, ← hX4, ← hX5] at E
  have C1 : Hid (∀ W : World, Calls Tryd.prog 76 #[.int .i64 q] W fun e w' => e = .returned (.string X1) ∧ Below W.heap.size W w') := hide (fun W => by rw [hX1]; exact number_any q W (by omega))
  have C2 : Hid (∀ W : World, Calls Tryd.prog 76 #[.int .i64 t] W fun e w' => e = .returned (.string X2) ∧ Below W.heap.size W w') := hide (fun W => by rw [hX2]; exact number_any t W (by omega))
  have C3 : Hid (∀ W : World, Calls Tryd.prog 57 #[.string s] W fun e w' => e = .returned (.string X3) ∧ Below W.heap.size W w') := hide (fun W => by rw [hX3]; exact text_any s W (by omega))
  have C4 : Hid (∀ W : World, Calls Tryd.prog 57 #[.string h] W fun e w' => e = .returned (.string X4) ∧ Below W.heap.size W w') := hide (fun W => by rw [hX4]; exact text_any h W (by omega))
  have C5 : Hid (∀ W : World, Calls Tryd.prog 57 #[.string d] W fun e w' => e = .returned (.string X5) ∧ Below W.heap.size W w') := hide (fun W => by rw [hX5]; exact text_any d W (by omega))
  have hcv := hide (conv_one' (w.alloc (.cells #[.int .i64 k, .int .i64 q, .int .i64 t, .string s, .string h, .string d] 49)) k k.toNat (by omega) (by omega))
  rw [← hX0] at hcv
  clear hX0 hX1 hX2 hX3 hX4 hX5
  go_enter Tryd.func56, Tryd.ntmps56
  go_wp2_with fail
  have hcv2 := unhide hcv
  rw [show (w.alloc (.cells #[.int .i64 k, .int .i64 q, .int .i64 t, .string s, .string h, .string d] 49)).heap.size = w.heap.size + 1 from by simp] at hcv2
  rw [hcv2]
  clear hcv2 hcv
  go_wp2_with fail
  have B0 : Hid (Below w.heap.size w ((w.alloc (.cells #[.int .i64 k, .int .i64 q, .int .i64 t, .string s, .string h, .string d] 49)).alloc (.cells #[.int .u8 k] 5))) := hide (((Below.refl _ _).alloc (Nat.le_refl _) _).alloc (by simp) _)
  have R0 := hide ((RB.new w k q t s h d 49).alloc (.cells #[.int .u8 k] 5)).drew
  go_region_held3 (fun w' => w'.cell? ⟨w.heap.size, 1, none⟩ = some (.int .i64 q) ∧ w'.cell? ⟨w.heap.size, 2, none⟩ = some (.int .i64 t)) (first | (refine ⟨?_, ?_⟩ <;> assumption) | go_keep)
    (first
      | (go_at_call 76; refine (unhide C1 _).mono ?_; rintro e w2 ⟨rfl, b2⟩; have R2 := hide ((unhide R0).next b2); have d1 := (unhide R2).c1; have d2 := (unhide R2).c2; clear C1)
      | (go_at_call 76; refine (unhide C2 _).mono ?_; rintro e w3 ⟨rfl, b3⟩; have R3 := hide ((unhide R2).next b3); have e1 := (unhide R3).c1; have e2 := (unhide R3).c2; clear C2))
  have B3 := hide (bstep (bstep (unhide B0).drew b2) b3)
  have R4 := hide (unhide R3).drew
  have l3 := (unhide R4).c3
  have l4 := (unhide R4).c4
  have l5 := (unhide R4).c5
  clear b2 b3 d1 d2 e1 e2 B0 R0 R2 R3
  go_wp2_with fail
  go_region_held3 (fun w' => w'.cell? ⟨w.heap.size, 3, none⟩ = some (.string s) ∧ w'.cell? ⟨w.heap.size, 4, none⟩ = some (.string h) ∧ w'.cell? ⟨w.heap.size, 5, none⟩ = some (.string d)) (first | (refine ⟨?_, ?_, ?_⟩ <;> assumption) | go_keep)
    (first
      | (go_at_call 57; refine (unhide C3 _).mono ?_; rintro e w5 ⟨rfl, b5⟩; have R5 := hide ((unhide R4).next b5); have d3 := (unhide R5).c3; have d4 := (unhide R5).c4; have d5 := (unhide R5).c5; clear C3)
      | (go_at_call 57; refine (unhide C4 _).mono ?_; rintro e w6 ⟨rfl, b6⟩; have R6 := hide ((unhide R5).next b6); have e3 := (unhide R6).c3; have e4 := (unhide R6).c4; have e5 := (unhide R6).c5; clear C4)
      | (go_at_call 57; refine (unhide C5 _).mono ?_; rintro e w7 ⟨rfl, b7⟩; have R7 := hide ((unhide R6).next b7); have f3 := (unhide R7).c3; have f4 := (unhide R7).c4; have f5 := (unhide R7).c5; clear C5))
  go_wp2_with fail
  go_ret
  exact ⟨by rw [← unhide E]; rfl, bstep (bstep (bstep (unhide B3).drew b5) b6) b7⟩
end Go.Proofs.YtmbnmljkioikjaaDoor
