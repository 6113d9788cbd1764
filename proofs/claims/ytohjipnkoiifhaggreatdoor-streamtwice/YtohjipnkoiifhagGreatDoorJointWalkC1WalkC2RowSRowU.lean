/-
  Contracts of record.sumOf and bodyOf: a sum as four bytes, a record's body.
  Contract of record.bodyOf: a record's body.
  The four numbers of a store's sums in a block. No walk.
  A store's sums that are handed back: four cells are read as one value. No walk.
-/
import Derived.Test.YtohjipnkoiifhagGreatDoorJointWalkN1WalkN2WalkN3
import Derived.Test.YtohjipnkoiifhagGreatDoorJointPlainSPlainR2PapGRowGPapNWorksGPapHWorksFRowBWalkC6RowY
import Derived.Deep.RegionWith
import Derived.Deep.RegionLaw
import Derived.Deep.RegionHeld3
import Derived.Laws.Rows
namespace Go.Proofs.YtohjipnkoiifhagGreatDoor
open Go.RowKit

/-- bytes that were laid into a new block are made a text -/
theorem conv_four (w : World) (x0 x1 x2 x3 : Int) (l : List UInt8) (h : l.map (fun b => Value.int .u8 (b.toNat : Int)) = [.int .u8 x0, .int .u8 x1, .int .u8 x2, .int .u8 x3]) :
    (convert 108 9 (.slice (some ⟨w.heap.size, 0, none⟩) 4 4)).run Tryz.prog (w.alloc (.cells #[.int .u8 x0, .int .u8 x1, .int .u8 x2, .int .u8 x3] 5)) = .ok (.string (bs l)) (w.alloc (.cells #[.int .u8 x0, .int .u8 x1, .int .u8 x2, .int .u8 x3] 5)) := by
  have hl : l.length = 4 := by have := congrArg List.length h; simpa using this
  have := run_convert_bytes_back (w.alloc (.cells #[.int .u8 x0, .int .u8 x1, .int .u8 x2, .int .u8 x3] 5)) 108 9 5 ⟨w.heap.size, 0, none⟩ 4 l Tryz.underlying108 Tryz.underlying5 Tryz.underlying9 (fun j hj => by
    have hj4 : j < 4 := by omega
    have e : (l.map (fun b => Value.int .u8 (b.toNat : Int)))[j]? = some (.int .u8 (l[j].toNat : Int)) := by simp [List.getElem?_eq_getElem hj]
    rw [h] at e
    rw [← e, addp, Nat.zero_add]
    match j, hj4 with
    | 0, _ => simp
    | 1, _ => simp
    | 2, _ => simp
    | 3, _ => simp)
  rw [hl] at this
  exact this
theorem conv_one' (w : World) (x : Int) (n : Nat) (h : n < 256) (hx : x = n) :
    (convert 108 9 (.slice (some ⟨w.heap.size, 0, none⟩) 1 1)).run Tryz.prog (w.alloc (.cells #[.int .u8 x] 5)) = .ok (.string (bs [UInt8.ofNat n])) (w.alloc (.cells #[.int .u8 x] 5)) := by
  subst hx
  refine run_convert_bytes_back _ 108 9 5 ⟨w.heap.size, 0, none⟩ 1 [UInt8.ofNat n] Tryz.underlying108 Tryz.underlying5 Tryz.underlying9 fun j hj => ?_
  have hj0 : j = 0 := by simpa using hj
  subst hj0
  have := one_new w (.int .u8 (n : Int)) 5 0 (.int .u8 (n : Int)) rfl
  rw [this]
  simp only [List.getElem_cons_zero]
  rw [Pk.u8_of h]
theorem le4_cells {c : Nat} (h : c < 4294967296) : (Pk.le4 c).map (fun b => Value.int .u8 (b.toNat : Int)) = [.int .u8 ((c : Int) % 256), .int .u8 ((c : Int) / 256 % 256), .int .u8 ((c : Int) / 65536 % 256), .int .u8 ((c : Int) / 16777216)] := by
  unfold Pk.le4
  simp only [List.map_cons, List.map_nil]
  rw [Pk.u8_of (by omega), Pk.u8_of (by omega), Pk.u8_of (by omega), Pk.u8_of (by omega)]
  rw [show c / 16777216 % 256 = c / 16777216 from by omega]
  simp

set_option maxRecDepth 100000 in
set_option maxHeartbeats 200000 in
theorem sumof_any (s : ByteArray) (w : World) (hs : s.size ≤ 1000000000000000000) :
    Calls Tryz.prog 91 #[.string s] w fun e w' => e = .returned (.string (bs (Pk.le4 (Pk.crc s.data.toList)))) ∧ Below w.heap.size w w' := by
  obtain ⟨c, hc⟩ : ∃ c, c = Pk.crc s.data.toList := ⟨_, rfl⟩
  have hl : c < 4294967296 := by rw [hc]; exact Pk.crc_lt _
  have HC := hide hc
  have hcv := hide (conv_four w _ _ _ _ _ (le4_cells hl))
  clear hc
  go_enter Tryz.func91, Tryz.ntmps91
  go_wp2_with fail
  refine (sum_any s _ hs).mono ?_
  rintro e w1 ⟨rfl, rfl⟩
  rw [← unhide HC]
  go_wp2_with fail
  rw [unhide hcv]
  go_wp2_with fail
  go_ret
  exact ⟨by rw [← unhide HC]; rfl, (Below.refl _ _).alloc (Nat.le_refl _) _⟩

theorem cat_bs (a b : List UInt8) : bs a ++ bs b = bs (a ++ b) := by rw [cat_list, bs_list]
theorem bod_cat (k q t : Int) (s h d : ByteArray) : (((bs [UInt8.ofNat k.toNat] ++ (bs (Pk.enc q.toNat) ++ bs (Pk.enc t.toNat))) ++ bs (Pk.txt s.data.toList)) ++ bs (Pk.txt h.data.toList)) ++ bs (Pk.txt d.data.toList) = bs (Pk.bod ⟨k, q, t, s.data.toList, h.data.toList, d.data.toList⟩) := by
  rw [cat_bs, cat_bs, cat_bs, cat_bs, cat_bs]
  unfold Pk.bod Pk.body
  simp
theorem txt_few {s : ByteArray} (h : s.size ≤ 1000) : (bs (Pk.txt s.data.toList)).size ≤ 1009 := by
  rw [bs_size, Pk.txt, List.length_append]
  have := Pk.enc_nine (n := s.data.toList.length) (by simp; omega)
  simp at this ⊢
  omega
theorem enc_size {n : Int} (h : n ≤ 1099511627776) : (bs (Pk.enc n.toNat)).size ≤ 9 := by
  rw [bs_size]; exact Pk.enc_nine (by omega)

end Go.Proofs.YtohjipnkoiifhagGreatDoor

namespace Go.Proofs.YtohjipnkoiifhagGreatDoor
open Go.RowKit

set_option maxRecDepth 100000 in
set_option maxHeartbeats 200000 in
theorem bodyof_any (k q t : Int) (s h d : ByteArray) (w : World) (hk0 : 1 ≤ k) (hk : k ≤ 4) (hq : q ≤ 1099511627776) (ht : t ≤ 1099511627776) (hs : s.size ≤ 1000) (hh : h.size ≤ 1000) (hd : d.size ≤ 1000) :
    Calls Tryz.prog 89 #[.agg #[.int .i64 k, .int .i64 q, .int .i64 t, .string s, .string h, .string d]] w fun e w' => e = .returned (.string (bs (Pk.bod ⟨k, q, t, s.data.toList, h.data.toList, d.data.toList⟩))) ∧ Below w.heap.size w w' := by
  obtain ⟨X0, hX0⟩ : ∃ X, X = bs [UInt8.ofNat k.toNat] := ⟨_, rfl⟩
  obtain ⟨X1, hX1⟩ : ∃ X, X = bs (Pk.enc q.toNat) := ⟨_, rfl⟩
  obtain ⟨X2, hX2⟩ : ∃ X, X = bs (Pk.enc t.toNat) := ⟨_, rfl⟩
  obtain ⟨X3, hX3⟩ : ∃ X, X = bs (Pk.txt s.data.toList) := ⟨_, rfl⟩
  obtain ⟨X4, hX4⟩ : ∃ X, X = bs (Pk.txt h.data.toList) := ⟨_, rfl⟩
  obtain ⟨X5, hX5⟩ : ∃ X, X = bs (Pk.txt d.data.toList) := ⟨_, rfl⟩
  have z0 : X0.size ≤ 1 := by rw [hX0, bs_size]; simp
  have z1 : X1.size ≤ 9 := by rw [hX1]; exact enc_size hq
  have z2 : X2.size ≤ 9 := by rw [hX2]; exact enc_size ht
  have z3 : X3.size ≤ 1009 := by rw [hX3]; exact txt_few hs
  have z4 : X4.size ≤ 1009 := by rw [hX4]; exact txt_few hh
  have z5 : X5.size ≤ 1009 := by rw [hX5]; exact txt_few hd
  have c1 : ¬ 9223372036854775807 < X1.size + X2.size := by omega
  have c2 : ¬ 9223372036854775807 < X0.size + (X1.size + X2.size) := by omega
  have c3 : ¬ 9223372036854775807 < X0.size + (X1.size + X2.size) + X3.size := by omega
  have c4 : ¬ 9223372036854775807 < X0.size + (X1.size + X2.size) + X3.size + X4.size := by omega
  have c5 : ¬ 9223372036854775807 < X0.size + (X1.size + X2.size) + X3.size + X4.size + X5.size := by omega
  have E := hide (bod_cat k q t s h d)
  rw [← hX0, ← hX1, ← hX2, ← hX3, ← hX4, ← hX5] at E
  have C1 : Hid (∀ W : World, Calls Tryz.prog 119 #[.int .i64 q] W fun e w' => e = .returned (.string X1) ∧ Below W.heap.size W w') := hide (fun W => by rw [hX1]; exact number_any q W (by omega))
  have C2 : Hid (∀ W : World, Calls Tryz.prog 119 #[.int .i64 t] W fun e w' => e = .returned (.string X2) ∧ Below W.heap.size W w') := hide (fun W => by rw [hX2]; exact number_any t W (by omega))
  have C3 : Hid (∀ W : World, Calls Tryz.prog 90 #[.string s] W fun e w' => e = .returned (.string X3) ∧ Below W.heap.size W w') := hide (fun W => by rw [hX3]; exact text_any s W (by omega))
  have C4 : Hid (∀ W : World, Calls Tryz.prog 90 #[.string h] W fun e w' => e = .returned (.string X4) ∧ Below W.heap.size W w') := hide (fun W => by rw [hX4]; exact text_any h W (by omega))
  have C5 : Hid (∀ W : World, Calls Tryz.prog 90 #[.string d] W fun e w' => e = .returned (.string X5) ∧ Below W.heap.size W w') := hide (fun W => by rw [hX5]; exact text_any d W (by omega))
  have hcv := hide (conv_one' (w.alloc (.cells #[.int .i64 k, .int .i64 q, .int .i64 t, .string s, .string h, .string d] 30)) k k.toNat (by omega) (by omega))
  rw [← hX0] at hcv
  clear hX0 hX1 hX2 hX3 hX4 hX5
  go_enter Tryz.func89, Tryz.ntmps89
  go_wp2_with fail
  have hcv2 := unhide hcv
  rw [show (w.alloc (.cells #[.int .i64 k, .int .i64 q, .int .i64 t, .string s, .string h, .string d] 30)).heap.size = w.heap.size + 1 from by simp] at hcv2
  rw [hcv2]
  clear hcv2 hcv
  go_wp2_with fail
  have B0 : Hid (Below w.heap.size w ((w.alloc (.cells #[.int .i64 k, .int .i64 q, .int .i64 t, .string s, .string h, .string d] 30)).alloc (.cells #[.int .u8 k] 5))) := hide (((Below.refl _ _).alloc (Nat.le_refl _) _).alloc (by simp) _)
  have R0 := hide ((RB.new w k q t s h d 30).alloc (.cells #[.int .u8 k] 5)).drew
  go_region_held3 (fun w' => w'.cell? ⟨w.heap.size, 1, none⟩ = some (.int .i64 q) ∧ w'.cell? ⟨w.heap.size, 2, none⟩ = some (.int .i64 t)) (first | (refine ⟨?_, ?_⟩ <;> assumption) | go_keep)
    (first
      | (go_at_call 119; refine (unhide C1 _).mono ?_; rintro e w2 ⟨rfl, b2⟩; have R2 := hide ((unhide R0).next b2); have d1 := (unhide R2).c1; have d2 := (unhide R2).c2; clear C1)
      | (go_at_call 119; refine (unhide C2 _).mono ?_; rintro e w3 ⟨rfl, b3⟩; have R3 := hide ((unhide R2).next b3); have e1 := (unhide R3).c1; have e2 := (unhide R3).c2; clear C2))
  have B3 := hide (bstep (bstep (unhide B0).drew b2) b3)
  have R4 := hide (unhide R3).drew
  have l3 := (unhide R4).c3
  have l4 := (unhide R4).c4
  have l5 := (unhide R4).c5
  clear b2 b3 d1 d2 e1 e2 B0 R0 R2 R3
  go_wp2_with fail
  go_region_held3 (fun w' => w'.cell? ⟨w.heap.size, 3, none⟩ = some (.string s) ∧ w'.cell? ⟨w.heap.size, 4, none⟩ = some (.string h) ∧ w'.cell? ⟨w.heap.size, 5, none⟩ = some (.string d)) (first | (refine ⟨?_, ?_, ?_⟩ <;> assumption) | go_keep)
    (first
      | (go_at_call 90; refine (unhide C3 _).mono ?_; rintro e w5 ⟨rfl, b5⟩; have R5 := hide ((unhide R4).next b5); have d3 := (unhide R5).c3; have d4 := (unhide R5).c4; have d5 := (unhide R5).c5; clear C3)
      | (go_at_call 90; refine (unhide C4 _).mono ?_; rintro e w6 ⟨rfl, b6⟩; have R6 := hide ((unhide R5).next b6); have e3 := (unhide R6).c3; have e4 := (unhide R6).c4; have e5 := (unhide R6).c5; clear C4)
      | (go_at_call 90; refine (unhide C5 _).mono ?_; rintro e w7 ⟨rfl, b7⟩; have R7 := hide ((unhide R6).next b7); have f3 := (unhide R7).c3; have f4 := (unhide R7).c4; have f5 := (unhide R7).c5; clear C5))
  go_wp2_with fail
  go_ret
  exact ⟨by rw [← unhide E]; rfl, bstep (bstep (bstep (unhide B3).drew b5) b6) b7⟩
end Go.Proofs.YtohjipnkoiifhagGreatDoor

namespace Go.Proofs.YtohjipnkoiifhagGreatDoor.Dk
open Go.RowKit

/-- the four numbers of a store's sums in a block -/
structure SB (w : World) (b : Nat) (x0 x1 x2 x3 : Int) : Prop where
  lt : b < w.heap.size
  c0 : w.cell? ⟨b, 0, none⟩ = some (.int .i64 x0)
  c1 : w.cell? ⟨b, 1, none⟩ = some (.int .i64 x1)
  c2 : w.cell? ⟨b, 2, none⟩ = some (.int .i64 x2)
  c3 : w.cell? ⟨b, 3, none⟩ = some (.int .i64 x3)
  fr : ∀ j, w.frozen? ⟨b, j, none⟩ = false
theorem SB.below {w w' : World} {b n : Nat} {x0 x1 x2 x3 : Int} (r : SB w b x0 x1 x2 x3) (hb : Below n w w') (hn : b < n) : SB w' b x0 x1 x2 x3 :=
  ⟨Nat.lt_of_lt_of_le r.lt hb.size, by rw [hb.cell (p := ⟨b, 0, none⟩) hn]; exact r.c0, by rw [hb.cell (p := ⟨b, 1, none⟩) hn]; exact r.c1, by rw [hb.cell (p := ⟨b, 2, none⟩) hn]; exact r.c2, by rw [hb.cell (p := ⟨b, 3, none⟩) hn]; exact r.c3, fun j => by rw [hb.frozen (p := ⟨b, j, none⟩) hn]; exact r.fr j⟩
theorem SB.next {w w' : World} {b : Nat} {x0 x1 x2 x3 : Int} (r : SB w b x0 x1 x2 x3) (hb : Below w.heap.size w w') : SB w' b x0 x1 x2 x3 := r.below hb r.lt
theorem SB.alloc {w : World} {b : Nat} {x0 x1 x2 x3 : Int} (r : SB w b x0 x1 x2 x3) (o : Obj) : SB (w.alloc o) b x0 x1 x2 x3 := r.next ((Below.refl _ _).alloc (Nat.le_refl _) o)
theorem SB.new (w : World) (x0 x1 x2 x3 : Int) (T : TypeId) : SB (w.alloc (.cells #[.int .i64 x0, .int .i64 x1, .int .i64 x2, .int .i64 x3] T)) w.heap.size x0 x1 x2 x3 :=
  ⟨by simp, by simp, by simp, by simp, by simp, fun j => World.frozen?_alloc_new _ _ _ j⟩
theorem SB.set0 {w : World} {b : Nat} {x0 x1 x2 x3 : Int} (r : SB w b x0 x1 x2 x3) (y : Int) : SB (w.setCell ⟨b, 0, none⟩ (.int .i64 y)) b y x1 x2 x3 :=
  ⟨by simpa using r.lt, same_cell r.c0, by rw [cell_other' _ _ _ _ (by intro e; injection e; omega)]; exact r.c1, by rw [cell_other' _ _ _ _ (by intro e; injection e; omega)]; exact r.c2, by rw [cell_other' _ _ _ _ (by intro e; injection e; omega)]; exact r.c3, fun j => by simpa using r.fr j⟩
theorem SB.set1 {w : World} {b : Nat} {x0 x1 x2 x3 : Int} (r : SB w b x0 x1 x2 x3) (y : Int) : SB (w.setCell ⟨b, 1, none⟩ (.int .i64 y)) b x0 y x2 x3 :=
  ⟨by simpa using r.lt, by rw [cell_other' _ _ _ _ (by intro e; injection e; omega)]; exact r.c0, same_cell r.c1, by rw [cell_other' _ _ _ _ (by intro e; injection e; omega)]; exact r.c2, by rw [cell_other' _ _ _ _ (by intro e; injection e; omega)]; exact r.c3, fun j => by simpa using r.fr j⟩
theorem SB.set2 {w : World} {b : Nat} {x0 x1 x2 x3 : Int} (r : SB w b x0 x1 x2 x3) (y : Int) : SB (w.setCell ⟨b, 2, none⟩ (.int .i64 y)) b x0 x1 y x3 :=
  ⟨by simpa using r.lt, by rw [cell_other' _ _ _ _ (by intro e; injection e; omega)]; exact r.c0, by rw [cell_other' _ _ _ _ (by intro e; injection e; omega)]; exact r.c1, same_cell r.c2, by rw [cell_other' _ _ _ _ (by intro e; injection e; omega)]; exact r.c3, fun j => by simpa using r.fr j⟩
theorem SB.set3 {w : World} {b : Nat} {x0 x1 x2 x3 : Int} (r : SB w b x0 x1 x2 x3) (y : Int) : SB (w.setCell ⟨b, 3, none⟩ (.int .i64 y)) b x0 x1 x2 y :=
  ⟨by simpa using r.lt, by rw [cell_other' _ _ _ _ (by intro e; injection e; omega)]; exact r.c0, by rw [cell_other' _ _ _ _ (by intro e; injection e; omega)]; exact r.c1, by rw [cell_other' _ _ _ _ (by intro e; injection e; omega)]; exact r.c2, same_cell r.c3, fun j => by simpa using r.fr j⟩
theorem SB.other {w : World} {b c i : Nat} {x0 x1 x2 x3 : Int} {v : Value} (r : SB w b x0 x1 x2 x3) (hc : c ≠ b) : SB (w.setCell ⟨c, i, none⟩ v) b x0 x1 x2 x3 :=
  ⟨by simpa using r.lt, by rw [cell_other' _ _ _ _ (by intro e; injection e; omega)]; exact r.c0, by rw [cell_other' _ _ _ _ (by intro e; injection e; omega)]; exact r.c1, by rw [cell_other' _ _ _ _ (by intro e; injection e; omega)]; exact r.c2, by rw [cell_other' _ _ _ _ (by intro e; injection e; omega)]; exact r.c3, fun j => by simpa using r.fr j⟩
end Go.Proofs.YtohjipnkoiifhagGreatDoor.Dk

namespace Go.Proofs.YtohjipnkoiifhagGreatDoor.Dk
open Go.RowKit

theorem load_sum {w : World} {b : Nat} {x0 x1 x2 x3 : Int} (r : SB w b x0 x1 x2 x3) : (loadVar 37 ⟨b, 0, none⟩).run Tryz.prog w = .ok (.agg #[.int .i64 x0, .int .i64 x1, .int .i64 x2, .int .i64 x3]) w := by
  have hl : (loadCells ⟨b, 0, none⟩ 4).run Tryz.prog w = .ok #[.int .i64 x0, .int .i64 x1, .int .i64 x2, .int .i64 x3] w :=
    run_loadCells_list (P := Tryz.prog) w ⟨b, 0, none⟩ [.int .i64 x0, .int .i64 x1, .int .i64 x2, .int .i64 x3] (fun j v hv => by
      rw [addp, Nat.zero_add]
      match j, hv with
      | 0, hv => rw [r.c0]; simpa using hv
      | 1, hv => rw [r.c1]; simpa using hv
      | 2, hv => rw [r.c2]; simpa using hv
      | 3, hv => rw [r.c3]; simpa using hv)
  have hz : Tryz.t37.size = 4 := by kernel_rfl
  simp [loadVar, isAgg, sizeOf]
  rw [hz, hl]
  rfl
theorem results_sum {fn : Func} {a : Tmp} {tmps : Array Value} {w : World} {b : Nat} {x0 x1 x2 x3 : Int} (hf : fn.results = #[.cell a 37]) (ha : tmps.getD a undef = .pointer (some ⟨b, 0, none⟩)) (r : SB w b x0 x1 x2 x3) :
    (results fn tmps).run Tryz.prog w = .ok (.agg #[.int .i64 x0, .int .i64 x1, .int .i64 x2, .int .i64 x3]) w := by
  have ha' : tmps[a]?.getD undef = .pointer (some ⟨b, 0, none⟩) := by simpa using ha
  simp [results, hf, ha', asAddr, load_sum r]
end Go.Proofs.YtohjipnkoiifhagGreatDoor.Dk
