/-
  Contracts of record.sumOf and bodyOf: a sum as four bytes, a record's body.
-/
import Derived.Test.YtmbnmljkioikjaaDoorWalkN3
import Derived.Test.YtmbnmljkioikjaaDoorPlainR2
import Derived.Deep.RegionWith
import Derived.Deep.RegionLaw
import Derived.Deep.RegionHeld3
namespace Go.Proofs.YtmbnmljkioikjaaDoor
open Go.RowKit

/-- bytes that were laid into a new block are made a text -/
theorem conv_four (w : World) (x0 x1 x2 x3 : Int) (l : List UInt8) (h : l.map (fun b => Value.int .u8 (b.toNat : Int)) = [.int .u8 x0, .int .u8 x1, .int .u8 x2, .int .u8 x3]) :
    (convert 72 9 (.slice (some ⟨w.heap.size, 0, none⟩) 4 4)).run Tryd.prog (w.alloc (.cells #[.int .u8 x0, .int .u8 x1, .int .u8 x2, .int .u8 x3] 5)) = .ok (.string (bs l)) (w.alloc (.cells #[.int .u8 x0, .int .u8 x1, .int .u8 x2, .int .u8 x3] 5)) := by
  have hl : l.length = 4 := by have := congrArg List.length h; simpa using this
  have := run_convert_bytes_back (w.alloc (.cells #[.int .u8 x0, .int .u8 x1, .int .u8 x2, .int .u8 x3] 5)) 72 9 5 ⟨w.heap.size, 0, none⟩ 4 l Tryd.underlying72 Tryd.underlying5 Tryd.underlying9 (fun j hj => by
    have hj4 : j < 4 := by omega
    have e : (l.map (fun b => Value.int .u8 (b.toNat : Int)))[j]? = some (.int .u8 (l[j].toNat : Int)) := by simp [List.getElem?_eq_getElem hj]
    rw [h] at e
    rw [← e, addp, Nat.zero_add]
    match j, hj4 with
    | 0, _ => simp
    | 1, _ => simp
    | 2, _ => simp
    | 3, _ => simp)
  rw [hl] at this
  exact this
theorem conv_one' (w : World) (x : Int) (n : Nat) (h : n < 256) (hx : x = n) :
    (convert 72 9 (.slice (some ⟨w.heap.size, 0, none⟩) 1 1)).run Tryd.prog (w.alloc (.cells #[.int .u8 x] 5)) = .ok (.string (bs [UInt8.ofNat n])) (w.alloc (.cells #[.int .u8 x] 5)) := by
  subst hx
  refine run_convert_bytes_back _ 72 9 5 ⟨w.heap.size, 0, none⟩ 1 [UInt8.ofNat n] Tryd.underlying72 Tryd.underlying5 Tryd.underlying9 fun j hj => ?_
  have hj0 : j = 0 := by simpa using hj
  subst hj0
  have := one_new w (.int .u8 (n : Int)) 5 0 (.int .u8 (n : Int)) rfl
  rw [this]
  simp only [List.getElem_cons_zero]
  rw [Pk.u8_of h]
theorem le4_cells {c : Nat} (h : c < 4294967296) : (Pk.le4 c).map (fun b => Value.int .u8 (b.toNat : Int)) = [.int .u8 ((c : Int) % 256), .int .u8 ((c : Int) / 256 % 256), .int .u8 ((c : Int) / 65536 % 256), .int .u8 ((c : Int) / 16777216)] := by
  unfold Pk.le4
  simp only [List.map_cons, List.map_nil]
  rw [Pk.u8_of (by omega), Pk.u8_of (by omega), Pk.u8_of (by omega), Pk.u8_of (by omega)]
  rw [show c / 16777216 % 256 = c / 16777216 from by omega]
  simp

set_option maxRecDepth 100000 in
set_option maxHeartbeats 200000 in
theorem sumof_any (s : ByteArray) (w : World) (hs : s.size ≤ 1000000000000000000) :
    Calls Tryd.prog 58 #[.string s] w fun e w' => e = .returned (.string (bs (Pk.le4 (Pk.crc s.data.toList)))) ∧ Below w.heap.size w w' := by
  obtain ⟨c, hc⟩ : ∃ c, c = Pk.crc s.data.toList := ⟨_, rfl⟩
  have hl : c < 4294967296 := by rw [hc]; exact Pk.crc_lt _
  have HC := hide hc
  have hcv := hide (conv_four w _ _ _ _ _ (le4_cells hl))
  clear hc
  go_enter Tryd.func58, Tryd.ntmps58
  go_wp2_with fail
  refine (sum_any s _ hs).mono ?_
  rintro e w1 ⟨rfl, rfl⟩
  rw [← unhide HC]
  go_wp2_with fail
  rw [unhide hcv]
  go_wp2_with fail
  go_ret
  exact ⟨by rw [← unhide HC]; rfl, (Below.refl _ _).alloc (Nat.le_refl _) _⟩

/-- a record's six cells in a block -/
structure RB (w : World) (b : Nat) (k q t : Int) (s h d : ByteArray) : Prop where
  lt : b < w.heap.size
  c0 : w.cell? ⟨b, 0, none⟩ = some (.int .i64 k)
  c1 : w.cell? ⟨b, 1, none⟩ = some (.int .i64 q)
  c2 : w.cell? ⟨b, 2, none⟩ = some (.int .i64 t)
  c3 : w.cell? ⟨b, 3, none⟩ = some (.string s)
  c4 : w.cell? ⟨b, 4, none⟩ = some (.string h)
  c5 : w.cell? ⟨b, 5, none⟩ = some (.string d)
  fr : ∀ j, w.frozen? ⟨b, j, none⟩ = false
theorem RB.below {w w' : World} {b B : Nat} {k q t : Int} {s h d : ByteArray} (r : RB w b k q t s h d) (hb : Below B w w') (hB : b < B) : RB w' b k q t s h d :=
  ⟨Nat.lt_of_lt_of_le r.lt hb.size, by rw [hb.cell (p := ⟨b, 0, none⟩) hB]; exact r.c0, by rw [hb.cell (p := ⟨b, 1, none⟩) hB]; exact r.c1, by rw [hb.cell (p := ⟨b, 2, none⟩) hB]; exact r.c2, by rw [hb.cell (p := ⟨b, 3, none⟩) hB]; exact r.c3, by rw [hb.cell (p := ⟨b, 4, none⟩) hB]; exact r.c4, by rw [hb.cell (p := ⟨b, 5, none⟩) hB]; exact r.c5, fun j => by rw [hb.frozen (p := ⟨b, j, none⟩) hB]; exact r.fr j⟩
theorem RB.drew {w : World} {b : Nat} {k q t : Int} {s h d : ByteArray} (r : RB w b k q t s h d) : RB w.drew b k q t s h d :=
  r.below (B := w.heap.size) (Below.refl _ _).drew r.lt
theorem RB.alloc {w : World} {b : Nat} {k q t : Int} {s h d : ByteArray} (r : RB w b k q t s h d) (o : Obj) : RB (w.alloc o) b k q t s h d :=
  r.below (B := w.heap.size) ((Below.refl _ _).alloc (Nat.le_refl _) o) r.lt
theorem RB.next {w w' : World} {b : Nat} {k q t : Int} {s h d : ByteArray} (r : RB w b k q t s h d) (hb : Below w.heap.size w w') : RB w' b k q t s h d := r.below hb r.lt
theorem RB.new (w : World) (k q t : Int) (s h d : ByteArray) (T : TypeId) : RB (w.alloc (.cells #[.int .i64 k, .int .i64 q, .int .i64 t, .string s, .string h, .string d] T)) w.heap.size k q t s h d :=
  ⟨by simp, by simp, by simp, by simp, by simp, by simp, by simp, fun j => World.frozen?_alloc_new _ _ _ j⟩

theorem cat_bs (a b : List UInt8) : bs a ++ bs b = bs (a ++ b) := by rw [cat_list, bs_list]
theorem bod_cat (k q t : Int) (s h d : ByteArray) : (((bs [UInt8.ofNat k.toNat] ++ (bs (Pk.enc q.toNat) ++ bs (Pk.enc t.toNat))) ++ bs (Pk.txt s.data.toList)) ++ bs (Pk.txt h.data.toList)) ++ bs (Pk.txt d.data.toList) = bs (Pk.bod ⟨k, q, t, s.data.toList, h.data.toList, d.data.toList⟩) := by
  rw [cat_bs, cat_bs, cat_bs, cat_bs, cat_bs]
  unfold Pk.bod Pk.body
  simp
theorem txt_few {s : ByteArray} (h : s.size ≤ 1000) : (bs (Pk.txt s.data.toList)).size ≤ 1009 := by
  rw [bs_size, Pk.txt, List.length_append]
  have := Pk.enc_nine (n := s.data.toList.length) (by simp; omega)
  simp at this ⊢
  omega
theorem enc_size {n : Int} (h : n ≤ 1099511627776) : (bs (Pk.enc n.toNat)).size ≤ 9 := by
  rw [bs_size]; exact Pk.enc_nine (by omega)

end Go.Proofs.YtmbnmljkioikjaaDoor
