/-
  Contract of pack.Number: the number's bytes.
  A record's six cells in a block. No walk.
  Contracts of record.sumOf and bodyOf: a sum as four bytes, a record's body.
  Contract of record.bodyOf: a record's body.
  Contracts of record.checkMessage, checkPurge, checkBare and Check: they answer what is wrong with a record.
-/
import Derived.Test.YtmccpkpeimejhagGreatDoorJointWalkM4WalkMDWalkMFWalkN1WalkN2
import Derived.Test.YtmccpkpeimejhagGreatDoorJointWalkY2RowZRowPrWalkY3PapPd
import Derived.RegionTactic
import Derived.ChangeAlike
import Derived.Laws.IdiomStrings
import Derived.Test.YtmccpkpeimejhagGreatDoorRows
import Derived.Test.YtmccpkpeimejhagGreatDoorJointPlainR2PapGRowGPapNWorksG
import Derived.Test.YtmccpkpeimejhagGreatDoorJointBase0RowTmPlainPapPaWalk1
import Derived.WalkKit
import Derived.WalkSpells
import Derived.WalkLawsBesides
import Derived.Deep.RegionWith
import Derived.Deep.RegionLaw
import Derived.Deep.RegionHeld3
import Derived.Test.YtmccpkpeimejhagGreatDoorJointWalkSplitWalk2Plain2Plain5PlainK
namespace Go.Proofs.YtmccpkpeimejhagGreatDoor
open Go.RowKit

/-- a row of bytes of the program's own -/
def Bts (w : World) (B : Nat) (v : Value) (l : List UInt8) : Prop := w.ownsRow B 5 1 v l.length (l.map fun b => Value.int .u8 b.toNat)
theorem infoB : (Tryz.prog.info? 5).map (fun i => (i.zero, i.size, i.bytes)) = some (some (.int .u8 0), 1, 1) := by kernel_rfl
theorem one_byte (n : Int) : ∀ u ∈ [Value.int .u8 n], u.oneCell' = true := by
  intro u hu; simp at hu; subst hu; rfl
/-- the state of the packing: the bytes are laid, m is left -/
def Packs (w0 w : World) (v : Value) (N m : Nat) (l : List UInt8) : Prop := Bts w w0.heap.size v l ∧ Below w0.heap.size w0 w ∧ l ++ Pk.enc m = Pk.enc N
theorem packs_len {w0 w : World} {v : Value} {N m : Nat} {l : List UInt8} (h : Packs w0 w v N m l) (hN : N < 9223372036854775808) : l.length < 9 := by
  have := Pk.enc_nine hN
  rw [← h.2.2, List.length_append] at this
  have := Pk.enc_pos m
  omega
theorem bts_next {w0 wr w1 : World} {v v' : Value} {l : List UInt8} {b : UInt8} {n : Int} {o : Obj} (hn : n = b.toNat) (hown : Bts wr w0.heap.size v l) (hb : Below w0.heap.size w0 wr)
    (h1 : w1.ownsRow w0.heap.size 5 1 v' (l.length + 1) ((l.map fun b => Value.int .u8 b.toNat) ++ [.int .u8 n])) (hg : (wr.alloc o).grownBy w1 v.ownBlock) :
    Bts w1 w0.heap.size v' (l ++ [b]) ∧ Below w0.heap.size w0 w1 := by
  refine ⟨?_, ?_⟩
  · unfold Bts
    rw [List.map_append, List.map_cons, List.map_nil, List.length_append, ← hn]
    exact h1
  · have hs := hb.size
    refine (hb.alloc (by omega) o).grown hg (by simp; omega) ?_
    intro j hj
    exact (World.ownsRow.lt hown j hj).1
/-- the byte of a group that goes on -/
def gb (m : Nat) : Nat := 128 + m % 128
theorem gb_lt (m : Nat) : gb m < 256 := by unfold gb; omega
theorem low_byte {m : Nat} (h : m < 9223372036854775808) : bits .or .i64 (bits .and .i64 (m : Int) 127) 128 = ((gb m : Nat) : Int) := by
  have e1 : bits .and .i64 (m : Int) 127 = ((m % 128 : Nat) : Int) := by
    rw [show (127 : Int) = ((127 : Nat) : Int) from rfl, (bits_nat .i64 63 (by decide) wraps63 m 127 (by omega) (by omega)).1, nat_mask7]
  rw [e1, show (128 : Int) = ((128 : Nat) : Int) from rfl, (bits_nat .i64 63 (by decide) wraps63 (m % 128) 128 (by omega) (by omega)).2]
  congr 1
  have := Nat.two_pow_add_eq_or_of_lt (i := 7) (b := m % 128) (by omega) 1
  rw [show 2 ^ 7 * 1 = 128 from rfl] at this
  rw [Nat.or_comm]
  exact this.symm

theorem bts_conv {w : World} {B g cap : Nat} {l : List UInt8} (h : Bts w B (.slice (some ⟨g, 0, none⟩) l.length cap) l) :
    (convert 108 9 (.slice (some ⟨g, 0, none⟩) l.length cap)).run Tryz.prog w = .ok (.string (bs l)) w := by
  refine run_convert_bytes_back w 108 9 5 ⟨g, 0, none⟩ cap l Tryz.underlying108 Tryz.underlying5 Tryz.underlying9 fun j hj => ?_
  have := World.ownsRow.cellAt h j (by omega)
  rw [addp, Nat.zero_add, this]
  simp [List.getElem?_eq_getElem hj]
set_option maxRecDepth 100000 in
set_option maxHeartbeats 1000000 in
theorem number_nat (N : Nat) (w : World) (hN : N < 9223372036854775808) :
    Calls Tryz.prog 119 #[.int .i64 N] w fun e w' => e = .returned (.string (bs (Pk.enc N))) ∧ Below w.heap.size w w' := by
  obtain ⟨i0, hi, hz0, hz1, hz2⟩ := info_parts infoB
  go_enter Tryz.func119, Tryz.ntmps119
  go_wp2_with fail
  go_loopw [3, 4] (fun r p wr => ∃ (m : Nat) (l : List UInt8), m ≤ N ∧ r = .int .i64 m ∧ Packs w wr p N m l) (fun r _ _ => (intOf r).toNat)
  case atStart => exact ⟨N, [], Nat.le_refl _, by simp, World.ownsRow_nil _ _ _ _, Below.refl _ _, rfl⟩
  case round =>
    obtain ⟨m, l, hm, rfl, hp⟩ := hrel
    have hlen := packs_len hp hN
    obtain ⟨hown, hb, he⟩ := hp
    have hown2 : wr.ownsRow w.heap.size 5 1 u4 l.length (l.map fun b => Value.int .u8 b.toNat) := hown
    have hsz := hb.size
    have HE := hide he
    clear he
    by_cases hlt : 127 < m
    · have hl := low_byte (m := m) (by omega)
      have hg := gb_lt m
      go_wp2_with (at_builtin; refine wpList_append_own _ rfl _ _ 108 rfl w.heap.size 5 i0 (.int .u8 0) 1 1 Tryz.underlying108 hi hz0 hz1 hz2 rfl (by decide) _ _ _ rfl (hown2.alloc _) ⟨wr.heap.size, 0, none⟩ 1 1 [.int .u8 ((gb m : Nat) : Int)] rfl rfl (one_new _ _ _) (one_byte _) (by unfold maxLen; omega) (by omega) (by simp; omega) ?_; intro v' w3 hown1 hgrow _)
      have R := bts_next (b := UInt8.ofNat (gb m)) (by rw [Pk.u8_of hg]) hown hb hown1 hgrow
      clear hown hown2 hown1 hgrow hb
      go_round
      case rel => exact ⟨m / 128, l ++ [UInt8.ofNat (gb m)], by omega, by simp, R.1, R.2, by rw [List.append_assoc, List.singleton_append, ← unhide HE, Pk.enc_large (n := m) (by omega)]; rfl⟩
      case measure => simp [intOf]; omega
    · go_wp2_with (at_builtin; refine wpList_append_own _ rfl _ _ 108 rfl w.heap.size 5 i0 (.int .u8 0) 1 1 Tryz.underlying108 hi hz0 hz1 hz2 rfl (by decide) _ _ _ rfl (hown2.alloc _) ⟨wr.heap.size, 0, none⟩ 1 1 [.int .u8 (m : Int)] rfl rfl (one_new _ _ _) (one_byte _) (by unfold maxLen; omega) (by omega) (by simp; omega) ?_; intro v' w3 hown1 hgrow _)
      have R := bts_next (b := UInt8.ofNat m) (by rw [Pk.u8_of (by omega)]) hown hb hown1 hgrow
      obtain ⟨g, cap, rfl⟩ := own_some hown1
      have hcv := bts_conv (l := l ++ [UInt8.ofNat m]) (by rw [List.length_append]; exact R.1)
      rw [List.length_append, List.length_singleton] at hcv
      have R2 := R.2
      clear hown hown2 hown1 hgrow hb R
      rw [hcv]
      go_wp2_with fail
      go_ret
      refine ⟨?_, R2⟩
      rw [← unhide HE, Pk.enc_small (n := m) (by omega)]
      rfl

set_option maxRecDepth 100000 in
set_option maxHeartbeats 1000000 in
theorem number_neg (n : Int) (N : Nat) (w : World) (hN0 : N = 0) (hn : n < 0) :
    Calls Tryz.prog 119 #[.int .i64 n] w fun e w' => e = .returned (.string (bs (Pk.enc N))) ∧ Below w.heap.size w w' := by
  obtain ⟨i0, hi, hz0, hz1, hz2⟩ := info_parts infoB
  have hN : N < 9223372036854775808 := by omega
  have HN := hide hN0
  clear hN0
  go_enter Tryz.func119, Tryz.ntmps119
  go_wp2_with fail
  go_loopw [3, 4] (fun r p wr => ∃ (m : Nat) (l : List UInt8), m ≤ N ∧ r = .int .i64 m ∧ Packs w wr p N m l) (fun r _ _ => (intOf r).toNat)
  case atStart => exact ⟨N, [], Nat.le_refl _, by rw [unhide HN]; rfl, World.ownsRow_nil _ _ _ _, Below.refl _ _, rfl⟩
  case round =>
    obtain ⟨m, l, hm, rfl, hp⟩ := hrel
    have hlen := packs_len hp hN
    obtain ⟨hown, hb, he⟩ := hp
    have hown2 : wr.ownsRow w.heap.size 5 1 u4 l.length (l.map fun b => Value.int .u8 b.toNat) := hown
    have hsz := hb.size
    have HE := hide he
    clear he
    by_cases hlt : 127 < m
    · have hl := low_byte (m := m) (by omega)
      have hg := gb_lt m
      go_wp2_with (at_builtin; refine wpList_append_own _ rfl _ _ 108 rfl w.heap.size 5 i0 (.int .u8 0) 1 1 Tryz.underlying108 hi hz0 hz1 hz2 rfl (by decide) _ _ _ rfl (hown2.alloc _) ⟨wr.heap.size, 0, none⟩ 1 1 [.int .u8 ((gb m : Nat) : Int)] rfl rfl (one_new _ _ _) (one_byte _) (by unfold maxLen; omega) (by omega) (by simp; omega) ?_; intro v' w3 hown1 hgrow _)
      have R := bts_next (b := UInt8.ofNat (gb m)) (by rw [Pk.u8_of hg]) hown hb hown1 hgrow
      clear hown hown2 hown1 hgrow hb
      go_round
      case rel => exact ⟨m / 128, l ++ [UInt8.ofNat (gb m)], by omega, by simp, R.1, R.2, by rw [List.append_assoc, List.singleton_append, ← unhide HE, Pk.enc_large (n := m) (by omega)]; rfl⟩
      case measure => simp [intOf]; omega
    · go_wp2_with (at_builtin; refine wpList_append_own _ rfl _ _ 108 rfl w.heap.size 5 i0 (.int .u8 0) 1 1 Tryz.underlying108 hi hz0 hz1 hz2 rfl (by decide) _ _ _ rfl (hown2.alloc _) ⟨wr.heap.size, 0, none⟩ 1 1 [.int .u8 (m : Int)] rfl rfl (one_new _ _ _) (one_byte _) (by unfold maxLen; omega) (by omega) (by simp; omega) ?_; intro v' w3 hown1 hgrow _)
      have R := bts_next (b := UInt8.ofNat m) (by rw [Pk.u8_of (by omega)]) hown hb hown1 hgrow
      obtain ⟨g, cap, rfl⟩ := own_some hown1
      have hcv := bts_conv (l := l ++ [UInt8.ofNat m]) (by rw [List.length_append]; exact R.1)
      rw [List.length_append, List.length_singleton] at hcv
      have R2 := R.2
      clear hown hown2 hown1 hgrow hb R
      rw [hcv]
      go_wp2_with fail
      go_ret
      refine ⟨?_, R2⟩
      rw [← unhide HE, Pk.enc_small (n := m) (by omega)]
      rfl

theorem number_any (n : Int) (w : World) (hn : n < 9223372036854775808) :
    Calls Tryz.prog 119 #[.int .i64 n] w fun e w' => e = .returned (.string (bs (Pk.enc n.toNat))) ∧ Below w.heap.size w w' := by
  by_cases h : n < 0
  · exact number_neg n n.toNat w (by omega) h
  · obtain ⟨N, rfl⟩ := Int.eq_ofNat_of_zero_le (show 0 ≤ n by omega)
    exact number_nat N w (by omega)

theorem cat_list (l : List UInt8) (s : ByteArray) : bs l ++ s = bs (l ++ s.data.toList) := by
  apply ByteArray.ext
  simp [bs, ByteArray.data_append]
set_option maxHeartbeats 400000 in
theorem text_any (s : ByteArray) (w : World) (hs : s.size ≤ 1000000000000000000) :
    Calls Tryz.prog 90 #[.string s] w fun e w' => e = .returned (.string (bs (Pk.txt s.data.toList))) ∧ Below w.heap.size w w' := by
  have hc : ¬ 9223372036854775807 < (bs (Pk.enc s.size)).size + s.size := by
    rw [bs_size]
    have := Pk.enc_nine (n := s.size) (by omega)
    omega
  have he := hide (cat_list (Pk.enc s.size) s)
  go_enter Tryz.func90, Tryz.ntmps90
  go_wp2_with fail
  refine (number_nat s.size _ (by omega)).mono ?_
  rintro e w1 ⟨rfl, b1⟩
  go_wp2_with fail
  go_ret
  refine ⟨?_, b1⟩
  rw [unhide he]
  unfold Pk.txt
  simp
end Go.Proofs.YtmccpkpeimejhagGreatDoor

namespace Go.Proofs.YtmccpkpeimejhagGreatDoor
open Go.RowKit

/-- a record's six cells in a block -/
structure RB (w : World) (b : Nat) (k q t : Int) (s h d : ByteArray) : Prop where
  lt : b < w.heap.size
  c0 : w.cell? ⟨b, 0, none⟩ = some (.int .i64 k)
  c1 : w.cell? ⟨b, 1, none⟩ = some (.int .i64 q)
  c2 : w.cell? ⟨b, 2, none⟩ = some (.int .i64 t)
  c3 : w.cell? ⟨b, 3, none⟩ = some (.string s)
  c4 : w.cell? ⟨b, 4, none⟩ = some (.string h)
  c5 : w.cell? ⟨b, 5, none⟩ = some (.string d)
  fr : ∀ j, w.frozen? ⟨b, j, none⟩ = false
theorem RB.below {w w' : World} {b B : Nat} {k q t : Int} {s h d : ByteArray} (r : RB w b k q t s h d) (hb : Below B w w') (hB : b < B) : RB w' b k q t s h d :=
  ⟨Nat.lt_of_lt_of_le r.lt hb.size, by rw [hb.cell (p := ⟨b, 0, none⟩) hB]; exact r.c0, by rw [hb.cell (p := ⟨b, 1, none⟩) hB]; exact r.c1, by rw [hb.cell (p := ⟨b, 2, none⟩) hB]; exact r.c2, by rw [hb.cell (p := ⟨b, 3, none⟩) hB]; exact r.c3, by rw [hb.cell (p := ⟨b, 4, none⟩) hB]; exact r.c4, by rw [hb.cell (p := ⟨b, 5, none⟩) hB]; exact r.c5, fun j => by rw [hb.frozen (p := ⟨b, j, none⟩) hB]; exact r.fr j⟩
theorem RB.drew {w : World} {b : Nat} {k q t : Int} {s h d : ByteArray} (r : RB w b k q t s h d) : RB w.drew b k q t s h d :=
  r.below (B := w.heap.size) (Below.refl _ _).drew r.lt
theorem RB.alloc {w : World} {b : Nat} {k q t : Int} {s h d : ByteArray} (r : RB w b k q t s h d) (o : Obj) : RB (w.alloc o) b k q t s h d :=
  r.below (B := w.heap.size) ((Below.refl _ _).alloc (Nat.le_refl _) o) r.lt
theorem RB.next {w w' : World} {b : Nat} {k q t : Int} {s h d : ByteArray} (r : RB w b k q t s h d) (hb : Below w.heap.size w w') : RB w' b k q t s h d := r.below hb r.lt
theorem RB.new (w : World) (k q t : Int) (s h d : ByteArray) (T : TypeId) : RB (w.alloc (.cells #[.int .i64 k, .int .i64 q, .int .i64 t, .string s, .string h, .string d] T)) w.heap.size k q t s h d :=
  ⟨by simp, by simp, by simp, by simp, by simp, by simp, by simp, fun j => World.frozen?_alloc_new _ _ _ j⟩
theorem cell_other' (w : World) (p q : Addr) (v : Value) (h : p ≠ q) : (w.setCell p v).cell? q = w.cell? q := by
  first | exact World.cell?_setCell_other _ _ _ _ h | exact World.cell?_setCell_other h
theorem RB.other {w : World} {b c i : Nat} {k q t : Int} {s h d : ByteArray} {v : Value} (r : RB w b k q t s h d) (hc : c ≠ b) : RB (w.setCell ⟨c, i, none⟩ v) b k q t s h d :=
  ⟨by simpa using r.lt, by rw [cell_other' _ _ _ _ (by intro e; injection e; omega)]; exact r.c0, by rw [cell_other' _ _ _ _ (by intro e; injection e; omega)]; exact r.c1, by rw [cell_other' _ _ _ _ (by intro e; injection e; omega)]; exact r.c2,
    by rw [cell_other' _ _ _ _ (by intro e; injection e; omega)]; exact r.c3, by rw [cell_other' _ _ _ _ (by intro e; injection e; omega)]; exact r.c4, by rw [cell_other' _ _ _ _ (by intro e; injection e; omega)]; exact r.c5, fun j => by simpa using r.fr j⟩
theorem same_cell {w : World} {a : Addr} {v u : Value} (h : w.cell? a = some u) : (w.setCell a v).cell? a = some v := World.cell?_setCell_same' _ _ _ (by rw [h]; rfl)
theorem RB.set0 {w : World} {b : Nat} {k q t : Int} {s h d : ByteArray} (r : RB w b k q t s h d) (x : Int) : RB (w.setCell ⟨b, 0, none⟩ (.int .i64 x)) b x q t s h d :=
  ⟨by simpa using r.lt, same_cell r.c0, by rw [cell_other' _ _ _ _ (by intro e; injection e; omega)]; exact r.c1, by rw [cell_other' _ _ _ _ (by intro e; injection e; omega)]; exact r.c2,
    by rw [cell_other' _ _ _ _ (by intro e; injection e; omega)]; exact r.c3, by rw [cell_other' _ _ _ _ (by intro e; injection e; omega)]; exact r.c4, by rw [cell_other' _ _ _ _ (by intro e; injection e; omega)]; exact r.c5, fun j => by simpa using r.fr j⟩
theorem RB.set1 {w : World} {b : Nat} {k q t : Int} {s h d : ByteArray} (r : RB w b k q t s h d) (x : Int) : RB (w.setCell ⟨b, 1, none⟩ (.int .i64 x)) b k x t s h d :=
  ⟨by simpa using r.lt, by rw [cell_other' _ _ _ _ (by intro e; injection e; omega)]; exact r.c0, same_cell r.c1, by rw [cell_other' _ _ _ _ (by intro e; injection e; omega)]; exact r.c2,
    by rw [cell_other' _ _ _ _ (by intro e; injection e; omega)]; exact r.c3, by rw [cell_other' _ _ _ _ (by intro e; injection e; omega)]; exact r.c4, by rw [cell_other' _ _ _ _ (by intro e; injection e; omega)]; exact r.c5, fun j => by simpa using r.fr j⟩
theorem RB.set2 {w : World} {b : Nat} {k q t : Int} {s h d : ByteArray} (r : RB w b k q t s h d) (x : Int) : RB (w.setCell ⟨b, 2, none⟩ (.int .i64 x)) b k q x s h d :=
  ⟨by simpa using r.lt, by rw [cell_other' _ _ _ _ (by intro e; injection e; omega)]; exact r.c0, by rw [cell_other' _ _ _ _ (by intro e; injection e; omega)]; exact r.c1, same_cell r.c2,
    by rw [cell_other' _ _ _ _ (by intro e; injection e; omega)]; exact r.c3, by rw [cell_other' _ _ _ _ (by intro e; injection e; omega)]; exact r.c4, by rw [cell_other' _ _ _ _ (by intro e; injection e; omega)]; exact r.c5, fun j => by simpa using r.fr j⟩
theorem RB.set3 {w : World} {b : Nat} {k q t : Int} {s h d : ByteArray} (r : RB w b k q t s h d) (x : ByteArray) : RB (w.setCell ⟨b, 3, none⟩ (.string x)) b k q t x h d :=
  ⟨by simpa using r.lt, by rw [cell_other' _ _ _ _ (by intro e; injection e; omega)]; exact r.c0, by rw [cell_other' _ _ _ _ (by intro e; injection e; omega)]; exact r.c1, by rw [cell_other' _ _ _ _ (by intro e; injection e; omega)]; exact r.c2,
    same_cell r.c3, by rw [cell_other' _ _ _ _ (by intro e; injection e; omega)]; exact r.c4, by rw [cell_other' _ _ _ _ (by intro e; injection e; omega)]; exact r.c5, fun j => by simpa using r.fr j⟩
theorem RB.set4 {w : World} {b : Nat} {k q t : Int} {s h d : ByteArray} (r : RB w b k q t s h d) (x : ByteArray) : RB (w.setCell ⟨b, 4, none⟩ (.string x)) b k q t s x d :=
  ⟨by simpa using r.lt, by rw [cell_other' _ _ _ _ (by intro e; injection e; omega)]; exact r.c0, by rw [cell_other' _ _ _ _ (by intro e; injection e; omega)]; exact r.c1, by rw [cell_other' _ _ _ _ (by intro e; injection e; omega)]; exact r.c2,
    by rw [cell_other' _ _ _ _ (by intro e; injection e; omega)]; exact r.c3, same_cell r.c4, by rw [cell_other' _ _ _ _ (by intro e; injection e; omega)]; exact r.c5, fun j => by simpa using r.fr j⟩
theorem RB.set5 {w : World} {b : Nat} {k q t : Int} {s h d : ByteArray} (r : RB w b k q t s h d) (x : ByteArray) : RB (w.setCell ⟨b, 5, none⟩ (.string x)) b k q t s h x :=
  ⟨by simpa using r.lt, by rw [cell_other' _ _ _ _ (by intro e; injection e; omega)]; exact r.c0, by rw [cell_other' _ _ _ _ (by intro e; injection e; omega)]; exact r.c1, by rw [cell_other' _ _ _ _ (by intro e; injection e; omega)]; exact r.c2,
    by rw [cell_other' _ _ _ _ (by intro e; injection e; omega)]; exact r.c3, by rw [cell_other' _ _ _ _ (by intro e; injection e; omega)]; exact r.c4, same_cell r.c5, fun j => by simpa using r.fr j⟩
theorem RB.new' (w : World) (b : Nat) (hb : b = w.heap.size) (k q t : Int) (s h d : ByteArray) (T : TypeId) : RB (w.alloc (.cells #[.int .i64 k, .int .i64 q, .int .i64 t, .string s, .string h, .string d] T)) b k q t s h d := by
  subst hb; exact RB.new w k q t s h d T
theorem RB.setAll {w : World} {b : Nat} {k q t : Int} {s h d : ByteArray} (r : RB w b k q t s h d) (k' q' t' : Int) (s' h' d' : ByteArray) :
    RB ((((((w.setCell ⟨b, 0, none⟩ (.int .i64 k')).setCell ⟨b, 1, none⟩ (.int .i64 q')).setCell ⟨b, 2, none⟩ (.int .i64 t')).setCell ⟨b, 3, none⟩ (.string s')).setCell ⟨b, 4, none⟩ (.string h')).setCell ⟨b, 5, none⟩ (.string d')) b k' q' t' s' h' d' :=
  (((((r.set0 k').set1 q').set2 t').set3 s').set4 h').set5 d'
theorem set6_below {w0 W : World} {b : Nat} {v0 v1 v2 v3 v4 v5 : Value} (x : Below w0.heap.size w0 W) (hb : w0.heap.size ≤ b) :
    Below w0.heap.size w0 ((((((W.setCell ⟨b, 0, none⟩ v0).setCell ⟨b, 1, none⟩ v1).setCell ⟨b, 2, none⟩ v2).setCell ⟨b, 3, none⟩ v3).setCell ⟨b, 4, none⟩ v4).setCell ⟨b, 5, none⟩ v5) :=
  (((((x.setCell hb _).setCell hb _).setCell hb _).setCell hb _).setCell hb _).setCell hb _
end Go.Proofs.YtmccpkpeimejhagGreatDoor

namespace Go.Proofs.YtmccpkpeimejhagGreatDoor
open Go.RowKit

/-- bytes that were laid into a new block are made a text -/
theorem conv_four (w : World) (x0 x1 x2 x3 : Int) (l : List UInt8) (h : l.map (fun b => Value.int .u8 (b.toNat : Int)) = [.int .u8 x0, .int .u8 x1, .int .u8 x2, .int .u8 x3]) :
    (convert 108 9 (.slice (some ⟨w.heap.size, 0, none⟩) 4 4)).run Tryz.prog (w.alloc (.cells #[.int .u8 x0, .int .u8 x1, .int .u8 x2, .int .u8 x3] 5)) = .ok (.string (bs l)) (w.alloc (.cells #[.int .u8 x0, .int .u8 x1, .int .u8 x2, .int .u8 x3] 5)) := by
  have hl : l.length = 4 := by have := congrArg List.length h; simpa using this
  have := run_convert_bytes_back (w.alloc (.cells #[.int .u8 x0, .int .u8 x1, .int .u8 x2, .int .u8 x3] 5)) 108 9 5 ⟨w.heap.size, 0, none⟩ 4 l Tryz.underlying108 Tryz.underlying5 Tryz.underlying9 (fun j hj => by
    have hj4 : j < 4 := by omega
    have e : (l.map (fun b => Value.int .u8 (b.toNat : Int)))[j]? = some (.int .u8 (l[j].toNat : Int)) := by simp [List.getElem?_eq_getElem hj]
    rw [h] at e
    rw [← e, addp, Nat.zero_add]
    match j, hj4 with
    | 0, _ => simp
    | 1, _ => simp
    | 2, _ => simp
    | 3, _ => simp)
  rw [hl] at this
  exact this
theorem conv_one' (w : World) (x : Int) (n : Nat) (h : n < 256) (hx : x = n) :
    (convert 108 9 (.slice (some ⟨w.heap.size, 0, none⟩) 1 1)).run Tryz.prog (w.alloc (.cells #[.int .u8 x] 5)) = .ok (.string (bs [UInt8.ofNat n])) (w.alloc (.cells #[.int .u8 x] 5)) := by
  subst hx
  refine run_convert_bytes_back _ 108 9 5 ⟨w.heap.size, 0, none⟩ 1 [UInt8.ofNat n] Tryz.underlying108 Tryz.underlying5 Tryz.underlying9 fun j hj => ?_
  have hj0 : j = 0 := by simpa using hj
  subst hj0
  have := one_new w (.int .u8 (n : Int)) 5 0 (.int .u8 (n : Int)) rfl
  rw [this]
  simp only [List.getElem_cons_zero]
  rw [Pk.u8_of h]
theorem le4_cells {c : Nat} (h : c < 4294967296) : (Pk.le4 c).map (fun b => Value.int .u8 (b.toNat : Int)) = [.int .u8 ((c : Int) % 256), .int .u8 ((c : Int) / 256 % 256), .int .u8 ((c : Int) / 65536 % 256), .int .u8 ((c : Int) / 16777216)] := by
  unfold Pk.le4
  simp only [List.map_cons, List.map_nil]
  rw [Pk.u8_of (by omega), Pk.u8_of (by omega), Pk.u8_of (by omega), Pk.u8_of (by omega)]
  rw [show c / 16777216 % 256 = c / 16777216 from by omega]
  simp

set_option maxRecDepth 100000 in
set_option maxHeartbeats 200000 in
theorem sumof_any (s : ByteArray) (w : World) (hs : s.size ≤ 1000000000000000000) :
    Calls Tryz.prog 91 #[.string s] w fun e w' => e = .returned (.string (bs (Pk.le4 (Pk.crc s.data.toList)))) ∧ Below w.heap.size w w' := by
  obtain ⟨c, hc⟩ : ∃ c, c = Pk.crc s.data.toList := ⟨_, rfl⟩
  have hl : c < 4294967296 := by rw [hc]; exact Pk.crc_lt _
  have HC := hide hc
  have hcv := hide (conv_four w _ _ _ _ _ (le4_cells hl))
  clear hc
  go_enter Tryz.func91, Tryz.ntmps91
  go_wp2_with fail
  refine (sum_any s _ hs).mono ?_
  rintro e w1 ⟨rfl, rfl⟩
  rw [← unhide HC]
  go_wp2_with fail
  rw [unhide hcv]
  go_wp2_with fail
  go_ret
  exact ⟨by rw [← unhide HC]; rfl, (Below.refl _ _).alloc (Nat.le_refl _) _⟩

theorem cat_bs (a b : List UInt8) : bs a ++ bs b = bs (a ++ b) := by rw [cat_list, bs_list]
theorem bod_cat (k q t : Int) (s h d : ByteArray) : (((bs [UInt8.ofNat k.toNat] ++ (bs (Pk.enc q.toNat) ++ bs (Pk.enc t.toNat))) ++ bs (Pk.txt s.data.toList)) ++ bs (Pk.txt h.data.toList)) ++ bs (Pk.txt d.data.toList) = bs (Pk.bod ⟨k, q, t, s.data.toList, h.data.toList, d.data.toList⟩) := by
  rw [cat_bs, cat_bs, cat_bs, cat_bs, cat_bs]
  unfold Pk.bod Pk.body
  simp
theorem txt_few {s : ByteArray} (h : s.size ≤ 1000) : (bs (Pk.txt s.data.toList)).size ≤ 1009 := by
  rw [bs_size, Pk.txt, List.length_append]
  have := Pk.enc_nine (n := s.data.toList.length) (by simp; omega)
  simp at this ⊢
  omega
theorem enc_size {n : Int} (h : n ≤ 1099511627776) : (bs (Pk.enc n.toNat)).size ≤ 9 := by
  rw [bs_size]; exact Pk.enc_nine (by omega)

end Go.Proofs.YtmccpkpeimejhagGreatDoor

namespace Go.Proofs.YtmccpkpeimejhagGreatDoor
open Go.RowKit

set_option maxRecDepth 100000 in
set_option maxHeartbeats 200000 in
theorem bodyof_any (k q t : Int) (s h d : ByteArray) (w : World) (hk0 : 1 ≤ k) (hk : k ≤ 4) (hq : q ≤ 1099511627776) (ht : t ≤ 1099511627776) (hs : s.size ≤ 1000) (hh : h.size ≤ 1000) (hd : d.size ≤ 1000) :
    Calls Tryz.prog 89 #[.agg #[.int .i64 k, .int .i64 q, .int .i64 t, .string s, .string h, .string d]] w fun e w' => e = .returned (.string (bs (Pk.bod ⟨k, q, t, s.data.toList, h.data.toList, d.data.toList⟩))) ∧ Below w.heap.size w w' := by
  obtain ⟨X0, hX0⟩ : ∃ X, X = bs [UInt8.ofNat k.toNat] := ⟨_, rfl⟩
  obtain ⟨X1, hX1⟩ : ∃ X, X = bs (Pk.enc q.toNat) := ⟨_, rfl⟩
  obtain ⟨X2, hX2⟩ : ∃ X, X = bs (Pk.enc t.toNat) := ⟨_, rfl⟩
  obtain ⟨X3, hX3⟩ : ∃ X, X = bs (Pk.txt s.data.toList) := ⟨_, rfl⟩
  obtain ⟨X4, hX4⟩ : ∃ X, X = bs (Pk.txt h.data.toList) := ⟨_, rfl⟩
  obtain ⟨X5, hX5⟩ : ∃ X, X = bs (Pk.txt d.data.toList) := ⟨_, rfl⟩
  have z0 : X0.size ≤ 1 := by rw [hX0, bs_size]; simp
  have z1 : X1.size ≤ 9 := by rw [hX1]; exact enc_size hq
  have z2 : X2.size ≤ 9 := by rw [hX2]; exact enc_size ht
  have z3 : X3.size ≤ 1009 := by rw [hX3]; exact txt_few hs
  have z4 : X4.size ≤ 1009 := by rw [hX4]; exact txt_few hh
  have z5 : X5.size ≤ 1009 := by rw [hX5]; exact txt_few hd
  have c1 : ¬ 9223372036854775807 < X1.size + X2.size := by omega
  have c2 : ¬ 9223372036854775807 < X0.size + (X1.size + X2.size) := by omega
  have c3 : ¬ 9223372036854775807 < X0.size + (X1.size + X2.size) + X3.size := by omega
  have c4 : ¬ 9223372036854775807 < X0.size + (X1.size + X2.size) + X3.size + X4.size := by omega
  have c5 : ¬ 9223372036854775807 < X0.size + (X1.size + X2.size) + X3.size + X4.size + X5.size := by omega
  have E := hide (bod_cat k q t s h d)
  rw [← hX0, ← hX1, ← hX2, ← hX3, ← hX4, ← hX5] at E
  have C1 : Hid (∀ W : World, Calls Tryz.prog 119 #[.int .i64 q] W fun e w' => e = .returned (.string X1) ∧ Below W.heap.size W w') := hide (fun W => by rw [hX1]; exact number_any q W (by omega))
  have C2 : Hid (∀ W : World, Calls Tryz.prog 119 #[.int .i64 t] W fun e w' => e = .returned (.string X2) ∧ Below W.heap.size W w') := hide (fun W => by rw [hX2]; exact number_any t W (by omega))
  have C3 : Hid (∀ W : World, Calls Tryz.prog 90 #[.string s] W fun e w' => e = .returned (.string X3) ∧ Below W.heap.size W w') := hide (fun W => by rw [hX3]; exact text_any s W (by omega))
  have C4 : Hid (∀ W : World, Calls Tryz.prog 90 #[.string h] W fun e w' => e = .returned (.string X4) ∧ Below W.heap.size W w') := hide (fun W => by rw [hX4]; exact text_any h W (by omega))
  have C5 : Hid (∀ W : World, Calls Tryz.prog 90 #[.string d] W fun e w' => e = .returned (.string X5) ∧ Below W.heap.size W w') := hide (fun W => by rw [hX5]; exact text_any d W (by omega))
  have hcv := hide (conv_one' (w.alloc (.cells #[.int .i64 k, .int .i64 q, .int .i64 t, .string s, .string h, .string d] 30)) k k.toNat (by omega) (by omega))
  rw [← hX0] at hcv
  clear hX0 hX1 hX2 hX3 hX4 hX5
  go_enter Tryz.func89, Tryz.ntmps89
  go_wp2_with fail
  have hcv2 := unhide hcv
  rw [show (w.alloc (.cells #[.int .i64 k, .int .i64 q, .int .i64 t, .string s, .string h, .string d] 30)).heap.size = w.heap.size + 1 from by simp] at hcv2
  rw [hcv2]
  clear hcv2 hcv
  go_wp2_with fail
  have B0 : Hid (Below w.heap.size w ((w.alloc (.cells #[.int .i64 k, .int .i64 q, .int .i64 t, .string s, .string h, .string d] 30)).alloc (.cells #[.int .u8 k] 5))) := hide (((Below.refl _ _).alloc (Nat.le_refl _) _).alloc (by simp) _)
  have R0 := hide ((RB.new w k q t s h d 30).alloc (.cells #[.int .u8 k] 5)).drew
  go_region_held3 (fun w' => w'.cell? ⟨w.heap.size, 1, none⟩ = some (.int .i64 q) ∧ w'.cell? ⟨w.heap.size, 2, none⟩ = some (.int .i64 t)) (first | (refine ⟨?_, ?_⟩ <;> assumption) | go_keep)
    (first
      | (go_at_call 119; refine (unhide C1 _).mono ?_; rintro e w2 ⟨rfl, b2⟩; have R2 := hide ((unhide R0).next b2); have d1 := (unhide R2).c1; have d2 := (unhide R2).c2; clear C1)
      | (go_at_call 119; refine (unhide C2 _).mono ?_; rintro e w3 ⟨rfl, b3⟩; have R3 := hide ((unhide R2).next b3); have e1 := (unhide R3).c1; have e2 := (unhide R3).c2; clear C2))
  have B3 := hide (bstep (bstep (unhide B0).drew b2) b3)
  have R4 := hide (unhide R3).drew
  have l3 := (unhide R4).c3
  have l4 := (unhide R4).c4
  have l5 := (unhide R4).c5
  clear b2 b3 d1 d2 e1 e2 B0 R0 R2 R3
  go_wp2_with fail
  go_region_held3 (fun w' => w'.cell? ⟨w.heap.size, 3, none⟩ = some (.string s) ∧ w'.cell? ⟨w.heap.size, 4, none⟩ = some (.string h) ∧ w'.cell? ⟨w.heap.size, 5, none⟩ = some (.string d)) (first | (refine ⟨?_, ?_, ?_⟩ <;> assumption) | go_keep)
    (first
      | (go_at_call 90; refine (unhide C3 _).mono ?_; rintro e w5 ⟨rfl, b5⟩; have R5 := hide ((unhide R4).next b5); have d3 := (unhide R5).c3; have d4 := (unhide R5).c4; have d5 := (unhide R5).c5; clear C3)
      | (go_at_call 90; refine (unhide C4 _).mono ?_; rintro e w6 ⟨rfl, b6⟩; have R6 := hide ((unhide R5).next b6); have e3 := (unhide R6).c3; have e4 := (unhide R6).c4; have e5 := (unhide R6).c5; clear C4)
      | (go_at_call 90; refine (unhide C5 _).mono ?_; rintro e w7 ⟨rfl, b7⟩; have R7 := hide ((unhide R6).next b7); have f3 := (unhide R7).c3; have f4 := (unhide R7).c4; have f5 := (unhide R7).c5; clear C5))
  go_wp2_with fail
  go_ret
  exact ⟨by rw [← unhide E]; rfl, bstep (bstep (bstep (unhide B3).drew b5) b6) b7⟩
end Go.Proofs.YtmccpkpeimejhagGreatDoor

namespace Go.Proofs.YtmccpkpeimejhagGreatDoor
open Go.RowKit

def msgE (s h d : ByteArray) : Int := if errS false s ≠ 0 then errS false s else if 256 < h.size + d.size then 2 else 0
def purE (s h d : ByteArray) : Int := if errS true s ≠ 0 then errS true s else if h.size + d.size = 0 then 0 else 1
def barE (s h d : ByteArray) : Int := if s.size + (h.size + d.size) = 0 then 0 else 1
def chkV (k q t : Int) (s h d : ByteArray) : Int := Pk.chk ⟨k, q, t, s.data.toList, h.data.toList, d.data.toList⟩
theorem len_size (s : ByteArray) : s.data.toList.length = s.size := by simp
theorem tl_nil (s : ByteArray) : (s.toList = []) = (s.size = 0) := by
  rw [ByteArray.toList_eq, ← len_size, List.length_eq_zero_iff]
theorem tl_emp (s : ByteArray) : s.toList.isEmpty = decide (s.size = 0) := by
  rw [ByteArray.toList_eq, ← len_size, Bool.eq_iff_iff, List.isEmpty_iff, decide_eq_true_eq, List.length_eq_zero_iff]
theorem chkV_eq (k q t : Int) (s h d : ByteArray) : chkV k q t s h d = if Pk.inB k q t = false then 1 else if k = 1 then msgE s h d else if k = 3 then purE s h d else barE s h d := by
  unfold chkV Pk.chk msgE purE barE errS
  simp only [len_size]

set_option maxRecDepth 100000 in
set_option maxHeartbeats 400000 in
theorem ckmsg_any (k q t : Int) (s h d : ByteArray) (w : World) (hs : s.size ≤ 140737488355328) (hh : h.size ≤ 140737488355328) (hd : d.size ≤ 140737488355328) :
    Calls Tryz.prog 83 #[.agg #[.int .i64 k, .int .i64 q, .int .i64 t, .string s, .string h, .string d]] w fun e w' => e = .returned (.int .i64 (msgE s h d)) ∧ Below w.heap.size w w' := by
  obtain ⟨E, hE⟩ : ∃ E, E = errS false s := ⟨_, rfl⟩
  have C : Hid (∀ W : World, Calls Tryz.prog 63 #[.string s] W fun e w' => e = .returned (.int .i64 E) ∧ Below W.heap.size W w') := hide (fun W => by rw [hE]; exact subject_any s W hs)
  have R0 := hide (RB.new w k q t s h d 30)
  have B0 : Hid (Below w.heap.size w (w.alloc (.cells #[.int .i64 k, .int .i64 q, .int .i64 t, .string s, .string h, .string d] 30))) := hide ((Below.refl _ _).alloc (Nat.le_refl _) _)
  have M : Hid (msgE s h d = if E ≠ 0 then E else if 256 < h.size + d.size then 2 else 0) := hide (by unfold msgE; rw [← hE])
  clear hE
  go_enter Tryz.func83, Tryz.ntmps83
  go_wp2_with fail
  refine (unhide C _).mono ?_
  rintro e w1 ⟨rfl, b1⟩
  have R1 := (unhide R0).next b1
  have c4 := R1.c4
  have c5 := R1.c5
  have B1 := hide (bstep (unhide B0) b1)
  clear R1 R0 B0 b1
  go_wp2_with fail
  all_goals go_ret
  all_goals refine ⟨ret_int ?_, unhide B1⟩
  all_goals rw [unhide M]
  all_goals clear M C c4 c5 B1
  all_goals simp only [bne_iff_ne, ne_eq, bne_eq_false_iff_eq] at *
  all_goals split
  all_goals first | rfl | omega | (split <;> omega)

set_option maxRecDepth 100000 in
set_option maxHeartbeats 400000 in
theorem ckpur_any (k q t : Int) (s h d : ByteArray) (w : World) (hs : s.size ≤ 140737488355328) :
    Calls Tryz.prog 84 #[.agg #[.int .i64 k, .int .i64 q, .int .i64 t, .string s, .string h, .string d]] w fun e w' => e = .returned (.int .i64 (purE s h d)) ∧ Below w.heap.size w w' := by
  obtain ⟨E, hE⟩ : ∃ E, E = errS true s := ⟨_, rfl⟩
  have C : Hid (∀ W : World, Calls Tryz.prog 72 #[.string s] W fun e w' => e = .returned (.int .i64 E) ∧ Below W.heap.size W w') := hide (fun W => by rw [hE]; exact filter_any s W hs)
  have R0 := hide (RB.new w k q t s h d 30)
  have B0 : Hid (Below w.heap.size w (w.alloc (.cells #[.int .i64 k, .int .i64 q, .int .i64 t, .string s, .string h, .string d] 30))) := hide ((Below.refl _ _).alloc (Nat.le_refl _) _)
  have M : Hid (purE s h d = if E ≠ 0 then E else if h.size + d.size = 0 then 0 else 1) := hide (by unfold purE; rw [← hE])
  clear hE
  go_enter Tryz.func84, Tryz.ntmps84
  go_wp2_with fail
  refine (unhide C _).mono ?_
  rintro e w1 ⟨rfl, b1⟩
  have R1 := (unhide R0).next b1
  have c4 := R1.c4
  have c5 := R1.c5
  have B1 := hide (bstep (unhide B0) b1)
  clear R1 R0 B0 b1
  go_wp2_with fail
  all_goals go_ret
  all_goals refine ⟨ret_int ?_, unhide B1⟩
  all_goals rw [unhide M]
  all_goals clear M C c4 c5 B1
  all_goals simp only [tl_emp, tl_nil, Bool.not_eq_true', Bool.not_eq_false', decide_eq_true_eq, decide_eq_false_iff_not, bne_iff_ne, ne_eq, bne_eq_false_iff_eq] at *
  all_goals split
  all_goals first | rfl | omega | (split <;> omega)

set_option maxRecDepth 100000 in
set_option maxHeartbeats 400000 in
theorem ckbar_any (k q t : Int) (s h d : ByteArray) (w : World) :
    Calls Tryz.prog 85 #[.agg #[.int .i64 k, .int .i64 q, .int .i64 t, .string s, .string h, .string d]] w fun e w' => e = .returned (.int .i64 (barE s h d)) ∧ Below w.heap.size w w' := by
  have B0 : Hid (Below w.heap.size w (w.alloc (.cells #[.int .i64 k, .int .i64 q, .int .i64 t, .string s, .string h, .string d] 30))) := hide ((Below.refl _ _).alloc (Nat.le_refl _) _)
  go_enter Tryz.func85, Tryz.ntmps85
  go_wp2_with fail
  all_goals go_ret
  all_goals refine ⟨ret_int ?_, unhide B0⟩
  all_goals unfold barE
  all_goals simp only [tl_emp, tl_nil, Bool.not_eq_true', Bool.not_eq_false', decide_eq_true_eq, decide_eq_false_iff_not] at *
  all_goals first | (rw [if_pos (by omega)]; done) | (rw [if_neg (by omega)]; done)

theorem chk_out {k q t : Int} {s h d : ByteArray} (b : Pk.inB k q t = false) : chkV k q t s h d = 1 := by rw [chkV_eq, if_pos b]
theorem chk_in {k q t : Int} {s h d : ByteArray} (b : Pk.inB k q t = true) : chkV k q t s h d = if k = 1 then msgE s h d else if k = 3 then purE s h d else barE s h d := by rw [chkV_eq, if_neg (by rw [b]; decide)]
theorem inB_false {k q t : Int} : Pk.inB k q t = false ↔ ¬ (1 ≤ k ∧ k ≤ 4 ∧ 1 ≤ q ∧ q ≤ 1099511627776 ∧ 0 ≤ t ∧ t ≤ 1099511627776) := by
  rw [← Pk.inB_iff]; simp

set_option maxRecDepth 100000 in
set_option maxHeartbeats 400000 in
theorem check_any (k q t : Int) (s h d : ByteArray) (w : World) (hs : s.size ≤ 140737488355328) (hh : h.size ≤ 140737488355328) (hd : d.size ≤ 140737488355328) :
    Calls Tryz.prog 49 #[.agg #[.int .i64 k, .int .i64 q, .int .i64 t, .string s, .string h, .string d]] w fun e w' => e = .returned (.int .i64 (chkV k q t s h d)) ∧ Below w.heap.size w w' := by
  have B0 : Hid (Below w.heap.size w (w.alloc (.cells #[.int .i64 k, .int .i64 q, .int .i64 t, .string s, .string h, .string d] 30))) := hide ((Below.refl _ _).alloc (Nat.le_refl _) _)
  by_cases hq : 1 ≤ q ∧ q ≤ 1099511627776 ∧ 0 ≤ t ∧ t ≤ 1099511627776
  · obtain ⟨q1, q2, q3, q4⟩ := hq
    by_cases k1 : k = 1
    · have M : Hid (chkV k q t s h d = msgE s h d) := hide (by rw [chk_in (Pk.inB_iff.2 (by omega)), if_pos k1])
      subst k1
      go_enter Tryz.func49, Tryz.ntmps49
      go_wp2_with fail
      refine (ckmsg_any _ _ _ _ _ _ _ hs hh hd).mono ?_
      rintro e w1 ⟨rfl, b1⟩
      go_wp2_with fail
      go_ret
      exact ⟨ret_int (unhide M).symm, bstep (unhide B0) b1⟩
    by_cases k3 : k = 3
    · have M : Hid (chkV k q t s h d = purE s h d) := hide (by rw [chk_in (Pk.inB_iff.2 (by omega)), if_neg k1, if_pos k3])
      clear k1
      subst k3
      go_enter Tryz.func49, Tryz.ntmps49
      go_wp2_with fail
      refine (ckpur_any _ _ _ _ _ _ _ hs).mono ?_
      rintro e w1 ⟨rfl, b1⟩
      go_wp2_with fail
      go_ret
      exact ⟨ret_int (unhide M).symm, bstep (unhide B0) b1⟩
    by_cases k2 : k = 2
    · have M : Hid (chkV k q t s h d = barE s h d) := hide (by rw [chk_in (Pk.inB_iff.2 (by omega)), if_neg k1, if_neg k3])
      clear k1 k3
      subst k2
      go_enter Tryz.func49, Tryz.ntmps49
      go_wp2_with fail
      refine (ckbar_any _ _ _ _ _ _ _).mono ?_
      rintro e w1 ⟨rfl, b1⟩
      go_wp2_with fail
      go_ret
      exact ⟨ret_int (unhide M).symm, bstep (unhide B0) b1⟩
    by_cases k4 : k = 4
    · have M : Hid (chkV k q t s h d = barE s h d) := hide (by rw [chk_in (Pk.inB_iff.2 (by omega)), if_neg k1, if_neg k3])
      clear k1 k3 k2
      subst k4
      go_enter Tryz.func49, Tryz.ntmps49
      go_wp2_with fail
      refine (ckbar_any _ _ _ _ _ _ _).mono ?_
      rintro e w1 ⟨rfl, b1⟩
      go_wp2_with fail
      go_ret
      exact ⟨ret_int (unhide M).symm, bstep (unhide B0) b1⟩
    have M : Hid (chkV k q t s h d = 1) := hide (chk_out (inB_false.2 (by omega)))
    have n1 : (k == 1) = false := by simp; omega
    have n2 : (k == 2) = false := by simp; omega
    have n3 : (k == 3) = false := by simp; omega
    have n4 : (k == 4) = false := by simp; omega
    clear k1 k2 k3 k4
    go_enter Tryz.func49, Tryz.ntmps49
    go_wp2_with fail
    go_ret
    exact ⟨ret_int (unhide M).symm, unhide B0⟩
  · have M : Hid (chkV k q t s h d = 1) := hide (chk_out (inB_false.2 (by omega)))
    have HQ := hide hq
    clear hq
    go_enter Tryz.func49, Tryz.ntmps49
    go_wp2_with fail
    all_goals first
      | (go_ret; exact ⟨ret_int (unhide M).symm, unhide B0⟩)
      | (exfalso; have := unhide HQ; omega)
end Go.Proofs.YtmccpkpeimejhagGreatDoor
