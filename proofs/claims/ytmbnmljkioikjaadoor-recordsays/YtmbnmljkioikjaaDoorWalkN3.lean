/-
  Contract of pack.Number: the number's bytes.
-/
import Derived.Test.YtmbnmljkioikjaaDoorWalkN2
import Derived.RegionTactic
import Derived.ChangeAlike
import Derived.Laws.IdiomStrings
namespace Go.Proofs.YtmbnmljkioikjaaDoor
open Go.RowKit

/-- a text out of bytes -/
def bs (l : List UInt8) : ByteArray := ⟨l.toArray⟩
theorem bs_list (l : List UInt8) : (bs l).data.toList = l := by simp [bs]
theorem bs_size (l : List UInt8) : (bs l).size = l.length := by simp [bs, ByteArray.size]
/-- a row of bytes of the program's own -/
def Bts (w : World) (B : Nat) (v : Value) (l : List UInt8) : Prop := w.ownsRow B 5 1 v l.length (l.map fun b => Value.int .u8 b.toNat)
theorem infoB : (Tryd.prog.info? 5).map (fun i => (i.zero, i.size, i.bytes)) = some (some (.int .u8 0), 1, 1) := by kernel_rfl
theorem one_byte (n : Int) : ∀ u ∈ [Value.int .u8 n], u.oneCell' = true := by
  intro u hu; simp at hu; subst hu; rfl
/-- the state of the packing: the bytes are laid, m is left -/
def Packs (w0 w : World) (v : Value) (N m : Nat) (l : List UInt8) : Prop := Bts w w0.heap.size v l ∧ Below w0.heap.size w0 w ∧ l ++ Pk.enc m = Pk.enc N
theorem packs_len {w0 w : World} {v : Value} {N m : Nat} {l : List UInt8} (h : Packs w0 w v N m l) (hN : N < 9223372036854775808) : l.length < 9 := by
  have := Pk.enc_nine hN
  rw [← h.2.2, List.length_append] at this
  have := Pk.enc_pos m
  omega
theorem bts_next {w0 wr w1 : World} {v v' : Value} {l : List UInt8} {b : UInt8} {n : Int} {o : Obj} (hn : n = b.toNat) (hown : Bts wr w0.heap.size v l) (hb : Below w0.heap.size w0 wr)
    (h1 : w1.ownsRow w0.heap.size 5 1 v' (l.length + 1) ((l.map fun b => Value.int .u8 b.toNat) ++ [.int .u8 n])) (hg : (wr.alloc o).grownBy w1 v.ownBlock) :
    Bts w1 w0.heap.size v' (l ++ [b]) ∧ Below w0.heap.size w0 w1 := by
  refine ⟨?_, ?_⟩
  · unfold Bts
    rw [List.map_append, List.map_cons, List.map_nil, List.length_append, ← hn]
    exact h1
  · have hs := hb.size
    refine (hb.alloc (by omega) o).grown hg (by simp; omega) ?_
    intro j hj
    exact (World.ownsRow.lt hown j hj).1
/-- the byte of a group that goes on -/
def gb (m : Nat) : Nat := 128 + m % 128
theorem gb_lt (m : Nat) : gb m < 256 := by unfold gb; omega
theorem low_byte {m : Nat} (h : m < 9223372036854775808) : bits .or .i64 (bits .and .i64 (m : Int) 127) 128 = ((gb m : Nat) : Int) := by
  have e1 : bits .and .i64 (m : Int) 127 = ((m % 128 : Nat) : Int) := by
    rw [show (127 : Int) = ((127 : Nat) : Int) from rfl, (bits_nat .i64 63 (by decide) wraps63 m 127 (by omega) (by omega)).1, nat_mask7]
  rw [e1, show (128 : Int) = ((128 : Nat) : Int) from rfl, (bits_nat .i64 63 (by decide) wraps63 (m % 128) 128 (by omega) (by omega)).2]
  congr 1
  have := Nat.two_pow_add_eq_or_of_lt (i := 7) (b := m % 128) (by omega) 1
  rw [show 2 ^ 7 * 1 = 128 from rfl] at this
  rw [Nat.or_comm]
  exact this.symm

theorem addp (b o i : Nat) : (⟨b, o, none⟩ : Addr).add i = ⟨b, o + i, none⟩ := by unfold Addr.add; split <;> simp_all
theorem bts_conv {w : World} {B g cap : Nat} {l : List UInt8} (h : Bts w B (.slice (some ⟨g, 0, none⟩) l.length cap) l) :
    (convert 72 9 (.slice (some ⟨g, 0, none⟩) l.length cap)).run Tryd.prog w = .ok (.string (bs l)) w := by
  refine run_convert_bytes_back w 72 9 5 ⟨g, 0, none⟩ cap l Tryd.underlying72 Tryd.underlying5 Tryd.underlying9 fun j hj => ?_
  have := World.ownsRow.cellAt h j (by omega)
  rw [addp, Nat.zero_add, this]
  simp [List.getElem?_eq_getElem hj]
set_option maxRecDepth 100000 in
set_option maxHeartbeats 1000000 in
theorem number_nat (N : Nat) (w : World) (hN : N < 9223372036854775808) :
    Calls Tryd.prog 76 #[.int .i64 N] w fun e w' => e = .returned (.string (bs (Pk.enc N))) ∧ Below w.heap.size w w' := by
  obtain ⟨i0, hi, hz0, hz1, hz2⟩ := info_parts infoB
  go_enter Tryd.func76, Tryd.ntmps76
  go_wp2_with fail
  go_loopw [3, 4] (fun r p wr => ∃ (m : Nat) (l : List UInt8), m ≤ N ∧ r = .int .i64 m ∧ Packs w wr p N m l) (fun r _ _ => (intOf r).toNat)
  case atStart => exact ⟨N, [], Nat.le_refl _, by simp, World.ownsRow_nil _ _ _ _, Below.refl _ _, rfl⟩
  case round =>
    obtain ⟨m, l, hm, rfl, hp⟩ := hrel
    have hlen := packs_len hp hN
    obtain ⟨hown, hb, he⟩ := hp
    have hown2 : wr.ownsRow w.heap.size 5 1 u4 l.length (l.map fun b => Value.int .u8 b.toNat) := hown
    have hsz := hb.size
    have HE := hide he
    clear he
    by_cases hlt : 127 < m
    · have hl := low_byte (m := m) (by omega)
      have hg := gb_lt m
      go_wp2_with (at_builtin; refine wpList_append_own _ rfl _ _ 72 rfl w.heap.size 5 i0 (.int .u8 0) 1 1 Tryd.underlying72 hi hz0 hz1 hz2 rfl (by decide) _ _ _ rfl (hown2.alloc _) ⟨wr.heap.size, 0, none⟩ 1 1 [.int .u8 ((gb m : Nat) : Int)] rfl rfl (one_new _ _ _) (one_byte _) (by unfold maxLen; omega) (by omega) (by simp; omega) ?_; intro v' w3 hown1 hgrow _)
      have R := bts_next (b := UInt8.ofNat (gb m)) (by rw [Pk.u8_of hg]) hown hb hown1 hgrow
      clear hown hown2 hown1 hgrow hb
      go_round
      case rel => exact ⟨m / 128, l ++ [UInt8.ofNat (gb m)], by omega, by simp, R.1, R.2, by rw [List.append_assoc, List.singleton_append, ← unhide HE, Pk.enc_large (n := m) (by omega)]; rfl⟩
      case measure => simp [intOf]; omega
    · go_wp2_with (at_builtin; refine wpList_append_own _ rfl _ _ 72 rfl w.heap.size 5 i0 (.int .u8 0) 1 1 Tryd.underlying72 hi hz0 hz1 hz2 rfl (by decide) _ _ _ rfl (hown2.alloc _) ⟨wr.heap.size, 0, none⟩ 1 1 [.int .u8 (m : Int)] rfl rfl (one_new _ _ _) (one_byte _) (by unfold maxLen; omega) (by omega) (by simp; omega) ?_; intro v' w3 hown1 hgrow _)
      have R := bts_next (b := UInt8.ofNat m) (by rw [Pk.u8_of (by omega)]) hown hb hown1 hgrow
      obtain ⟨g, cap, rfl⟩ := own_some hown1
      have hcv := bts_conv (l := l ++ [UInt8.ofNat m]) (by rw [List.length_append]; exact R.1)
      rw [List.length_append, List.length_singleton] at hcv
      have R2 := R.2
      clear hown hown2 hown1 hgrow hb R
      rw [hcv]
      go_wp2_with fail
      go_ret
      refine ⟨?_, R2⟩
      rw [← unhide HE, Pk.enc_small (n := m) (by omega)]
      rfl

set_option maxRecDepth 100000 in
set_option maxHeartbeats 1000000 in
theorem number_neg (n : Int) (N : Nat) (w : World) (hN0 : N = 0) (hn : n < 0) :
    Calls Tryd.prog 76 #[.int .i64 n] w fun e w' => e = .returned (.string (bs (Pk.enc N))) ∧ Below w.heap.size w w' := by
  obtain ⟨i0, hi, hz0, hz1, hz2⟩ := info_parts infoB
  have hN : N < 9223372036854775808 := by omega
  have HN := hide hN0
  clear hN0
  go_enter Tryd.func76, Tryd.ntmps76
  go_wp2_with fail
  go_loopw [3, 4] (fun r p wr => ∃ (m : Nat) (l : List UInt8), m ≤ N ∧ r = .int .i64 m ∧ Packs w wr p N m l) (fun r _ _ => (intOf r).toNat)
  case atStart => exact ⟨N, [], Nat.le_refl _, by rw [unhide HN]; rfl, World.ownsRow_nil _ _ _ _, Below.refl _ _, rfl⟩
  case round =>
    obtain ⟨m, l, hm, rfl, hp⟩ := hrel
    have hlen := packs_len hp hN
    obtain ⟨hown, hb, he⟩ := hp
    have hown2 : wr.ownsRow w.heap.size 5 1 u4 l.length (l.map fun b => Value.int .u8 b.toNat) := hown
    have hsz := hb.size
    have HE := hide he
    clear he
    by_cases hlt : 127 < m
    · have hl := low_byte (m := m) (by omega)
      have hg := gb_lt m
      go_wp2_with (at_builtin; refine wpList_append_own _ rfl _ _ 72 rfl w.heap.size 5 i0 (.int .u8 0) 1 1 Tryd.underlying72 hi hz0 hz1 hz2 rfl (by decide) _ _ _ rfl (hown2.alloc _) ⟨wr.heap.size, 0, none⟩ 1 1 [.int .u8 ((gb m : Nat) : Int)] rfl rfl (one_new _ _ _) (one_byte _) (by unfold maxLen; omega) (by omega) (by simp; omega) ?_; intro v' w3 hown1 hgrow _)
      have R := bts_next (b := UInt8.ofNat (gb m)) (by rw [Pk.u8_of hg]) hown hb hown1 hgrow
      clear hown hown2 hown1 hgrow hb
      go_round
      case rel => exact ⟨m / 128, l ++ [UInt8.ofNat (gb m)], by omega, by simp, R.1, R.2, by rw [List.append_assoc, List.singleton_append, ← unhide HE, Pk.enc_large (n := m) (by omega)]; rfl⟩
      case measure => simp [intOf]; omega
    · go_wp2_with (at_builtin; refine wpList_append_own _ rfl _ _ 72 rfl w.heap.size 5 i0 (.int .u8 0) 1 1 Tryd.underlying72 hi hz0 hz1 hz2 rfl (by decide) _ _ _ rfl (hown2.alloc _) ⟨wr.heap.size, 0, none⟩ 1 1 [.int .u8 (m : Int)] rfl rfl (one_new _ _ _) (one_byte _) (by unfold maxLen; omega) (by omega) (by simp; omega) ?_; intro v' w3 hown1 hgrow _)
      have R := bts_next (b := UInt8.ofNat m) (by rw [Pk.u8_of (by omega)]) hown hb hown1 hgrow
      obtain ⟨g, cap, rfl⟩ := own_some hown1
      have hcv := bts_conv (l := l ++ [UInt8.ofNat m]) (by rw [List.length_append]; exact R.1)
      rw [List.length_append, List.length_singleton] at hcv
      have R2 := R.2
      clear hown hown2 hown1 hgrow hb R
      rw [hcv]
      go_wp2_with fail
      go_ret
      refine ⟨?_, R2⟩
      rw [← unhide HE, Pk.enc_small (n := m) (by omega)]
      rfl

theorem number_any (n : Int) (w : World) (hn : n < 9223372036854775808) :
    Calls Tryd.prog 76 #[.int .i64 n] w fun e w' => e = .returned (.string (bs (Pk.enc n.toNat))) ∧ Below w.heap.size w w' := by
  by_cases h : n < 0
  · exact number_neg n n.toNat w (by omega) h
  · obtain ⟨N, rfl⟩ := Int.eq_ofNat_of_zero_le (show 0 ≤ n by omega)
    exact number_nat N w (by omega)

theorem cat_list (l : List UInt8) (s : ByteArray) : bs l ++ s = bs (l ++ s.data.toList) := by
  apply ByteArray.ext
  simp [bs, ByteArray.data_append]
set_option maxHeartbeats 400000 in
theorem text_any (s : ByteArray) (w : World) (hs : s.size ≤ 1000000000000000000) :
    Calls Tryd.prog 57 #[.string s] w fun e w' => e = .returned (.string (bs (Pk.txt s.data.toList))) ∧ Below w.heap.size w w' := by
  have hc : ¬ 9223372036854775807 < (bs (Pk.enc s.size)).size + s.size := by
    rw [bs_size]
    have := Pk.enc_nine (n := s.size) (by omega)
    omega
  have he := hide (cat_list (Pk.enc s.size) s)
  go_enter Tryd.func57, Tryd.ntmps57
  go_wp2_with fail
  refine (number_nat s.size _ (by omega)).mono ?_
  rintro e w1 ⟨rfl, b1⟩
  go_wp2_with fail
  go_ret
  refine ⟨?_, b1⟩
  rw [unhide he]
  unfold Pk.txt
  simp
end Go.Proofs.YtmbnmljkioikjaaDoor
