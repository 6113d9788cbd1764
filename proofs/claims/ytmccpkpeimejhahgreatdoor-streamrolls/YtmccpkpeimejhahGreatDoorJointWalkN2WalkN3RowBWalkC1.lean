/-
  Contract of pack.ReadNumber.
  Contract of pack.Number: the number's bytes.
  A record's six cells in a block. No walk.
  Contracts of record.sumOf and bodyOf: a sum as four bytes, a record's body.
-/
import Derived.Test.YtmccpkpeimejhahGreatDoorJointWalkM4WalkMDWalkMFWalkN1
import Derived.Test.YtmccpkpeimejhahGreatDoorJointRowZRowPrWalkY3PapPd
import Derived.RegionTactic
import Derived.ChangeAlike
import Derived.Laws.IdiomStrings
import Derived.Test.YtmccpkpeimejhahGreatDoorRows
import Derived.Test.YtmccpkpeimejhahGreatDoorJointPlainRecPlainSPlainR2PapG
import Derived.Test.YtmccpkpeimejhahGreatDoorJointBase0RowTmPlainPapPa
import Derived.WalkKit
import Derived.WalkSpells
import Derived.WalkLawsBesides
import Derived.Deep.RegionWith
import Derived.Deep.RegionLaw
import Derived.Deep.RegionHeld3
namespace Go.Proofs.YtmccpkpeimejhahGreatDoor
open Go.RowKit

/-- what a reading of a number answers -/
def numV (l : List UInt8) : Value := .tuple #[.int .i64 (Pk.rd l).1, .int .i64 (Pk.rd l).2.1, .int .i64 (Pk.rd l).2.2]

/-- a group's seven bits -/
def grp (l : List UInt8) (k : Nat) : Nat := Pk.at' l k % 128
theorem grp_lt (l : List UInt8) (k : Nat) : grp l k < 128 := Nat.mod_lt _ (by decide)
theorem grp_ne {l : List UInt8} {k : Nat} (_ : Pk.at' l k < 128) (hz : ((grp l k : Int) == 0) = false) : Pk.at' l k ≠ 0 := by
  have := WalkArith.int_ne hz; unfold grp at this; omega
theorem grp_eq {l : List UInt8} {k : Nat} (h : Pk.at' l k < 128) (hz : ((grp l k : Int) == 0) = true) : Pk.at' l k = 0 := by
  have := WalkArith.int_eq hz; unfold grp at this; omega
theorem and_low (s : ByteArray) {k : Nat} (h : k < s.size) : bits .and .u8 (s[k].toNat : Int) 127 = ((grp s.data.toList k : Nat) : Int) := by
  have hb := Pk.at_lt s.data.toList k
  rw [byte_at s h, show (127 : Int) = ((127 : Nat) : Int) from rfl, u8_and_nat _ _ hb (by decide), nat_mask7]
  rfl
theorem and_high (s : ByteArray) {k : Nat} (h : k < s.size) : bits .and .u8 (s[k].toNat : Int) 128 = ((Pk.at' s.data.toList k / 128 * 128 : Nat) : Int) := by
  have hb := Pk.at_lt s.data.toList k
  rw [byte_at s h, show (128 : Int) = ((128 : Nat) : Int) from rfl, u8_and_nat _ _ hb (by decide), show (128 : Nat) = 2 ^ 7 from rfl, nat_bit]
  have : Pk.at' s.data.toList k / 2 ^ 7 % 2 = Pk.at' s.data.toList k / 2 ^ 7 := by omega
  rw [this]
theorem wraps63 (n : Int) (h₀ : 0 ≤ n) (h₁ : n < 2 ^ 63) : IntKind.i64.wrap n = n := by rw [IntKind.wrap_i64]; omega
theorem or_step (l : List UInt8) {k : Nat} (hk : k < 9) : bits .or .i64 ((Pk.val l 0 k : Nat) : Int) (wrap64 ((grp l k : Int) * 2 ^ (k * 7))) = ((Pk.val l 0 (k + 1) : Nat) : Int) := by
  have hv := Pk.val_lt l k 0
  have hg := grp_lt l k
  have e7 : (128 : Nat) ^ k = 2 ^ (k * 7) := by rw [show (128 : Nat) = 2 ^ 7 from rfl, ← Nat.pow_mul, Nat.mul_comm]
  have hp : (2 : Nat) ^ (k * 7) ≤ 2 ^ 56 := Nat.pow_le_pow_right (by decide) (by omega)
  have hm : grp l k * 2 ^ (k * 7) ≤ 127 * 2 ^ 56 := Nat.mul_le_mul (by omega) hp
  have hc : ((grp l k : Int) * 2 ^ (k * 7)) = ((grp l k * 2 ^ (k * 7) : Nat) : Int) := by simp
  rw [hc, IntWalk.wrap64_in _ ⟨by omega, by omega⟩]
  rw [e7] at hv
  rw [(bits_nat .i64 63 (by decide) wraps63 _ _ (by omega) (by omega)).2, Pk.val_last, e7, Nat.zero_add]
  congr 1
  rw [Nat.or_comm, Nat.mul_comm, ← Nat.two_pow_add_eq_or_of_lt hv, Nat.add_comm]
  rfl
theorem ret_num {l : List UInt8} {r : Nat × Nat × Nat} {v : Value} (h : Pk.rd l = r) (hv : v = .tuple #[.int .i64 r.1, .int .i64 r.2.1, .int .i64 r.2.2]) : Ending.returned v = .returned (numV l) := by
  unfold numV; rw [h, hv]
theorem rd_val {s : ByteArray} {k : Nat} (h1 : k < s.size) (h2 : k < 9) (h3 : ∀ j, j < k → 128 ≤ Pk.at' s.data.toList j) (h4 : Pk.at' s.data.toList k < 128) (h5 : k = 0 ∨ Pk.at' s.data.toList k ≠ 0) :
    Pk.rd s.data.toList = (Pk.val s.data.toList 0 (k + 1), k + 1, 0) := by
  have e : Pk.lead s.data.toList 9 = k := Pk.lead_eq (by omega) (by simp; omega) h3 (.inr (.inr h4))
  unfold Pk.rd
  rw [e, if_neg (by omega), if_neg (by simp; omega), if_neg (by omega)]
theorem rd_form {s : ByteArray} {k : Nat} (h1 : k < s.size) (h2 : k < 9) (h3 : ∀ j, j < k → 128 ≤ Pk.at' s.data.toList j) (h4 : Pk.at' s.data.toList k < 128) (h5 : 0 < k) (h6 : Pk.at' s.data.toList k = 0) :
    Pk.rd s.data.toList = (0, 0, 7) := by
  have e : Pk.lead s.data.toList 9 = k := Pk.lead_eq (by omega) (by simp; omega) h3 (.inr (.inr h4))
  unfold Pk.rd
  rw [e, if_neg (by omega), if_neg (by simp; omega), if_pos ⟨h5, h6⟩]
theorem rd_nine {l : List UInt8} (h1 : 9 ≤ l.length) (h3 : ∀ j, j < 9 → 128 ≤ Pk.at' l j) : Pk.rd l = (0, 0, 7) := by
  have e : Pk.lead l 9 = 9 := Pk.lead_eq (by omega) (by omega) h3 (.inl rfl)
  unfold Pk.rd
  rw [e, if_pos rfl]
theorem rd_more {l : List UInt8} (h1 : l.length < 9) (h3 : ∀ j, j < l.length → 128 ≤ Pk.at' l j) : Pk.rd l = (0, 0, 6) := by
  have e : Pk.lead l 9 = l.length := Pk.lead_eq (by omega) (by omega) h3 (.inr (.inl rfl))
  unfold Pk.rd
  rw [e, if_neg (by omega), if_pos rfl]

set_option maxHeartbeats 1000000 in
theorem readn_any (s : ByteArray) (w : World) (hs : s.size ≤ 1000000000000000000) :
    Calls Tryz.prog 163 #[.string s] w fun e w' => e = .returned (numV s.data.toList) ∧ w' = w := by
  by_cases h9 : 9 < s.size
  · go_enter Tryz.func163, Tryz.ntmps163
    go_wp2_with fail
    go_loop [5, 11] (fun n i => ∃ k : Nat, k ≤ 9 ∧ i = .int .i64 k ∧ n = .int .i64 ((Pk.val s.data.toList 0 k : Nat) : Int) ∧ Hid (∀ j, j < k → 128 ≤ Pk.at' s.data.toList j)) (fun _ i => 9 - (intOf i).toNat)
    case atStart => exact ⟨0, Nat.zero_le _, rfl, rfl, hide (fun j h => absurd h (Nat.not_lt_zero j))⟩
    case round =>
      obtain ⟨k, hk, rfl, rfl, hq⟩ := hrel
      by_cases hlt : k < 9
      · have hks : k < s.size := by omega
        have hgl := grp_lt s.data.toList k
        have g1 := and_low s hks
        have g2 := and_high s hks
        have g3 := or_step s.data.toList (k := k) (by omega)
        by_cases hc : Pk.at' s.data.toList k < 128
        · rw [show Pk.at' s.data.toList k / 128 = 0 from by omega] at g2
          have Hc := hide hc
          clear hc
          cases hz : ((grp s.data.toList k : Int) == 0) with
          | false =>
            have R := hide (rd_val hks (by omega) (unhide hq) (unhide Hc) (.inr (grp_ne (unhide Hc) hz)))
            go_wp2_with fail
            go_ret3
            exact ⟨ret_num (unhide R) rfl, rfl⟩
          | true =>
            by_cases hk0 : 0 < k
            · have R := hide (rd_form hks (by omega) (unhide hq) (unhide Hc) hk0 (grp_eq (unhide Hc) hz))
              go_wp2_with fail
              go_ret3
              exact ⟨ret_num (unhide R) rfl, rfl⟩
            · have R := hide (rd_val hks (by omega) (unhide hq) (unhide Hc) (.inl (by omega)))
              go_wp2_with fail
              go_ret3
              exact ⟨ret_num (unhide R) rfl, rfl⟩
        · rw [show Pk.at' s.data.toList k / 128 = 1 from by have := Pk.at_lt s.data.toList k; omega] at g2
          have Hc := hide hc
          clear hc
          go_wp2_with fail
          go_round
          case rel => exact ⟨k + 1, by omega, by go_num, rfl, hide (fun j h => by
            rcases Nat.lt_succ_iff_lt_or_eq.1 h with h | h
            · exact unhide hq j h
            · subst h; have := unhide Hc; omega)⟩
          case measure => simp [intOf]; omega
      · have R := hide (rd_nine (l := s.data.toList) (by simp; omega) (fun j hj => unhide hq j (by omega)))
        go_wp2_with fail
        go_ret3
        exact ⟨ret_num (unhide R) rfl, rfl⟩
  · go_enter Tryz.func163, Tryz.ntmps163
    go_wp2_with fail
    go_loop [5, 11] (fun n i => ∃ k : Nat, k ≤ s.size ∧ i = .int .i64 k ∧ n = .int .i64 ((Pk.val s.data.toList 0 k : Nat) : Int) ∧ Hid (∀ j, j < k → 128 ≤ Pk.at' s.data.toList j)) (fun _ i => s.size - (intOf i).toNat)
    case atStart => exact ⟨0, Nat.zero_le _, rfl, rfl, hide (fun j h => absurd h (Nat.not_lt_zero j))⟩
    case round =>
      obtain ⟨k, hk, rfl, rfl, hq⟩ := hrel
      by_cases hlt : k < s.size
      · have hks : k < s.size := by omega
        have hgl := grp_lt s.data.toList k
        have g1 := and_low s hks
        have g2 := and_high s hks
        have g3 := or_step s.data.toList (k := k) (by omega)
        by_cases hc : Pk.at' s.data.toList k < 128
        · rw [show Pk.at' s.data.toList k / 128 = 0 from by omega] at g2
          have Hc := hide hc
          clear hc
          cases hz : ((grp s.data.toList k : Int) == 0) with
          | false =>
            have R := hide (rd_val hks (by omega) (unhide hq) (unhide Hc) (.inr (grp_ne (unhide Hc) hz)))
            go_wp2_with fail
            go_ret3
            exact ⟨ret_num (unhide R) rfl, rfl⟩
          | true =>
            by_cases hk0 : 0 < k
            · have R := hide (rd_form hks (by omega) (unhide hq) (unhide Hc) hk0 (grp_eq (unhide Hc) hz))
              go_wp2_with fail
              go_ret3
              exact ⟨ret_num (unhide R) rfl, rfl⟩
            · have R := hide (rd_val hks (by omega) (unhide hq) (unhide Hc) (.inl (by omega)))
              go_wp2_with fail
              go_ret3
              exact ⟨ret_num (unhide R) rfl, rfl⟩
        · rw [show Pk.at' s.data.toList k / 128 = 1 from by have := Pk.at_lt s.data.toList k; omega] at g2
          have Hc := hide hc
          clear hc
          go_wp2_with fail
          go_round
          case rel => exact ⟨k + 1, by omega, by go_num, rfl, hide (fun j h => by
            rcases Nat.lt_succ_iff_lt_or_eq.1 h with h | h
            · exact unhide hq j h
            · subst h; have := unhide Hc; omega)⟩
          case measure => simp [intOf]; omega
      · by_cases h8 : s.size = 9
        · have R := hide (rd_nine (l := s.data.toList) (by simp; omega) (fun j hj => unhide hq j (by omega)))
          have h8' : 9 ≤ s.size := by omega
          clear h8
          go_wp2_with fail
          go_ret3
          exact ⟨ret_num (unhide R) rfl, rfl⟩
        · have R := hide (rd_more (l := s.data.toList) (by simp; omega) (fun j hj => unhide hq j (by simp at hj; omega)))
          have h8' : s.size < 9 := by omega
          clear h8
          go_wp2_with fail
          go_ret3
          exact ⟨ret_num (unhide R) rfl, rfl⟩
end Go.Proofs.YtmccpkpeimejhahGreatDoor

namespace Go.Proofs.YtmccpkpeimejhahGreatDoor
open Go.RowKit

/-- a row of bytes of the program's own -/
def Bts (w : World) (B : Nat) (v : Value) (l : List UInt8) : Prop := w.ownsRow B 5 1 v l.length (l.map fun b => Value.int .u8 b.toNat)
theorem infoB : (Tryz.prog.info? 5).map (fun i => (i.zero, i.size, i.bytes)) = some (some (.int .u8 0), 1, 1) := by kernel_rfl
theorem one_byte (n : Int) : ∀ u ∈ [Value.int .u8 n], u.oneCell' = true := by
  intro u hu; simp at hu; subst hu; rfl
/-- the state of the packing: the bytes are laid, m is left -/
def Packs (w0 w : World) (v : Value) (N m : Nat) (l : List UInt8) : Prop := Bts w w0.heap.size v l ∧ Below w0.heap.size w0 w ∧ l ++ Pk.enc m = Pk.enc N
theorem packs_len {w0 w : World} {v : Value} {N m : Nat} {l : List UInt8} (h : Packs w0 w v N m l) (hN : N < 9223372036854775808) : l.length < 9 := by
  have := Pk.enc_nine hN
  rw [← h.2.2, List.length_append] at this
  have := Pk.enc_pos m
  omega
theorem bts_next {w0 wr w1 : World} {v v' : Value} {l : List UInt8} {b : UInt8} {n : Int} {o : Obj} (hn : n = b.toNat) (hown : Bts wr w0.heap.size v l) (hb : Below w0.heap.size w0 wr)
    (h1 : w1.ownsRow w0.heap.size 5 1 v' (l.length + 1) ((l.map fun b => Value.int .u8 b.toNat) ++ [.int .u8 n])) (hg : (wr.alloc o).grownBy w1 v.ownBlock) :
    Bts w1 w0.heap.size v' (l ++ [b]) ∧ Below w0.heap.size w0 w1 := by
  refine ⟨?_, ?_⟩
  · unfold Bts
    rw [List.map_append, List.map_cons, List.map_nil, List.length_append, ← hn]
    exact h1
  · have hs := hb.size
    refine (hb.alloc (by omega) o).grown hg (by simp; omega) ?_
    intro j hj
    exact (World.ownsRow.lt hown j hj).1
/-- the byte of a group that goes on -/
def gb (m : Nat) : Nat := 128 + m % 128
theorem gb_lt (m : Nat) : gb m < 256 := by unfold gb; omega
theorem low_byte {m : Nat} (h : m < 9223372036854775808) : bits .or .i64 (bits .and .i64 (m : Int) 127) 128 = ((gb m : Nat) : Int) := by
  have e1 : bits .and .i64 (m : Int) 127 = ((m % 128 : Nat) : Int) := by
    rw [show (127 : Int) = ((127 : Nat) : Int) from rfl, (bits_nat .i64 63 (by decide) wraps63 m 127 (by omega) (by omega)).1, nat_mask7]
  rw [e1, show (128 : Int) = ((128 : Nat) : Int) from rfl, (bits_nat .i64 63 (by decide) wraps63 (m % 128) 128 (by omega) (by omega)).2]
  congr 1
  have := Nat.two_pow_add_eq_or_of_lt (i := 7) (b := m % 128) (by omega) 1
  rw [show 2 ^ 7 * 1 = 128 from rfl] at this
  rw [Nat.or_comm]
  exact this.symm

theorem bts_conv {w : World} {B g cap : Nat} {l : List UInt8} (h : Bts w B (.slice (some ⟨g, 0, none⟩) l.length cap) l) :
    (convert 115 9 (.slice (some ⟨g, 0, none⟩) l.length cap)).run Tryz.prog w = .ok (.string (bs l)) w := by
  refine run_convert_bytes_back w 115 9 5 ⟨g, 0, none⟩ cap l Tryz.underlying115 Tryz.underlying5 Tryz.underlying9 fun j hj => ?_
  have := World.ownsRow.cellAt h j (by omega)
  rw [addp, Nat.zero_add, this]
  simp [List.getElem?_eq_getElem hj]
set_option maxRecDepth 100000 in
set_option maxHeartbeats 1000000 in
theorem number_nat (N : Nat) (w : World) (hN : N < 9223372036854775808) :
    Calls Tryz.prog 138 #[.int .i64 N] w fun e w' => e = .returned (.string (bs (Pk.enc N))) ∧ Below w.heap.size w w' := by
  obtain ⟨i0, hi, hz0, hz1, hz2⟩ := info_parts infoB
  go_enter Tryz.func138, Tryz.ntmps138
  go_wp2_with fail
  go_loopw [3, 4] (fun r p wr => ∃ (m : Nat) (l : List UInt8), m ≤ N ∧ r = .int .i64 m ∧ Packs w wr p N m l) (fun r _ _ => (intOf r).toNat)
  case atStart => exact ⟨N, [], Nat.le_refl _, by simp, World.ownsRow_nil _ _ _ _, Below.refl _ _, rfl⟩
  case round =>
    obtain ⟨m, l, hm, rfl, hp⟩ := hrel
    have hlen := packs_len hp hN
    obtain ⟨hown, hb, he⟩ := hp
    have hown2 : wr.ownsRow w.heap.size 5 1 u4 l.length (l.map fun b => Value.int .u8 b.toNat) := hown
    have hsz := hb.size
    have HE := hide he
    clear he
    by_cases hlt : 127 < m
    · have hl := low_byte (m := m) (by omega)
      have hg := gb_lt m
      go_wp2_with (at_builtin; refine wpList_append_own _ rfl _ _ 115 rfl w.heap.size 5 i0 (.int .u8 0) 1 1 Tryz.underlying115 hi hz0 hz1 hz2 rfl (by decide) _ _ _ rfl (hown2.alloc _) ⟨wr.heap.size, 0, none⟩ 1 1 [.int .u8 ((gb m : Nat) : Int)] rfl rfl (one_new _ _ _) (one_byte _) (by unfold maxLen; omega) (by omega) (by simp; omega) ?_; intro v' w3 hown1 hgrow _)
      have R := bts_next (b := UInt8.ofNat (gb m)) (by rw [Pk.u8_of hg]) hown hb hown1 hgrow
      clear hown hown2 hown1 hgrow hb
      go_round
      case rel => exact ⟨m / 128, l ++ [UInt8.ofNat (gb m)], by omega, by simp, R.1, R.2, by rw [List.append_assoc, List.singleton_append, ← unhide HE, Pk.enc_large (n := m) (by omega)]; rfl⟩
      case measure => simp [intOf]; omega
    · go_wp2_with (at_builtin; refine wpList_append_own _ rfl _ _ 115 rfl w.heap.size 5 i0 (.int .u8 0) 1 1 Tryz.underlying115 hi hz0 hz1 hz2 rfl (by decide) _ _ _ rfl (hown2.alloc _) ⟨wr.heap.size, 0, none⟩ 1 1 [.int .u8 (m : Int)] rfl rfl (one_new _ _ _) (one_byte _) (by unfold maxLen; omega) (by omega) (by simp; omega) ?_; intro v' w3 hown1 hgrow _)
      have R := bts_next (b := UInt8.ofNat m) (by rw [Pk.u8_of (by omega)]) hown hb hown1 hgrow
      obtain ⟨g, cap, rfl⟩ := own_some hown1
      have hcv := bts_conv (l := l ++ [UInt8.ofNat m]) (by rw [List.length_append]; exact R.1)
      rw [List.length_append, List.length_singleton] at hcv
      have R2 := R.2
      clear hown hown2 hown1 hgrow hb R
      rw [hcv]
      go_wp2_with fail
      go_ret
      refine ⟨?_, R2⟩
      rw [← unhide HE, Pk.enc_small (n := m) (by omega)]
      rfl

set_option maxRecDepth 100000 in
set_option maxHeartbeats 1000000 in
theorem number_neg (n : Int) (N : Nat) (w : World) (hN0 : N = 0) (hn : n < 0) :
    Calls Tryz.prog 138 #[.int .i64 n] w fun e w' => e = .returned (.string (bs (Pk.enc N))) ∧ Below w.heap.size w w' := by
  obtain ⟨i0, hi, hz0, hz1, hz2⟩ := info_parts infoB
  have hN : N < 9223372036854775808 := by omega
  have HN := hide hN0
  clear hN0
  go_enter Tryz.func138, Tryz.ntmps138
  go_wp2_with fail
  go_loopw [3, 4] (fun r p wr => ∃ (m : Nat) (l : List UInt8), m ≤ N ∧ r = .int .i64 m ∧ Packs w wr p N m l) (fun r _ _ => (intOf r).toNat)
  case atStart => exact ⟨N, [], Nat.le_refl _, by rw [unhide HN]; rfl, World.ownsRow_nil _ _ _ _, Below.refl _ _, rfl⟩
  case round =>
    obtain ⟨m, l, hm, rfl, hp⟩ := hrel
    have hlen := packs_len hp hN
    obtain ⟨hown, hb, he⟩ := hp
    have hown2 : wr.ownsRow w.heap.size 5 1 u4 l.length (l.map fun b => Value.int .u8 b.toNat) := hown
    have hsz := hb.size
    have HE := hide he
    clear he
    by_cases hlt : 127 < m
    · have hl := low_byte (m := m) (by omega)
      have hg := gb_lt m
      go_wp2_with (at_builtin; refine wpList_append_own _ rfl _ _ 115 rfl w.heap.size 5 i0 (.int .u8 0) 1 1 Tryz.underlying115 hi hz0 hz1 hz2 rfl (by decide) _ _ _ rfl (hown2.alloc _) ⟨wr.heap.size, 0, none⟩ 1 1 [.int .u8 ((gb m : Nat) : Int)] rfl rfl (one_new _ _ _) (one_byte _) (by unfold maxLen; omega) (by omega) (by simp; omega) ?_; intro v' w3 hown1 hgrow _)
      have R := bts_next (b := UInt8.ofNat (gb m)) (by rw [Pk.u8_of hg]) hown hb hown1 hgrow
      clear hown hown2 hown1 hgrow hb
      go_round
      case rel => exact ⟨m / 128, l ++ [UInt8.ofNat (gb m)], by omega, by simp, R.1, R.2, by rw [List.append_assoc, List.singleton_append, ← unhide HE, Pk.enc_large (n := m) (by omega)]; rfl⟩
      case measure => simp [intOf]; omega
    · go_wp2_with (at_builtin; refine wpList_append_own _ rfl _ _ 115 rfl w.heap.size 5 i0 (.int .u8 0) 1 1 Tryz.underlying115 hi hz0 hz1 hz2 rfl (by decide) _ _ _ rfl (hown2.alloc _) ⟨wr.heap.size, 0, none⟩ 1 1 [.int .u8 (m : Int)] rfl rfl (one_new _ _ _) (one_byte _) (by unfold maxLen; omega) (by omega) (by simp; omega) ?_; intro v' w3 hown1 hgrow _)
      have R := bts_next (b := UInt8.ofNat m) (by rw [Pk.u8_of (by omega)]) hown hb hown1 hgrow
      obtain ⟨g, cap, rfl⟩ := own_some hown1
      have hcv := bts_conv (l := l ++ [UInt8.ofNat m]) (by rw [List.length_append]; exact R.1)
      rw [List.length_append, List.length_singleton] at hcv
      have R2 := R.2
      clear hown hown2 hown1 hgrow hb R
      rw [hcv]
      go_wp2_with fail
      go_ret
      refine ⟨?_, R2⟩
      rw [← unhide HE, Pk.enc_small (n := m) (by omega)]
      rfl

theorem number_any (n : Int) (w : World) (hn : n < 9223372036854775808) :
    Calls Tryz.prog 138 #[.int .i64 n] w fun e w' => e = .returned (.string (bs (Pk.enc n.toNat))) ∧ Below w.heap.size w w' := by
  by_cases h : n < 0
  · exact number_neg n n.toNat w (by omega) h
  · obtain ⟨N, rfl⟩ := Int.eq_ofNat_of_zero_le (show 0 ≤ n by omega)
    exact number_nat N w (by omega)

theorem cat_list (l : List UInt8) (s : ByteArray) : bs l ++ s = bs (l ++ s.data.toList) := by
  apply ByteArray.ext
  simp [bs, ByteArray.data_append]
set_option maxHeartbeats 400000 in
theorem text_any (s : ByteArray) (w : World) (hs : s.size ≤ 1000000000000000000) :
    Calls Tryz.prog 116 #[.string s] w fun e w' => e = .returned (.string (bs (Pk.txt s.data.toList))) ∧ Below w.heap.size w w' := by
  have hc : ¬ 9223372036854775807 < (bs (Pk.enc s.size)).size + s.size := by
    rw [bs_size]
    have := Pk.enc_nine (n := s.size) (by omega)
    omega
  have he := hide (cat_list (Pk.enc s.size) s)
  go_enter Tryz.func116, Tryz.ntmps116
  go_wp2_with fail
  refine (number_nat s.size _ (by omega)).mono ?_
  rintro e w1 ⟨rfl, b1⟩
  go_wp2_with fail
  go_ret
  refine ⟨?_, b1⟩
  rw [unhide he]
  unfold Pk.txt
  simp
end Go.Proofs.YtmccpkpeimejhahGreatDoor

namespace Go.Proofs.YtmccpkpeimejhahGreatDoor
open Go.RowKit

/-- a record's six cells in a block -/
structure RB (w : World) (b : Nat) (k q t : Int) (s h d : ByteArray) : Prop where
  lt : b < w.heap.size
  c0 : w.cell? ⟨b, 0, none⟩ = some (.int .i64 k)
  c1 : w.cell? ⟨b, 1, none⟩ = some (.int .i64 q)
  c2 : w.cell? ⟨b, 2, none⟩ = some (.int .i64 t)
  c3 : w.cell? ⟨b, 3, none⟩ = some (.string s)
  c4 : w.cell? ⟨b, 4, none⟩ = some (.string h)
  c5 : w.cell? ⟨b, 5, none⟩ = some (.string d)
  fr : ∀ j, w.frozen? ⟨b, j, none⟩ = false
theorem RB.below {w w' : World} {b B : Nat} {k q t : Int} {s h d : ByteArray} (r : RB w b k q t s h d) (hb : Below B w w') (hB : b < B) : RB w' b k q t s h d :=
  ⟨Nat.lt_of_lt_of_le r.lt hb.size, by rw [hb.cell (p := ⟨b, 0, none⟩) hB]; exact r.c0, by rw [hb.cell (p := ⟨b, 1, none⟩) hB]; exact r.c1, by rw [hb.cell (p := ⟨b, 2, none⟩) hB]; exact r.c2, by rw [hb.cell (p := ⟨b, 3, none⟩) hB]; exact r.c3, by rw [hb.cell (p := ⟨b, 4, none⟩) hB]; exact r.c4, by rw [hb.cell (p := ⟨b, 5, none⟩) hB]; exact r.c5, fun j => by rw [hb.frozen (p := ⟨b, j, none⟩) hB]; exact r.fr j⟩
theorem RB.drew {w : World} {b : Nat} {k q t : Int} {s h d : ByteArray} (r : RB w b k q t s h d) : RB w.drew b k q t s h d :=
  r.below (B := w.heap.size) (Below.refl _ _).drew r.lt
theorem RB.alloc {w : World} {b : Nat} {k q t : Int} {s h d : ByteArray} (r : RB w b k q t s h d) (o : Obj) : RB (w.alloc o) b k q t s h d :=
  r.below (B := w.heap.size) ((Below.refl _ _).alloc (Nat.le_refl _) o) r.lt
theorem RB.next {w w' : World} {b : Nat} {k q t : Int} {s h d : ByteArray} (r : RB w b k q t s h d) (hb : Below w.heap.size w w') : RB w' b k q t s h d := r.below hb r.lt
theorem RB.new (w : World) (k q t : Int) (s h d : ByteArray) (T : TypeId) : RB (w.alloc (.cells #[.int .i64 k, .int .i64 q, .int .i64 t, .string s, .string h, .string d] T)) w.heap.size k q t s h d :=
  ⟨by simp, by simp, by simp, by simp, by simp, by simp, by simp, fun j => World.frozen?_alloc_new _ _ _ j⟩
theorem cell_other' (w : World) (p q : Addr) (v : Value) (h : p ≠ q) : (w.setCell p v).cell? q = w.cell? q := by
  first | exact World.cell?_setCell_other _ _ _ _ h | exact World.cell?_setCell_other h
theorem RB.other {w : World} {b c i : Nat} {k q t : Int} {s h d : ByteArray} {v : Value} (r : RB w b k q t s h d) (hc : c ≠ b) : RB (w.setCell ⟨c, i, none⟩ v) b k q t s h d :=
  ⟨by simpa using r.lt, by rw [cell_other' _ _ _ _ (by intro e; injection e; omega)]; exact r.c0, by rw [cell_other' _ _ _ _ (by intro e; injection e; omega)]; exact r.c1, by rw [cell_other' _ _ _ _ (by intro e; injection e; omega)]; exact r.c2,
    by rw [cell_other' _ _ _ _ (by intro e; injection e; omega)]; exact r.c3, by rw [cell_other' _ _ _ _ (by intro e; injection e; omega)]; exact r.c4, by rw [cell_other' _ _ _ _ (by intro e; injection e; omega)]; exact r.c5, fun j => by simpa using r.fr j⟩
theorem same_cell {w : World} {a : Addr} {v u : Value} (h : w.cell? a = some u) : (w.setCell a v).cell? a = some v := World.cell?_setCell_same' _ _ _ (by rw [h]; rfl)
theorem RB.set0 {w : World} {b : Nat} {k q t : Int} {s h d : ByteArray} (r : RB w b k q t s h d) (x : Int) : RB (w.setCell ⟨b, 0, none⟩ (.int .i64 x)) b x q t s h d :=
  ⟨by simpa using r.lt, same_cell r.c0, by rw [cell_other' _ _ _ _ (by intro e; injection e; omega)]; exact r.c1, by rw [cell_other' _ _ _ _ (by intro e; injection e; omega)]; exact r.c2,
    by rw [cell_other' _ _ _ _ (by intro e; injection e; omega)]; exact r.c3, by rw [cell_other' _ _ _ _ (by intro e; injection e; omega)]; exact r.c4, by rw [cell_other' _ _ _ _ (by intro e; injection e; omega)]; exact r.c5, fun j => by simpa using r.fr j⟩
theorem RB.set1 {w : World} {b : Nat} {k q t : Int} {s h d : ByteArray} (r : RB w b k q t s h d) (x : Int) : RB (w.setCell ⟨b, 1, none⟩ (.int .i64 x)) b k x t s h d :=
  ⟨by simpa using r.lt, by rw [cell_other' _ _ _ _ (by intro e; injection e; omega)]; exact r.c0, same_cell r.c1, by rw [cell_other' _ _ _ _ (by intro e; injection e; omega)]; exact r.c2,
    by rw [cell_other' _ _ _ _ (by intro e; injection e; omega)]; exact r.c3, by rw [cell_other' _ _ _ _ (by intro e; injection e; omega)]; exact r.c4, by rw [cell_other' _ _ _ _ (by intro e; injection e; omega)]; exact r.c5, fun j => by simpa using r.fr j⟩
theorem RB.set2 {w : World} {b : Nat} {k q t : Int} {s h d : ByteArray} (r : RB w b k q t s h d) (x : Int) : RB (w.setCell ⟨b, 2, none⟩ (.int .i64 x)) b k q x s h d :=
  ⟨by simpa using r.lt, by rw [cell_other' _ _ _ _ (by intro e; injection e; omega)]; exact r.c0, by rw [cell_other' _ _ _ _ (by intro e; injection e; omega)]; exact r.c1, same_cell r.c2,
    by rw [cell_other' _ _ _ _ (by intro e; injection e; omega)]; exact r.c3, by rw [cell_other' _ _ _ _ (by intro e; injection e; omega)]; exact r.c4, by rw [cell_other' _ _ _ _ (by intro e; injection e; omega)]; exact r.c5, fun j => by simpa using r.fr j⟩
theorem RB.set3 {w : World} {b : Nat} {k q t : Int} {s h d : ByteArray} (r : RB w b k q t s h d) (x : ByteArray) : RB (w.setCell ⟨b, 3, none⟩ (.string x)) b k q t x h d :=
  ⟨by simpa using r.lt, by rw [cell_other' _ _ _ _ (by intro e; injection e; omega)]; exact r.c0, by rw [cell_other' _ _ _ _ (by intro e; injection e; omega)]; exact r.c1, by rw [cell_other' _ _ _ _ (by intro e; injection e; omega)]; exact r.c2,
    same_cell r.c3, by rw [cell_other' _ _ _ _ (by intro e; injection e; omega)]; exact r.c4, by rw [cell_other' _ _ _ _ (by intro e; injection e; omega)]; exact r.c5, fun j => by simpa using r.fr j⟩
theorem RB.set4 {w : World} {b : Nat} {k q t : Int} {s h d : ByteArray} (r : RB w b k q t s h d) (x : ByteArray) : RB (w.setCell ⟨b, 4, none⟩ (.string x)) b k q t s x d :=
  ⟨by simpa using r.lt, by rw [cell_other' _ _ _ _ (by intro e; injection e; omega)]; exact r.c0, by rw [cell_other' _ _ _ _ (by intro e; injection e; omega)]; exact r.c1, by rw [cell_other' _ _ _ _ (by intro e; injection e; omega)]; exact r.c2,
    by rw [cell_other' _ _ _ _ (by intro e; injection e; omega)]; exact r.c3, same_cell r.c4, by rw [cell_other' _ _ _ _ (by intro e; injection e; omega)]; exact r.c5, fun j => by simpa using r.fr j⟩
theorem RB.set5 {w : World} {b : Nat} {k q t : Int} {s h d : ByteArray} (r : RB w b k q t s h d) (x : ByteArray) : RB (w.setCell ⟨b, 5, none⟩ (.string x)) b k q t s h x :=
  ⟨by simpa using r.lt, by rw [cell_other' _ _ _ _ (by intro e; injection e; omega)]; exact r.c0, by rw [cell_other' _ _ _ _ (by intro e; injection e; omega)]; exact r.c1, by rw [cell_other' _ _ _ _ (by intro e; injection e; omega)]; exact r.c2,
    by rw [cell_other' _ _ _ _ (by intro e; injection e; omega)]; exact r.c3, by rw [cell_other' _ _ _ _ (by intro e; injection e; omega)]; exact r.c4, same_cell r.c5, fun j => by simpa using r.fr j⟩
theorem RB.new' (w : World) (b : Nat) (hb : b = w.heap.size) (k q t : Int) (s h d : ByteArray) (T : TypeId) : RB (w.alloc (.cells #[.int .i64 k, .int .i64 q, .int .i64 t, .string s, .string h, .string d] T)) b k q t s h d := by
  subst hb; exact RB.new w k q t s h d T
theorem RB.setAll {w : World} {b : Nat} {k q t : Int} {s h d : ByteArray} (r : RB w b k q t s h d) (k' q' t' : Int) (s' h' d' : ByteArray) :
    RB ((((((w.setCell ⟨b, 0, none⟩ (.int .i64 k')).setCell ⟨b, 1, none⟩ (.int .i64 q')).setCell ⟨b, 2, none⟩ (.int .i64 t')).setCell ⟨b, 3, none⟩ (.string s')).setCell ⟨b, 4, none⟩ (.string h')).setCell ⟨b, 5, none⟩ (.string d')) b k' q' t' s' h' d' :=
  (((((r.set0 k').set1 q').set2 t').set3 s').set4 h').set5 d'
theorem set6_below {w0 W : World} {b : Nat} {v0 v1 v2 v3 v4 v5 : Value} (x : Below w0.heap.size w0 W) (hb : w0.heap.size ≤ b) :
    Below w0.heap.size w0 ((((((W.setCell ⟨b, 0, none⟩ v0).setCell ⟨b, 1, none⟩ v1).setCell ⟨b, 2, none⟩ v2).setCell ⟨b, 3, none⟩ v3).setCell ⟨b, 4, none⟩ v4).setCell ⟨b, 5, none⟩ v5) :=
  (((((x.setCell hb _).setCell hb _).setCell hb _).setCell hb _).setCell hb _).setCell hb _
end Go.Proofs.YtmccpkpeimejhahGreatDoor

namespace Go.Proofs.YtmccpkpeimejhahGreatDoor
open Go.RowKit

/-- bytes that were laid into a new block are made a text -/
theorem conv_four (w : World) (x0 x1 x2 x3 : Int) (l : List UInt8) (h : l.map (fun b => Value.int .u8 (b.toNat : Int)) = [.int .u8 x0, .int .u8 x1, .int .u8 x2, .int .u8 x3]) :
    (convert 115 9 (.slice (some ⟨w.heap.size, 0, none⟩) 4 4)).run Tryz.prog (w.alloc (.cells #[.int .u8 x0, .int .u8 x1, .int .u8 x2, .int .u8 x3] 5)) = .ok (.string (bs l)) (w.alloc (.cells #[.int .u8 x0, .int .u8 x1, .int .u8 x2, .int .u8 x3] 5)) := by
  have hl : l.length = 4 := by have := congrArg List.length h; simpa using this
  have := run_convert_bytes_back (w.alloc (.cells #[.int .u8 x0, .int .u8 x1, .int .u8 x2, .int .u8 x3] 5)) 115 9 5 ⟨w.heap.size, 0, none⟩ 4 l Tryz.underlying115 Tryz.underlying5 Tryz.underlying9 (fun j hj => by
    have hj4 : j < 4 := by omega
    have e : (l.map (fun b => Value.int .u8 (b.toNat : Int)))[j]? = some (.int .u8 (l[j].toNat : Int)) := by simp [List.getElem?_eq_getElem hj]
    rw [h] at e
    rw [← e, addp, Nat.zero_add]
    match j, hj4 with
    | 0, _ => simp
    | 1, _ => simp
    | 2, _ => simp
    | 3, _ => simp)
  rw [hl] at this
  exact this
theorem conv_one' (w : World) (x : Int) (n : Nat) (h : n < 256) (hx : x = n) :
    (convert 115 9 (.slice (some ⟨w.heap.size, 0, none⟩) 1 1)).run Tryz.prog (w.alloc (.cells #[.int .u8 x] 5)) = .ok (.string (bs [UInt8.ofNat n])) (w.alloc (.cells #[.int .u8 x] 5)) := by
  subst hx
  refine run_convert_bytes_back _ 115 9 5 ⟨w.heap.size, 0, none⟩ 1 [UInt8.ofNat n] Tryz.underlying115 Tryz.underlying5 Tryz.underlying9 fun j hj => ?_
  have hj0 : j = 0 := by simpa using hj
  subst hj0
  have := one_new w (.int .u8 (n : Int)) 5 0 (.int .u8 (n : Int)) rfl
  rw [this]
  simp only [List.getElem_cons_zero]
  rw [Pk.u8_of h]
theorem le4_cells {c : Nat} (h : c < 4294967296) : (Pk.le4 c).map (fun b => Value.int .u8 (b.toNat : Int)) = [.int .u8 ((c : Int) % 256), .int .u8 ((c : Int) / 256 % 256), .int .u8 ((c : Int) / 65536 % 256), .int .u8 ((c : Int) / 16777216)] := by
  unfold Pk.le4
  simp only [List.map_cons, List.map_nil]
  rw [Pk.u8_of (by omega), Pk.u8_of (by omega), Pk.u8_of (by omega), Pk.u8_of (by omega)]
  rw [show c / 16777216 % 256 = c / 16777216 from by omega]
  simp

set_option maxRecDepth 100000 in
set_option maxHeartbeats 200000 in
theorem sumof_any (s : ByteArray) (w : World) (hs : s.size ≤ 1000000000000000000) :
    Calls Tryz.prog 117 #[.string s] w fun e w' => e = .returned (.string (bs (Pk.le4 (Pk.crc s.data.toList)))) ∧ Below w.heap.size w w' := by
  obtain ⟨c, hc⟩ : ∃ c, c = Pk.crc s.data.toList := ⟨_, rfl⟩
  have hl : c < 4294967296 := by rw [hc]; exact Pk.crc_lt _
  have HC := hide hc
  have hcv := hide (conv_four w _ _ _ _ _ (le4_cells hl))
  clear hc
  go_enter Tryz.func117, Tryz.ntmps117
  go_wp2_with fail
  refine (sum_any s _ hs).mono ?_
  rintro e w1 ⟨rfl, rfl⟩
  rw [← unhide HC]
  go_wp2_with fail
  rw [unhide hcv]
  go_wp2_with fail
  go_ret
  exact ⟨by rw [← unhide HC]; rfl, (Below.refl _ _).alloc (Nat.le_refl _) _⟩

theorem cat_bs (a b : List UInt8) : bs a ++ bs b = bs (a ++ b) := by rw [cat_list, bs_list]
theorem bod_cat (k q t : Int) (s h d : ByteArray) : (((bs [UInt8.ofNat k.toNat] ++ (bs (Pk.enc q.toNat) ++ bs (Pk.enc t.toNat))) ++ bs (Pk.txt s.data.toList)) ++ bs (Pk.txt h.data.toList)) ++ bs (Pk.txt d.data.toList) = bs (Pk.bod ⟨k, q, t, s.data.toList, h.data.toList, d.data.toList⟩) := by
  rw [cat_bs, cat_bs, cat_bs, cat_bs, cat_bs]
  unfold Pk.bod Pk.body
  simp
theorem txt_few {s : ByteArray} (h : s.size ≤ 1000) : (bs (Pk.txt s.data.toList)).size ≤ 1009 := by
  rw [bs_size, Pk.txt, List.length_append]
  have := Pk.enc_nine (n := s.data.toList.length) (by simp; omega)
  simp at this ⊢
  omega
theorem enc_size {n : Int} (h : n ≤ 1099511627776) : (bs (Pk.enc n.toNat)).size ≤ 9 := by
  rw [bs_size]; exact Pk.enc_nine (by omega)

end Go.Proofs.YtmccpkpeimejhahGreatDoor
