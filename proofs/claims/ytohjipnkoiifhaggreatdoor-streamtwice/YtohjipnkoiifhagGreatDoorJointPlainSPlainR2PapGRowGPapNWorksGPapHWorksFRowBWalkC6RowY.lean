/-
  Plain mathematics of a burst: bits of a text that are turned one by one, and PETERSON, BROWN for them. No program.
  Plain mathematics of records: what is wrong with a record, its bytes, the record at the front of bytes; what is written is read as it was, a front of it asks for more, what is read is written as just those bytes, one turned bit is told. No program.
  The document's log: what is read of a disk's files, what an append and a rewriting make of them. No walk, and nothing of the program's own.
  Rows of records in memory (six cells each): a row of one's own, a slice that shows records, an append of one record. No walk.
  Records whose texts can be; how long a record's bytes are. No walk.
  What is asked of the program's log, whatever it is made of.
  The document's log, pure: what the steps of an opening, an append and a rewriting make of the files; the running state of a disk.
  What a log asks of a disk beyond that: List hands a new row and leaves the disk, so do Read and Try; Remove needs no new block. A disk on its way, and blocks that are none of its own. What a log is that holds a disk and a size, in a block of its own.
  A record's six cells in a block. No walk.
  A record that is handed back: its six cells are read as one value.
  An append whose run is known, as a step of a region that draws its order.
-/
import Derived.Test.YtohjipnkoiifhagGreatDoorJointBase0PlainPapPaPapDRowZPapPdPapLPapMWorksDWorksEPlainNPlainRec
import Derived.Test.YtohjipnkoiifhagGreatDoorRows
import Derived.WalkKit
import Derived.WalkSpells
import Derived.WalkLawsBesides
import Derived.Deep.RegionWith
import Derived.Deep.RegionLaw
import Derived.Deep.RegionHeld3
import Derived.Laws.Rows
namespace Go.Proofs.YtohjipnkoiifhagGreatDoor.Pk

theorem xor_01 {a b : Nat} (ha : a < 2) (hb : b < 2) : a ^^^ b = (a + b) % 2 := by
  have h1 : a = 0 ∨ a = 1 := by omega
  have h2 : b = 0 ∨ b = 1 := by omega
  rcases h1 with rfl | rfl <;> rcases h2 with rfl | rfl <;> rfl
theorem bit_xor (a b q : Nat) : (a ^^^ b) / 2 ^ q % 2 = (a / 2 ^ q % 2 + b / 2 ^ q % 2) % 2 := by
  rw [← Nat.shiftRight_eq_div_pow, Nat.shiftRight_xor_distrib, xor_odd, Nat.shiftRight_eq_div_pow, Nat.shiftRight_eq_div_pow]
theorem bit_pow {p q : Nat} (hp : p < 8) (hq : q < 8) : 2 ^ p / 2 ^ q % 2 = if p = q then 1 else 0 := by
  have : ∀ p : Fin 8, ∀ q : Fin 8, 2 ^ p.val / 2 ^ q.val % 2 = if p.val = q.val then 1 else 0 := by decide
  exact this ⟨p, hp⟩ ⟨q, hq⟩
/-- a text of which one bit is turned -/
def flip (l : List UInt8) (j : Nat) : List UInt8 := l.set (j / 8) (UInt8.ofNat (at' l (j / 8) ^^^ 2 ^ (j % 8)))
theorem flip_byte (l : List UInt8) (j : Nat) : at' l (j / 8) ^^^ 2 ^ (j % 8) < 256 :=
  Nat.xor_lt_two_pow (n := 8) (at_lt l _) (Nat.lt_of_le_of_lt (Nat.pow_le_pow_right (by decide) (show j % 8 ≤ 7 by omega)) (by decide))
theorem flip_len (l : List UInt8) (j : Nat) : (flip l j).length = l.length := by simp [flip]
theorem flip_at {l : List UInt8} {j : Nat} (h : j / 8 < l.length) (k : Nat) : at' (flip l j) k = if k = j / 8 then at' l (j / 8) ^^^ 2 ^ (j % 8) else at' l k := by
  unfold flip
  by_cases hk : k = j / 8
  · subst hk
    rw [if_pos rfl]
    show ((l.set (j / 8) _)[j / 8]?.getD 0).toNat = _
    rw [List.getElem?_set_self h]
    exact u8_of (flip_byte l j)
  · rw [if_neg hk]
    unfold at'
    rw [List.getElem?_set_ne (by omega)]
theorem flip_bit {l : List UInt8} {j : Nat} (h : j / 8 < l.length) (i : Nat) : bitAt (flip l j) i = (bitAt l i + if i = j then 1 else 0) % 2 := by
  unfold bitAt
  rw [flip_at h]
  by_cases hk : i / 8 = j / 8
  · rw [if_pos hk, bit_xor, bit_pow (by omega) (by omega), hk]
    by_cases hp : j % 8 = i % 8
    · rw [if_pos hp, if_pos (by omega)]
    · rw [if_neg hp, if_neg (by omega)]
  · rw [if_neg hk, if_neg (by intro e; subst e; exact hk rfl)]
    omega
/-- the first i bits of the burst are turned -/
def Turned (l0 : List UInt8) (k turn i : Nat) (l : List UInt8) : Prop :=
  l.length = l0.length ∧ ∀ j, bitAt l0 j ^^^ bitAt l j = if k ≤ j ∧ j < k + i then turn / 2 ^ (j - k) % 2 else 0
theorem turned_none (l : List UInt8) (k turn : Nat) : Turned l k turn 0 l := ⟨rfl, fun j => by rw [Nat.xor_self, if_neg (by omega)]⟩
theorem turned_stay {l0 l : List UInt8} {k turn i : Nat} (h : Turned l0 k turn i l) (hb : turn / 2 ^ i % 2 = 0) : Turned l0 k turn (i + 1) l := by
  refine ⟨h.1, fun j => ?_⟩
  rw [h.2]
  by_cases h1 : k ≤ j ∧ j < k + i
  · rw [if_pos h1, if_pos (by omega)]
  · rw [if_neg h1]
    by_cases h2 : k ≤ j ∧ j < k + (i + 1)
    · rw [if_pos h2, show j - k = i from by omega, hb]
    · rw [if_neg h2]
theorem turned_flip {l0 l : List UInt8} {k turn i : Nat} (h : Turned l0 k turn i l) (hb : turn / 2 ^ i % 2 = 1) (hj : (k + i) / 8 < l.length) : Turned l0 k turn (i + 1) (flip l (k + i)) := by
  refine ⟨by rw [flip_len]; exact h.1, fun j => ?_⟩
  have e := h.2 j
  have b0 := bitAt_lt l0 j
  have b1 := bitAt_lt l j
  have b2 := bitAt_lt (flip l (k + i)) j
  rw [xor_01 b0 b1] at e
  rw [xor_01 b0 b2, flip_bit hj]
  by_cases h1 : j = k + i
  · subst h1
    rw [if_neg (by omega)] at e
    rw [if_pos rfl, if_pos (by omega), show k + i - k = i from by omega, hb]
    omega
  · rw [if_neg h1]
    by_cases h2 : k ≤ j ∧ j < k + i
    · rw [if_pos h2] at e
      rw [if_pos (by omega)]
      omega
    · rw [if_neg h2] at e
      rw [if_neg (by omega)]
      omega
theorem turned_sums {l0 l : List UInt8} {k turn : Nat} (h : Turned l0 k turn 32 l) (ht : turn < 4294967296) (h0 : turn ≠ 0) (hk : k + 32 ≤ 8 * l0.length) : crc l ≠ crc l0 := by
  have := burst (bitAt_lt l0) (bitAt_lt l) ht h0 h.2 hk
  have r0 := reg_lt (bitAt_lt l0) (8 * l0.length)
  have r1 := reg_lt (bitAt_lt l) (8 * l0.length)
  unfold crc
  rw [h.1]
  omega
theorem crc_check : crc [49, 50, 51, 52, 53, 54, 55, 56, 57] = 3421780262 := by decide +kernel
end Go.Proofs.YtohjipnkoiifhagGreatDoor.Pk

namespace Go.Proofs.YtohjipnkoiifhagGreatDoor.Pk

/-! how long a subject or a filter can be -/
theorem pcs_sum : ∀ l : List UInt8, ((Pl.pcs l).map fun p => p.length + 1).sum = l.length + 1
  | [] => rfl
  | c :: r => by
    have ih := pcs_sum r
    unfold Pl.pcs
    split
    · simp only [List.map_cons, List.sum_cons, ih, List.length_nil, List.length_cons]; omega
    · cases q : Pl.pcs r with
      | nil => exact absurd q (Pl.pcs_ne r)
      | cons a b =>
        rw [q] at ih
        simp only [List.map_cons, List.sum_cons] at ih
        simp only [List.modifyHead_cons, List.map_cons, List.sum_cons, List.length_cons]
        omega
theorem sum_le : ∀ ps : List (List UInt8), (∀ p ∈ ps, p.length ≤ 16) → (ps.map fun p => p.length + 1).sum ≤ 17 * ps.length
  | [], _ => by simp
  | a :: b, h => by
    have ih := sum_le b (fun p hp => h p (List.mem_cons_of_mem _ hp))
    have := h a (List.mem_cons_self ..)
    simp only [List.map_cons, List.sum_cons, List.length_cons]
    omega
theorem tok_len {wild last : Bool} {t : List UInt8} (h : Pl.tokOk wild last t = true) : t.length ≤ 16 := by
  unfold Pl.tokOk Pl.plainB at h
  simp only [Bool.or_eq_true, Bool.and_eq_true, decide_eq_true_eq, beq_iff_eq] at h
  rcases h with ⟨_, h, _⟩ | ⟨_, h | ⟨h, _⟩⟩
  · exact h
  · rw [h]; decide
  · rw [h]; decide
theorem name_len {wild : Bool} {l : List UInt8} (h : Pl.errOf wild (Pl.pcs l) = 0) : l.length ≤ 135 := by
  unfold Pl.errOf at h
  split at h
  · exact absurd h (by decide)
  rename_i h8
  split at h
  · rename_i hg
    have hs := pcs_sum l
    have := sum_le (Pl.pcs l) (fun p hp => by
      obtain ⟨i, hi, rfl⟩ := List.mem_iff_getElem.1 hp
      simp only [Pl.goodTo, List.all_eq_true, List.mem_range] at hg
      have := hg i hi
      rw [List.getElem?_eq_getElem hi] at this
      exact tok_len this)
    omega
  · exact absurd h (by decide)

/-! records -/
structure Rec where
  k : Int
  q : Int
  t : Int
  s : List UInt8
  h : List UInt8
  d : List UInt8
def none' : Rec := ⟨0, 0, 0, [], [], []⟩
/-- are kind, number and time in their bounds? -/
def inB (k q t : Int) : Bool := decide (1 ≤ k) && (decide (k ≤ 4) && (decide (1 ≤ q) && (decide (q ≤ 1099511627776) && (decide (0 ≤ t) && decide (t ≤ 1099511627776)))))
/-- what is wrong with a record -/
def chk (r : Rec) : Int :=
  if inB r.k r.q r.t = false then 1
  else if r.k = 1 then (if Pl.errOf false (Pl.pcs r.s) ≠ 0 then Pl.errOf false (Pl.pcs r.s) else if 256 < r.h.length + r.d.length then 2 else 0)
  else if r.k = 3 then (if Pl.errOf true (Pl.pcs r.s) ≠ 0 then Pl.errOf true (Pl.pcs r.s) else if r.h.length + r.d.length = 0 then 0 else 1)
  else if r.s.length + (r.h.length + r.d.length) = 0 then 0 else 1
theorem inB_iff {k q t : Int} : inB k q t = true ↔ 1 ≤ k ∧ k ≤ 4 ∧ 1 ≤ q ∧ q ≤ 1099511627776 ∧ 0 ≤ t ∧ t ≤ 1099511627776 := by
  unfold inB
  simp only [Bool.and_eq_true, decide_eq_true_eq]
theorem chk_len {r : Rec} (h : chk r = 0) : 1 ≤ r.k ∧ r.k ≤ 4 ∧ 1 ≤ r.q ∧ r.q ≤ 1099511627776 ∧ 0 ≤ r.t ∧ r.t ≤ 1099511627776 ∧ r.s.length ≤ 135 ∧ r.h.length + r.d.length ≤ 256 := by
  unfold chk at h
  split at h
  · exact absurd h (by decide)
  rename_i hb
  have hb2 := inB_iff.1 (by simpa using hb)
  refine ⟨hb2.1, hb2.2.1, hb2.2.2.1, hb2.2.2.2.1, hb2.2.2.2.2.1, hb2.2.2.2.2.2, ?_⟩
  split at h
  · split at h
    · rename_i hn; exact absurd h hn
    rename_i hn
    split at h
    · exact absurd h (by decide)
    exact ⟨name_len (Classical.byContradiction hn), by omega⟩
  split at h
  · split at h
    · rename_i hn; exact absurd h hn
    rename_i hn
    split at h
    · exact ⟨name_len (Classical.byContradiction hn), by omega⟩
    · exact absurd h (by decide)
  split at h
  · omega
  · exact absurd h (by decide)
/-- a record's body, a record's bytes -/
def bod (r : Rec) : List UInt8 := body r.k.toNat r.q.toNat r.t.toNat r.s r.h r.d
def cod (r : Rec) : List UInt8 := txt (bod r) ++ le4 (crc (bod r))
theorem le4_len (n : Nat) : (le4 n).length = 4 := rfl
theorem enc_few {n : Nat} (h : n ≤ 1099511627776) : (enc n).length ≤ 9 := enc_nine (by omega)
theorem bod_len {r : Rec} (h : chk r = 0) : 6 ≤ (bod r).length ∧ (bod r).length ≤ 1024 := by
  obtain ⟨_, _, _, h1, _, h2, h3, h4⟩ := chk_len h
  unfold bod body txt
  simp only [List.length_cons, List.length_append]
  have a1 := enc_pos r.q.toNat
  have a2 := enc_pos r.t.toNat
  have a3 := enc_pos r.s.length
  have a4 := enc_pos r.h.length
  have a5 := enc_pos r.d.length
  have b1 := enc_few (n := r.q.toNat) (by omega)
  have b2 := enc_few (n := r.t.toNat) (by omega)
  have b3 := enc_few (n := r.s.length) (by omega)
  have b4 := enc_few (n := r.h.length) (by omega)
  have b5 := enc_few (n := r.d.length) (by omega)
  omega
theorem crc_lt (l : List UInt8) : crc l < 4294967296 := by unfold crc; omega

/-- the parts of a body behind its first byte -/
def p1 (r0 : List UInt8) : List UInt8 := aftN r0
def p2 (r0 : List UInt8) : List UInt8 := aftN (aftN r0)
def p3 (r0 : List UInt8) : List UInt8 := aftT (aftN (aftN r0))
def p4 (r0 : List UInt8) : List UInt8 := aftT (aftT (aftN (aftN r0)))
def p5 (r0 : List UInt8) : List UInt8 := aftT (aftT (aftT (aftN (aftN r0))))
def okB (r0 : List UInt8) : Bool := decide ((rd r0).2.2 = 0) && (decide ((rd (p1 r0)).2.2 = 0) && (decide ((rt (p2 r0) 1024).2.2 = 0) && (decide ((rt (p3 r0) 1024).2.2 = 0) && (decide ((rt (p4 r0) 1024).2.2 = 0) && decide ((p5 r0).length = 0)))))
theorem okB_iff {r0 : List UInt8} : okB r0 = true ↔ partsOk r0 := by
  unfold okB partsOk p1 p2 p3 p4 p5
  simp only [Bool.and_eq_true, decide_eq_true_eq, List.length_eq_zero_iff]
def recOf (c : Nat) (r0 : List UInt8) : Rec := ⟨c, (rd r0).1, (rd (p1 r0)).1, (rt (p2 r0) 1024).1, (rt (p3 r0) 1024).1, (rt (p4 r0) 1024).1⟩
/-- the record at the front -/
def dec (l : List UInt8) : Rec × Nat × Int :=
  if (rt l 1024).2.2 ≠ 0 then (none', 0, (rt l 1024).2.2)
  else if l.length < (rt l 1024).2.1 + 4 then (none', 0, 6)
  else if (l.drop (rt l 1024).2.1).take 4 ≠ le4 (crc (rt l 1024).1) then (none', 0, 7)
  else if (rt l 1024).1.length = 0 then (none', 0, 7)
  else if okB ((rt l 1024).1.drop 1) = false then (none', 0, 7)
  else if chk (recOf (at' (rt l 1024).1 0) ((rt l 1024).1.drop 1)) ≠ 0 then (none', 0, 7)
  else (recOf (at' (rt l 1024).1 0) ((rt l 1024).1.drop 1), (rt l 1024).2.1 + 4, 0)

theorem recOf_bod {r : Rec} (h : chk r = 0) : recOf (at' (bod r) 0) ((bod r).drop 1) = r ∧ okB ((bod r).drop 1) = true := by
  obtain ⟨h1, h2, h3, h4, h5, h6, h7, h8⟩ := chk_len h
  have hq : r.q.toNat < 9223372036854775808 := by omega
  have ht : r.t.toNat < 9223372036854775808 := by omega
  have hs : r.s.length ≤ 1024 := by omega
  have hh : r.h.length ≤ 1024 := by omega
  have hd : r.d.length ≤ 1024 := by omega
  have e5 : rt (txt r.d) 1024 = (r.d, (txt r.d).length, 0) := by have := rt_at hd []; rwa [List.append_nil] at this
  have e : (bod r).drop 1 = enc r.q.toNat ++ (enc r.t.toNat ++ (txt r.s ++ (txt r.h ++ txt r.d))) := rfl
  have e0 : at' (bod r) 0 = r.k.toNat := by show (UInt8.ofNat r.k.toNat).toNat = _; exact u8_of (by omega)
  refine ⟨?_, by rw [okB_iff, e]; exact parts_body hq ht hs hh hd⟩
  rw [e, e0]
  unfold recOf p1 p2 p3 p4
  rw [aftN_enc hq, aftN_enc ht, aftT_txt hs, aftT_txt hh, rd_enc hq, rd_enc ht, rt_at hs, rt_at hh, e5]
  show Rec.mk ((r.k.toNat : Nat) : Int) ((r.q.toNat : Nat) : Int) ((r.t.toNat : Nat) : Int) r.s r.h r.d = r
  rw [Int.toNat_of_nonneg (by omega), Int.toNat_of_nonneg (by omega), Int.toNat_of_nonneg (by omega)]
theorem cod_len (r : Rec) : (cod r).length = (txt (bod r)).length + 4 := by unfold cod; rw [List.length_append, le4_len]
theorem dec_cod {r : Rec} (h : chk r = 0) (more : List UInt8) : dec (cod r ++ more) = (r, (cod r).length, 0) := by
  have hb := bod_len h
  have e : rt (cod r ++ more) 1024 = (bod r, (txt (bod r)).length, 0) := by unfold cod; rw [List.append_assoc]; exact rt_at hb.2 _
  have e2 : ((cod r ++ more).drop (txt (bod r)).length).take 4 = le4 (crc (bod r)) := by
    unfold cod; rw [List.append_assoc, List.drop_left]; rfl
  obtain ⟨g1, g2⟩ := recOf_bod h
  unfold dec
  rw [e]
  simp only []
  rw [if_neg (by simp), if_neg (by rw [List.length_append, cod_len]; omega), if_neg (by rw [e2]; simp), if_neg (by omega), g1, g2, if_neg (by simp), if_neg (by rw [h]; simp), cod_len]
theorem rt_front' {t : List UInt8} {i : Nat} (h : t.length ≤ 1024) (hi : i < (txt t).length) : (rt ((txt t).take i) 1024).2.2 = 6 := by
  have h0 : t.length < 9223372036854775808 := by omega
  unfold rt
  by_cases hl : i < (enc t.length).length
  · unfold txt
    rw [rd_front h0 hl]
    rfl
  · have e : (txt t).take i = enc t.length ++ t.take (i - (enc t.length).length) := by
      unfold txt
      rw [List.take_append, List.take_of_length_le (by omega)]
    have hi' := hi
    unfold txt at hi'
    rw [List.length_append] at hi'
    rw [e, rd_enc h0]
    simp only []
    rw [if_neg (by simp), if_neg (by omega), if_pos (by simp; omega)]
theorem dec_front {r : Rec} {i : Nat} (h : chk r = 0) (hi : i < (cod r).length) : (dec ((cod r).take i)).2.2 = 6 := by
  have hb := bod_len h
  by_cases hl : i < (txt (bod r)).length
  · have e : (cod r).take i = (txt (bod r)).take i := by
      unfold cod
      rw [List.take_append_of_le_length (by omega)]
    have e6 := rt_front' hb.2 hl
    unfold dec
    rw [e, e6, if_pos (by decide)]
    rfl
  · have e : (cod r).take i = txt (bod r) ++ (le4 (crc (bod r))).take (i - (txt (bod r)).length) := by
      unfold cod
      rw [List.take_append, List.take_of_length_le (by omega)]
    have hi' := hi
    rw [cod_len] at hi'
    unfold dec
    rw [e, rt_at hb.2]
    simp only []
    rw [if_neg (by simp), if_pos (by rw [← e, List.length_take]; omega)]
theorem dec_bad {l : List UInt8} (h : (dec l).2.2 ≠ 0) : (dec l).1 = none' ∧ (dec l).2.1 = 0 := by
  unfold dec at h ⊢
  split
  · exact ⟨rfl, rfl⟩
  rename_i h1
  rw [if_neg h1] at h
  split
  · exact ⟨rfl, rfl⟩
  rename_i h2
  rw [if_neg h2] at h
  split
  · exact ⟨rfl, rfl⟩
  rename_i h3
  rw [if_neg h3] at h
  split
  · exact ⟨rfl, rfl⟩
  rename_i h4
  rw [if_neg h4] at h
  split
  · exact ⟨rfl, rfl⟩
  rename_i h5
  rw [if_neg h5] at h
  split
  · exact ⟨rfl, rfl⟩
  rename_i h6
  rw [if_neg h6] at h
  exact absurd rfl h
theorem dec_one {l : List UInt8} (h : (dec l).2.2 = 0) : chk (dec l).1 = 0 ∧ cod (dec l).1 = l.take (dec l).2.1 ∧ (dec l).2.1 ≤ l.length := by
  unfold dec at h ⊢
  split
  · rename_i h1; rw [if_pos h1] at h; exact absurd (by simpa using h) h1
  rename_i h1
  rw [if_neg h1] at h
  split
  · rename_i h2; rw [if_pos h2] at h; exact absurd h (by decide)
  rename_i h2
  rw [if_neg h2] at h
  split
  · rename_i h3; rw [if_pos h3] at h; exact absurd h (by decide)
  rename_i h3
  rw [if_neg h3] at h
  split
  · rename_i h4; rw [if_pos h4] at h; exact absurd h (by decide)
  rename_i h4
  rw [if_neg h4] at h
  split
  · rename_i h5; rw [if_pos h5] at h; exact absurd h (by decide)
  rename_i h5
  rw [if_neg h5] at h
  split
  · rename_i h6; rw [if_pos h6] at h; exact absurd h (by decide)
  rename_i h6
  have hc := Classical.byContradiction h6
  refine ⟨hc, ?_, by show (rt l 1024).2.1 + 4 ≤ _; omega⟩
  have h10 : (rt l 1024).2.2 = 0 := Classical.byContradiction h1
  have ho := rt_one (l := l) (most := 1024) (x := (rt l 1024).1) (n := (rt l 1024).2.1) (by rw [← h10])
  have hp := parts_one (okB_iff.1 (Bool.not_eq_false _ |>.mp h5))
  have hbod : bod (recOf (at' (rt l 1024).1 0) ((rt l 1024).1.drop 1)) = (rt l 1024).1 := by
    obtain ⟨B, hB⟩ : ∃ B, (rt l 1024).1 = B := ⟨_, rfl⟩
    rw [hB] at hp h4 ⊢
    match B, h4 with
    | [], h4 => exact absurd rfl h4
    | c :: r, _ =>
      rw [show (c :: r).drop 1 = r from rfl] at hp
      rw [show (c :: r).drop 1 = r from rfl]
      unfold bod body recOf p1 p2 p3 p4
      simp only [Int.toNat_natCast, at_zero, UInt8.ofNat_toNat]
      rw [hp]
  show cod _ = l.take ((rt l 1024).2.1 + 4)
  unfold cod
  rw [hbod, ho.1, ← Classical.byContradiction h3, List.take_add]

/-! one turned bit -/
theorem one_bit {f g : Nat → Nat} (hf : ∀ j, f j < 2) (hg : ∀ j, g j < 2) {j : Nat} (h : ∀ i, f i ^^^ g i = if i = j then 1 else 0) {N : Nat} (hN : j < N) : reg f N ≠ reg g N := by
  have hpre : ∀ n, n ≤ j → reg f n ^^^ reg g n = 0 := by
    intro n
    induction n with
    | zero => intro _; simp [reg]
    | succ n ih =>
      intro hn
      rw [diff_step, ih (by omega), h, if_neg (by omega)]
      rfl
  have hend : ∀ n, reg f (j + 1 + n) ^^^ reg g (j + 1 + n) ≠ 0 := by
    intro n
    induction n with
    | zero =>
      rw [Nat.add_zero, diff_step, hpre j (Nat.le_refl _), h, if_pos rfl]
      decide
    | succ n ih =>
      intro e
      rw [← Nat.add_assoc, diff_step, h, if_neg (by omega), Nat.xor_zero] at e
      exact ih (Z_zero (Nat.xor_lt_two_pow (n := 32) (reg_lt hf _) (reg_lt hg _)) e)
  intro e
  have := hend (N - (j + 1))
  rw [show j + 1 + (N - (j + 1)) = N from by omega, e, Nat.xor_self] at this
  exact this rfl
theorem flip_sum {l : List UInt8} {j : Nat} (h : j < 8 * l.length) : crc (flip l j) ≠ crc l := by
  have := one_bit (f := bitAt l) (g := bitAt (flip l j)) (bitAt_lt l) (bitAt_lt _) (j := j) (fun i => by
    have b0 := bitAt_lt l i
    rw [xor_01 b0 (bitAt_lt _ _), flip_bit (by omega)]
    by_cases e : i = j
    · rw [if_pos e]; omega
    · rw [if_neg e]; omega) h
  have r0 := reg_lt (bitAt_lt l) (8 * l.length)
  have r1 := reg_lt (bitAt_lt (flip l j)) (8 * l.length)
  unfold crc
  rw [flip_len]
  omega
theorem flip_ne {l : List UInt8} {j : Nat} (h : j < 8 * l.length) : flip l j ≠ l := fun e => flip_sum h (by rw [e])
theorem flip_right {a b : List UInt8} {j : Nat} : flip (a ++ b) (8 * a.length + j) = a ++ flip b j := by
  unfold flip
  rw [show (8 * a.length + j) / 8 = a.length + j / 8 from by omega, show (8 * a.length + j) % 8 = j % 8 from by omega]
  have e : at' (a ++ b) (a.length + j / 8) = at' b (j / 8) := by
    unfold at'
    rw [List.getElem?_append_right (by omega), show a.length + j / 8 - a.length = j / 8 from by omega]
  rw [e, List.set_append_right _ _ (by omega), show a.length + j / 8 - a.length = j / 8 from by omega]
theorem flip_left {a b : List UInt8} {j : Nat} (h : j < 8 * a.length) : flip (a ++ b) j = flip a j ++ b := by
  unfold flip
  rw [at_append_left (by omega), List.set_append_left _ _ (by omega)]
theorem dec_sum {B S : List UInt8} (hb : B.length ≤ 1024) (hs : S.length = 4) (hne : S ≠ le4 (crc B)) : (dec (txt B ++ S)).2.2 = 7 := by
  unfold dec
  rw [rt_at hb]
  simp only []
  rw [if_neg (by simp), if_neg (by rw [List.length_append, hs]; omega), if_pos (by rw [List.drop_left, List.take_of_length_le (by omega)]; exact hne)]
theorem le4_inj {a b : Nat} (ha : a < 4294967296) (hb : b < 4294967296) (h : le4 a = le4 b) : a = b := by
  have h1 := num4_le4 ha []
  have h2 := num4_le4 hb []
  rw [h] at h1
  exact h1.symm.trans h2
theorem rd_cod {r : Rec} (h : chk r = 0) : rd (cod r) = ((bod r).length, (enc (bod r).length).length, 0) := by
  have hb := bod_len h
  unfold cod txt
  rw [List.append_assoc]
  exact rd_enc (by omega) _
theorem dec_turned {r : Rec} {i : Nat} (h : chk r = 0) (hi : i < 8 * ((cod r).length - (enc (bod r).length).length)) : (dec (flip (cod r) (8 * (enc (bod r).length).length + i))).2.2 = 7 := by
  have hb := bod_len h
  rw [cod_len] at hi
  have e : cod r = enc (bod r).length ++ (bod r ++ le4 (crc (bod r))) := by unfold cod txt; rw [List.append_assoc]
  have hl : (txt (bod r)).length = (enc (bod r).length).length + (bod r).length := by unfold txt; rw [List.length_append]
  rw [e, flip_right]
  by_cases hj : i < 8 * (bod r).length
  · rw [flip_left hj]
    have e2 : enc (bod r).length ++ (flip (bod r) i ++ le4 (crc (bod r))) = txt (flip (bod r) i) ++ le4 (crc (bod r)) := by
      unfold txt; rw [flip_len, List.append_assoc]
    rw [e2]
    refine dec_sum (by rw [flip_len]; exact hb.2) rfl (fun q => ?_)
    exact flip_sum hj (le4_inj (crc_lt _) (crc_lt _) q).symm
  · obtain ⟨m, rfl⟩ : ∃ m, i = 8 * (bod r).length + m := ⟨i - 8 * (bod r).length, by omega⟩
    rw [flip_right]
    have e2 : enc (bod r).length ++ (bod r ++ flip (le4 (crc (bod r))) m) = txt (bod r) ++ flip (le4 (crc (bod r))) m := by
      unfold txt; rw [List.append_assoc]
    rw [e2]
    exact dec_sum hb.2 (by rw [flip_len]; rfl) (flip_ne (by rw [le4_len]; omega))
end Go.Proofs.YtohjipnkoiifhagGreatDoor.Pk

namespace Go.Proofs.YtohjipnkoiifhagGreatDoor.Dk
open Go.RowKit

/-- a record -/
structure Rc where
  k : Int
  q : Int
  t : Int
  s : ByteArray
  h : ByteArray
  d : ByteArray
def Rc.pk (r : Rc) : Pk.Rec := ⟨r.k, r.q, r.t, r.s.data.toList, r.h.data.toList, r.d.data.toList⟩
def bt (l : List UInt8) : ByteArray := ⟨l.toArray⟩
theorem bt_list (l : List UInt8) : (bt l).data.toList = l := by simp [bt]
theorem bt_size (l : List UInt8) : (bt l).size = l.length := by simp [bt, ByteArray.size]
theorem bt_of (s : ByteArray) : bt s.data.toList = s := by apply ByteArray.ext; simp [bt]
def rcOf (r : Pk.Rec) : Rc := ⟨r.k, r.q, r.t, bt r.s, bt r.h, bt r.d⟩
theorem rcOf_pk (r : Pk.Rec) : (rcOf r).pk = r := by unfold rcOf Rc.pk; simp only [bt_list]
theorem pk_rcOf (r : Rc) : rcOf r.pk = r := by unfold rcOf Rc.pk; simp only [bt_of]
def rcV (r : Rc) : Value := .agg #[.int .i64 r.k, .int .i64 r.q, .int .i64 r.t, .string r.s, .string r.h, .string r.d]
theorem cod_pos (r : Pk.Rec) : 4 ≤ (Pk.cod r).length := by rw [Pk.cod_len]; omega
theorem dec_pos {l : List UInt8} (h : (Pk.dec l).2.2 = 0) : 1 ≤ (Pk.dec l).2.1 ∧ (Pk.dec l).2.1 ≤ l.length := by
  obtain ⟨_, h2, h3⟩ := Pk.dec_one h
  have := cod_pos (Pk.dec l).1
  rw [h2, List.length_take] at this
  omega
/-- the records at the front of a text, and where they end, if not at its end -/
def scan : Nat → List UInt8 → List Rc × Option Nat
  | 0, _ => ([], none)
  | f + 1, l => if l.length = 0 then ([], none) else if (Pk.dec l).2.2 = 0 then (rcOf (Pk.dec l).1 :: (scan f (l.drop (Pk.dec l).2.1)).1, (scan f (l.drop (Pk.dec l).2.1)).2.map (· + (Pk.dec l).2.1)) else ([], some 0)
theorem scan_nil (f : Nat) : scan f [] = ([], none) := by cases f <;> rfl
theorem scan_ok {f : Nat} {l : List UInt8} (h0 : l.length ≠ 0) (h : (Pk.dec l).2.2 = 0) : scan (f + 1) l = (rcOf (Pk.dec l).1 :: (scan f (l.drop (Pk.dec l).2.1)).1, (scan f (l.drop (Pk.dec l).2.1)).2.map (· + (Pk.dec l).2.1)) := by
  rw [scan, if_neg h0, if_pos h]
theorem scan_bad {f : Nat} {l : List UInt8} (h0 : l.length ≠ 0) (h : (Pk.dec l).2.2 ≠ 0) : scan (f + 1) l = ([], some 0) := by
  rw [scan, if_neg h0, if_neg h]
theorem scan_le : ∀ (f : Nat) (l : List UInt8) (k : Nat), (scan f l).2 = some k → k ≤ l.length
  | 0, _, _, h => by cases h
  | f + 1, l, k, h => by
    by_cases h0 : l.length = 0
    · rw [scan, if_pos h0] at h; cases h
    · by_cases hd : (Pk.dec l).2.2 = 0
      · rw [scan_ok h0 hd] at h
        cases hs : (scan f (l.drop (Pk.dec l).2.1)).2 with
        | none => rw [hs] at h; cases h
        | some j =>
          rw [hs] at h
          have := scan_le f _ j hs
          have := (dec_pos hd).2
          rw [List.length_drop] at *
          simp at h
          omega
      · rw [scan_bad h0 hd] at h
        cases h
        exact Nat.zero_le _
theorem scan_len : ∀ (f : Nat) (l : List UInt8), (scan f l).1.length ≤ l.length
  | 0, _ => Nat.zero_le _
  | f + 1, l => by
    by_cases h0 : l.length = 0
    · rw [scan, if_pos h0]; exact Nat.zero_le _
    · by_cases hd : (Pk.dec l).2.2 = 0
      · rw [scan_ok h0 hd, List.length_cons]
        have := scan_len f (l.drop (Pk.dec l).2.1)
        have := dec_pos hd
        rw [List.length_drop] at *
        omega
      · rw [scan_bad h0 hd]; exact Nat.zero_le _
/-- what was read of a text so far: rs, up to a place -/
def Read (l : List UInt8) (at' : Nat) (rs : List Rc) : Prop := ∃ f, l.length ≤ at' + f ∧ scan l.length l = (rs ++ (scan f (l.drop at')).1, (scan f (l.drop at')).2.map (· + at'))
theorem Read.start (l : List UInt8) : Read l 0 [] := ⟨l.length, by omega, by
  rw [List.drop_zero, List.nil_append]
  cases h : (scan l.length l).2 <;> simp [← h]⟩
theorem Read.done {l : List UInt8} {p : Nat} {rs : List Rc} (h : Read l p rs) (hp : ¬ p < l.length) : scan l.length l = (rs, none) := by
  obtain ⟨f, _, h⟩ := h
  rw [List.drop_eq_nil_of_le (by omega), scan_nil] at h
  simpa using h
theorem Read.step {l : List UInt8} {p : Nat} {rs : List Rc} (h : Read l p rs) (hp : p < l.length) (hd : (Pk.dec (l.drop p)).2.2 = 0) : Read l (p + (Pk.dec (l.drop p)).2.1) (rs ++ [rcOf (Pk.dec (l.drop p)).1]) := by
  obtain ⟨f, hf, h⟩ := h
  have h0 : (l.drop p).length ≠ 0 := by rw [List.length_drop]; omega
  have hpos := dec_pos hd
  cases f with
  | zero => omega
  | succ f =>
    rw [scan_ok h0 hd, List.drop_drop] at h
    refine ⟨f, by omega, ?_⟩
    rw [h, List.append_assoc, List.singleton_append]
    congr 1
    cases (scan f (l.drop (p + (Pk.dec (l.drop p)).2.1))).2 with
    | none => rfl
    | some j => simp; omega
theorem Read.bad {l : List UInt8} {p : Nat} {rs : List Rc} (h : Read l p rs) (hp : p < l.length) (hd : (Pk.dec (l.drop p)).2.2 ≠ 0) : scan l.length l = (rs, some p) := by
  obtain ⟨f, hf, h⟩ := h
  have h0 : (l.drop p).length ≠ 0 := by rw [List.length_drop]; omega
  cases f with
  | zero => omega
  | succ f =>
    rw [scan_bad h0 hd] at h
    simpa using h
theorem Read.len {l : List UInt8} {p : Nat} {rs : List Rc} (h : Read l p rs) : rs.length ≤ l.length := by
  obtain ⟨f, _, h⟩ := h
  have := scan_len l.length l
  rw [h, List.length_append] at this
  omega
def scanT (t : ByteArray) : List Rc × Option Nat := scan t.data.toList.length t.data.toList
/-- Open: the records that are told; what is left of the files -/
def openL : List Pap → List Rc × List Pap
  | [] => ([], [])
  | e :: r => match (scanT e.text).2 with
    | none => ((scanT e.text).1 ++ (openL r).1, e :: (openL r).2)
    | some k => ((scanT e.text).1, [cutP e k])
theorem openL_whole {e : Pap} {r : List Pap} {rs : List Rc} (h : scanT e.text = (rs, none)) : openL (e :: r) = (rs ++ (openL r).1, e :: (openL r).2) := by
  rw [openL, h]
theorem openL_cut {e : Pap} {r : List Pap} {rs : List Rc} {k : Nat} (h : scanT e.text = (rs, some k)) : openL (e :: r) = (rs, [cutP e k]) := by
  rw [openL, h]
/-- what was read of the files so far: acc, of the first i -/
def Reads (es : List Pap) (i : Nat) (acc : List Rc) : Prop := openL es = (acc ++ (openL (es.drop i)).1, es.take i ++ (openL (es.drop i)).2)
theorem Reads.start (es : List Pap) : Reads es 0 [] := by unfold Reads; simp
theorem drop_pa {es : List Pap} {i : Nat} (h : i < es.length) : es.drop i = pa es i :: es.drop (i + 1) := by rw [pa_get h, ← List.drop_eq_getElem_cons h]
theorem take_pa {es : List Pap} {i : Nat} (h : i < es.length) : es.take (i + 1) = es.take i ++ [pa es i] := by rw [List.take_succ_eq_append_getElem h, pa_get h]
theorem Reads.step {es : List Pap} {i : Nat} {acc rs : List Rc} (h : Reads es i acc) (hi : i < es.length) (hs : scanT (pa es i).text = (rs, none)) : Reads es (i + 1) (acc ++ rs) := by
  unfold Reads at h ⊢
  rw [h, drop_pa hi, openL_whole hs, take_pa hi]
  simp
theorem Reads.done {es : List Pap} {i : Nat} {acc : List Rc} (h : Reads es i acc) (hi : ¬ i < es.length) : openL es = (acc, es) := by
  unfold Reads at h
  rw [h, List.drop_eq_nil_of_le (by omega), List.take_of_length_le (by omega)]
  simp [openL]
theorem Reads.bad {es : List Pap} {i k : Nat} {acc rs : List Rc} (h : Reads es i acc) (hi : i < es.length) (hs : scanT (pa es i).text = (rs, some k)) : openL es = (acc ++ rs, es.take i ++ [cutP (pa es i) k]) := by
  unfold Reads at h
  rw [h, drop_pa hi, openL_cut hs]
theorem scanT_le {t : ByteArray} {k : Nat} (h : (scanT t).2 = some k) : k ≤ t.size := by
  have := scan_le _ _ _ h
  simpa using this
theorem scanT_len (t : ByteArray) : (scanT t).1.length ≤ t.size := by
  have := scan_len t.data.toList.length t.data.toList
  unfold scanT
  simpa using this
theorem openL_len : ∀ es : List Pap, (openL es).1.length ≤ used es
  | [] => Nat.zero_le _
  | e :: r => by
    have h1 := scanT_len e.text
    rw [used_cons]
    cases hs : scanT e.text with
    | mk rs o =>
      rw [hs] at h1
      cases o with
      | none =>
        rw [openL_whole hs, List.length_append]
        have := openL_len r
        simp only at h1
        omega
      | some k => rw [openL_cut hs]; simp only at h1 ⊢; omega
theorem openL_keeps : ∀ es : List Pap, (numL (openL es).2).Sublist (numL es) ∧ used (openL es).2 ≤ used es ∧ ∀ x ∈ (openL es).2, ∃ e ∈ es, x = e ∨ ∃ k, k ≤ e.text.size ∧ x = cutP e k
  | [] => ⟨by simp [openL, numL], by simp [openL], by simp [openL]⟩
  | e :: r => by
    cases hs : scanT e.text with
    | mk rs o =>
      cases o with
      | none =>
        rw [openL_whole hs]
        obtain ⟨h1, h2, h3⟩ := openL_keeps r
        refine ⟨?_, ?_, ?_⟩
        · show (e.n :: numL (openL r).2).Sublist (e.n :: numL r)
          exact h1.cons_cons _
        · rw [used_cons, used_cons]; omega
        · intro x hx
          rcases List.mem_cons.1 hx with rfl | hx
          · exact ⟨x, by simp, .inl rfl⟩
          · obtain ⟨y, hy, hq⟩ := h3 x hx
            exact ⟨y, by simp [hy], hq⟩
      | some k =>
        have hk : k ≤ e.text.size := scanT_le (by rw [hs])
        rw [openL_cut hs]
        refine ⟨?_, ?_, ?_⟩
        · show ([e.n] : List Int).Sublist (e.n :: numL r)
          exact (List.nil_sublist _).cons_cons _
        · rw [used_cons, used_cons, cutP_size hk]; simp [used]; omega
        · intro x hx
          have : x = cutP e k := by simpa using hx
          exact ⟨e, by simp, .inr ⟨k, hk, this⟩⟩
theorem Tidy.opened {m : Int} {es : List Pap} (h : Tidy m es) : Tidy m (openL es).2 := by
  obtain ⟨h1, h2, h3⟩ := openL_keeps es
  refine ⟨?_, ?_, ?_, ?_⟩
  · rw [rise_num]; exact List.Pairwise.sublist h1 ((rise_num es).1 h.rise)
  · have := h1.length_le
    simp only [numL, List.length_map] at this
    have := h.few
    omega
  · have := h.fits; omega
  · intro x hx
    obtain ⟨e, he, hq⟩ := h3 x hx
    have := h.each e he
    rcases hq with rfl | ⟨k, hk, rfl⟩
    · exact this
    · exact ⟨this.1, by show (0 : Int) ≤ (k : Int); omega, by rw [cutP_size hk]; show (k : Int) ≤ (k : Int); omega⟩
/-- the removing of the files behind one -/
theorem rem_mid {A B : List Pap} {x : Pap} (h : Rise (A ++ x :: B)) : remL (A ++ x :: B) x.n = A ++ B := by
  have hi : ix (A ++ x :: B) x.n = A.length := by
    have e : pa (A ++ x :: B) A.length = x := by unfold pa; simp
    refine ix_hit (by simp) (by rw [e]) (fun j hj => ?_)
    rw [beq_eq_false_iff_ne]
    have hm : pa (A ++ x :: B) j ∈ A := by
      have : pa (A ++ x :: B) j = A[j] := by unfold pa; rw [List.getElem?_append_left hj, List.getElem?_eq_getElem hj]; rfl
      rw [this]; exact List.getElem_mem hj
    exact rise_ahead h _ hm
  unfold remL
  rw [hi, if_pos (by simp)]
  simp

/-- what a record is written as -/
def codT (r : Rc) : ByteArray := bt (Pk.cod r.pk)
def chkR (r : Rc) : Int := Pk.chk r.pk
/-- Append: the answer; what becomes of the files -/
def lastP (es : List Pap) : Pap := pa es (es.length - 1)
def fills (es : List Pap) (size : Int) (s : ByteArray) : Bool := decide (0 < (lastP es).text.size) && decide (size < ((lastP es).text.size : Int) + (s.size : Int))
def logR (es : List Pap) (m size : Int) (r : Rc) : Int × List Pap :=
  if chkR r ≠ 0 then (chkR r, es)
  else if es.length = 0 then (appE es m 0 (codT r), appL es m 0 (codT r))
  else if fills es size (codT r) then (appE (syncL es (lastP es).n) m ((lastP es).n + 1) (codT r), appL (syncL es (lastP es).n) m ((lastP es).n + 1) (codT r))
  else (appE es m (lastP es).n (codT r), appL es m (lastP es).n (codT r))
theorem Tidy.logged {m : Int} {es : List Pap} (h : Tidy m es) (size : Int) (r : Rc) : Tidy m (logR es m size r).2 := by
  unfold logR
  split
  · exact h
  · split
    · exact h.app 0 (codT r)
    · split
      · exact (h.sync (lastP es).n).app ((lastP es).n + 1) (codT r)
      · exact h.app (lastP es).n (codT r)
/-- the program's Append: as that, but with an error nothing changes -/
def logP (es : List Pap) (m size : Int) (r : Rc) : Int × List Pap := if (logR es m size r).1 = 0 then logR es m size r else ((logR es m size r).1, es)
theorem logP_ok {es : List Pap} {m size : Int} {r : Rc} (h : (logR es m size r).1 = 0) : logP es m size r = logR es m size r := by unfold logP; rw [if_pos h]
theorem logP_not {es : List Pap} {m size : Int} {r : Rc} (h : (logR es m size r).1 ≠ 0) : logP es m size r = ((logR es m size r).1, es) := by unfold logP; rw [if_neg h]
theorem Tidy.logp {m : Int} {es : List Pap} (h : Tidy m es) (size : Int) (r : Rc) : Tidy m (logP es m size r).2 := by
  unfold logP
  split
  · exact h.logged size r
  · exact h
/-- Sync: of the last file -/
def lsyncL (es : List Pap) : List Pap := if es.length = 0 then es else syncL es (lastP es).n
theorem Tidy.lsync {m : Int} {es : List Pap} (h : Tidy m es) : Tidy m (lsyncL es) := by
  unfold lsyncL
  split
  · exact h
  · exact h.sync _
/-- Rewrite -/
def badOf : List Rc → Int
  | [] => 0
  | r :: l => if chkR r ≠ 0 then chkR r else badOf l
def catT : List Rc → ByteArray
  | [] => ByteArray.empty
  | r :: l => codT r ++ catT l
def nextN (es : List Pap) : Int := if es.length = 0 then 0 else (lastP es).n + 1
def rewR (es : List Pap) (m size : Int) (l : List Rc) : Int × List Pap :=
  if badOf l ≠ 0 then (badOf l, es)
  else if 1 < l.length ∧ size < ((catT l).size : Int) then (8, es)
  else if appE es m (nextN es) (catT l) ≠ 0 then (appE es m (nextN es) (catT l), es)
  else (0, [⟨nextN es, ((catT l).size : Int), catT l⟩])
theorem Tidy.rewritten {m : Int} {es : List Pap} (h : Tidy m es) (size : Int) (l : List Rc) : Tidy m (rewR es m size l).2 := by
  unfold rewR
  split
  · exact h
  · split
    · exact h
    · split
      · exact h
      · rename_i h0
        obtain ⟨hI, hf⟩ := app_ok.1 (Classical.byContradiction h0)
        have hu := full_fits hf
        refine ⟨List.pairwise_singleton _ _, by simp, ?_, ?_⟩
        · simp only [Dk.used]; omega
        · intro e he
          have : e = ⟨nextN es, ((catT l).size : Int), catT l⟩ := by simpa using he
          subst this
          exact ⟨hI, by show (0 : Int) ≤ ((catT l).size : Int); omega, by show ((catT l).size : Int) ≤ ((catT l).size : Int); omega⟩
end Go.Proofs.YtohjipnkoiifhagGreatDoor.Dk

namespace Go.Proofs.YtohjipnkoiifhagGreatDoor.Dk
open Go.RowKit

def rc (l : List Rc) (k : Nat) : Rc := l[k]?.getD ⟨0, 0, 0, ByteArray.empty, ByteArray.empty, ByteArray.empty⟩
theorem rc_get {l : List Rc} {k : Nat} (h : k < l.length) : rc l k = l[k] := by unfold rc; rw [List.getElem?_eq_getElem h]; rfl
/-- the cells of a row of records -/
def celR : List Rc → List Value
  | [] => []
  | r :: l => .int .i64 r.k :: .int .i64 r.q :: .int .i64 r.t :: .string r.s :: .string r.h :: .string r.d :: celR l
theorem celR_length : ∀ l : List Rc, (celR l).length = l.length * 6
  | [] => rfl
  | r :: l => by simp [celR, celR_length l]; omega
theorem celR_append : ∀ a b : List Rc, celR (a ++ b) = celR a ++ celR b
  | [], _ => rfl
  | r :: a, b => by simp [celR, celR_append a b]
theorem celR_one : ∀ (l : List Rc), ∀ v ∈ celR l, v.oneCell' = true
  | [], v, h => by simp [celR] at h
  | r :: l, v, h => by
    simp only [celR, List.mem_cons] at h
    rcases h with h | h | h | h | h | h | h
    · subst h; rfl
    · subst h; rfl
    · subst h; rfl
    · subst h; rfl
    · subst h; rfl
    · subst h; rfl
    · exact celR_one l v h
/-- the six cells of one record -/
structure Six (w : World) (b o : Nat) (r : Rc) : Prop where
  lt : b < w.heap.size
  c0 : w.cell? ⟨b, o, none⟩ = some (.int .i64 r.k)
  c1 : w.cell? ⟨b, o + 1, none⟩ = some (.int .i64 r.q)
  c2 : w.cell? ⟨b, o + 2, none⟩ = some (.int .i64 r.t)
  c3 : w.cell? ⟨b, o + 3, none⟩ = some (.string r.s)
  c4 : w.cell? ⟨b, o + 4, none⟩ = some (.string r.h)
  c5 : w.cell? ⟨b, o + 5, none⟩ = some (.string r.d)
theorem Six.chg {A : Nat → Prop} {w w' : World} {b o : Nat} {r : Rc} (h : Six w b o r) (hc : Chg A w w') (hn : ¬ A b) : Six w' b o r :=
  ⟨Nat.lt_of_lt_of_le h.lt hc.size, by rw [hc.cell (p := ⟨b, o, none⟩) h.lt hn]; exact h.c0, by rw [hc.cell (p := ⟨b, o + 1, none⟩) h.lt hn]; exact h.c1, by rw [hc.cell (p := ⟨b, o + 2, none⟩) h.lt hn]; exact h.c2, by rw [hc.cell (p := ⟨b, o + 3, none⟩) h.lt hn]; exact h.c3, by rw [hc.cell (p := ⟨b, o + 4, none⟩) h.lt hn]; exact h.c4, by rw [hc.cell (p := ⟨b, o + 5, none⟩) h.lt hn]; exact h.c5⟩
theorem Six.below {B : Nat} {w w' : World} {b o : Nat} {r : Rc} (h : Six w b o r) (hb : Below B w w') (hB : b < B) : Six w' b o r :=
  ⟨Nat.lt_of_lt_of_le h.lt hb.size, by rw [hb.cell (p := ⟨b, o, none⟩) hB]; exact h.c0, by rw [hb.cell (p := ⟨b, o + 1, none⟩) hB]; exact h.c1, by rw [hb.cell (p := ⟨b, o + 2, none⟩) hB]; exact h.c2, by rw [hb.cell (p := ⟨b, o + 3, none⟩) hB]; exact h.c3, by rw [hb.cell (p := ⟨b, o + 4, none⟩) hB]; exact h.c4, by rw [hb.cell (p := ⟨b, o + 5, none⟩) hB]; exact h.c5⟩
theorem celR_at : ∀ (l : List Rc) (k : Nat), k < l.length → (celR l)[k * 6]? = some (.int .i64 (rc l k).k) ∧ (celR l)[k * 6 + 1]? = some (.int .i64 (rc l k).q) ∧ (celR l)[k * 6 + 2]? = some (.int .i64 (rc l k).t) ∧ (celR l)[k * 6 + 3]? = some (.string (rc l k).s) ∧ (celR l)[k * 6 + 4]? = some (.string (rc l k).h) ∧ (celR l)[k * 6 + 5]? = some (.string (rc l k).d)
  | [], k, h => absurd h (Nat.not_lt_zero k)
  | r :: l, 0, _ => ⟨rfl, rfl, rfl, rfl, rfl, rfl⟩
  | r :: l, k + 1, h => by
    rw [show (k + 1) * 6 = k * 6 + 1 + 1 + 1 + 1 + 1 + 1 by omega]
    have := celR_at l k (by simpa using h)
    have e : rc (r :: l) (k + 1) = rc l k := rfl
    rw [e]
    refine ⟨?_, ?_, ?_, ?_, ?_, ?_⟩
    · simp only [celR, List.getElem?_cons_succ]; exact this.1
    · rw [show k * 6 + 1 + 1 + 1 + 1 + 1 + 1 + 1 = (k * 6 + 1) + 1 + 1 + 1 + 1 + 1 + 1 by omega]; simp only [celR, List.getElem?_cons_succ]; exact this.2.1
    · rw [show k * 6 + 1 + 1 + 1 + 1 + 1 + 1 + 2 = (k * 6 + 2) + 1 + 1 + 1 + 1 + 1 + 1 by omega]; simp only [celR, List.getElem?_cons_succ]; exact this.2.2.1
    · rw [show k * 6 + 1 + 1 + 1 + 1 + 1 + 1 + 3 = (k * 6 + 3) + 1 + 1 + 1 + 1 + 1 + 1 by omega]; simp only [celR, List.getElem?_cons_succ]; exact this.2.2.2.1
    · rw [show k * 6 + 1 + 1 + 1 + 1 + 1 + 1 + 4 = (k * 6 + 4) + 1 + 1 + 1 + 1 + 1 + 1 by omega]; simp only [celR, List.getElem?_cons_succ]; exact this.2.2.2.2.1
    · rw [show k * 6 + 1 + 1 + 1 + 1 + 1 + 1 + 5 = (k * 6 + 5) + 1 + 1 + 1 + 1 + 1 + 1 by omega]; simp only [celR, List.getElem?_cons_succ]; exact this.2.2.2.2.2
theorem infoR : (Tryz.prog.info? 30).map (fun i => (i.zero, i.size, i.bytes)) = some (some (.agg #[.int .i64 0, .int .i64 0, .int .i64 0, .string ByteArray.empty, .string ByteArray.empty, .string ByteArray.empty]), 6, 72) := by kernel_rfl
/-- a row of records that is one's own from block B on -/
def ArrR (w : World) (B : Nat) (v : Value) (l : List Rc) : Prop := w.ownsRow B 30 6 v l.length (celR l)
theorem ArrR.empty (w : World) (B : Nat) : ArrR w B (.slice none 0 0) [] := World.ownsRow_nil w B _ 6
theorem ArrR.chg {A : Nat → Prop} {w w' : World} {B : Nat} {v : Value} {l : List Rc} (h : ArrR w B v l) (hb : Chg A w w') (hn : ∀ g, v.ownBlock = some g → ¬ A g) : ArrR w' B v l := by
  refine ⟨h.1, ?_⟩
  rcases h.2 with q | ⟨g, cap, cur, h1, h2, h3, r⟩
  · exact .inl q
  · refine .inr ⟨g, cap, cur, h1, h2, ?_, r⟩
    rw [hb.block g (h.lt g (by rw [h1]; rfl)).2 (hn g (by rw [h1]; rfl))]
    exact h3
theorem ArrR.below {w w' : World} {B : Nat} {v : Value} {l : List Rc} (h : ArrR w B v l) (hb : Below w.heap.size w w') : ArrR w' B v l := h.chg (A := fun _ => False) (Chg.of_below hb) (fun _ _ z => z)
/-- a slice that shows records -/
def SlR (w : World) (a : Option Addr) (l : List Rc) : Prop := ∀ k, k < l.length → ∃ b o, a = some ⟨b, o, none⟩ ∧ Six w b (o + k * 6) (rc l k)
theorem SlR.below {w w' : World} {a : Option Addr} {l : List Rc} (h : SlR w a l) (hb : Below w.heap.size w w') : SlR w' a l := fun k hk => by
  obtain ⟨b, o, h1, h2⟩ := h k hk
  exact ⟨b, o, h1, h2.below hb h2.lt⟩
theorem SlR.chg {A : Nat → Prop} {w w' : World} {a : Option Addr} {l : List Rc} (h : SlR w a l) (hc : Chg A w w') (hn : ∀ p, a = some p → ¬ A p.block) : SlR w' a l := fun k hk => by
  obtain ⟨b, o, h1, h2⟩ := h k hk
  exact ⟨b, o, h1, h2.chg hc (hn _ h1)⟩
theorem ArrR.shape {w : World} {B : Nat} {v : Value} {l : List Rc} (h : ArrR w B v l) : ∃ a cap, v = .slice a l.length cap ∧ l.length ≤ cap ∧ cap ≤ maxLen ∧ SlR w a l := by
  rcases h.2 with ⟨h1, h2⟩ | ⟨g, cap, cur, h1, h2, h3, h4, h5, h6, h7⟩
  · exact ⟨none, 0, by rw [h1, h2], by omega, by simp [maxLen], fun k hk => by omega⟩
  · refine ⟨_, cap, h1, h4, h5, fun k hk => ⟨g, 0, rfl, ?_⟩⟩
    have hl := (h.lt g (by rw [h1]; rfl)).2
    have hat := celR_at l k hk
    rw [h1] at h
    refine ⟨hl, ?_, ?_, ?_, ?_, ?_, ?_⟩
    · rw [World.ownsRow.cellAt h (0 + k * 6) (by omega), Nat.zero_add]; exact hat.1
    · rw [World.ownsRow.cellAt h (0 + k * 6 + 1) (by omega), Nat.zero_add]; exact hat.2.1
    · rw [World.ownsRow.cellAt h (0 + k * 6 + 2) (by omega), Nat.zero_add]; exact hat.2.2.1
    · rw [World.ownsRow.cellAt h (0 + k * 6 + 3) (by omega), Nat.zero_add]; exact hat.2.2.2.1
    · rw [World.ownsRow.cellAt h (0 + k * 6 + 4) (by omega), Nat.zero_add]; exact hat.2.2.2.2.1
    · rw [World.ownsRow.cellAt h (0 + k * 6 + 5) (by omega), Nat.zero_add]; exact hat.2.2.2.2.2
/-- a record in a block of its own -/
theorem six_row (w : World) (r : Rc) : ∀ j u, (celR [r])[j]? = some u → (w.alloc (.cells #[.int .i64 r.k, .int .i64 r.q, .int .i64 r.t, .string r.s, .string r.h, .string r.d] 30)).cell? ((⟨w.heap.size, 0, none⟩ : Addr).add j) = some u := by
  intro j u hj
  rw [Addr.add_lit, Nat.zero_add, cell_of_row _ w.heap.size j _ _ _ (heap_alloc_new w _)]
  simpa [celR] using hj
/-- append of one record onto a row of one's own: where the new row lies -/
theorem append_rec (w : World) (B : Nat) (ty : TypeId) (v : Value) (l fs : List Rc) (ha : ArrR w B v l) (a : Addr) (c : Nat) (hnews : ∀ j u, (celR fs)[j]? = some u → w.cell? (a.add j) = some u) (hl : l.length + fs.length ≤ 1000000) (hB : B ≤ w.heap.size) :
    ∃ v' w', (Builtin.append_ #[22, 22] ty #[v, .slice (some a) fs.length c]).run Tryz.prog w = .ok v' w' ∧ ArrR w' B v' (l ++ fs) ∧ Chg (fun k => v.ownBlock = some k) w w' ∧ ∀ g, v'.ownBlock = some g → v.ownBlock = some g ∨ w.heap.size ≤ g := by
  obtain ⟨i0, hi, hz0, hz1, hz2⟩ := info_parts infoR
  have hlen : (celR fs).length = fs.length * 6 := celR_length fs
  obtain ⟨v', w', hr, h2, h3, h4⟩ := run_append_own (P := Tryz.prog) w B 22 ty 30 i0 _ 6 72 Tryz.underlying22 hi hz0 hz1 hz2 rfl (by omega) v l.length (celR l) ha a fs.length c (celR fs) hlen hnews (celR_one fs) (by unfold maxLen; omega) (by omega) hB
  refine ⟨v', w', hr, ?_, Chg.of_grown h3, fun k hk => ?_⟩
  · unfold ArrR
    rw [List.length_append, celR_append]
    exact h2
  · rcases ha.2 with ⟨rfl, hn⟩ | ⟨g, cap, cur, rfl, hbg, hg, hnc, hcm, hcs, htake⟩
    · by_cases hm : fs.length = 0
      · rw [h4.2 ⟨rfl, hm⟩] at hk; cases hk
      · right
        have hr2 := run_append_nil (P := Tryz.prog) w 22 ty 30 i0 _ Tryz.underlying22 hi hz0 a fs.length c (celR fs) (by rw [hz1]; exact hlen) hnews (by omega) (by omega) (by rw [hz2]; omega)
        rw [hr] at hr2
        cases hr2
        simp only [Value.ownBlock, Option.some.injEq] at hk
        omega
    · by_cases hroom : l.length + fs.length ≤ cap
      · left
        obtain ⟨w2, hr2, _, _⟩ := run_append_fits (P := Tryz.prog) w B 22 ty 30 i0 6 Tryz.underlying22 hi hz1 g l.length cap (celR l) ha a fs.length c (celR fs) hlen hnews (celR_one fs) hroom
        rw [hr] at hr2
        cases hr2
        exact hk
      · right
        have hr2 := run_append_grow (P := Tryz.prog) w 22 ty 30 i0 _ Tryz.underlying22 hi hz0 ⟨g, 0, none⟩ l.length cap (celR l) (by rw [hz1]; exact ha.1) (World.ownsRow.cells ha (g := g) rfl) a fs.length c (celR fs) (by rw [hz1]; exact hlen) hnews (by omega) (by omega) (by rw [hz2]; exact growslice_fits (by omega) (by omega))
        rw [hr] at hr2
        cases hr2
        simp only [Value.ownBlock, Option.some.injEq] at hk
        omega
end Go.Proofs.YtohjipnkoiifhagGreatDoor.Dk

namespace Go.Proofs.YtohjipnkoiifhagGreatDoor.Dk
open Go.RowKit

/-- texts that can be -/
structure Small (r : Rc) : Prop where
  s : r.s.size ≤ 140737488355328
  h : r.h.size ≤ 140737488355328
  d : r.d.size ≤ 140737488355328
theorem Small.of {r : Rc} (hc : chkR r = 0) : Small r := by
  obtain ⟨_, _, _, _, _, _, h1, h2⟩ := Pk.chk_len (r := r.pk) hc
  have e : ∀ x : ByteArray, x.data.toList.length = x.size := fun x => by simp
  simp only [Rc.pk, e] at h1 h2
  exact ⟨by omega, by omega, by omega⟩
theorem Small.dec {l : List UInt8} (h : (Pk.dec l).2.2 = 0) : Small (rcOf (Pk.dec l).1) := Small.of (by unfold chkR; rw [rcOf_pk]; exact (Pk.dec_one h).1)
theorem codT_size {r : Rc} (h : chkR r = 0) : (codT r).size ≤ 1100 := by
  unfold codT
  rw [bt_size, Pk.cod_len]
  have hb := (Pk.bod_len (r := r.pk) h).2
  unfold Pk.txt
  rw [List.length_append]
  have := Pk.enc_few (n := (Pk.bod r.pk).length) (by omega)
  omega
end Go.Proofs.YtohjipnkoiifhagGreatDoor.Dk

namespace Go.Proofs.YtohjipnkoiifhagGreatDoor.Dk
open Go.RowKit

/-- what is asked of the program's log: LH g size says as a disk's own word that at block g there is a log of that size over the disk -/
structure LWorks (Has : World → Nat → Nat → (Nat → Prop) → Int → List Pap → Prop) (LH : Nat → Int → World → Nat → Nat → (Nat → Prop) → Int → List Pap → Prop) : Prop where
  looks : ∀ g size, Looks (LH g size)
  down : ∀ {g size w B q F m es}, LH g size w B q F m es → ∃ F0, Has w B q F0 m es ∧ ∀ k, F0 k → F k
  bad : ∀ {w B q F m es} (size : Int), inI size 1 4096 = false → Has w B q F m es → Tidy m es → m ≤ 65536 → B ≤ w.heap.size →
    Calls Tryz.prog 40 #[.pointer (some ⟨q, 0, none⟩), .int .i64 size] w fun e w' => (∃ a c, e = .returned (.tuple #[.pointer none, .slice a 0 c, .int .i64 1])) ∧ Below B w w'
  good : ∀ {w B q F m es} (size : Int), inI size 1 4096 = true → Has w B q F m es → Tidy m es → m ≤ 65536 → B ≤ w.heap.size →
    Calls Tryz.prog 40 #[.pointer (some ⟨q, 0, none⟩), .int .i64 size] w fun e w' => ∃ g a c F', e = .returned (.tuple #[.pointer (some ⟨g, 0, none⟩), .slice a (openL es).1.length c, .int .i64 0]) ∧ SlR w' a (openL es).1 ∧ (∀ z, a = some z → w.heap.size ≤ z.block ∧ z.block < w'.heap.size ∧ ¬ F' z.block) ∧ LH g size w' B q F' m (openL es).2 ∧ Chg F w w' ∧ ∀ k, F' k → F k ∨ w.heap.size ≤ k
  append : ∀ {g size w B q F m es} (r : Rc), Small r → inI size 1 4096 = true → LH g size w B q F m es → Tidy m es → m ≤ 65536 → B ≤ w.heap.size →
    Calls Tryz.prog 25 #[.pointer (some ⟨g, 0, none⟩), .agg #[.int .i64 r.k, .int .i64 r.q, .int .i64 r.t, .string r.s, .string r.h, .string r.d]] w fun e w' => e = .returned (.int .i64 (logP es m size r).1) ∧ Did (LH g size) w w' B q F m (logP es m size r).2
  sync : ∀ {g size w B q F m es}, inI size 1 4096 = true → LH g size w B q F m es → Tidy m es → m ≤ 65536 → B ≤ w.heap.size →
    Calls Tryz.prog 26 #[.pointer (some ⟨g, 0, none⟩)] w fun e w' => e = .returned (.int .i64 0) ∧ Did (LH g size) w w' B q F m (lsyncL es)
  rewrite : ∀ {g size w B q F m es} (l : List Rc) (a : Option Addr) (c : Nat), SlR w a l → (∀ k, k < l.length → Small (rc l k)) → l.length ≤ 200000 → (∀ z, a = some z → ¬ F z.block) → inI size 1 4096 = true → LH g size w B q F m es → Tidy m es → m ≤ 65536 → B ≤ w.heap.size →
    Calls Tryz.prog 23 #[.pointer (some ⟨g, 0, none⟩), .slice a l.length c] w fun e w' => e = .returned (.int .i64 (rewR es m size l).1) ∧ Did (LH g size) w w' B q F m (rewR es m size l).2
  blocks : ∀ {g size w B q F m es}, inI size 1 4096 = true → LH g size w B q F m es → Tidy m es → m ≤ 65536 → B ≤ w.heap.size →
    Calls Tryz.prog 43 #[.pointer (some ⟨g, 0, none⟩)] w fun e w' => ∃ a c, e = .returned (.slice a es.length c) ∧ SlI w' a (numL es) ∧ Did (LH g size) w w' B q F m es
end Go.Proofs.YtohjipnkoiifhagGreatDoor.Dk

namespace Go.Proofs.YtohjipnkoiifhagGreatDoor.Dk
open Go.RowKit

theorem pa_last {es : List Pap} {k : Nat} (h : k + 1 = es.length) : lastP es = pa es k := by unfold lastP; rw [← h]; rfl
theorem logR_bad {es : List Pap} {m size : Int} {r : Rc} (h : chkR r ≠ 0) : logR es m size r = (chkR r, es) := by unfold logR; rw [if_pos h]
theorem logR_first {es : List Pap} {m size : Int} {r : Rc} (h : chkR r = 0) (h0 : es.length = 0) : logR es m size r = (appE es m 0 (codT r), appL es m 0 (codT r)) := by
  unfold logR; rw [if_neg (by rw [h]; simp), if_pos h0]
theorem logR_next {es : List Pap} {m size : Int} {r : Rc} {k : Nat} (h : chkR r = 0) (hk : k + 1 = es.length) (hf : 0 < (pa es k).text.size ∧ size < ((pa es k).text.size : Int) + ((codT r).size : Int)) :
    logR es m size r = (appE (syncL es (pa es k).n) m ((pa es k).n + 1) (codT r), appL (syncL es (pa es k).n) m ((pa es k).n + 1) (codT r)) := by
  unfold logR fills
  rw [pa_last hk, if_neg (by rw [h]; simp), if_neg (by omega), if_pos (by simpa using hf)]
theorem logR_last {es : List Pap} {m size : Int} {r : Rc} {k : Nat} (h : chkR r = 0) (hk : k + 1 = es.length) (hf : ¬ (0 < (pa es k).text.size ∧ size < ((pa es k).text.size : Int) + ((codT r).size : Int))) :
    logR es m size r = (appE es m (pa es k).n (codT r), appL es m (pa es k).n (codT r)) := by
  unfold logR fills
  rw [pa_last hk, if_neg (by rw [h]; simp), if_neg (by omega), if_neg (by simpa using hf)]
theorem SlI.chg {A : Nat → Prop} {w w' : World} {a : Option Addr} {l : List Int} (h : SlI w a l) (hc : Chg A w w') (hn : ∀ q, a = some q → ¬ A q.block) : SlI w' a l := fun k hk => by
  obtain ⟨b, o, h1, h2, h3⟩ := h k hk
  exact ⟨b, o, h1, Nat.lt_of_lt_of_le h2 hc.size, by rw [hc.cell (p := ⟨b, o + k, none⟩) h2 (hn ⟨b, o, none⟩ h1)]; exact h3⟩
theorem Reads.len {es : List Pap} {i : Nat} {acc : List Rc} (h : Reads es i acc) : acc.length ≤ used es := by
  have := openL_len es
  unfold Reads at h
  rw [h, List.length_append] at this
  omega
theorem drop_ext (t : ByteArray) (p : Nat) : (t.extract p t.size).data.toList = t.data.toList.drop p := by
  rw [ByteArray.data_extract, Array.toList_extract]
  simp only [List.extract_eq_take_drop]
  rw [List.take_of_length_le]
  rw [List.length_drop]
  simp
theorem num_nth {es : List Pap} {i : Nat} (h : i < es.length) : nth (numL es) i = (pa es i).n := by
  unfold nth numL
  rw [List.getElem?_map, List.getElem?_eq_getElem h, pa_get h]
  rfl
theorem readV_pa {m : Int} {es : List Pap} (ht : Tidy m es) {i : Nat} (h : i < es.length) : readV es (pa es i).n = .tuple #[.string (pa es i).text, .int .i64 0] := by
  have hi : ix es (pa es i).n = i := by
    refine ix_hit h rfl (fun j hj => ?_)
    have := rise_pa ht.rise hj h
    rw [beq_eq_false_iff_ne]
    omega
  unfold readV
  rw [hi, if_pos h]
theorem cutL_pa {m : Int} {es : List Pap} (ht : Tidy m es) {i k : Nat} (h : i < es.length) (hk : k ≤ (pa es i).text.size) : cutL es (pa es i).n (k : Int) = es.take i ++ cutP (pa es i) k :: es.drop (i + 1) ∧ cutE es (pa es i).n (k : Int) = 0 := by
  have hi : ix es (pa es i).n = i := by
    refine ix_hit h rfl (fun j hj => ?_)
    have := rise_pa ht.rise hj h
    rw [beq_eq_false_iff_ne]
    omega
  have h0 : cutE es (pa es i).n (k : Int) = 0 := cut_ok.2 ⟨by rw [hi]; exact h, by unfold cutOk; rw [hi]; simp [inI]; omega⟩
  refine ⟨?_, h0⟩
  rw [cut_is h0, hi, set_split h, Int.toNat_natCast]
/-- the files behind the one that was cut, on their way -/
theorem rem_step {m : Int} {es : List Pap} (ht : Tidy m es) {i j k : Nat} (hi : i < j) (hj : j < es.length) : remL (es.take i ++ cutP (pa es i) k :: es.drop j) (pa es j).n = es.take i ++ cutP (pa es i) k :: es.drop (j + 1) := by
  rw [drop_pa hj]
  have hr : Rise ((es.take i ++ [cutP (pa es i) k]) ++ pa es j :: es.drop (j + 1)) := by
    rw [rise_num]
    have e : numL ((es.take i ++ [cutP (pa es i) k]) ++ pa es j :: es.drop (j + 1)) = numL (es.take (i + 1) ++ es.drop j) := by
      rw [take_pa (by omega), ← drop_pa hj]
      simp [numL, cutP]
    rw [e]
    have hs : (es.take (i + 1) ++ es.drop j).Sublist es := by
      conv => rhs; rw [← List.take_append_drop (i + 1) es]
      refine List.Sublist.append (List.Sublist.refl _) ?_
      rw [show j = (i + 1) + (j - (i + 1)) by omega, ← List.drop_drop]
      exact List.drop_sublist _ _
    exact List.Pairwise.sublist (hs.map _) ((rise_num es).1 ht.rise)
  have := rem_mid hr
  rw [List.append_assoc, List.append_assoc] at this
  simpa using this
theorem catT_append : ∀ a b : List Rc, catT (a ++ b) = catT a ++ catT b
  | [], b => by simp [catT]
  | r :: a, b => by rw [List.cons_append, catT, catT, catT_append a b, ByteArray.append_assoc]
theorem rtake {l : List Rc} {k : Nat} (h : k < l.length) : l.take (k + 1) = l.take k ++ [rc l k] := by rw [List.take_succ_eq_append_getElem h, rc_get h]
theorem catT_take {l : List Rc} {k : Nat} (h : k < l.length) : catT (l.take (k + 1)) = catT (l.take k) ++ codT (rc l k) := by
  rw [rtake h, catT_append]
  simp [catT]
theorem badOf_append : ∀ a b : List Rc, badOf (a ++ b) = if badOf a ≠ 0 then badOf a else badOf b
  | [], b => by simp [badOf]
  | r :: a, b => by
    rw [List.cons_append, badOf, badOf, badOf_append a b]
    by_cases h : chkR r ≠ 0
    · rw [if_pos h, if_pos h, if_pos h]
    · rw [if_neg h, if_neg h]
theorem badOf_take {l : List Rc} {k : Nat} (h : k < l.length) (h0 : badOf (l.take k) = 0) : badOf (l.take (k + 1)) = chkR (rc l k) := by
  rw [rtake h, badOf_append, if_neg (by rw [h0]; simp)]
  simp only [badOf]
  by_cases hc : chkR (rc l k) ≠ 0
  · rw [if_pos hc]
  · rw [if_neg hc]; exact (Classical.byContradiction hc).symm
theorem badOf_found {l : List Rc} {k : Nat} (h : k < l.length) (h0 : badOf (l.take k) = 0) (hc : chkR (rc l k) ≠ 0) : badOf l = chkR (rc l k) := by
  conv => lhs; rw [← List.take_append_drop (k + 1) l]
  rw [badOf_append, badOf_take h h0, if_pos hc]
theorem catT_size : ∀ l : List Rc, badOf l = 0 → (catT l).size ≤ 1100 * l.length
  | [], _ => by simp [catT]
  | r :: l, h => by
    rw [badOf] at h
    split at h
    · rename_i hc; exact absurd h hc
    · rename_i hc
      have h1 := codT_size (r := r) (Classical.byContradiction hc)
      have h2 := catT_size l h
      rw [catT, ByteArray.size_append, List.length_cons]
      omega
theorem rewR_bad {es : List Pap} {m size : Int} {l : List Rc} {E : Int} (h : badOf l = E) (h0 : E ≠ 0) : rewR es m size l = (E, es) := by unfold rewR; rw [h, if_pos h0]
theorem rewR_large {es : List Pap} {m size : Int} {l : List Rc} (h : badOf l = 0) (h1 : 1 < l.length ∧ size < ((catT l).size : Int)) : rewR es m size l = (8, es) := by
  unfold rewR; rw [if_neg (by rw [h]; simp), if_pos h1]
theorem rewR_full {es : List Pap} {m size : Int} {l : List Rc} (h : badOf l = 0) (h1 : ¬ (1 < l.length ∧ size < ((catT l).size : Int))) (h2 : appE es m (nextN es) (catT l) ≠ 0) : rewR es m size l = (appE es m (nextN es) (catT l), es) := by
  unfold rewR; rw [if_neg (by rw [h]; simp), if_neg h1, if_pos h2]
theorem rewR_ok {es : List Pap} {m size : Int} {l : List Rc} (h : badOf l = 0) (h1 : ¬ (1 < l.length ∧ size < ((catT l).size : Int))) (h2 : appE es m (nextN es) (catT l) = 0) : rewR es m size l = (0, [⟨nextN es, ((catT l).size : Int), catT l⟩]) := by
  unfold rewR; rw [if_neg (by rw [h]; simp), if_neg h1, if_neg (by rw [h2]; simp)]
theorem next_first {es : List Pap} (h : es.length = 0) : nextN es = 0 := by unfold nextN; rw [if_pos h]
theorem next_last {es : List Pap} {k : Nat} (h : k + 1 = es.length) : nextN es = (pa es k).n + 1 := by unfold nextN; rw [if_neg (by omega), pa_last h]
theorem ix_num (es : List Pap) (n : Int) : ix es n = (numL es).findIdx (fun k => k == n) := by
  unfold ix numL
  rw [List.findIdx_map]
  rfl
theorem num_length (es : List Pap) : (numL es).length = es.length := by unfold numL; rw [List.length_map]
theorem appE_like {es es' : List Pap} (h1 : numL es' = numL es) (h2 : used es' = used es) (m n : Int) (s : ByteArray) : appE es' m n s = appE es m n s := by
  have hl : es'.length = es.length := by rw [← num_length, h1, num_length]
  unfold appE full
  rw [ix_num, ix_num, h1, h2, hl]
theorem appE_sync (es : List Pap) (k m n : Int) (s : ByteArray) : appE (syncL es k) m n s = appE es m n s := by
  unfold syncL
  split
  · rename_i h
    have hu := used_set h (syncP (pa es (ix es k)))
    refine appE_like (es' := es.set (ix es k) (syncP (pa es (ix es k)))) (numL_set h rfl) ?_ m n s
    have e : (syncP (pa es (ix es k))).text = (pa es (ix es k)).text := rfl
    rw [e] at hu
    omega
  · rfl
theorem appE_lsync (es : List Pap) (m n : Int) (s : ByteArray) : appE (lsyncL es) m n s = appE es m n s := by
  unfold lsyncL
  split
  · rfl
  · exact appE_sync _ _ _ _ _
theorem lsync_nil {es : List Pap} (h : es.length = 0) : lsyncL es = es := by unfold lsyncL; rw [if_pos h]
/-- the number of the last file; -1 where there is none -/
def lastN (es : List Pap) : Int := if es.length = 0 then -1 else (lastP es).n
theorem lastN_none {es : List Pap} (h : es.length = 0) : lastN es = -1 := by unfold lastN; rw [if_pos h]
theorem lastN_some {es : List Pap} {k : Nat} (h : k + 1 = es.length) : lastN es = (pa es k).n := by unfold lastN; rw [if_neg (by omega), pa_last h]
theorem next_lastN (es : List Pap) : nextN es = lastN es + 1 := by
  unfold nextN lastN
  split <;> simp
/-- a text that is put into a new file behind the last one: with an error nothing changes -/
def begL (es : List Pap) (m : Int) (s : ByteArray) : List Pap := if appE es m (nextN es) s = 0 then appL (lsyncL es) m (nextN es) s else es
theorem begL_ok {es : List Pap} {m : Int} {s : ByteArray} (h : appE es m (nextN es) s = 0) : begL es m s = appL (lsyncL es) m (nextN es) s := by unfold begL; rw [if_pos h]
theorem begL_not {es : List Pap} {m : Int} {s : ByteArray} (h : appE es m (nextN es) s ≠ 0) : begL es m s = es := by unfold begL; rw [if_neg h]
theorem logP_bad {es : List Pap} {m size : Int} {r : Rc} (h : chkR r ≠ 0) : logP es m size r = (chkR r, es) := by
  have e := logR_bad (es := es) (m := m) (size := size) h
  rw [logP_not (by rw [e]; exact h), e]
theorem logP_begin {es : List Pap} {m size : Int} {r : Rc} (h : chkR r = 0) (hb : es.length = 0 ∨ fills es size (codT r) = true) : logP es m size r = (appE es m (nextN es) (codT r), begL es m (codT r)) := by
  by_cases h0 : es.length = 0
  · have e := logR_first (m := m) (size := size) h h0
    have hn := next_first h0
    have hs := lsync_nil h0
    by_cases ha : appE es m 0 (codT r) = 0
    · rw [logP_ok (by rw [e]; exact ha), e, begL_ok (by rw [hn]; exact ha), hn, hs]
    · rw [logP_not (by rw [e]; exact ha), e, begL_not (by rw [hn]; exact ha), hn]
  · have hf : fills es size (codT r) = true := by
      rcases hb with y | y
      · exact absurd y h0
      · exact y
    have e : logR es m size r = (appE es m (nextN es) (codT r), appL (lsyncL es) m (nextN es) (codT r)) := by
      unfold logR lsyncL nextN
      rw [if_neg (by rw [h]; simp), if_neg h0, if_pos hf, if_neg h0, if_neg h0, appE_sync]
    by_cases ha : appE es m (nextN es) (codT r) = 0
    · rw [logP_ok (by rw [e]; exact ha), e, begL_ok ha]
    · rw [logP_not (by rw [e]; exact ha), e, begL_not ha]
theorem logP_last {es : List Pap} {m size : Int} {r : Rc} (h : chkR r = 0) (h0 : es.length ≠ 0) (hf : fills es size (codT r) = false) : logP es m size r = (appE es m (lastP es).n (codT r), appL es m (lastP es).n (codT r)) := by
  have e : logR es m size r = (appE es m (lastP es).n (codT r), appL es m (lastP es).n (codT r)) := by
    unfold logR
    rw [if_neg (by rw [h]; simp), if_neg h0, if_neg (by rw [hf]; simp)]
  by_cases ha : appE es m (lastP es).n (codT r) = 0
  · rw [logP_ok (by rw [e]; exact ha), e]
  · rw [logP_not (by rw [e]; exact ha), e, app_not ha]
/-- files that are removed one by one, the last one first -/
theorem rem_rev (post : List Pap) : ∀ (k : Nat) (pre mid : List Pap), mid.length = k → Rise (pre ++ mid ++ post) → (numL mid).reverse.foldl remL (pre ++ mid ++ post) = pre ++ post
  | 0, pre, mid, hk, _ => by
    obtain rfl : mid = [] := List.eq_nil_of_length_eq_zero hk
    simp [numL]
  | k + 1, pre, mid, hk, hr => by
    obtain ⟨mid', e, rfl⟩ : ∃ mid' e, mid = mid' ++ [e] := ⟨mid.dropLast, mid.getLast (by intro h; rw [h] at hk; simp at hk), (List.dropLast_concat_getLast _).symm⟩
    have e1 : pre ++ (mid' ++ [e]) ++ post = (pre ++ mid') ++ e :: post := by simp
    have e2 : (numL (mid' ++ [e])).reverse = e.n :: (numL mid').reverse := by simp [numL]
    rw [e1] at hr
    rw [e1, e2, List.foldl_cons, rem_mid hr]
    have hr2 : Rise (pre ++ mid' ++ post) := by
      rw [rise_num] at hr ⊢
      refine List.Pairwise.sublist ?_ hr
      unfold numL
      refine List.Sublist.map _ ?_
      rw [List.append_assoc (bs := mid') (cs := post)]
      rw [List.append_assoc]
      exact (List.Sublist.refl _).append ((List.Sublist.refl _).append (List.sublist_cons_self _ _))
    exact rem_rev post k pre mid' (by simpa using hk) hr2
theorem Tidy.rems {m : Int} : ∀ (l : List Int) {es : List Pap}, Tidy m es → Tidy m (l.foldl remL es)
  | [], _, h => h
  | n :: l, _, h => Tidy.rems l (h.rem n)
end Go.Proofs.YtohjipnkoiifhagGreatDoor.Dk

namespace Go.Proofs.YtohjipnkoiifhagGreatDoor.Dk
open Go.RowKit

structure Lists (Has : World → Nat → Nat → (Nat → Prop) → Int → List Pap → Prop) : Prop where
  list : ∀ {w B q F m es}, Has w B q F m es → Tidy m es → m ≤ 65536 → B ≤ w.heap.size →
    Calls Tryz.prog 78 #[.pointer (some ⟨q, 0, none⟩)] w fun e w' => ∃ a c, e = .returned (.slice a es.length c) ∧ (es.length ≤ c ∧ c ≤ maxLen) ∧ SlI w' a (numL es) ∧ (∀ z, a = some z → w.heap.size ≤ z.block ∧ z.block < w'.heap.size) ∧ Below w.heap.size w w'
  reads : ∀ {w B q F m es} (n : Int), wf n → Has w B q F m es → Tidy m es → m ≤ 65536 → B ≤ w.heap.size →
    Calls Tryz.prog 92 #[.pointer (some ⟨q, 0, none⟩), .int .i64 n] w fun e w' => e = .returned (readV es n) ∧ Below w.heap.size w w'
  tries : ∀ {w B q F m es} (n : Int) (s : ByteArray), Has w B q F m es → Tidy m es → m ≤ 65536 → s.size ≤ 140737488355328 → B ≤ w.heap.size →
    Calls Tryz.prog 79 #[.pointer (some ⟨q, 0, none⟩), .int .i64 n, .string s] w fun e w' => e = .returned (.int .i64 (appE es m n s)) ∧ Below w.heap.size w w'
  drops : ∀ {w B q F m es} (n : Int), wf n → Has w B q F m es → Tidy m es → m ≤ 65536 → B ≤ w.heap.size →
    Calls Tryz.prog 82 #[.pointer (some ⟨q, 0, none⟩), .int .i64 n] w fun e w' => e = .returned (.int .i64 (hasE es n)) ∧ Has w' B q F m (remL es n) ∧ Chg F w w'
/-- blocks that a step has left as they were -/
def Kept (Cs : Nat → Prop) (w w' : World) : Prop := w.heap.size ≤ w'.heap.size ∧ ∀ k, Cs k → w'.heap[k]? = w.heap[k]?
theorem Kept.cell {Cs : Nat → Prop} {w w' : World} (h : Kept Cs w w') {C j : Nat} (hC : Cs C) : w'.cell? ⟨C, j, none⟩ = w.cell? ⟨C, j, none⟩ := World.cell?_of_block (w := w) (h.2 C hC)
theorem Kept.nums {Cs : Nat → Prop} {w w' : World} {a : Option Addr} {l : List Int} (h : Kept Cs w w') (s : SlI w a l) (hn : ∀ z, a = some z → Cs z.block) : SlI w' a l := fun k hk => by
  obtain ⟨b, o, h1, h2, h3⟩ := s k hk
  exact ⟨b, o, h1, Nat.lt_of_lt_of_le h2 h.1, by rw [h.cell (hn ⟨b, o, none⟩ h1)]; exact h3⟩
theorem Kept.recs {Cs : Nat → Prop} {w w' : World} {a : Option Addr} {l : List Rc} (h : Kept Cs w w') (s : SlR w a l) (hn : ∀ z, a = some z → Cs z.block) : SlR w' a l := fun k hk => by
  obtain ⟨b, o, h1, h2⟩ := s k hk
  have hb : Cs b := hn _ h1
  exact ⟨b, o, h1, ⟨Nat.lt_of_lt_of_le h2.lt h.1, by rw [h.cell hb]; exact h2.c0, by rw [h.cell hb]; exact h2.c1, by rw [h.cell hb]; exact h2.c2, by rw [h.cell hb]; exact h2.c3, by rw [h.cell hb]; exact h2.c4, by rw [h.cell hb]; exact h2.c5⟩⟩
/-- a disk on its way from w to wr: what it shows now; the blocks Cs are none of its own -/
def Run (Has : World → Nat → Nat → (Nat → Prop) → Int → List Pap → Prop) (Cs : Nat → Prop) (w wr : World) (B q : Nat) (F : Nat → Prop) (m : Int) (es : List Pap) : Prop :=
  ∃ F', Has wr B q F' m es ∧ Chg F w wr ∧ (∀ k, F' k → F k ∨ w.heap.size ≤ k) ∧ ∀ k, Cs k → k < wr.heap.size ∧ ¬ F' k
section
variable {Has : World → Nat → Nat → (Nat → Prop) → Int → List Pap → Prop} {Cs : Nat → Prop} {w wr w' : World} {B q : Nat} {F : Nat → Prop} {m : Int} {es es' : List Pap}
theorem Run.start (h : Has w B q F m es) (hC : ∀ k, Cs k → k < w.heap.size ∧ ¬ F k) : Run Has Cs w w B q F m es := ⟨F, h, Chg.refl _ _, fun _ hk => .inl hk, hC⟩
theorem Run.room (h : Run Has Cs w wr B q F m es) : w.heap.size ≤ wr.heap.size := by
  obtain ⟨F', _, h2, _⟩ := h
  exact h2.size
theorem Run.fewer {Cs' : Nat → Prop} (h : Run Has Cs w wr B q F m es) (hC : ∀ k, Cs' k → Cs k) : Run Has Cs' w wr B q F m es := by
  obtain ⟨F', h1, h2, h3, h4⟩ := h
  exact ⟨F', h1, h2, h3, fun k hk => h4 k (hC k hk)⟩
theorem chg_more {A A' : Nat → Prop} {a b c : World} (h : Chg A a b) (k : Chg A' b c) (hA : ∀ i, i < a.heap.size → A' i → A i) : Chg A a c :=
  ⟨k.os.trans h.os, k.tape.trans h.tape, k.output.trans h.output, Nat.le_trans h.size k.size, fun i hi hn => (k.block i (Nat.lt_of_lt_of_le hi h.size) (fun z => hn (hA i hi z))).trans (h.block i hi hn)⟩
theorem Run.below (H : Works Has) (h : Run Has Cs w wr B q F m es) (hb : Below wr.heap.size wr w') : Run Has Cs w w' B q F m es ∧ Kept Cs wr w' := by
  obtain ⟨F', h1, h2, h3, h4⟩ := h
  exact ⟨⟨F', H.chg (A := fun _ => False) h1 (Chg.of_below hb) (fun _ _ z => z), h2.trans (Chg.of_below hb), h3, fun k hk => ⟨Nat.lt_of_lt_of_le (h4 k hk).1 hb.size, (h4 k hk).2⟩⟩, hb.size, fun k hk => hb.block k (h4 k hk).1⟩
/-- new blocks may be kept -/
theorem Run.mine (H : Works Has) {Cs' : Nat → Prop} (h : Run Has Cs w wr B q F m es) (hb : Below wr.heap.size wr w') (hn : ∀ k, Cs' k → Cs k ∨ wr.heap.size ≤ k ∧ k < w'.heap.size) : Run Has Cs' w w' B q F m es := by
  obtain ⟨F', h1, h2, h3, h4⟩ := h
  refine ⟨F', H.chg (A := fun _ => False) h1 (Chg.of_below hb) (fun _ _ z => z), h2.trans (Chg.of_below hb), h3, fun k hk => ?_⟩
  rcases hn k hk with y | y
  · exact ⟨Nat.lt_of_lt_of_le (h4 k y).1 hb.size, (h4 k y).2⟩
  · exact ⟨y.2, fun z => by have := (H.own h1 k z).2; omega⟩
/-- a block of one's own, new behind w, is written -/
theorem Run.own (H : Works Has) {A Cs' : Nat → Prop} (h : Run Has Cs w wr B q F m es) (hc : Chg A wr w') (hA : ∀ k, A k → Cs k ∧ w.heap.size ≤ k) (hn : ∀ k, Cs' k → Cs k ∨ wr.heap.size ≤ k ∧ k < w'.heap.size) : Run Has Cs' w w' B q F m es := by
  obtain ⟨F', h1, h2, h3, h4⟩ := h
  refine ⟨F', H.chg h1 hc (fun k hk z => (h4 k (hA k z).1).2 hk), chg_more h2 hc (fun i hi z => by have := (hA i z).2; omega), h3, fun k hk => ?_⟩
  rcases hn k hk with y | y
  · exact ⟨Nat.lt_of_lt_of_le (h4 k y).1 hc.size, (h4 k y).2⟩
  · exact ⟨y.2, fun z => by have := (H.own h1 k z).2; omega⟩
theorem Run.didc (h : Run Has Cs w wr B q F m es) {fn : FuncId} {args : Array Value} {Q : Ending → World → Prop}
    (hc : ∀ F', Has wr B q F' m es → (∀ k, Cs k → k < wr.heap.size ∧ ¬ F' k) → Calls Tryz.prog fn args wr fun e w' => Q e w' ∧ Did Has wr w' B q F' m es') :
    Calls Tryz.prog fn args wr fun e w' => Q e w' ∧ Run Has Cs w w' B q F m es' ∧ Kept Cs wr w' := by
  have hr := h.room
  obtain ⟨F', h1, h2, h3, h4⟩ := h
  refine (hc F' h1 h4).mono ?_
  rintro e w' ⟨hq, F2, a1, a2, a3⟩
  refine ⟨hq, ⟨F2, a1, chg_more h2 a2 (fun i hi z => ?_), fun k hk => ?_, fun k hk => ⟨Nat.lt_of_lt_of_le (h4 k hk).1 a2.size, fun z => ?_⟩⟩, a2.size, fun k hk => a2.block k (h4 k hk).1 (h4 k hk).2⟩
  · rcases h3 i z with y | y
    · exact y
    · omega
  · rcases a3 k hk with y | y
    · exact h3 k y
    · exact .inr (Nat.le_trans hr y)
  · rcases a3 k z with y | y
    · exact (h4 k hk).2 y
    · have := (h4 k hk).1; omega
theorem Run.did (h : Run Has Cs w wr B q F m es) {fn : FuncId} {args : Array Value} {Q : Ending → World → Prop}
    (hc : ∀ F', Has wr B q F' m es → Calls Tryz.prog fn args wr fun e w' => Q e w' ∧ Did Has wr w' B q F' m es') :
    Calls Tryz.prog fn args wr fun e w' => Q e w' ∧ Run Has Cs w w' B q F m es' ∧ Kept Cs wr w' := h.didc (fun F' hF _ => hc F' hF)
/-- a call that leaves the disk -/
theorem Run.looks (H : Works Has) (h : Run Has Cs w wr B q F m es) {fn : FuncId} {args : Array Value} {Q : Ending → World → Prop}
    (hc : ∀ F', Has wr B q F' m es → Calls Tryz.prog fn args wr fun e w' => Q e w' ∧ Below wr.heap.size wr w') :
    Calls Tryz.prog fn args wr fun e w' => Q e w' ∧ Run Has Cs w w' B q F m es ∧ Kept Cs wr w' := by
  obtain ⟨F', h1, _⟩ := id h
  refine (hc F' h1).mono ?_
  rintro e w' ⟨hq, hb⟩
  exact ⟨hq, h.below H hb⟩
theorem Run.list (H : Works Has) (HS : Lists Has) (h : Run Has Cs w wr B q F m es) (ht : Tidy m es) (hm : m ≤ 65536) (hB : B ≤ w.heap.size) :
    Calls Tryz.prog 78 #[.pointer (some ⟨q, 0, none⟩)] wr fun e w' => ∃ a c, e = .returned (.slice a es.length c) ∧ (es.length ≤ c ∧ c ≤ maxLen) ∧ SlI w' a (numL es) ∧ Run Has (fun k => Cs k ∨ ∃ z, a = some z ∧ z.block = k) w w' B q F m es ∧ Kept Cs wr w' := by
  have hr := h.room
  have h' := h
  obtain ⟨F', h1, h2, h3, h4⟩ := h'
  refine (HS.list h1 ht hm (Nat.le_trans hB hr)).mono ?_
  rintro e w' ⟨a, c, he, hc, hs, ha, hb⟩
  refine ⟨a, c, he, hc, hs, h.mine H hb (fun k hk => ?_), (h.below H hb).2⟩
  rcases hk with y | ⟨z, hz, rfl⟩
  · exact .inl y
  · exact .inr (ha z hz)
theorem Run.done (h : Run Has Cs w wr B q F m es) : Did Has w wr B q F m es := by
  obtain ⟨F', h1, h2, h3, _⟩ := h
  exact ⟨F', h1, h2, h3⟩
end
/-- a log in a block of its own: the disk, the size -/
def LHof (Has : World → Nat → Nat → (Nat → Prop) → Int → List Pap → Prop) (g : Nat) (size : Int) (w : World) (B q : Nat) (F : Nat → Prop) (m : Int) (es : List Pap) : Prop :=
  ∃ F0, Has w B q F0 m es ∧ (B ≤ g ∧ g < w.heap.size) ∧ ¬ F0 g ∧ w.cell? ⟨g, 0, none⟩ = some (.pointer (some ⟨q, 0, none⟩)) ∧ w.cell? ⟨g, 1, none⟩ = some (.int .i64 size) ∧ ∀ k, F k ↔ F0 k ∨ k = g
section
variable {Has : World → Nat → Nat → (Nat → Prop) → Int → List Pap → Prop} {Cs : Nat → Prop} {w wr w' : World} {B q g : Nat} {size : Int} {F : Nat → Prop} {m : Int} {es es' : List Pap}
/-- what a method of a log begins with, and ends with -/
theorem LHof.begin (h : LHof Has g size w B q F m es) : ∃ F0, Run Has (fun k => k = g) w w B q F0 m es ∧ w.cell? ⟨g, 0, none⟩ = some (.pointer (some ⟨q, 0, none⟩)) ∧ w.cell? ⟨g, 1, none⟩ = some (.int .i64 size) ∧ (∀ k, F0 k → F k) ∧ ∀ wr es', Run Has (fun k => k = g) w wr B q F0 m es' → Did (LHof Has g size) w wr B q F m es' := by
  obtain ⟨F0, h1, h2, h3, h4, h5, h6⟩ := h
  refine ⟨F0, Run.start h1 (fun k hk => by subst hk; exact ⟨h2.2, h3⟩), h4, h5, fun k hk => (h6 k).2 (.inl hk), fun wr es' hr => ?_⟩
  obtain ⟨F', r1, r2, r3, r4⟩ := hr
  have hc : Chg F w wr := r2.mono (fun k _ hk => (h6 k).2 (.inl hk))
  refine ⟨fun k => F' k ∨ k = g, ⟨F', r1, ⟨h2.1, (r4 g rfl).1⟩, (r4 g rfl).2, ?_, ?_, fun k => Iff.rfl⟩, hc, fun k hk => ?_⟩
  · rw [r2.cell (p := ⟨g, 0, none⟩) h2.2 h3]; exact h4
  · rw [r2.cell (p := ⟨g, 1, none⟩) h2.2 h3]; exact h5
  · rcases hk with y | y
    · rcases r3 k y with z | z
      · exact .inl ((h6 k).2 (.inl z))
      · exact .inr z
    · exact .inl ((h6 k).2 (.inr y))
theorem LHof.did (h : LHof Has g size w B q F m es) {fn : FuncId} {args : Array Value} {Q : Ending → World → Prop}
    (hc : ∀ F', Has w B q F' m es → Calls Tryz.prog fn args w fun e w' => Q e w' ∧ Did Has w w' B q F' m es') :
    Calls Tryz.prog fn args w fun e w' => Q e w' ∧ Did (LHof Has g size) w w' B q F m es' := by
  obtain ⟨F0, hr, _, _, _, hfin⟩ := h.begin
  refine (hr.did hc).mono ?_
  rintro e w' ⟨h1, h2, _⟩
  exact ⟨h1, hfin _ _ h2⟩
theorem LHof.down (h : LHof Has g size w B q F m es) : ∃ F0, Has w B q F0 m es ∧ ∀ k, F0 k → F k := by
  obtain ⟨F0, h1, _, _, _, _, h6⟩ := h
  exact ⟨F0, h1, fun k hk => (h6 k).2 (.inl hk)⟩
theorem LHof.looks (H : More Has) (g : Nat) (size : Int) : Looks (LHof Has g size) where
  own := fun h k hk => by
    obtain ⟨F0, h1, h2, _, _, _, h6⟩ := h
    rcases (h6 k).1 hk with y | y
    · exact H.works.own h1 k y
    · subst y; exact h2
  chg := fun h hc hn => by
    obtain ⟨F0, h1, h2, h3, h4, h5, h6⟩ := h
    have hg := hn g ((h6 g).2 (.inr rfl))
    exact ⟨F0, H.works.chg h1 hc (fun k hk => hn k ((h6 k).2 (.inl hk))), ⟨h2.1, Nat.lt_of_lt_of_le h2.2 hc.size⟩, h3, by rw [hc.cell (p := ⟨g, 0, none⟩) h2.2 hg]; exact h4, by rw [hc.cell (p := ⟨g, 1, none⟩) h2.2 hg]; exact h5, h6⟩
  read := fun n hw h ht hm hB => h.did (Q := fun e _ => e = .returned (readV _ n)) (fun F' hF => H.works.read n hw hF ht hm hB)
  used := fun h ht hm hB => h.did (Q := fun e _ => e = .returned (.int .i64 (used _ : Int))) (fun F' hF => H.works.used hF ht hm hB)
  list := fun {w B q F m es} h ht hm hB => (h.did (Q := fun e w' => ∃ a c, e = .returned (.slice a es.length c) ∧ SlI w' a (numL es)) (fun F' hF => (H.list hF ht hm hB).mono (fun e w' ⟨a, c, x, y, z⟩ => ⟨⟨a, c, x, y⟩, z⟩))).mono (fun e w' ⟨⟨a, c, x, y⟩, z⟩ => ⟨a, c, x, y, z⟩)
/-- a log that is made behind a run -/
theorem Run.log {F0 : Nat → Prop} (h : Run Has Cs w wr B q F0 m es) (hC : Cs g) (hB : B ≤ g) (hg : w.heap.size ≤ g) (c0 : wr.cell? ⟨g, 0, none⟩ = some (.pointer (some ⟨q, 0, none⟩))) (c1 : wr.cell? ⟨g, 1, none⟩ = some (.int .i64 size)) :
    ∃ F', LHof Has g size wr B q F' m es ∧ Chg F0 w wr ∧ (∀ k, F' k → F0 k ∨ w.heap.size ≤ k) ∧ ∀ k, Cs k → k ≠ g → ¬ F' k := by
  obtain ⟨F', r1, r2, r3, r4⟩ := h
  refine ⟨fun k => F' k ∨ k = g, ⟨F', r1, ⟨hB, (r4 g hC).1⟩, (r4 g hC).2, c0, c1, fun k => Iff.rfl⟩, r2, fun k hk => ?_, fun k hk hne z => ?_⟩
  · rcases hk with y | y
    · exact r3 k y
    · exact .inr (by omega)
  · rcases z with y | y
    · exact (r4 k hk).2 y
    · exact hne y
end
theorem has_pa {m : Int} {es : List Pap} (ht : Tidy m es) {i : Nat} (h : i < es.length) : hasE es (pa es i).n = 0 := by
  have hi : ix es (pa es i).n = i := by
    refine ix_hit h rfl (fun j hj => ?_)
    have := rise_pa ht.rise hj h
    rw [beq_eq_false_iff_ne]
    omega
  unfold hasE
  rw [hi, if_pos h]
theorem lsync_none {es : List Pap} (h : es.length = 0) : lsyncL es = es := by unfold lsyncL; rw [if_pos h]
theorem lsync_last {es : List Pap} {k : Nat} (h : k + 1 = es.length) : lsyncL es = syncL es (pa es k).n := by unfold lsyncL; rw [if_neg (by omega), pa_last h]
theorem SlI.num {w : World} {a : Option Addr} {es : List Pap} (s : SlI w a (numL es)) {i : Nat} (hi : i < es.length) : ∃ b o, a = some ⟨b, o, none⟩ ∧ b < w.heap.size ∧ w.cell? ⟨b, o + i, none⟩ = some (.int .i64 (pa es i).n) := by
  obtain ⟨b, o, h1, h2, h3⟩ := s i (by unfold numL; rw [List.length_map]; exact hi)
  rw [num_nth hi] at h3
  exact ⟨b, o, h1, h2, h3⟩
end Go.Proofs.YtohjipnkoiifhagGreatDoor.Dk

namespace Go.Proofs.YtohjipnkoiifhagGreatDoor
open Go.RowKit

/-- a record's six cells in a block -/
structure RB (w : World) (b : Nat) (k q t : Int) (s h d : ByteArray) : Prop where
  lt : b < w.heap.size
  c0 : w.cell? ⟨b, 0, none⟩ = some (.int .i64 k)
  c1 : w.cell? ⟨b, 1, none⟩ = some (.int .i64 q)
  c2 : w.cell? ⟨b, 2, none⟩ = some (.int .i64 t)
  c3 : w.cell? ⟨b, 3, none⟩ = some (.string s)
  c4 : w.cell? ⟨b, 4, none⟩ = some (.string h)
  c5 : w.cell? ⟨b, 5, none⟩ = some (.string d)
  fr : ∀ j, w.frozen? ⟨b, j, none⟩ = false
theorem RB.below {w w' : World} {b B : Nat} {k q t : Int} {s h d : ByteArray} (r : RB w b k q t s h d) (hb : Below B w w') (hB : b < B) : RB w' b k q t s h d :=
  ⟨Nat.lt_of_lt_of_le r.lt hb.size, by rw [hb.cell (p := ⟨b, 0, none⟩) hB]; exact r.c0, by rw [hb.cell (p := ⟨b, 1, none⟩) hB]; exact r.c1, by rw [hb.cell (p := ⟨b, 2, none⟩) hB]; exact r.c2, by rw [hb.cell (p := ⟨b, 3, none⟩) hB]; exact r.c3, by rw [hb.cell (p := ⟨b, 4, none⟩) hB]; exact r.c4, by rw [hb.cell (p := ⟨b, 5, none⟩) hB]; exact r.c5, fun j => by rw [hb.frozen (p := ⟨b, j, none⟩) hB]; exact r.fr j⟩
theorem RB.drew {w : World} {b : Nat} {k q t : Int} {s h d : ByteArray} (r : RB w b k q t s h d) : RB w.drew b k q t s h d :=
  r.below (B := w.heap.size) (Below.refl _ _).drew r.lt
theorem RB.alloc {w : World} {b : Nat} {k q t : Int} {s h d : ByteArray} (r : RB w b k q t s h d) (o : Obj) : RB (w.alloc o) b k q t s h d :=
  r.below (B := w.heap.size) ((Below.refl _ _).alloc (Nat.le_refl _) o) r.lt
theorem RB.next {w w' : World} {b : Nat} {k q t : Int} {s h d : ByteArray} (r : RB w b k q t s h d) (hb : Below w.heap.size w w') : RB w' b k q t s h d := r.below hb r.lt
theorem RB.new (w : World) (k q t : Int) (s h d : ByteArray) (T : TypeId) : RB (w.alloc (.cells #[.int .i64 k, .int .i64 q, .int .i64 t, .string s, .string h, .string d] T)) w.heap.size k q t s h d :=
  ⟨by simp, by simp, by simp, by simp, by simp, by simp, by simp, fun j => World.frozen?_alloc_new _ _ _ j⟩
theorem cell_other' (w : World) (p q : Addr) (v : Value) (h : p ≠ q) : (w.setCell p v).cell? q = w.cell? q := by
  first | exact World.cell?_setCell_other _ _ _ _ h | exact World.cell?_setCell_other h
theorem RB.other {w : World} {b c i : Nat} {k q t : Int} {s h d : ByteArray} {v : Value} (r : RB w b k q t s h d) (hc : c ≠ b) : RB (w.setCell ⟨c, i, none⟩ v) b k q t s h d :=
  ⟨by simpa using r.lt, by rw [cell_other' _ _ _ _ (by intro e; injection e; omega)]; exact r.c0, by rw [cell_other' _ _ _ _ (by intro e; injection e; omega)]; exact r.c1, by rw [cell_other' _ _ _ _ (by intro e; injection e; omega)]; exact r.c2,
    by rw [cell_other' _ _ _ _ (by intro e; injection e; omega)]; exact r.c3, by rw [cell_other' _ _ _ _ (by intro e; injection e; omega)]; exact r.c4, by rw [cell_other' _ _ _ _ (by intro e; injection e; omega)]; exact r.c5, fun j => by simpa using r.fr j⟩
theorem same_cell {w : World} {a : Addr} {v u : Value} (h : w.cell? a = some u) : (w.setCell a v).cell? a = some v := World.cell?_setCell_same' _ _ _ (by rw [h]; rfl)
theorem RB.set0 {w : World} {b : Nat} {k q t : Int} {s h d : ByteArray} (r : RB w b k q t s h d) (x : Int) : RB (w.setCell ⟨b, 0, none⟩ (.int .i64 x)) b x q t s h d :=
  ⟨by simpa using r.lt, same_cell r.c0, by rw [cell_other' _ _ _ _ (by intro e; injection e; omega)]; exact r.c1, by rw [cell_other' _ _ _ _ (by intro e; injection e; omega)]; exact r.c2,
    by rw [cell_other' _ _ _ _ (by intro e; injection e; omega)]; exact r.c3, by rw [cell_other' _ _ _ _ (by intro e; injection e; omega)]; exact r.c4, by rw [cell_other' _ _ _ _ (by intro e; injection e; omega)]; exact r.c5, fun j => by simpa using r.fr j⟩
theorem RB.set1 {w : World} {b : Nat} {k q t : Int} {s h d : ByteArray} (r : RB w b k q t s h d) (x : Int) : RB (w.setCell ⟨b, 1, none⟩ (.int .i64 x)) b k x t s h d :=
  ⟨by simpa using r.lt, by rw [cell_other' _ _ _ _ (by intro e; injection e; omega)]; exact r.c0, same_cell r.c1, by rw [cell_other' _ _ _ _ (by intro e; injection e; omega)]; exact r.c2,
    by rw [cell_other' _ _ _ _ (by intro e; injection e; omega)]; exact r.c3, by rw [cell_other' _ _ _ _ (by intro e; injection e; omega)]; exact r.c4, by rw [cell_other' _ _ _ _ (by intro e; injection e; omega)]; exact r.c5, fun j => by simpa using r.fr j⟩
theorem RB.set2 {w : World} {b : Nat} {k q t : Int} {s h d : ByteArray} (r : RB w b k q t s h d) (x : Int) : RB (w.setCell ⟨b, 2, none⟩ (.int .i64 x)) b k q x s h d :=
  ⟨by simpa using r.lt, by rw [cell_other' _ _ _ _ (by intro e; injection e; omega)]; exact r.c0, by rw [cell_other' _ _ _ _ (by intro e; injection e; omega)]; exact r.c1, same_cell r.c2,
    by rw [cell_other' _ _ _ _ (by intro e; injection e; omega)]; exact r.c3, by rw [cell_other' _ _ _ _ (by intro e; injection e; omega)]; exact r.c4, by rw [cell_other' _ _ _ _ (by intro e; injection e; omega)]; exact r.c5, fun j => by simpa using r.fr j⟩
theorem RB.set3 {w : World} {b : Nat} {k q t : Int} {s h d : ByteArray} (r : RB w b k q t s h d) (x : ByteArray) : RB (w.setCell ⟨b, 3, none⟩ (.string x)) b k q t x h d :=
  ⟨by simpa using r.lt, by rw [cell_other' _ _ _ _ (by intro e; injection e; omega)]; exact r.c0, by rw [cell_other' _ _ _ _ (by intro e; injection e; omega)]; exact r.c1, by rw [cell_other' _ _ _ _ (by intro e; injection e; omega)]; exact r.c2,
    same_cell r.c3, by rw [cell_other' _ _ _ _ (by intro e; injection e; omega)]; exact r.c4, by rw [cell_other' _ _ _ _ (by intro e; injection e; omega)]; exact r.c5, fun j => by simpa using r.fr j⟩
theorem RB.set4 {w : World} {b : Nat} {k q t : Int} {s h d : ByteArray} (r : RB w b k q t s h d) (x : ByteArray) : RB (w.setCell ⟨b, 4, none⟩ (.string x)) b k q t s x d :=
  ⟨by simpa using r.lt, by rw [cell_other' _ _ _ _ (by intro e; injection e; omega)]; exact r.c0, by rw [cell_other' _ _ _ _ (by intro e; injection e; omega)]; exact r.c1, by rw [cell_other' _ _ _ _ (by intro e; injection e; omega)]; exact r.c2,
    by rw [cell_other' _ _ _ _ (by intro e; injection e; omega)]; exact r.c3, same_cell r.c4, by rw [cell_other' _ _ _ _ (by intro e; injection e; omega)]; exact r.c5, fun j => by simpa using r.fr j⟩
theorem RB.set5 {w : World} {b : Nat} {k q t : Int} {s h d : ByteArray} (r : RB w b k q t s h d) (x : ByteArray) : RB (w.setCell ⟨b, 5, none⟩ (.string x)) b k q t s h x :=
  ⟨by simpa using r.lt, by rw [cell_other' _ _ _ _ (by intro e; injection e; omega)]; exact r.c0, by rw [cell_other' _ _ _ _ (by intro e; injection e; omega)]; exact r.c1, by rw [cell_other' _ _ _ _ (by intro e; injection e; omega)]; exact r.c2,
    by rw [cell_other' _ _ _ _ (by intro e; injection e; omega)]; exact r.c3, by rw [cell_other' _ _ _ _ (by intro e; injection e; omega)]; exact r.c4, same_cell r.c5, fun j => by simpa using r.fr j⟩
theorem RB.new' (w : World) (b : Nat) (hb : b = w.heap.size) (k q t : Int) (s h d : ByteArray) (T : TypeId) : RB (w.alloc (.cells #[.int .i64 k, .int .i64 q, .int .i64 t, .string s, .string h, .string d] T)) b k q t s h d := by
  subst hb; exact RB.new w k q t s h d T
theorem RB.setAll {w : World} {b : Nat} {k q t : Int} {s h d : ByteArray} (r : RB w b k q t s h d) (k' q' t' : Int) (s' h' d' : ByteArray) :
    RB ((((((w.setCell ⟨b, 0, none⟩ (.int .i64 k')).setCell ⟨b, 1, none⟩ (.int .i64 q')).setCell ⟨b, 2, none⟩ (.int .i64 t')).setCell ⟨b, 3, none⟩ (.string s')).setCell ⟨b, 4, none⟩ (.string h')).setCell ⟨b, 5, none⟩ (.string d')) b k' q' t' s' h' d' :=
  (((((r.set0 k').set1 q').set2 t').set3 s').set4 h').set5 d'
theorem set6_below {w0 W : World} {b : Nat} {v0 v1 v2 v3 v4 v5 : Value} (x : Below w0.heap.size w0 W) (hb : w0.heap.size ≤ b) :
    Below w0.heap.size w0 ((((((W.setCell ⟨b, 0, none⟩ v0).setCell ⟨b, 1, none⟩ v1).setCell ⟨b, 2, none⟩ v2).setCell ⟨b, 3, none⟩ v3).setCell ⟨b, 4, none⟩ v4).setCell ⟨b, 5, none⟩ v5) :=
  (((((x.setCell hb _).setCell hb _).setCell hb _).setCell hb _).setCell hb _).setCell hb _
end Go.Proofs.YtohjipnkoiifhagGreatDoor

namespace Go.Proofs.YtohjipnkoiifhagGreatDoor
open Go.RowKit

def recV (r : Pk.Rec) : Value := .agg #[.int .i64 r.k, .int .i64 r.q, .int .i64 r.t, .string (bs r.s), .string (bs r.h), .string (bs r.d)]
theorem load_rec {w : World} {b : Nat} {k q t : Int} {s h d : ByteArray} (r : RB w b k q t s h d) :
    (loadVar 30 ⟨b, 0, none⟩).run Tryz.prog w = .ok (.agg #[.int .i64 k, .int .i64 q, .int .i64 t, .string s, .string h, .string d]) w := by
  have hl : (loadCells ⟨b, 0, none⟩ 6).run Tryz.prog w = .ok #[.int .i64 k, .int .i64 q, .int .i64 t, .string s, .string h, .string d] w :=
    run_loadCells_list (P := Tryz.prog) w ⟨b, 0, none⟩ [.int .i64 k, .int .i64 q, .int .i64 t, .string s, .string h, .string d] (fun j v hv => by
      rw [addp, Nat.zero_add]
      match j, hv with
      | 0, hv => rw [r.c0]; simpa using hv
      | 1, hv => rw [r.c1]; simpa using hv
      | 2, hv => rw [r.c2]; simpa using hv
      | 3, hv => rw [r.c3]; simpa using hv
      | 4, hv => rw [r.c4]; simpa using hv
      | 5, hv => rw [r.c5]; simpa using hv)
  have hz : Tryz.t30.size = 6 := by kernel_rfl
  simp [loadVar, isAgg, sizeOf]
  rw [hz, hl]
  rfl
theorem results_rec2 {fn : Func} {a u : Tmp} {tmps : Array Value} {w : World} {b : Nat} {k q t : Int} {s h d : ByteArray} (hf : fn.results = #[.cell a 30, .tmp u]) (ha : tmps.getD a undef = .pointer (some ⟨b, 0, none⟩)) (r : RB w b k q t s h d) :
    (results fn tmps).run Tryz.prog w = .ok (.tuple #[.agg #[.int .i64 k, .int .i64 q, .int .i64 t, .string s, .string h, .string d], tmps.getD u undef]) w := by
  have ha' : tmps[a]?.getD undef = .pointer (some ⟨b, 0, none⟩) := by simpa using ha
  simp [results, hf, ha', asAddr, load_rec r]
theorem results_rec3 {fn : Func} {a u v : Tmp} {tmps : Array Value} {w : World} {b : Nat} {k q t : Int} {s h d : ByteArray} (hf : fn.results = #[.cell a 30, .tmp u, .tmp v]) (ha : tmps.getD a undef = .pointer (some ⟨b, 0, none⟩)) (r : RB w b k q t s h d) :
    (results fn tmps).run Tryz.prog w = .ok (.tuple #[.agg #[.int .i64 k, .int .i64 q, .int .i64 t, .string s, .string h, .string d], tmps.getD u undef, tmps.getD v undef]) w := by
  have ha' : tmps[a]?.getD undef = .pointer (some ⟨b, 0, none⟩) := by simpa using ha
  simp [results, hf, ha', asAddr, load_rec r]
end Go.Proofs.YtohjipnkoiifhagGreatDoor

namespace Go.Proofs.YtohjipnkoiifhagGreatDoor
open Go.RowKit

/-- an append whose run is known, as one step of a region that draws -/
theorem step_appendX {P : Program} {ops : Array Oper} {o : Oper} {a : Act} {w : World} {K : Act → World → Prop} {Q : Exit → Act → World → Prop} {E : Prop}
    (hg : o.guard = none) (d x : Operand) (dT sT : TypeId) (hop : o.op = Op.call { callee := Callee.builtin Builtin.append, args := #[d, x], argTypes := #[dT, sT] })
    (v u : Value) (hd : a.eval d = v) (hx : a.eval x = u) {v' : Value} {w' : World} (hr : (Builtin.append_ #[dT, sT] o.type #[v, u]).run P w = .ok v' w') (hK : K (a.put o.dst v') w') :
    if Region.wanted o (yielded ops a.tmps) = true then Oper.wp P o a w K Q else E := by
  have hw : Region.wanted o (yielded ops a.tmps) = true := by simp [Region.wanted, hg]
  rw [if_pos hw]
  unfold Oper.wp
  simp [execOp, hop, resolve, invoke, builtin, hd, hx, hr, Result.andThen]
  exact hK
end Go.Proofs.YtohjipnkoiifhagGreatDoor
