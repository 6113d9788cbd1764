/-
  Plain mathematics of records as bytes: a body out of its parts and the parts out of a body, a sum as four bytes. No program.
  Plain mathematics of a burst: bits of a text that are turned one by one, and PETERSON, BROWN for them. No program.
  Plain mathematics of records: what is wrong with a record, its bytes, the record at the front of bytes; what is written is read as it was, a front of it asks for more, what is read is written as just those bytes, one turned bit is told. No program.
  The document's log: what is read of a disk's files, what an append and a rewriting make of them. No walk, and nothing of the program's own.
-/
import Derived.Test.YtmccpkpeimejhahGreatDoorJointPapMWorksDWorksEPlainN
import Derived.Test.YtmccpkpeimejhahGreatDoorJointBase0RowTmPlainPapPa
namespace Go.Proofs.YtmccpkpeimejhahGreatDoor.Pk

/-! records -/
theorem rt_one {l x : List UInt8} {most : Int} {n : Nat} (h : rt l most = (x, n, 0)) : txt x = l.take n ∧ n ≤ l.length ∧ (x.length : Int) ≤ most := by
  unfold rt at h
  split at h
  · rename_i he; injection h with _ h; injection h with _ h; exact absurd h he
  rename_i he
  have he0 : (rd l).2.2 = 0 := Classical.byContradiction fun q => he q
  obtain ⟨g1, g2, g3, g4, g5⟩ := rd_good he0
  split at h
  · injection h with _ h; injection h with _ h; exact absurd h (by decide)
  rename_i hm
  split at h
  · injection h with _ h; injection h with _ h; exact absurd h (by decide)
  rename_i hl
  injection h with h1 h2
  injection h2 with h2 _
  have hx : x.length = (rd l).1 := by rw [← h1]; simp; omega
  refine ⟨?_, by omega, by omega⟩
  unfold txt
  rw [hx, g1, ← h1, ← h2, List.take_add]
/-- a record's body -/
def body (k q t : Nat) (s h d : List UInt8) : List UInt8 := UInt8.ofNat k :: (enc q ++ (enc t ++ (txt s ++ (txt h ++ txt d))))
def le4 (n : Nat) : List UInt8 := [UInt8.ofNat (n % 256), UInt8.ofNat (n / 256 % 256), UInt8.ofNat (n / 65536 % 256), UInt8.ofNat (n / 16777216 % 256)]
def num4 (l : List UInt8) : Nat := at' l 0 + 256 * at' l 1 + 65536 * at' l 2 + 16777216 * at' l 3
theorem num4_le4 {n : Nat} (h : n < 4294967296) (more : List UInt8) : num4 (le4 n ++ more) = n := by
  unfold num4 le4
  simp only [List.cons_append, at_zero, at_succ, List.nil_append]
  rw [u8_of (by omega), u8_of (by omega), u8_of (by omega), u8_of (by omega)]
  omega
theorem le4_num4 {l : List UInt8} (h : 4 ≤ l.length) : le4 (num4 l) = l.take 4 := by
  match l, h with
  | a :: b :: c :: d :: r, _ =>
    unfold num4 le4
    simp only [at_zero, at_succ]
    have ha := UInt8.toNat_lt a
    have hb := UInt8.toNat_lt b
    have hc := UInt8.toNat_lt c
    have hd := UInt8.toNat_lt d
    rw [show (a.toNat + 256 * b.toNat + 65536 * c.toNat + 16777216 * d.toNat) % 256 = a.toNat from by omega,
      show (a.toNat + 256 * b.toNat + 65536 * c.toNat + 16777216 * d.toNat) / 256 % 256 = b.toNat from by omega,
      show (a.toNat + 256 * b.toNat + 65536 * c.toNat + 16777216 * d.toNat) / 65536 % 256 = c.toNat from by omega,
      show (a.toNat + 256 * b.toNat + 65536 * c.toNat + 16777216 * d.toNat) / 16777216 % 256 = d.toNat from by omega]
    simp
/-- what stands behind a number, behind a text -/
def aftN (l : List UInt8) : List UInt8 := l.drop (rd l).2.1
def aftT (l : List UInt8) : List UInt8 := l.drop (rt l 1024).2.1
theorem split_N {l : List UInt8} (h : (rd l).2.2 = 0) : enc (rd l).1 ++ aftN l = l := by
  rw [(rd_good h).1]; exact List.take_append_drop _ _
theorem split_T {l : List UInt8} (h : (rt l 1024).2.2 = 0) : txt (rt l 1024).1 ++ aftT l = l ∧ (rt l 1024).1.length ≤ 1024 := by
  have := rt_one (l := l) (most := 1024) (x := (rt l 1024).1) (n := (rt l 1024).2.1) (by rw [← h])
  refine ⟨?_, by omega⟩
  rw [this.1]
  exact List.take_append_drop _ _
/-- are a body's parts right, and is nothing left behind them? -/
def partsOk (r0 : List UInt8) : Prop := (rd r0).2.2 = 0 ∧ (rd (aftN r0)).2.2 = 0 ∧ (rt (aftN (aftN r0)) 1024).2.2 = 0 ∧ (rt (aftT (aftN (aftN r0))) 1024).2.2 = 0 ∧ (rt (aftT (aftT (aftN (aftN r0)))) 1024).2.2 = 0 ∧ aftT (aftT (aftT (aftN (aftN r0)))) = []
theorem aftN_enc {n : Nat} (h : n < 9223372036854775808) (more : List UInt8) : aftN (enc n ++ more) = more := by
  unfold aftN; rw [rd_enc h]; simp
theorem rt_at {t : List UInt8} (h : t.length ≤ 1024) (more : List UInt8) : rt (txt t ++ more) 1024 = (t, (txt t).length, 0) := by
  have h0 : t.length < 9223372036854775808 := by omega
  unfold rt txt
  rw [List.append_assoc, rd_enc h0]
  simp only []
  rw [if_neg (by simp), if_neg (by omega), if_neg (by simp)]
  simp
theorem aftT_txt {x : List UInt8} (h : x.length ≤ 1024) (more : List UInt8) : aftT (txt x ++ more) = more := by
  unfold aftT; rw [rt_at h]; simp
theorem parts_body {q t : Nat} {s h d : List UInt8} (hq : q < 9223372036854775808) (ht : t < 9223372036854775808) (hs : s.length ≤ 1024) (hh : h.length ≤ 1024) (hd : d.length ≤ 1024) :
    partsOk (enc q ++ (enc t ++ (txt s ++ (txt h ++ txt d)))) := by
  have e5 : rt (txt d) 1024 = (d, (txt d).length, 0) := by have := rt_at hd []; rwa [List.append_nil] at this
  have e6 : aftT (txt d) = [] := by have := aftT_txt hd []; rwa [List.append_nil] at this
  unfold partsOk
  rw [aftN_enc hq, aftN_enc ht, aftT_txt hs, aftT_txt hh, rd_enc hq, rd_enc ht, rt_at hs, rt_at hh, e5, e6]
  exact ⟨rfl, rfl, rfl, rfl, rfl, rfl⟩
theorem parts_one {r0 : List UInt8} (h : partsOk r0) :
    enc (rd r0).1 ++ (enc (rd (aftN r0)).1 ++ (txt (rt (aftN (aftN r0)) 1024).1 ++ (txt (rt (aftT (aftN (aftN r0))) 1024).1 ++ txt (rt (aftT (aftT (aftN (aftN r0)))) 1024).1))) = r0 := by
  obtain ⟨h1, h2, h3, h4, h5, h6⟩ := h
  have s5 := (split_T h5).1
  rw [h6, List.append_nil] at s5
  rw [s5, (split_T h4).1, (split_T h3).1, split_N h2, split_N h1]
end Go.Proofs.YtmccpkpeimejhahGreatDoor.Pk

namespace Go.Proofs.YtmccpkpeimejhahGreatDoor.Pk

theorem xor_01 {a b : Nat} (ha : a < 2) (hb : b < 2) : a ^^^ b = (a + b) % 2 := by
  have h1 : a = 0 ∨ a = 1 := by omega
  have h2 : b = 0 ∨ b = 1 := by omega
  rcases h1 with rfl | rfl <;> rcases h2 with rfl | rfl <;> rfl
theorem bit_xor (a b q : Nat) : (a ^^^ b) / 2 ^ q % 2 = (a / 2 ^ q % 2 + b / 2 ^ q % 2) % 2 := by
  rw [← Nat.shiftRight_eq_div_pow, Nat.shiftRight_xor_distrib, xor_odd, Nat.shiftRight_eq_div_pow, Nat.shiftRight_eq_div_pow]
theorem bit_pow {p q : Nat} (hp : p < 8) (hq : q < 8) : 2 ^ p / 2 ^ q % 2 = if p = q then 1 else 0 := by
  have : ∀ p : Fin 8, ∀ q : Fin 8, 2 ^ p.val / 2 ^ q.val % 2 = if p.val = q.val then 1 else 0 := by decide
  exact this ⟨p, hp⟩ ⟨q, hq⟩
/-- a text of which one bit is turned -/
def flip (l : List UInt8) (j : Nat) : List UInt8 := l.set (j / 8) (UInt8.ofNat (at' l (j / 8) ^^^ 2 ^ (j % 8)))
theorem flip_byte (l : List UInt8) (j : Nat) : at' l (j / 8) ^^^ 2 ^ (j % 8) < 256 :=
  Nat.xor_lt_two_pow (n := 8) (at_lt l _) (Nat.lt_of_le_of_lt (Nat.pow_le_pow_right (by decide) (show j % 8 ≤ 7 by omega)) (by decide))
theorem flip_len (l : List UInt8) (j : Nat) : (flip l j).length = l.length := by simp [flip]
theorem flip_at {l : List UInt8} {j : Nat} (h : j / 8 < l.length) (k : Nat) : at' (flip l j) k = if k = j / 8 then at' l (j / 8) ^^^ 2 ^ (j % 8) else at' l k := by
  unfold flip
  by_cases hk : k = j / 8
  · subst hk
    rw [if_pos rfl]
    show ((l.set (j / 8) _)[j / 8]?.getD 0).toNat = _
    rw [List.getElem?_set_self h]
    exact u8_of (flip_byte l j)
  · rw [if_neg hk]
    unfold at'
    rw [List.getElem?_set_ne (by omega)]
theorem flip_bit {l : List UInt8} {j : Nat} (h : j / 8 < l.length) (i : Nat) : bitAt (flip l j) i = (bitAt l i + if i = j then 1 else 0) % 2 := by
  unfold bitAt
  rw [flip_at h]
  by_cases hk : i / 8 = j / 8
  · rw [if_pos hk, bit_xor, bit_pow (by omega) (by omega), hk]
    by_cases hp : j % 8 = i % 8
    · rw [if_pos hp, if_pos (by omega)]
    · rw [if_neg hp, if_neg (by omega)]
  · rw [if_neg hk, if_neg (by intro e; subst e; exact hk rfl)]
    omega
/-- the first i bits of the burst are turned -/
def Turned (l0 : List UInt8) (k turn i : Nat) (l : List UInt8) : Prop :=
  l.length = l0.length ∧ ∀ j, bitAt l0 j ^^^ bitAt l j = if k ≤ j ∧ j < k + i then turn / 2 ^ (j - k) % 2 else 0
theorem turned_none (l : List UInt8) (k turn : Nat) : Turned l k turn 0 l := ⟨rfl, fun j => by rw [Nat.xor_self, if_neg (by omega)]⟩
theorem turned_stay {l0 l : List UInt8} {k turn i : Nat} (h : Turned l0 k turn i l) (hb : turn / 2 ^ i % 2 = 0) : Turned l0 k turn (i + 1) l := by
  refine ⟨h.1, fun j => ?_⟩
  rw [h.2]
  by_cases h1 : k ≤ j ∧ j < k + i
  · rw [if_pos h1, if_pos (by omega)]
  · rw [if_neg h1]
    by_cases h2 : k ≤ j ∧ j < k + (i + 1)
    · rw [if_pos h2, show j - k = i from by omega, hb]
    · rw [if_neg h2]
theorem turned_flip {l0 l : List UInt8} {k turn i : Nat} (h : Turned l0 k turn i l) (hb : turn / 2 ^ i % 2 = 1) (hj : (k + i) / 8 < l.length) : Turned l0 k turn (i + 1) (flip l (k + i)) := by
  refine ⟨by rw [flip_len]; exact h.1, fun j => ?_⟩
  have e := h.2 j
  have b0 := bitAt_lt l0 j
  have b1 := bitAt_lt l j
  have b2 := bitAt_lt (flip l (k + i)) j
  rw [xor_01 b0 b1] at e
  rw [xor_01 b0 b2, flip_bit hj]
  by_cases h1 : j = k + i
  · subst h1
    rw [if_neg (by omega)] at e
    rw [if_pos rfl, if_pos (by omega), show k + i - k = i from by omega, hb]
    omega
  · rw [if_neg h1]
    by_cases h2 : k ≤ j ∧ j < k + i
    · rw [if_pos h2] at e
      rw [if_pos (by omega)]
      omega
    · rw [if_neg h2] at e
      rw [if_neg (by omega)]
      omega
theorem turned_sums {l0 l : List UInt8} {k turn : Nat} (h : Turned l0 k turn 32 l) (ht : turn < 4294967296) (h0 : turn ≠ 0) (hk : k + 32 ≤ 8 * l0.length) : crc l ≠ crc l0 := by
  have := burst (bitAt_lt l0) (bitAt_lt l) ht h0 h.2 hk
  have r0 := reg_lt (bitAt_lt l0) (8 * l0.length)
  have r1 := reg_lt (bitAt_lt l) (8 * l0.length)
  unfold crc
  rw [h.1]
  omega
theorem crc_check : crc [49, 50, 51, 52, 53, 54, 55, 56, 57] = 3421780262 := by decide +kernel
end Go.Proofs.YtmccpkpeimejhahGreatDoor.Pk

namespace Go.Proofs.YtmccpkpeimejhahGreatDoor.Pk

/-! how long a subject or a filter can be -/
theorem pcs_sum : ∀ l : List UInt8, ((Pl.pcs l).map fun p => p.length + 1).sum = l.length + 1
  | [] => rfl
  | c :: r => by
    have ih := pcs_sum r
    unfold Pl.pcs
    split
    · simp only [List.map_cons, List.sum_cons, ih, List.length_nil, List.length_cons]; omega
    · cases q : Pl.pcs r with
      | nil => exact absurd q (Pl.pcs_ne r)
      | cons a b =>
        rw [q] at ih
        simp only [List.map_cons, List.sum_cons] at ih
        simp only [List.modifyHead_cons, List.map_cons, List.sum_cons, List.length_cons]
        omega
theorem sum_le : ∀ ps : List (List UInt8), (∀ p ∈ ps, p.length ≤ 16) → (ps.map fun p => p.length + 1).sum ≤ 17 * ps.length
  | [], _ => by simp
  | a :: b, h => by
    have ih := sum_le b (fun p hp => h p (List.mem_cons_of_mem _ hp))
    have := h a (List.mem_cons_self ..)
    simp only [List.map_cons, List.sum_cons, List.length_cons]
    omega
theorem tok_len {wild last : Bool} {t : List UInt8} (h : Pl.tokOk wild last t = true) : t.length ≤ 16 := by
  unfold Pl.tokOk Pl.plainB at h
  simp only [Bool.or_eq_true, Bool.and_eq_true, decide_eq_true_eq, beq_iff_eq] at h
  rcases h with ⟨_, h, _⟩ | ⟨_, h | ⟨h, _⟩⟩
  · exact h
  · rw [h]; decide
  · rw [h]; decide
theorem name_len {wild : Bool} {l : List UInt8} (h : Pl.errOf wild (Pl.pcs l) = 0) : l.length ≤ 135 := by
  unfold Pl.errOf at h
  split at h
  · exact absurd h (by decide)
  rename_i h8
  split at h
  · rename_i hg
    have hs := pcs_sum l
    have := sum_le (Pl.pcs l) (fun p hp => by
      obtain ⟨i, hi, rfl⟩ := List.mem_iff_getElem.1 hp
      simp only [Pl.goodTo, List.all_eq_true, List.mem_range] at hg
      have := hg i hi
      rw [List.getElem?_eq_getElem hi] at this
      exact tok_len this)
    omega
  · exact absurd h (by decide)

/-! records -/
structure Rec where
  k : Int
  q : Int
  t : Int
  s : List UInt8
  h : List UInt8
  d : List UInt8
def none' : Rec := ⟨0, 0, 0, [], [], []⟩
/-- are kind, number and time in their bounds? -/
def inB (k q t : Int) : Bool := decide (1 ≤ k) && (decide (k ≤ 4) && (decide (1 ≤ q) && (decide (q ≤ 1099511627776) && (decide (0 ≤ t) && decide (t ≤ 1099511627776)))))
/-- what is wrong with a record -/
def chk (r : Rec) : Int :=
  if inB r.k r.q r.t = false then 1
  else if r.k = 1 then (if Pl.errOf false (Pl.pcs r.s) ≠ 0 then Pl.errOf false (Pl.pcs r.s) else if 256 < r.h.length + r.d.length then 2 else 0)
  else if r.k = 3 then (if Pl.errOf true (Pl.pcs r.s) ≠ 0 then Pl.errOf true (Pl.pcs r.s) else if r.h.length + r.d.length = 0 then 0 else 1)
  else if r.s.length + (r.h.length + r.d.length) = 0 then 0 else 1
theorem inB_iff {k q t : Int} : inB k q t = true ↔ 1 ≤ k ∧ k ≤ 4 ∧ 1 ≤ q ∧ q ≤ 1099511627776 ∧ 0 ≤ t ∧ t ≤ 1099511627776 := by
  unfold inB
  simp only [Bool.and_eq_true, decide_eq_true_eq]
theorem chk_len {r : Rec} (h : chk r = 0) : 1 ≤ r.k ∧ r.k ≤ 4 ∧ 1 ≤ r.q ∧ r.q ≤ 1099511627776 ∧ 0 ≤ r.t ∧ r.t ≤ 1099511627776 ∧ r.s.length ≤ 135 ∧ r.h.length + r.d.length ≤ 256 := by
  unfold chk at h
  split at h
  · exact absurd h (by decide)
  rename_i hb
  have hb2 := inB_iff.1 (by simpa using hb)
  refine ⟨hb2.1, hb2.2.1, hb2.2.2.1, hb2.2.2.2.1, hb2.2.2.2.2.1, hb2.2.2.2.2.2, ?_⟩
  split at h
  · split at h
    · rename_i hn; exact absurd h hn
    rename_i hn
    split at h
    · exact absurd h (by decide)
    exact ⟨name_len (Classical.byContradiction hn), by omega⟩
  split at h
  · split at h
    · rename_i hn; exact absurd h hn
    rename_i hn
    split at h
    · exact ⟨name_len (Classical.byContradiction hn), by omega⟩
    · exact absurd h (by decide)
  split at h
  · omega
  · exact absurd h (by decide)
/-- a record's body, a record's bytes -/
def bod (r : Rec) : List UInt8 := body r.k.toNat r.q.toNat r.t.toNat r.s r.h r.d
def cod (r : Rec) : List UInt8 := txt (bod r) ++ le4 (crc (bod r))
theorem le4_len (n : Nat) : (le4 n).length = 4 := rfl
theorem enc_few {n : Nat} (h : n ≤ 1099511627776) : (enc n).length ≤ 9 := enc_nine (by omega)
theorem bod_len {r : Rec} (h : chk r = 0) : 6 ≤ (bod r).length ∧ (bod r).length ≤ 1024 := by
  obtain ⟨_, _, _, h1, _, h2, h3, h4⟩ := chk_len h
  unfold bod body txt
  simp only [List.length_cons, List.length_append]
  have a1 := enc_pos r.q.toNat
  have a2 := enc_pos r.t.toNat
  have a3 := enc_pos r.s.length
  have a4 := enc_pos r.h.length
  have a5 := enc_pos r.d.length
  have b1 := enc_few (n := r.q.toNat) (by omega)
  have b2 := enc_few (n := r.t.toNat) (by omega)
  have b3 := enc_few (n := r.s.length) (by omega)
  have b4 := enc_few (n := r.h.length) (by omega)
  have b5 := enc_few (n := r.d.length) (by omega)
  omega
theorem crc_lt (l : List UInt8) : crc l < 4294967296 := by unfold crc; omega

/-- the parts of a body behind its first byte -/
def p1 (r0 : List UInt8) : List UInt8 := aftN r0
def p2 (r0 : List UInt8) : List UInt8 := aftN (aftN r0)
def p3 (r0 : List UInt8) : List UInt8 := aftT (aftN (aftN r0))
def p4 (r0 : List UInt8) : List UInt8 := aftT (aftT (aftN (aftN r0)))
def p5 (r0 : List UInt8) : List UInt8 := aftT (aftT (aftT (aftN (aftN r0))))
def okB (r0 : List UInt8) : Bool := decide ((rd r0).2.2 = 0) && (decide ((rd (p1 r0)).2.2 = 0) && (decide ((rt (p2 r0) 1024).2.2 = 0) && (decide ((rt (p3 r0) 1024).2.2 = 0) && (decide ((rt (p4 r0) 1024).2.2 = 0) && decide ((p5 r0).length = 0)))))
theorem okB_iff {r0 : List UInt8} : okB r0 = true ↔ partsOk r0 := by
  unfold okB partsOk p1 p2 p3 p4 p5
  simp only [Bool.and_eq_true, decide_eq_true_eq, List.length_eq_zero_iff]
def recOf (c : Nat) (r0 : List UInt8) : Rec := ⟨c, (rd r0).1, (rd (p1 r0)).1, (rt (p2 r0) 1024).1, (rt (p3 r0) 1024).1, (rt (p4 r0) 1024).1⟩
/-- the record at the front -/
def dec (l : List UInt8) : Rec × Nat × Int :=
  if (rt l 1024).2.2 ≠ 0 then (none', 0, (rt l 1024).2.2)
  else if l.length < (rt l 1024).2.1 + 4 then (none', 0, 6)
  else if (l.drop (rt l 1024).2.1).take 4 ≠ le4 (crc (rt l 1024).1) then (none', 0, 7)
  else if (rt l 1024).1.length = 0 then (none', 0, 7)
  else if okB ((rt l 1024).1.drop 1) = false then (none', 0, 7)
  else if chk (recOf (at' (rt l 1024).1 0) ((rt l 1024).1.drop 1)) ≠ 0 then (none', 0, 7)
  else (recOf (at' (rt l 1024).1 0) ((rt l 1024).1.drop 1), (rt l 1024).2.1 + 4, 0)

theorem recOf_bod {r : Rec} (h : chk r = 0) : recOf (at' (bod r) 0) ((bod r).drop 1) = r ∧ okB ((bod r).drop 1) = true := by
  obtain ⟨h1, h2, h3, h4, h5, h6, h7, h8⟩ := chk_len h
  have hq : r.q.toNat < 9223372036854775808 := by omega
  have ht : r.t.toNat < 9223372036854775808 := by omega
  have hs : r.s.length ≤ 1024 := by omega
  have hh : r.h.length ≤ 1024 := by omega
  have hd : r.d.length ≤ 1024 := by omega
  have e5 : rt (txt r.d) 1024 = (r.d, (txt r.d).length, 0) := by have := rt_at hd []; rwa [List.append_nil] at this
  have e : (bod r).drop 1 = enc r.q.toNat ++ (enc r.t.toNat ++ (txt r.s ++ (txt r.h ++ txt r.d))) := rfl
  have e0 : at' (bod r) 0 = r.k.toNat := by show (UInt8.ofNat r.k.toNat).toNat = _; exact u8_of (by omega)
  refine ⟨?_, by rw [okB_iff, e]; exact parts_body hq ht hs hh hd⟩
  rw [e, e0]
  unfold recOf p1 p2 p3 p4
  rw [aftN_enc hq, aftN_enc ht, aftT_txt hs, aftT_txt hh, rd_enc hq, rd_enc ht, rt_at hs, rt_at hh, e5]
  show Rec.mk ((r.k.toNat : Nat) : Int) ((r.q.toNat : Nat) : Int) ((r.t.toNat : Nat) : Int) r.s r.h r.d = r
  rw [Int.toNat_of_nonneg (by omega), Int.toNat_of_nonneg (by omega), Int.toNat_of_nonneg (by omega)]
theorem cod_len (r : Rec) : (cod r).length = (txt (bod r)).length + 4 := by unfold cod; rw [List.length_append, le4_len]
theorem dec_cod {r : Rec} (h : chk r = 0) (more : List UInt8) : dec (cod r ++ more) = (r, (cod r).length, 0) := by
  have hb := bod_len h
  have e : rt (cod r ++ more) 1024 = (bod r, (txt (bod r)).length, 0) := by unfold cod; rw [List.append_assoc]; exact rt_at hb.2 _
  have e2 : ((cod r ++ more).drop (txt (bod r)).length).take 4 = le4 (crc (bod r)) := by
    unfold cod; rw [List.append_assoc, List.drop_left]; rfl
  obtain ⟨g1, g2⟩ := recOf_bod h
  unfold dec
  rw [e]
  simp only []
  rw [if_neg (by simp), if_neg (by rw [List.length_append, cod_len]; omega), if_neg (by rw [e2]; simp), if_neg (by omega), g1, g2, if_neg (by simp), if_neg (by rw [h]; simp), cod_len]
theorem rt_front' {t : List UInt8} {i : Nat} (h : t.length ≤ 1024) (hi : i < (txt t).length) : (rt ((txt t).take i) 1024).2.2 = 6 := by
  have h0 : t.length < 9223372036854775808 := by omega
  unfold rt
  by_cases hl : i < (enc t.length).length
  · unfold txt
    rw [rd_front h0 hl]
    rfl
  · have e : (txt t).take i = enc t.length ++ t.take (i - (enc t.length).length) := by
      unfold txt
      rw [List.take_append, List.take_of_length_le (by omega)]
    have hi' := hi
    unfold txt at hi'
    rw [List.length_append] at hi'
    rw [e, rd_enc h0]
    simp only []
    rw [if_neg (by simp), if_neg (by omega), if_pos (by simp; omega)]
theorem dec_front {r : Rec} {i : Nat} (h : chk r = 0) (hi : i < (cod r).length) : (dec ((cod r).take i)).2.2 = 6 := by
  have hb := bod_len h
  by_cases hl : i < (txt (bod r)).length
  · have e : (cod r).take i = (txt (bod r)).take i := by
      unfold cod
      rw [List.take_append_of_le_length (by omega)]
    have e6 := rt_front' hb.2 hl
    unfold dec
    rw [e, e6, if_pos (by decide)]
    rfl
  · have e : (cod r).take i = txt (bod r) ++ (le4 (crc (bod r))).take (i - (txt (bod r)).length) := by
      unfold cod
      rw [List.take_append, List.take_of_length_le (by omega)]
    have hi' := hi
    rw [cod_len] at hi'
    unfold dec
    rw [e, rt_at hb.2]
    simp only []
    rw [if_neg (by simp), if_pos (by rw [← e, List.length_take]; omega)]
theorem dec_bad {l : List UInt8} (h : (dec l).2.2 ≠ 0) : (dec l).1 = none' ∧ (dec l).2.1 = 0 := by
  unfold dec at h ⊢
  split
  · exact ⟨rfl, rfl⟩
  rename_i h1
  rw [if_neg h1] at h
  split
  · exact ⟨rfl, rfl⟩
  rename_i h2
  rw [if_neg h2] at h
  split
  · exact ⟨rfl, rfl⟩
  rename_i h3
  rw [if_neg h3] at h
  split
  · exact ⟨rfl, rfl⟩
  rename_i h4
  rw [if_neg h4] at h
  split
  · exact ⟨rfl, rfl⟩
  rename_i h5
  rw [if_neg h5] at h
  split
  · exact ⟨rfl, rfl⟩
  rename_i h6
  rw [if_neg h6] at h
  exact absurd rfl h
theorem dec_one {l : List UInt8} (h : (dec l).2.2 = 0) : chk (dec l).1 = 0 ∧ cod (dec l).1 = l.take (dec l).2.1 ∧ (dec l).2.1 ≤ l.length := by
  unfold dec at h ⊢
  split
  · rename_i h1; rw [if_pos h1] at h; exact absurd (by simpa using h) h1
  rename_i h1
  rw [if_neg h1] at h
  split
  · rename_i h2; rw [if_pos h2] at h; exact absurd h (by decide)
  rename_i h2
  rw [if_neg h2] at h
  split
  · rename_i h3; rw [if_pos h3] at h; exact absurd h (by decide)
  rename_i h3
  rw [if_neg h3] at h
  split
  · rename_i h4; rw [if_pos h4] at h; exact absurd h (by decide)
  rename_i h4
  rw [if_neg h4] at h
  split
  · rename_i h5; rw [if_pos h5] at h; exact absurd h (by decide)
  rename_i h5
  rw [if_neg h5] at h
  split
  · rename_i h6; rw [if_pos h6] at h; exact absurd h (by decide)
  rename_i h6
  have hc := Classical.byContradiction h6
  refine ⟨hc, ?_, by show (rt l 1024).2.1 + 4 ≤ _; omega⟩
  have h10 : (rt l 1024).2.2 = 0 := Classical.byContradiction h1
  have ho := rt_one (l := l) (most := 1024) (x := (rt l 1024).1) (n := (rt l 1024).2.1) (by rw [← h10])
  have hp := parts_one (okB_iff.1 (Bool.not_eq_false _ |>.mp h5))
  have hbod : bod (recOf (at' (rt l 1024).1 0) ((rt l 1024).1.drop 1)) = (rt l 1024).1 := by
    obtain ⟨B, hB⟩ : ∃ B, (rt l 1024).1 = B := ⟨_, rfl⟩
    rw [hB] at hp h4 ⊢
    match B, h4 with
    | [], h4 => exact absurd rfl h4
    | c :: r, _ =>
      rw [show (c :: r).drop 1 = r from rfl] at hp
      rw [show (c :: r).drop 1 = r from rfl]
      unfold bod body recOf p1 p2 p3 p4
      simp only [Int.toNat_natCast, at_zero, UInt8.ofNat_toNat]
      rw [hp]
  show cod _ = l.take ((rt l 1024).2.1 + 4)
  unfold cod
  rw [hbod, ho.1, ← Classical.byContradiction h3, List.take_add]

/-! one turned bit -/
theorem one_bit {f g : Nat → Nat} (hf : ∀ j, f j < 2) (hg : ∀ j, g j < 2) {j : Nat} (h : ∀ i, f i ^^^ g i = if i = j then 1 else 0) {N : Nat} (hN : j < N) : reg f N ≠ reg g N := by
  have hpre : ∀ n, n ≤ j → reg f n ^^^ reg g n = 0 := by
    intro n
    induction n with
    | zero => intro _; simp [reg]
    | succ n ih =>
      intro hn
      rw [diff_step, ih (by omega), h, if_neg (by omega)]
      rfl
  have hend : ∀ n, reg f (j + 1 + n) ^^^ reg g (j + 1 + n) ≠ 0 := by
    intro n
    induction n with
    | zero =>
      rw [Nat.add_zero, diff_step, hpre j (Nat.le_refl _), h, if_pos rfl]
      decide
    | succ n ih =>
      intro e
      rw [← Nat.add_assoc, diff_step, h, if_neg (by omega), Nat.xor_zero] at e
      exact ih (Z_zero (Nat.xor_lt_two_pow (n := 32) (reg_lt hf _) (reg_lt hg _)) e)
  intro e
  have := hend (N - (j + 1))
  rw [show j + 1 + (N - (j + 1)) = N from by omega, e, Nat.xor_self] at this
  exact this rfl
theorem flip_sum {l : List UInt8} {j : Nat} (h : j < 8 * l.length) : crc (flip l j) ≠ crc l := by
  have := one_bit (f := bitAt l) (g := bitAt (flip l j)) (bitAt_lt l) (bitAt_lt _) (j := j) (fun i => by
    have b0 := bitAt_lt l i
    rw [xor_01 b0 (bitAt_lt _ _), flip_bit (by omega)]
    by_cases e : i = j
    · rw [if_pos e]; omega
    · rw [if_neg e]; omega) h
  have r0 := reg_lt (bitAt_lt l) (8 * l.length)
  have r1 := reg_lt (bitAt_lt (flip l j)) (8 * l.length)
  unfold crc
  rw [flip_len]
  omega
theorem flip_ne {l : List UInt8} {j : Nat} (h : j < 8 * l.length) : flip l j ≠ l := fun e => flip_sum h (by rw [e])
theorem flip_right {a b : List UInt8} {j : Nat} : flip (a ++ b) (8 * a.length + j) = a ++ flip b j := by
  unfold flip
  rw [show (8 * a.length + j) / 8 = a.length + j / 8 from by omega, show (8 * a.length + j) % 8 = j % 8 from by omega]
  have e : at' (a ++ b) (a.length + j / 8) = at' b (j / 8) := by
    unfold at'
    rw [List.getElem?_append_right (by omega), show a.length + j / 8 - a.length = j / 8 from by omega]
  rw [e, List.set_append_right _ _ (by omega), show a.length + j / 8 - a.length = j / 8 from by omega]
theorem flip_left {a b : List UInt8} {j : Nat} (h : j < 8 * a.length) : flip (a ++ b) j = flip a j ++ b := by
  unfold flip
  rw [at_append_left (by omega), List.set_append_left _ _ (by omega)]
theorem dec_sum {B S : List UInt8} (hb : B.length ≤ 1024) (hs : S.length = 4) (hne : S ≠ le4 (crc B)) : (dec (txt B ++ S)).2.2 = 7 := by
  unfold dec
  rw [rt_at hb]
  simp only []
  rw [if_neg (by simp), if_neg (by rw [List.length_append, hs]; omega), if_pos (by rw [List.drop_left, List.take_of_length_le (by omega)]; exact hne)]
theorem le4_inj {a b : Nat} (ha : a < 4294967296) (hb : b < 4294967296) (h : le4 a = le4 b) : a = b := by
  have h1 := num4_le4 ha []
  have h2 := num4_le4 hb []
  rw [h] at h1
  exact h1.symm.trans h2
theorem rd_cod {r : Rec} (h : chk r = 0) : rd (cod r) = ((bod r).length, (enc (bod r).length).length, 0) := by
  have hb := bod_len h
  unfold cod txt
  rw [List.append_assoc]
  exact rd_enc (by omega) _
theorem dec_turned {r : Rec} {i : Nat} (h : chk r = 0) (hi : i < 8 * ((cod r).length - (enc (bod r).length).length)) : (dec (flip (cod r) (8 * (enc (bod r).length).length + i))).2.2 = 7 := by
  have hb := bod_len h
  rw [cod_len] at hi
  have e : cod r = enc (bod r).length ++ (bod r ++ le4 (crc (bod r))) := by unfold cod txt; rw [List.append_assoc]
  have hl : (txt (bod r)).length = (enc (bod r).length).length + (bod r).length := by unfold txt; rw [List.length_append]
  rw [e, flip_right]
  by_cases hj : i < 8 * (bod r).length
  · rw [flip_left hj]
    have e2 : enc (bod r).length ++ (flip (bod r) i ++ le4 (crc (bod r))) = txt (flip (bod r) i) ++ le4 (crc (bod r)) := by
      unfold txt; rw [flip_len, List.append_assoc]
    rw [e2]
    refine dec_sum (by rw [flip_len]; exact hb.2) rfl (fun q => ?_)
    exact flip_sum hj (le4_inj (crc_lt _) (crc_lt _) q).symm
  · obtain ⟨m, rfl⟩ : ∃ m, i = 8 * (bod r).length + m := ⟨i - 8 * (bod r).length, by omega⟩
    rw [flip_right]
    have e2 : enc (bod r).length ++ (bod r ++ flip (le4 (crc (bod r))) m) = txt (bod r) ++ flip (le4 (crc (bod r))) m := by
      unfold txt; rw [List.append_assoc]
    rw [e2]
    exact dec_sum hb.2 (by rw [flip_len]; rfl) (flip_ne (by rw [le4_len]; omega))
end Go.Proofs.YtmccpkpeimejhahGreatDoor.Pk

namespace Go.Proofs.YtmccpkpeimejhahGreatDoor.Dk
open Go.RowKit

/-- a record -/
structure Rc where
  k : Int
  q : Int
  t : Int
  s : ByteArray
  h : ByteArray
  d : ByteArray
def Rc.pk (r : Rc) : Pk.Rec := ⟨r.k, r.q, r.t, r.s.data.toList, r.h.data.toList, r.d.data.toList⟩
def bt (l : List UInt8) : ByteArray := ⟨l.toArray⟩
theorem bt_list (l : List UInt8) : (bt l).data.toList = l := by simp [bt]
theorem bt_size (l : List UInt8) : (bt l).size = l.length := by simp [bt, ByteArray.size]
theorem bt_of (s : ByteArray) : bt s.data.toList = s := by apply ByteArray.ext; simp [bt]
def rcOf (r : Pk.Rec) : Rc := ⟨r.k, r.q, r.t, bt r.s, bt r.h, bt r.d⟩
theorem rcOf_pk (r : Pk.Rec) : (rcOf r).pk = r := by unfold rcOf Rc.pk; simp only [bt_list]
theorem pk_rcOf (r : Rc) : rcOf r.pk = r := by unfold rcOf Rc.pk; simp only [bt_of]
def rcV (r : Rc) : Value := .agg #[.int .i64 r.k, .int .i64 r.q, .int .i64 r.t, .string r.s, .string r.h, .string r.d]
theorem cod_pos (r : Pk.Rec) : 4 ≤ (Pk.cod r).length := by rw [Pk.cod_len]; omega
theorem dec_pos {l : List UInt8} (h : (Pk.dec l).2.2 = 0) : 1 ≤ (Pk.dec l).2.1 ∧ (Pk.dec l).2.1 ≤ l.length := by
  obtain ⟨_, h2, h3⟩ := Pk.dec_one h
  have := cod_pos (Pk.dec l).1
  rw [h2, List.length_take] at this
  omega
/-- the records at the front of a text, and where they end, if not at its end -/
def scan : Nat → List UInt8 → List Rc × Option Nat
  | 0, _ => ([], none)
  | f + 1, l => if l.length = 0 then ([], none) else if (Pk.dec l).2.2 = 0 then (rcOf (Pk.dec l).1 :: (scan f (l.drop (Pk.dec l).2.1)).1, (scan f (l.drop (Pk.dec l).2.1)).2.map (· + (Pk.dec l).2.1)) else ([], some 0)
theorem scan_nil (f : Nat) : scan f [] = ([], none) := by cases f <;> rfl
theorem scan_ok {f : Nat} {l : List UInt8} (h0 : l.length ≠ 0) (h : (Pk.dec l).2.2 = 0) : scan (f + 1) l = (rcOf (Pk.dec l).1 :: (scan f (l.drop (Pk.dec l).2.1)).1, (scan f (l.drop (Pk.dec l).2.1)).2.map (· + (Pk.dec l).2.1)) := by
  rw [scan, if_neg h0, if_pos h]
theorem scan_bad {f : Nat} {l : List UInt8} (h0 : l.length ≠ 0) (h : (Pk.dec l).2.2 ≠ 0) : scan (f + 1) l = ([], some 0) := by
  rw [scan, if_neg h0, if_neg h]
theorem scan_le : ∀ (f : Nat) (l : List UInt8) (k : Nat), (scan f l).2 = some k → k ≤ l.length
  | 0, _, _, h => by cases h
  | f + 1, l, k, h => by
    by_cases h0 : l.length = 0
    · rw [scan, if_pos h0] at h; cases h
    · by_cases hd : (Pk.dec l).2.2 = 0
      · rw [scan_ok h0 hd] at h
        cases hs : (scan f (l.drop (Pk.dec l).2.1)).2 with
        | none => rw [hs] at h; cases h
        | some j =>
          rw [hs] at h
          have := scan_le f _ j hs
          have := (dec_pos hd).2
          rw [List.length_drop] at *
          simp at h
          omega
      · rw [scan_bad h0 hd] at h
        cases h
        exact Nat.zero_le _
theorem scan_len : ∀ (f : Nat) (l : List UInt8), (scan f l).1.length ≤ l.length
  | 0, _ => Nat.zero_le _
  | f + 1, l => by
    by_cases h0 : l.length = 0
    · rw [scan, if_pos h0]; exact Nat.zero_le _
    · by_cases hd : (Pk.dec l).2.2 = 0
      · rw [scan_ok h0 hd, List.length_cons]
        have := scan_len f (l.drop (Pk.dec l).2.1)
        have := dec_pos hd
        rw [List.length_drop] at *
        omega
      · rw [scan_bad h0 hd]; exact Nat.zero_le _
/-- what was read of a text so far: rs, up to a place -/
def Read (l : List UInt8) (at' : Nat) (rs : List Rc) : Prop := ∃ f, l.length ≤ at' + f ∧ scan l.length l = (rs ++ (scan f (l.drop at')).1, (scan f (l.drop at')).2.map (· + at'))
theorem Read.start (l : List UInt8) : Read l 0 [] := ⟨l.length, by omega, by
  rw [List.drop_zero, List.nil_append]
  cases h : (scan l.length l).2 <;> simp [← h]⟩
theorem Read.done {l : List UInt8} {p : Nat} {rs : List Rc} (h : Read l p rs) (hp : ¬ p < l.length) : scan l.length l = (rs, none) := by
  obtain ⟨f, _, h⟩ := h
  rw [List.drop_eq_nil_of_le (by omega), scan_nil] at h
  simpa using h
theorem Read.step {l : List UInt8} {p : Nat} {rs : List Rc} (h : Read l p rs) (hp : p < l.length) (hd : (Pk.dec (l.drop p)).2.2 = 0) : Read l (p + (Pk.dec (l.drop p)).2.1) (rs ++ [rcOf (Pk.dec (l.drop p)).1]) := by
  obtain ⟨f, hf, h⟩ := h
  have h0 : (l.drop p).length ≠ 0 := by rw [List.length_drop]; omega
  have hpos := dec_pos hd
  cases f with
  | zero => omega
  | succ f =>
    rw [scan_ok h0 hd, List.drop_drop] at h
    refine ⟨f, by omega, ?_⟩
    rw [h, List.append_assoc, List.singleton_append]
    congr 1
    cases (scan f (l.drop (p + (Pk.dec (l.drop p)).2.1))).2 with
    | none => rfl
    | some j => simp; omega
theorem Read.bad {l : List UInt8} {p : Nat} {rs : List Rc} (h : Read l p rs) (hp : p < l.length) (hd : (Pk.dec (l.drop p)).2.2 ≠ 0) : scan l.length l = (rs, some p) := by
  obtain ⟨f, hf, h⟩ := h
  have h0 : (l.drop p).length ≠ 0 := by rw [List.length_drop]; omega
  cases f with
  | zero => omega
  | succ f =>
    rw [scan_bad h0 hd] at h
    simpa using h
theorem Read.len {l : List UInt8} {p : Nat} {rs : List Rc} (h : Read l p rs) : rs.length ≤ l.length := by
  obtain ⟨f, _, h⟩ := h
  have := scan_len l.length l
  rw [h, List.length_append] at this
  omega
def scanT (t : ByteArray) : List Rc × Option Nat := scan t.data.toList.length t.data.toList
/-- Open: the records that are told; what is left of the files -/
def openL : List Pap → List Rc × List Pap
  | [] => ([], [])
  | e :: r => match (scanT e.text).2 with
    | none => ((scanT e.text).1 ++ (openL r).1, e :: (openL r).2)
    | some k => ((scanT e.text).1, [cutP e k])
theorem openL_whole {e : Pap} {r : List Pap} {rs : List Rc} (h : scanT e.text = (rs, none)) : openL (e :: r) = (rs ++ (openL r).1, e :: (openL r).2) := by
  rw [openL, h]
theorem openL_cut {e : Pap} {r : List Pap} {rs : List Rc} {k : Nat} (h : scanT e.text = (rs, some k)) : openL (e :: r) = (rs, [cutP e k]) := by
  rw [openL, h]
/-- what was read of the files so far: acc, of the first i -/
def Reads (es : List Pap) (i : Nat) (acc : List Rc) : Prop := openL es = (acc ++ (openL (es.drop i)).1, es.take i ++ (openL (es.drop i)).2)
theorem Reads.start (es : List Pap) : Reads es 0 [] := by unfold Reads; simp
theorem drop_pa {es : List Pap} {i : Nat} (h : i < es.length) : es.drop i = pa es i :: es.drop (i + 1) := by rw [pa_get h, ← List.drop_eq_getElem_cons h]
theorem take_pa {es : List Pap} {i : Nat} (h : i < es.length) : es.take (i + 1) = es.take i ++ [pa es i] := by rw [List.take_succ_eq_append_getElem h, pa_get h]
theorem Reads.step {es : List Pap} {i : Nat} {acc rs : List Rc} (h : Reads es i acc) (hi : i < es.length) (hs : scanT (pa es i).text = (rs, none)) : Reads es (i + 1) (acc ++ rs) := by
  unfold Reads at h ⊢
  rw [h, drop_pa hi, openL_whole hs, take_pa hi]
  simp
theorem Reads.done {es : List Pap} {i : Nat} {acc : List Rc} (h : Reads es i acc) (hi : ¬ i < es.length) : openL es = (acc, es) := by
  unfold Reads at h
  rw [h, List.drop_eq_nil_of_le (by omega), List.take_of_length_le (by omega)]
  simp [openL]
theorem Reads.bad {es : List Pap} {i k : Nat} {acc rs : List Rc} (h : Reads es i acc) (hi : i < es.length) (hs : scanT (pa es i).text = (rs, some k)) : openL es = (acc ++ rs, es.take i ++ [cutP (pa es i) k]) := by
  unfold Reads at h
  rw [h, drop_pa hi, openL_cut hs]
theorem scanT_le {t : ByteArray} {k : Nat} (h : (scanT t).2 = some k) : k ≤ t.size := by
  have := scan_le _ _ _ h
  simpa using this
theorem scanT_len (t : ByteArray) : (scanT t).1.length ≤ t.size := by
  have := scan_len t.data.toList.length t.data.toList
  unfold scanT
  simpa using this
theorem openL_len : ∀ es : List Pap, (openL es).1.length ≤ used es
  | [] => Nat.zero_le _
  | e :: r => by
    have h1 := scanT_len e.text
    rw [used_cons]
    cases hs : scanT e.text with
    | mk rs o =>
      rw [hs] at h1
      cases o with
      | none =>
        rw [openL_whole hs, List.length_append]
        have := openL_len r
        simp only at h1
        omega
      | some k => rw [openL_cut hs]; simp only at h1 ⊢; omega
theorem openL_keeps : ∀ es : List Pap, (numL (openL es).2).Sublist (numL es) ∧ used (openL es).2 ≤ used es ∧ ∀ x ∈ (openL es).2, ∃ e ∈ es, x = e ∨ ∃ k, k ≤ e.text.size ∧ x = cutP e k
  | [] => ⟨by simp [openL, numL], by simp [openL], by simp [openL]⟩
  | e :: r => by
    cases hs : scanT e.text with
    | mk rs o =>
      cases o with
      | none =>
        rw [openL_whole hs]
        obtain ⟨h1, h2, h3⟩ := openL_keeps r
        refine ⟨?_, ?_, ?_⟩
        · show (e.n :: numL (openL r).2).Sublist (e.n :: numL r)
          exact h1.cons_cons _
        · rw [used_cons, used_cons]; omega
        · intro x hx
          rcases List.mem_cons.1 hx with rfl | hx
          · exact ⟨x, by simp, .inl rfl⟩
          · obtain ⟨y, hy, hq⟩ := h3 x hx
            exact ⟨y, by simp [hy], hq⟩
      | some k =>
        have hk : k ≤ e.text.size := scanT_le (by rw [hs])
        rw [openL_cut hs]
        refine ⟨?_, ?_, ?_⟩
        · show ([e.n] : List Int).Sublist (e.n :: numL r)
          exact (List.nil_sublist _).cons_cons _
        · rw [used_cons, used_cons, cutP_size hk]; simp [used]; omega
        · intro x hx
          have : x = cutP e k := by simpa using hx
          exact ⟨e, by simp, .inr ⟨k, hk, this⟩⟩
theorem Tidy.opened {m : Int} {es : List Pap} (h : Tidy m es) : Tidy m (openL es).2 := by
  obtain ⟨h1, h2, h3⟩ := openL_keeps es
  refine ⟨?_, ?_, ?_, ?_⟩
  · rw [rise_num]; exact List.Pairwise.sublist h1 ((rise_num es).1 h.rise)
  · have := h1.length_le
    simp only [numL, List.length_map] at this
    have := h.few
    omega
  · have := h.fits; omega
  · intro x hx
    obtain ⟨e, he, hq⟩ := h3 x hx
    have := h.each e he
    rcases hq with rfl | ⟨k, hk, rfl⟩
    · exact this
    · exact ⟨this.1, by show (0 : Int) ≤ (k : Int); omega, by rw [cutP_size hk]; show (k : Int) ≤ (k : Int); omega⟩
/-- the removing of the files behind one -/
theorem rem_mid {A B : List Pap} {x : Pap} (h : Rise (A ++ x :: B)) : remL (A ++ x :: B) x.n = A ++ B := by
  have hi : ix (A ++ x :: B) x.n = A.length := by
    have e : pa (A ++ x :: B) A.length = x := by unfold pa; simp
    refine ix_hit (by simp) (by rw [e]) (fun j hj => ?_)
    rw [beq_eq_false_iff_ne]
    have hm : pa (A ++ x :: B) j ∈ A := by
      have : pa (A ++ x :: B) j = A[j] := by unfold pa; rw [List.getElem?_append_left hj, List.getElem?_eq_getElem hj]; rfl
      rw [this]; exact List.getElem_mem hj
    exact rise_ahead h _ hm
  unfold remL
  rw [hi, if_pos (by simp)]
  simp

/-- what a record is written as -/
def codT (r : Rc) : ByteArray := bt (Pk.cod r.pk)
def chkR (r : Rc) : Int := Pk.chk r.pk
/-- Append: the answer; what becomes of the files -/
def lastP (es : List Pap) : Pap := pa es (es.length - 1)
def fills (es : List Pap) (size : Int) (s : ByteArray) : Bool := decide (0 < (lastP es).text.size) && decide (size < ((lastP es).text.size : Int) + (s.size : Int))
def logR (es : List Pap) (m size : Int) (r : Rc) : Int × List Pap :=
  if chkR r ≠ 0 then (chkR r, es)
  else if es.length = 0 then (appE es m 0 (codT r), appL es m 0 (codT r))
  else if fills es size (codT r) then (appE (syncL es (lastP es).n) m ((lastP es).n + 1) (codT r), appL (syncL es (lastP es).n) m ((lastP es).n + 1) (codT r))
  else (appE es m (lastP es).n (codT r), appL es m (lastP es).n (codT r))
theorem Tidy.logged {m : Int} {es : List Pap} (h : Tidy m es) (size : Int) (r : Rc) : Tidy m (logR es m size r).2 := by
  unfold logR
  split
  · exact h
  · split
    · exact h.app 0 (codT r)
    · split
      · exact (h.sync (lastP es).n).app ((lastP es).n + 1) (codT r)
      · exact h.app (lastP es).n (codT r)
/-- the program's Append: as that, but with an error nothing changes -/
def logP (es : List Pap) (m size : Int) (r : Rc) : Int × List Pap := if (logR es m size r).1 = 0 then logR es m size r else ((logR es m size r).1, es)
theorem logP_ok {es : List Pap} {m size : Int} {r : Rc} (h : (logR es m size r).1 = 0) : logP es m size r = logR es m size r := by unfold logP; rw [if_pos h]
theorem logP_not {es : List Pap} {m size : Int} {r : Rc} (h : (logR es m size r).1 ≠ 0) : logP es m size r = ((logR es m size r).1, es) := by unfold logP; rw [if_neg h]
theorem Tidy.logp {m : Int} {es : List Pap} (h : Tidy m es) (size : Int) (r : Rc) : Tidy m (logP es m size r).2 := by
  unfold logP
  split
  · exact h.logged size r
  · exact h
/-- Sync: of the last file -/
def lsyncL (es : List Pap) : List Pap := if es.length = 0 then es else syncL es (lastP es).n
theorem Tidy.lsync {m : Int} {es : List Pap} (h : Tidy m es) : Tidy m (lsyncL es) := by
  unfold lsyncL
  split
  · exact h
  · exact h.sync _
/-- Rewrite -/
def badOf : List Rc → Int
  | [] => 0
  | r :: l => if chkR r ≠ 0 then chkR r else badOf l
def catT : List Rc → ByteArray
  | [] => ByteArray.empty
  | r :: l => codT r ++ catT l
def nextN (es : List Pap) : Int := if es.length = 0 then 0 else (lastP es).n + 1
def rewR (es : List Pap) (m size : Int) (l : List Rc) : Int × List Pap :=
  if badOf l ≠ 0 then (badOf l, es)
  else if 1 < l.length ∧ size < ((catT l).size : Int) then (8, es)
  else if appE es m (nextN es) (catT l) ≠ 0 then (appE es m (nextN es) (catT l), es)
  else (0, [⟨nextN es, ((catT l).size : Int), catT l⟩])
theorem Tidy.rewritten {m : Int} {es : List Pap} (h : Tidy m es) (size : Int) (l : List Rc) : Tidy m (rewR es m size l).2 := by
  unfold rewR
  split
  · exact h
  · split
    · exact h
    · split
      · exact h
      · rename_i h0
        obtain ⟨hI, hf⟩ := app_ok.1 (Classical.byContradiction h0)
        have hu := full_fits hf
        refine ⟨List.pairwise_singleton _ _, by simp, ?_, ?_⟩
        · simp only [Dk.used]; omega
        · intro e he
          have : e = ⟨nextN es, ((catT l).size : Int), catT l⟩ := by simpa using he
          subst this
          exact ⟨hI, by show (0 : Int) ≤ ((catT l).size : Int); omega, by show ((catT l).size : Int) ≤ ((catT l).size : Int); omega⟩
end Go.Proofs.YtmccpkpeimejhahGreatDoor.Dk
