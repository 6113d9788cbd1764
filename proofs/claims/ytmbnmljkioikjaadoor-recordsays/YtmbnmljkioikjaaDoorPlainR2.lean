/-
  Plain mathematics of records: what is wrong with a record, its bytes, the record at the front of bytes; what is written is read as it was, a front of it asks for more, what is read is written as just those bytes, one turned bit is told. No program.
-/
import Derived.Test.YtmbnmljkioikjaaDoorPlainRec
import Derived.Test.YtmbnmljkioikjaaDoorPlainS
import Derived.Test.YtmbnmljkioikjaaDoorPlain
namespace Go.Proofs.YtmbnmljkioikjaaDoor.Pk

/-! how long a subject or a filter can be -/
theorem pcs_sum : ∀ l : List UInt8, ((Pl.pcs l).map fun p => p.length + 1).sum = l.length + 1
  | [] => rfl
  | c :: r => by
    have ih := pcs_sum r
    unfold Pl.pcs
    split
    · simp only [List.map_cons, List.sum_cons, ih, List.length_nil, List.length_cons]; omega
    · cases q : Pl.pcs r with
      | nil => exact absurd q (Pl.pcs_ne r)
      | cons a b =>
        rw [q] at ih
        simp only [List.map_cons, List.sum_cons] at ih
        simp only [List.modifyHead_cons, List.map_cons, List.sum_cons, List.length_cons]
        omega
theorem sum_le : ∀ ps : List (List UInt8), (∀ p ∈ ps, p.length ≤ 16) → (ps.map fun p => p.length + 1).sum ≤ 17 * ps.length
  | [], _ => by simp
  | a :: b, h => by
    have ih := sum_le b (fun p hp => h p (List.mem_cons_of_mem _ hp))
    have := h a (List.mem_cons_self ..)
    simp only [List.map_cons, List.sum_cons, List.length_cons]
    omega
theorem tok_len {wild last : Bool} {t : List UInt8} (h : Pl.tokOk wild last t = true) : t.length ≤ 16 := by
  unfold Pl.tokOk Pl.plainB at h
  simp only [Bool.or_eq_true, Bool.and_eq_true, decide_eq_true_eq, beq_iff_eq] at h
  rcases h with ⟨_, h, _⟩ | ⟨_, h | ⟨h, _⟩⟩
  · exact h
  · rw [h]; decide
  · rw [h]; decide
theorem name_len {wild : Bool} {l : List UInt8} (h : Pl.errOf wild (Pl.pcs l) = 0) : l.length ≤ 135 := by
  unfold Pl.errOf at h
  split at h
  · exact absurd h (by decide)
  rename_i h8
  split at h
  · rename_i hg
    have hs := pcs_sum l
    have := sum_le (Pl.pcs l) (fun p hp => by
      obtain ⟨i, hi, rfl⟩ := List.mem_iff_getElem.1 hp
      simp only [Pl.goodTo, List.all_eq_true, List.mem_range] at hg
      have := hg i hi
      rw [List.getElem?_eq_getElem hi] at this
      exact tok_len this)
    omega
  · exact absurd h (by decide)

/-! records -/
structure Rec where
  k : Int
  q : Int
  t : Int
  s : List UInt8
  h : List UInt8
  d : List UInt8
def none' : Rec := ⟨0, 0, 0, [], [], []⟩
/-- are kind, number and time in their bounds? -/
def inB (k q t : Int) : Bool := decide (1 ≤ k) && (decide (k ≤ 4) && (decide (1 ≤ q) && (decide (q ≤ 1099511627776) && (decide (0 ≤ t) && decide (t ≤ 1099511627776)))))
/-- what is wrong with a record -/
def chk (r : Rec) : Int :=
  if inB r.k r.q r.t = false then 1
  else if r.k = 1 then (if Pl.errOf false (Pl.pcs r.s) ≠ 0 then Pl.errOf false (Pl.pcs r.s) else if 256 < r.h.length + r.d.length then 2 else 0)
  else if r.k = 3 then (if Pl.errOf true (Pl.pcs r.s) ≠ 0 then Pl.errOf true (Pl.pcs r.s) else if r.h.length + r.d.length = 0 then 0 else 1)
  else if r.s.length + (r.h.length + r.d.length) = 0 then 0 else 1
theorem inB_iff {k q t : Int} : inB k q t = true ↔ 1 ≤ k ∧ k ≤ 4 ∧ 1 ≤ q ∧ q ≤ 1099511627776 ∧ 0 ≤ t ∧ t ≤ 1099511627776 := by
  unfold inB
  simp only [Bool.and_eq_true, decide_eq_true_eq]
theorem chk_len {r : Rec} (h : chk r = 0) : 1 ≤ r.k ∧ r.k ≤ 4 ∧ 1 ≤ r.q ∧ r.q ≤ 1099511627776 ∧ 0 ≤ r.t ∧ r.t ≤ 1099511627776 ∧ r.s.length ≤ 135 ∧ r.h.length + r.d.length ≤ 256 := by
  unfold chk at h
  split at h
  · exact absurd h (by decide)
  rename_i hb
  have hb2 := inB_iff.1 (by simpa using hb)
  refine ⟨hb2.1, hb2.2.1, hb2.2.2.1, hb2.2.2.2.1, hb2.2.2.2.2.1, hb2.2.2.2.2.2, ?_⟩
  split at h
  · split at h
    · rename_i hn; exact absurd h hn
    rename_i hn
    split at h
    · exact absurd h (by decide)
    exact ⟨name_len (Classical.byContradiction hn), by omega⟩
  split at h
  · split at h
    · rename_i hn; exact absurd h hn
    rename_i hn
    split at h
    · exact ⟨name_len (Classical.byContradiction hn), by omega⟩
    · exact absurd h (by decide)
  split at h
  · omega
  · exact absurd h (by decide)
/-- a record's body, a record's bytes -/
def bod (r : Rec) : List UInt8 := body r.k.toNat r.q.toNat r.t.toNat r.s r.h r.d
def cod (r : Rec) : List UInt8 := txt (bod r) ++ le4 (crc (bod r))
theorem le4_len (n : Nat) : (le4 n).length = 4 := rfl
theorem enc_few {n : Nat} (h : n ≤ 1099511627776) : (enc n).length ≤ 9 := enc_nine (by omega)
theorem bod_len {r : Rec} (h : chk r = 0) : 6 ≤ (bod r).length ∧ (bod r).length ≤ 1024 := by
  obtain ⟨_, _, _, h1, _, h2, h3, h4⟩ := chk_len h
  unfold bod body txt
  simp only [List.length_cons, List.length_append]
  have a1 := enc_pos r.q.toNat
  have a2 := enc_pos r.t.toNat
  have a3 := enc_pos r.s.length
  have a4 := enc_pos r.h.length
  have a5 := enc_pos r.d.length
  have b1 := enc_few (n := r.q.toNat) (by omega)
  have b2 := enc_few (n := r.t.toNat) (by omega)
  have b3 := enc_few (n := r.s.length) (by omega)
  have b4 := enc_few (n := r.h.length) (by omega)
  have b5 := enc_few (n := r.d.length) (by omega)
  omega
theorem crc_lt (l : List UInt8) : crc l < 4294967296 := by unfold crc; omega

/-- the parts of a body behind its first byte -/
def p1 (r0 : List UInt8) : List UInt8 := aftN r0
def p2 (r0 : List UInt8) : List UInt8 := aftN (aftN r0)
def p3 (r0 : List UInt8) : List UInt8 := aftT (aftN (aftN r0))
def p4 (r0 : List UInt8) : List UInt8 := aftT (aftT (aftN (aftN r0)))
def p5 (r0 : List UInt8) : List UInt8 := aftT (aftT (aftT (aftN (aftN r0))))
def okB (r0 : List UInt8) : Bool := decide ((rd r0).2.2 = 0) && (decide ((rd (p1 r0)).2.2 = 0) && (decide ((rt (p2 r0) 1024).2.2 = 0) && (decide ((rt (p3 r0) 1024).2.2 = 0) && (decide ((rt (p4 r0) 1024).2.2 = 0) && decide ((p5 r0).length = 0)))))
theorem okB_iff {r0 : List UInt8} : okB r0 = true ↔ partsOk r0 := by
  unfold okB partsOk p1 p2 p3 p4 p5
  simp only [Bool.and_eq_true, decide_eq_true_eq, List.length_eq_zero_iff]
def recOf (c : Nat) (r0 : List UInt8) : Rec := ⟨c, (rd r0).1, (rd (p1 r0)).1, (rt (p2 r0) 1024).1, (rt (p3 r0) 1024).1, (rt (p4 r0) 1024).1⟩
/-- the record at the front -/
def dec (l : List UInt8) : Rec × Nat × Int :=
  if (rt l 1024).2.2 ≠ 0 then (none', 0, (rt l 1024).2.2)
  else if l.length < (rt l 1024).2.1 + 4 then (none', 0, 6)
  else if (l.drop (rt l 1024).2.1).take 4 ≠ le4 (crc (rt l 1024).1) then (none', 0, 7)
  else if (rt l 1024).1.length = 0 then (none', 0, 7)
  else if okB ((rt l 1024).1.drop 1) = false then (none', 0, 7)
  else if chk (recOf (at' (rt l 1024).1 0) ((rt l 1024).1.drop 1)) ≠ 0 then (none', 0, 7)
  else (recOf (at' (rt l 1024).1 0) ((rt l 1024).1.drop 1), (rt l 1024).2.1 + 4, 0)

theorem recOf_bod {r : Rec} (h : chk r = 0) : recOf (at' (bod r) 0) ((bod r).drop 1) = r ∧ okB ((bod r).drop 1) = true := by
  obtain ⟨h1, h2, h3, h4, h5, h6, h7, h8⟩ := chk_len h
  have hq : r.q.toNat < 9223372036854775808 := by omega
  have ht : r.t.toNat < 9223372036854775808 := by omega
  have hs : r.s.length ≤ 1024 := by omega
  have hh : r.h.length ≤ 1024 := by omega
  have hd : r.d.length ≤ 1024 := by omega
  have e5 : rt (txt r.d) 1024 = (r.d, (txt r.d).length, 0) := by have := rt_at hd []; rwa [List.append_nil] at this
  have e : (bod r).drop 1 = enc r.q.toNat ++ (enc r.t.toNat ++ (txt r.s ++ (txt r.h ++ txt r.d))) := rfl
  have e0 : at' (bod r) 0 = r.k.toNat := by show (UInt8.ofNat r.k.toNat).toNat = _; exact u8_of (by omega)
  refine ⟨?_, by rw [okB_iff, e]; exact parts_body hq ht hs hh hd⟩
  rw [e, e0]
  unfold recOf p1 p2 p3 p4
  rw [aftN_enc hq, aftN_enc ht, aftT_txt hs, aftT_txt hh, rd_enc hq, rd_enc ht, rt_at hs, rt_at hh, e5]
  show Rec.mk ((r.k.toNat : Nat) : Int) ((r.q.toNat : Nat) : Int) ((r.t.toNat : Nat) : Int) r.s r.h r.d = r
  rw [Int.toNat_of_nonneg (by omega), Int.toNat_of_nonneg (by omega), Int.toNat_of_nonneg (by omega)]
theorem cod_len (r : Rec) : (cod r).length = (txt (bod r)).length + 4 := by unfold cod; rw [List.length_append, le4_len]
theorem dec_cod {r : Rec} (h : chk r = 0) (more : List UInt8) : dec (cod r ++ more) = (r, (cod r).length, 0) := by
  have hb := bod_len h
  have e : rt (cod r ++ more) 1024 = (bod r, (txt (bod r)).length, 0) := by unfold cod; rw [List.append_assoc]; exact rt_at hb.2 _
  have e2 : ((cod r ++ more).drop (txt (bod r)).length).take 4 = le4 (crc (bod r)) := by
    unfold cod; rw [List.append_assoc, List.drop_left]; rfl
  obtain ⟨g1, g2⟩ := recOf_bod h
  unfold dec
  rw [e]
  simp only []
  rw [if_neg (by simp), if_neg (by rw [List.length_append, cod_len]; omega), if_neg (by rw [e2]; simp), if_neg (by omega), g1, g2, if_neg (by simp), if_neg (by rw [h]; simp), cod_len]
theorem rt_front' {t : List UInt8} {i : Nat} (h : t.length ≤ 1024) (hi : i < (txt t).length) : (rt ((txt t).take i) 1024).2.2 = 6 := by
  have h0 : t.length < 9223372036854775808 := by omega
  unfold rt
  by_cases hl : i < (enc t.length).length
  · unfold txt
    rw [rd_front h0 hl]
    rfl
  · have e : (txt t).take i = enc t.length ++ t.take (i - (enc t.length).length) := by
      unfold txt
      rw [List.take_append, List.take_of_length_le (by omega)]
    have hi' := hi
    unfold txt at hi'
    rw [List.length_append] at hi'
    rw [e, rd_enc h0]
    simp only []
    rw [if_neg (by simp), if_neg (by omega), if_pos (by simp; omega)]
theorem dec_front {r : Rec} {i : Nat} (h : chk r = 0) (hi : i < (cod r).length) : (dec ((cod r).take i)).2.2 = 6 := by
  have hb := bod_len h
  by_cases hl : i < (txt (bod r)).length
  · have e : (cod r).take i = (txt (bod r)).take i := by
      unfold cod
      rw [List.take_append_of_le_length (by omega)]
    have e6 := rt_front' hb.2 hl
    unfold dec
    rw [e, e6, if_pos (by decide)]
    rfl
  · have e : (cod r).take i = txt (bod r) ++ (le4 (crc (bod r))).take (i - (txt (bod r)).length) := by
      unfold cod
      rw [List.take_append, List.take_of_length_le (by omega)]
    have hi' := hi
    rw [cod_len] at hi'
    unfold dec
    rw [e, rt_at hb.2]
    simp only []
    rw [if_neg (by simp), if_pos (by rw [← e, List.length_take]; omega)]
theorem dec_bad {l : List UInt8} (h : (dec l).2.2 ≠ 0) : (dec l).1 = none' ∧ (dec l).2.1 = 0 := by
  unfold dec at h ⊢
  split
  · exact ⟨rfl, rfl⟩
  rename_i h1
  rw [if_neg h1] at h
  split
  · exact ⟨rfl, rfl⟩
  rename_i h2
  rw [if_neg h2] at h
  split
  · exact ⟨rfl, rfl⟩
  rename_i h3
  rw [if_neg h3] at h
  split
  · exact ⟨rfl, rfl⟩
  rename_i h4
  rw [if_neg h4] at h
  split
  · exact ⟨rfl, rfl⟩
  rename_i h5
  rw [if_neg h5] at h
  split
  · exact ⟨rfl, rfl⟩
  rename_i h6
  rw [if_neg h6] at h
  exact absurd rfl h
theorem dec_one {l : List UInt8} (h : (dec l).2.2 = 0) : chk (dec l).1 = 0 ∧ cod (dec l).1 = l.take (dec l).2.1 ∧ (dec l).2.1 ≤ l.length := by
  unfold dec at h ⊢
  split
  · rename_i h1; rw [if_pos h1] at h; exact absurd (by simpa using h) h1
  rename_i h1
  rw [if_neg h1] at h
  split
  · rename_i h2; rw [if_pos h2] at h; exact absurd h (by decide)
  rename_i h2
  rw [if_neg h2] at h
  split
  · rename_i h3; rw [if_pos h3] at h; exact absurd h (by decide)
  rename_i h3
  rw [if_neg h3] at h
  split
  · rename_i h4; rw [if_pos h4] at h; exact absurd h (by decide)
  rename_i h4
  rw [if_neg h4] at h
  split
  · rename_i h5; rw [if_pos h5] at h; exact absurd h (by decide)
  rename_i h5
  rw [if_neg h5] at h
  split
  · rename_i h6; rw [if_pos h6] at h; exact absurd h (by decide)
  rename_i h6
  have hc := Classical.byContradiction h6
  refine ⟨hc, ?_, by show (rt l 1024).2.1 + 4 ≤ _; omega⟩
  have h10 : (rt l 1024).2.2 = 0 := Classical.byContradiction h1
  have ho := rt_one (l := l) (most := 1024) (x := (rt l 1024).1) (n := (rt l 1024).2.1) (by rw [← h10])
  have hp := parts_one (okB_iff.1 (Bool.not_eq_false _ |>.mp h5))
  have hbod : bod (recOf (at' (rt l 1024).1 0) ((rt l 1024).1.drop 1)) = (rt l 1024).1 := by
    obtain ⟨B, hB⟩ : ∃ B, (rt l 1024).1 = B := ⟨_, rfl⟩
    rw [hB] at hp h4 ⊢
    match B, h4 with
    | [], h4 => exact absurd rfl h4
    | c :: r, _ =>
      rw [show (c :: r).drop 1 = r from rfl] at hp
      rw [show (c :: r).drop 1 = r from rfl]
      unfold bod body recOf p1 p2 p3 p4
      simp only [Int.toNat_natCast, at_zero, UInt8.ofNat_toNat]
      rw [hp]
  show cod _ = l.take ((rt l 1024).2.1 + 4)
  unfold cod
  rw [hbod, ho.1, ← Classical.byContradiction h3, List.take_add]

/-! one turned bit -/
theorem one_bit {f g : Nat → Nat} (hf : ∀ j, f j < 2) (hg : ∀ j, g j < 2) {j : Nat} (h : ∀ i, f i ^^^ g i = if i = j then 1 else 0) {N : Nat} (hN : j < N) : reg f N ≠ reg g N := by
  have hpre : ∀ n, n ≤ j → reg f n ^^^ reg g n = 0 := by
    intro n
    induction n with
    | zero => intro _; simp [reg]
    | succ n ih =>
      intro hn
      rw [diff_step, ih (by omega), h, if_neg (by omega)]
      rfl
  have hend : ∀ n, reg f (j + 1 + n) ^^^ reg g (j + 1 + n) ≠ 0 := by
    intro n
    induction n with
    | zero =>
      rw [Nat.add_zero, diff_step, hpre j (Nat.le_refl _), h, if_pos rfl]
      decide
    | succ n ih =>
      intro e
      rw [← Nat.add_assoc, diff_step, h, if_neg (by omega), Nat.xor_zero] at e
      exact ih (Z_zero (Nat.xor_lt_two_pow (n := 32) (reg_lt hf _) (reg_lt hg _)) e)
  intro e
  have := hend (N - (j + 1))
  rw [show j + 1 + (N - (j + 1)) = N from by omega, e, Nat.xor_self] at this
  exact this rfl
theorem flip_sum {l : List UInt8} {j : Nat} (h : j < 8 * l.length) : crc (flip l j) ≠ crc l := by
  have := one_bit (f := bitAt l) (g := bitAt (flip l j)) (bitAt_lt l) (bitAt_lt _) (j := j) (fun i => by
    have b0 := bitAt_lt l i
    rw [xor_01 b0 (bitAt_lt _ _), flip_bit (by omega)]
    by_cases e : i = j
    · rw [if_pos e]; omega
    · rw [if_neg e]; omega) h
  have r0 := reg_lt (bitAt_lt l) (8 * l.length)
  have r1 := reg_lt (bitAt_lt (flip l j)) (8 * l.length)
  unfold crc
  rw [flip_len]
  omega
theorem flip_ne {l : List UInt8} {j : Nat} (h : j < 8 * l.length) : flip l j ≠ l := fun e => flip_sum h (by rw [e])
theorem flip_right {a b : List UInt8} {j : Nat} : flip (a ++ b) (8 * a.length + j) = a ++ flip b j := by
  unfold flip
  rw [show (8 * a.length + j) / 8 = a.length + j / 8 from by omega, show (8 * a.length + j) % 8 = j % 8 from by omega]
  have e : at' (a ++ b) (a.length + j / 8) = at' b (j / 8) := by
    unfold at'
    rw [List.getElem?_append_right (by omega), show a.length + j / 8 - a.length = j / 8 from by omega]
  rw [e, List.set_append_right _ _ (by omega), show a.length + j / 8 - a.length = j / 8 from by omega]
theorem flip_left {a b : List UInt8} {j : Nat} (h : j < 8 * a.length) : flip (a ++ b) j = flip a j ++ b := by
  unfold flip
  rw [at_append_left (by omega), List.set_append_left _ _ (by omega)]
theorem dec_sum {B S : List UInt8} (hb : B.length ≤ 1024) (hs : S.length = 4) (hne : S ≠ le4 (crc B)) : (dec (txt B ++ S)).2.2 = 7 := by
  unfold dec
  rw [rt_at hb]
  simp only []
  rw [if_neg (by simp), if_neg (by rw [List.length_append, hs]; omega), if_pos (by rw [List.drop_left, List.take_of_length_le (by omega)]; exact hne)]
theorem le4_inj {a b : Nat} (ha : a < 4294967296) (hb : b < 4294967296) (h : le4 a = le4 b) : a = b := by
  have h1 := num4_le4 ha []
  have h2 := num4_le4 hb []
  rw [h] at h1
  exact h1.symm.trans h2
theorem rd_cod {r : Rec} (h : chk r = 0) : rd (cod r) = ((bod r).length, (enc (bod r).length).length, 0) := by
  have hb := bod_len h
  unfold cod txt
  rw [List.append_assoc]
  exact rd_enc (by omega) _
theorem dec_turned {r : Rec} {i : Nat} (h : chk r = 0) (hi : i < 8 * ((cod r).length - (enc (bod r).length).length)) : (dec (flip (cod r) (8 * (enc (bod r).length).length + i))).2.2 = 7 := by
  have hb := bod_len h
  rw [cod_len] at hi
  have e : cod r = enc (bod r).length ++ (bod r ++ le4 (crc (bod r))) := by unfold cod txt; rw [List.append_assoc]
  have hl : (txt (bod r)).length = (enc (bod r).length).length + (bod r).length := by unfold txt; rw [List.length_append]
  rw [e, flip_right]
  by_cases hj : i < 8 * (bod r).length
  · rw [flip_left hj]
    have e2 : enc (bod r).length ++ (flip (bod r) i ++ le4 (crc (bod r))) = txt (flip (bod r) i) ++ le4 (crc (bod r)) := by
      unfold txt; rw [flip_len, List.append_assoc]
    rw [e2]
    refine dec_sum (by rw [flip_len]; exact hb.2) rfl (fun q => ?_)
    exact flip_sum hj (le4_inj (crc_lt _) (crc_lt _) q).symm
  · obtain ⟨m, rfl⟩ : ∃ m, i = 8 * (bod r).length + m := ⟨i - 8 * (bod r).length, by omega⟩
    rw [flip_right]
    have e2 : enc (bod r).length ++ (bod r ++ flip (le4 (crc (bod r))) m) = txt (bod r) ++ flip (le4 (crc (bod r))) m := by
      unfold txt; rw [List.append_assoc]
    rw [e2]
    exact dec_sum hb.2 (by rw [flip_len]; rfl) (flip_ne (by rw [le4_len]; omega))
end Go.Proofs.YtmbnmljkioikjaaDoor.Pk
