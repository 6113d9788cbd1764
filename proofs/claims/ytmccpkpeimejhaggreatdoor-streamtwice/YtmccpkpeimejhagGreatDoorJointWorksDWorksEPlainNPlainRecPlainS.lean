/-
  What is asked of the program's disk, whatever it is made of.
  What is asked of the program's disk beyond that: Cut and List.
  Plain mathematics of numbers in groups of seven bits, of texts behind their length, and of the sum (CRC-32): a number is read as it was written, what is read is written so, a burst of at most 32 bits is told. No program.
  Plain mathematics of records as bytes: a body out of its parts and the parts out of a body, a sum as four bytes. No program.
  Plain mathematics of a burst: bits of a text that are turned one by one, and PETERSON, BROWN for them. No program.
-/
import Derived.Test.YtmccpkpeimejhagGreatDoorJointPapPwWalkY4RowTcPapLPapM
namespace Go.Proofs.YtmccpkpeimejhagGreatDoor.Dk
open Go.RowKit

/-- a number that fits in 64 bits -/
def wf (n : Int) : Prop := (Lit.int .i64 n).wf = true
theorem wf_low {n : Int} (h : 0 ≤ n ∧ n ≤ 1099511627776) : wf n := WalkArith.wf_i64 (by omega)
theorem wf_of {n : Int} (h : inI n 0 1099511627776 = true) : wf n := wf_low (by simpa [inI] using h)
/-- a call may have written the disk's own blocks F alone; it shows es' then, in blocks of its own or new ones -/
def Did (Has : World → Nat → Nat → (Nat → Prop) → Int → List Pap → Prop) (w w' : World) (B q : Nat) (F : Nat → Prop) (m : Int) (es' : List Pap) : Prop := ∃ F', Has w' B q F' m es' ∧ Chg F w w' ∧ ∀ k, F' k → F k ∨ w.heap.size ≤ k
/-- what is asked of the program's disk: Has w B q F m es says that at block q there is a disk of room m that shows the files es, in the blocks F -/
structure Works (Has : World → Nat → Nat → (Nat → Prop) → Int → List Pap → Prop) : Prop where
  own : ∀ {w B q F m es}, Has w B q F m es → ∀ k, F k → B ≤ k ∧ k < w.heap.size
  chg : ∀ {w w' B q F m es} {A : Nat → Prop}, Has w B q F m es → Chg A w w' → (∀ k, F k → ¬ A k) → Has w' B q F m es
  append : ∀ {w B q F m es} (n : Int) (s : ByteArray), Has w B q F m es → Tidy m es → m ≤ 65536 → s.size ≤ 140737488355328 → B ≤ w.heap.size →
    Calls Tryz.prog 46 #[.pointer (some ⟨q, 0, none⟩), .int .i64 n, .string s] w fun e w' => e = .returned (.int .i64 (appE es m n s)) ∧ Did Has w w' B q F m (appL es m n s)
  sync : ∀ {w B q F m es} (n : Int), wf n → Has w B q F m es → Tidy m es → m ≤ 65536 → B ≤ w.heap.size →
    Calls Tryz.prog 47 #[.pointer (some ⟨q, 0, none⟩), .int .i64 n] w fun e w' => e = .returned (.int .i64 (hasE es n)) ∧ Did Has w w' B q F m (syncL es n)
  remove : ∀ {w B q F m es} (n : Int), wf n → Has w B q F m es → Tidy m es → m ≤ 65536 → B ≤ w.heap.size →
    Calls Tryz.prog 82 #[.pointer (some ⟨q, 0, none⟩), .int .i64 n] w fun e w' => e = .returned (.int .i64 (hasE es n)) ∧ Did Has w w' B q F m (remL es n)
  read : ∀ {w B q F m es} (n : Int), wf n → Has w B q F m es → Tidy m es → m ≤ 65536 → B ≤ w.heap.size →
    Calls Tryz.prog 92 #[.pointer (some ⟨q, 0, none⟩), .int .i64 n] w fun e w' => e = .returned (readV es n) ∧ Did Has w w' B q F m es
  used : ∀ {w B q F m es}, Has w B q F m es → Tidy m es → m ≤ 65536 → B ≤ w.heap.size →
    Calls Tryz.prog 28 #[.pointer (some ⟨q, 0, none⟩)] w fun e w' => e = .returned (.int .i64 (used es : Int)) ∧ Did Has w w' B q F m es
/-- what is asked of New -/
structure News (Has : World → Nat → Nat → (Nat → Prop) → Int → List Pap → Prop) : Prop where
  bad : ∀ (w : World) (m : Int), inI m 1 65536 = false → Calls Tryz.prog 20 #[.int .i64 m] w fun e w' => e = .returned (.tuple #[.pointer none, .int .i64 1]) ∧ Below w.heap.size w w'
  good : ∀ (w : World) (m : Int), inI m 1 65536 = true → Calls Tryz.prog 20 #[.int .i64 m] w fun e w' => ∃ q F, e = .returned (.tuple #[.pointer (some ⟨q, 0, none⟩), .int .i64 0]) ∧ Has w' w.heap.size q F m [] ∧ Below w.heap.size w w'
end Go.Proofs.YtmccpkpeimejhagGreatDoor.Dk

namespace Go.Proofs.YtmccpkpeimejhagGreatDoor.Dk
open Go.RowKit

/-- what is asked of a disk that is only looked at -/
structure Looks (Has : World → Nat → Nat → (Nat → Prop) → Int → List Pap → Prop) : Prop where
  own : ∀ {w B q F m es}, Has w B q F m es → ∀ k, F k → B ≤ k ∧ k < w.heap.size
  chg : ∀ {w w' B q F m es} {A : Nat → Prop}, Has w B q F m es → Chg A w w' → (∀ k, F k → ¬ A k) → Has w' B q F m es
  read : ∀ {w B q F m es} (n : Int), wf n → Has w B q F m es → Tidy m es → m ≤ 65536 → B ≤ w.heap.size →
    Calls Tryz.prog 92 #[.pointer (some ⟨q, 0, none⟩), .int .i64 n] w fun e w' => e = .returned (readV es n) ∧ Did Has w w' B q F m es
  used : ∀ {w B q F m es}, Has w B q F m es → Tidy m es → m ≤ 65536 → B ≤ w.heap.size →
    Calls Tryz.prog 28 #[.pointer (some ⟨q, 0, none⟩)] w fun e w' => e = .returned (.int .i64 (used es : Int)) ∧ Did Has w w' B q F m es
  list : ∀ {w B q F m es}, Has w B q F m es → Tidy m es → m ≤ 65536 → B ≤ w.heap.size →
    Calls Tryz.prog 78 #[.pointer (some ⟨q, 0, none⟩)] w fun e w' => ∃ a c, e = .returned (.slice a es.length c) ∧ SlI w' a (numL es) ∧ Did Has w w' B q F m es
/-- what is asked of the program's disk, Cut and List too -/
structure More (Has : World → Nat → Nat → (Nat → Prop) → Int → List Pap → Prop) : Prop where
  works : Works Has
  cut : ∀ {w B q F m es} (n size : Int), wf n → Has w B q F m es → Tidy m es → m ≤ 65536 → B ≤ w.heap.size →
    Calls Tryz.prog 110 #[.pointer (some ⟨q, 0, none⟩), .int .i64 n, .int .i64 size] w fun e w' => e = .returned (.int .i64 (cutE es n size)) ∧ Did Has w w' B q F m (cutL es n size)
  list : ∀ {w B q F m es}, Has w B q F m es → Tidy m es → m ≤ 65536 → B ≤ w.heap.size →
    Calls Tryz.prog 78 #[.pointer (some ⟨q, 0, none⟩)] w fun e w' => ∃ a c, e = .returned (.slice a es.length c) ∧ SlI w' a (numL es) ∧ Did Has w w' B q F m es
theorem More.looks {Has : World → Nat → Nat → (Nat → Prop) → Int → List Pap → Prop} (H : More Has) : Looks Has := ⟨H.works.own, H.works.chg, H.works.read, H.works.used, H.list⟩
end Go.Proofs.YtmccpkpeimejhagGreatDoor.Dk

namespace Go.Proofs.YtmccpkpeimejhagGreatDoor.Pk

/-- the byte at a place, 0 behind the end -/
def at' (l : List UInt8) (k : Nat) : Nat := (l[k]?.getD 0).toNat
theorem at_lt (l : List UInt8) (k : Nat) : at' l k < 256 := UInt8.toNat_lt _
theorem at_zero (c : UInt8) (l : List UInt8) : at' (c :: l) 0 = c.toNat := rfl
theorem at_succ (c : UInt8) (l : List UInt8) (k : Nat) : at' (c :: l) (k + 1) = at' l k := rfl
theorem at_append_left {l m : List UInt8} {k : Nat} (h : k < l.length) : at' (l ++ m) k = at' l k := by
  unfold at'; rw [List.getElem?_append_left h]
theorem at_get {l : List UInt8} {k : Nat} (h : k < l.length) : at' l k = (l[k]).toNat := by
  unfold at'; rw [List.getElem?_eq_getElem h]; rfl
theorem at_take {l : List UInt8} {k i : Nat} (h : k < i) : at' (l.take i) k = at' l k := by
  unfold at'; rw [List.getElem?_take_of_lt h]

/-- a number's bytes -/
def enc (n : Nat) : List UInt8 := if n < 128 then [UInt8.ofNat n] else UInt8.ofNat (128 + n % 128) :: enc (n / 128)
theorem enc_small {n : Nat} (h : n < 128) : enc n = [UInt8.ofNat n] := by rw [enc, if_pos h]
theorem enc_large {n : Nat} (h : ¬ n < 128) : enc n = UInt8.ofNat (128 + n % 128) :: enc (n / 128) := by rw [enc, if_neg h]
theorem u8_of {n : Nat} (h : n < 256) : (UInt8.ofNat n).toNat = n := by simp; omega
theorem enc_pos (n : Nat) : 1 ≤ (enc n).length := by
  by_cases h : n < 128
  · rw [enc_small h]; simp
  · rw [enc_large h]; simp
theorem enc_short : ∀ (m : Nat) {n : Nat}, n < 128 ^ (m + 1) → (enc n).length ≤ m + 1
  | 0, n, h => by rw [enc_small (by simpa using h)]; simp
  | m + 1, n, h => by
    by_cases hs : n < 128
    · rw [enc_small hs]; simp
    · rw [enc_large hs, List.length_cons]
      have : n / 128 < 128 ^ (m + 1) := by rw [Nat.div_lt_iff_lt_mul (by decide)]; rw [Nat.pow_succ] at h; exact h
      have := enc_short m this
      omega
theorem enc_nine {n : Nat} (h : n < 9223372036854775808) : (enc n).length ≤ 9 := enc_short 8 (by simpa using h)

/-- how many bytes at the front go on, at most m -/
def lead : List UInt8 → Nat → Nat
  | [], _ => 0
  | _ :: _, 0 => 0
  | c :: r, m + 1 => if c.toNat < 128 then 0 else lead r m + 1
theorem lead_eq : ∀ {l : List UInt8} {m k : Nat}, k ≤ m → k ≤ l.length → (∀ j, j < k → 128 ≤ at' l j) → (k = m ∨ k = l.length ∨ at' l k < 128) → lead l m = k
  | [], m, k, _, h2, _, _ => by simp at h2; subst h2; simp [lead]
  | c :: r, 0, k, h1, _, _, _ => by simp at h1; subst h1; simp [lead]
  | c :: r, m + 1, 0, _, _, _, h => by
    rcases h with h | h | h
    · cases h
    · simp at h
    · rw [at_zero] at h; simp [lead, h]
  | c :: r, m + 1, k + 1, h1, h2, h3, h4 => by
    have h0 := h3 0 (by omega)
    rw [at_zero] at h0
    have e := lead_eq (l := r) (m := m) (k := k) (by omega) (by simpa using h2) (fun j hj => by have := h3 (j + 1) (by omega); rwa [at_succ] at this) (by
      rcases h4 with h | h | h
      · exact .inl (by omega)
      · exact .inr (.inl (by simpa using h))
      · exact .inr (.inr (by rwa [at_succ] at h)))
    simp [lead, e]; omega
theorem lead_le : ∀ (l : List UInt8) (m : Nat), lead l m ≤ m ∧ lead l m ≤ l.length
  | [], m => by simp [lead]
  | _ :: _, 0 => by simp [lead]
  | c :: r, m + 1 => by
    have := lead_le r m
    unfold lead; split <;> simp <;> omega
theorem lead_big : ∀ {l : List UInt8} {m j : Nat}, j < lead l m → 128 ≤ at' l j
  | [], m, j, h => by simp [lead] at h
  | _ :: _, 0, j, h => by simp [lead] at h
  | c :: r, m + 1, j, h => by
    unfold lead at h
    split at h
    · omega
    · cases j with
      | zero => rw [at_zero]; omega
      | succ j => rw [at_succ]; exact lead_big (m := m) (by omega)
theorem lead_stop : ∀ {l : List UInt8} {m : Nat}, lead l m < m → lead l m < l.length → at' l (lead l m) < 128
  | [], m, _, h => by simp [lead] at h
  | _ :: _, 0, h, _ => by simp [lead] at h
  | c :: r, m + 1, h1, h2 => by
    unfold lead at h1 h2 ⊢
    split
    · rw [at_zero]; assumption
    · rw [at_succ]
      rename_i hc
      rw [if_neg hc] at h1 h2
      exact lead_stop (by omega) (by simpa using h2)

/-- the value of m groups from place i on -/
def val (l : List UInt8) (i : Nat) : Nat → Nat
  | 0 => 0
  | m + 1 => at' l i % 128 + 128 * val l (i + 1) m
theorem val_succ (l : List UInt8) (i m : Nat) : val l i (m + 1) = at' l i % 128 + 128 * val l (i + 1) m := rfl
theorem val_shift (c : UInt8) (l : List UInt8) : ∀ (m i : Nat), val (c :: l) (i + 1) m = val l i m
  | 0, _ => rfl
  | m + 1, i => by rw [val_succ, val_succ, at_succ, val_shift c l m (i + 1)]
theorem val_last (l : List UInt8) : ∀ (m i : Nat), val l i (m + 1) = val l i m + 128 ^ m * (at' l (i + m) % 128)
  | 0, i => by simp [val]
  | m + 1, i => by
    rw [val_succ, val_last l m (i + 1), val_succ, Nat.pow_succ, Nat.mul_add, ← Nat.add_assoc]
    rw [show i + 1 + m = i + (m + 1) from by omega, Nat.mul_comm (128 ^ m) 128, Nat.mul_assoc]
theorem val_lt (l : List UInt8) : ∀ (m i : Nat), val l i m < 128 ^ m
  | 0, _ => by simp [val]
  | m + 1, i => by
    have := val_lt l m (i + 1)
    rw [val_succ, Nat.pow_succ]
    have := Nat.mod_lt (at' l i) (show 0 < 128 by decide)
    omega

/-- ReadNumber: the number, how many bytes, the error -/
def rd (l : List UInt8) : Nat × Nat × Nat :=
  if lead l 9 = 9 then (0, 0, 7) else if lead l 9 = l.length then (0, 0, 6) else if 0 < lead l 9 ∧ at' l (lead l 9) = 0 then (0, 0, 7)
  else (val l 0 (lead l 9 + 1), lead l 9 + 1, 0)

theorem lead_enc (more : List UInt8) (n : Nat) : ∀ m, (enc n).length ≤ m → lead (enc n ++ more) m = (enc n).length - 1 := by
  induction n using Nat.strongRecOn with
  | _ n ih =>
    intro m hm
    by_cases hs : n < 128
    · rw [enc_small hs] at hm ⊢
      obtain ⟨m, rfl⟩ : ∃ k, m = k + 1 := ⟨m - 1, by simp at hm; omega⟩
      simp [lead]; omega
    · rw [enc_large hs] at hm ⊢
      obtain ⟨m, rfl⟩ : ∃ k, m = k + 1 := ⟨m - 1, by simp at hm; omega⟩
      have e := ih (n / 128) (by omega) m (by simpa using hm)
      have p := enc_pos (n / 128)
      rw [List.cons_append, lead, u8_of (by omega), if_neg (by omega), e, List.length_cons]
      omega
theorem val_enc (more : List UInt8) (n : Nat) : val (enc n ++ more) 0 (enc n).length = n := by
  induction n using Nat.strongRecOn with
  | _ n ih =>
    by_cases hs : n < 128
    · rw [enc_small hs]
      simp [val, at']; omega
    · have e := ih (n / 128) (by omega)
      rw [enc_large hs, List.cons_append, List.length_cons, val_succ, val_shift, e, at_zero, u8_of (by omega)]
      omega
theorem last_enc (more : List UInt8) (n : Nat) : 0 < n → at' (enc n ++ more) ((enc n).length - 1) ≠ 0 := by
  induction n using Nat.strongRecOn with
  | _ n ih =>
    intro h0
    by_cases hs : n < 128
    · rw [enc_small hs]
      simp [at']; omega
    · have e := ih (n / 128) (by omega) (by omega)
      have p := enc_pos (n / 128)
      rw [enc_large hs, List.cons_append, List.length_cons]
      rw [show (enc (n / 128)).length + 1 - 1 = ((enc (n / 128)).length - 1) + 1 from by omega, at_succ]
      exact e
theorem rd_enc {n : Nat} (h : n < 9223372036854775808) (more : List UInt8) : rd (enc n ++ more) = (n, (enc n).length, 0) := by
  have h9 := enc_nine h
  have p := enc_pos n
  have e := lead_enc more n 9 h9
  unfold rd
  rw [e, if_neg (by omega), if_neg (by simp; omega), if_neg]
  · rw [show (enc n).length - 1 + 1 = (enc n).length from by omega, val_enc]
  · rintro ⟨h1, h2⟩
    by_cases hn : 0 < n
    · exact last_enc more n hn h2
    · rw [enc_small (by omega)] at h1
      simp at h1
theorem rd_front {n i : Nat} (h : n < 9223372036854775808) (hi : i < (enc n).length) (more : List UInt8) : rd ((enc n ++ more).take i) = (0, 0, 6) := by
  have h9 := enc_nine h
  have e0 := lead_enc more n 9 h9
  have hl : ((enc n ++ more).take i).length = i := by simp; omega
  have e : lead ((enc n ++ more).take i) 9 = i := lead_eq (by omega) (by omega) (fun j hj => by rw [at_take hj]; exact lead_big (m := 9) (by omega)) (.inr (.inl hl.symm))
  unfold rd
  rw [e, hl, if_neg (by omega), if_pos rfl]
theorem enc_val : ∀ (k : Nat) {l : List UInt8}, k < l.length → (∀ j, j < k → 128 ≤ at' l j) → at' l k < 128 → (k = 0 ∨ at' l k ≠ 0) → enc (val l 0 (k + 1)) = l.take (k + 1)
  | k, [], h, _, _, _ => by simp at h
  | 0, c :: r, _, _, h2, _ => by
    rw [at_zero] at h2
    rw [val_succ, at_zero, val, enc_small (by omega)]
    simp [Nat.mod_eq_of_lt h2]
  | k + 1, c :: r, h0, h1, h2, h3 => by
    rw [at_succ] at h2 h3
    have hne : at' r k ≠ 0 := by omega
    have e := enc_val k (l := r) (by simpa using h0) (fun j hj => by have := h1 (j + 1) (by omega); rwa [at_succ] at this) h2 (.inr hne)
    have hc := h1 0 (by omega)
    rw [at_zero] at hc
    have hcl := UInt8.toNat_lt c
    have hp : 0 < val r 0 (k + 1) := by
      rw [val_last, Nat.zero_add, Nat.mod_eq_of_lt h2]
      have := Nat.mul_pos (show 0 < 128 ^ k from Nat.pow_pos (by decide)) (show 0 < at' r k by omega)
      omega
    rw [val_succ, val_shift, at_zero, enc_large (by omega)]
    rw [show (c.toNat % 128 + 128 * val r 0 (k + 1)) / 128 = val r 0 (k + 1) from by omega, e]
    rw [show 128 + (c.toNat % 128 + 128 * val r 0 (k + 1)) % 128 = c.toNat from by omega]
    simp
theorem rd_bad {l : List UInt8} (h : (rd l).2.2 ≠ 0) : (rd l).1 = 0 ∧ (rd l).2.1 = 0 := by
  unfold rd at h ⊢
  split
  · exact ⟨rfl, rfl⟩
  split
  · exact ⟨rfl, rfl⟩
  split
  · exact ⟨rfl, rfl⟩
  · rename_i h1 h2 h3
    rw [if_neg h1, if_neg h2, if_neg h3] at h
    exact absurd rfl h
theorem rd_good {l : List UInt8} (h : (rd l).2.2 = 0) : enc (rd l).1 = l.take (rd l).2.1 ∧ (rd l).2.1 ≤ l.length ∧ (rd l).1 < 9223372036854775808 ∧ 1 ≤ (rd l).2.1 ∧ (rd l).2.1 ≤ 9 := by
  have hl := lead_le l 9
  unfold rd at h ⊢
  split
  · rename_i h1; rw [if_pos h1] at h; cases h
  rename_i h1
  rw [if_neg h1] at h
  split
  · rename_i h2; rw [if_pos h2] at h; cases h
  rename_i h2
  rw [if_neg h2] at h
  split
  · rename_i h3; rw [if_pos h3] at h; cases h
  rename_i h3
  refine ⟨enc_val _ (by omega) (fun j hj => lead_big hj) (lead_stop (by omega) (by omega)) (by omega), by show lead l 9 + 1 ≤ _; omega, ?_, by show 1 ≤ lead l 9 + 1; omega, by show lead l 9 + 1 ≤ 9; omega⟩
  refine Nat.lt_of_lt_of_le (val_lt l _ 0) ?_
  exact Nat.le_trans (Nat.pow_le_pow_right (by decide) (show lead l 9 + 1 ≤ 9 by omega)) (by decide)

/-- ReadText: the text, how many bytes, the error -/
def rt (l : List UInt8) (most : Int) : List UInt8 × Nat × Nat :=
  if (rd l).2.2 ≠ 0 then ([], 0, (rd l).2.2) else if most < (rd l).1 then ([], 0, 7) else if l.length < (rd l).2.1 + (rd l).1 then ([], 0, 6)
  else ((l.drop (rd l).2.1).take (rd l).1, (rd l).2.1 + (rd l).1, 0)
def txt (t : List UInt8) : List UInt8 := enc t.length ++ t
theorem rt_txt {t : List UInt8} (h : t.length < 9223372036854775808) (more : List UInt8) : rt (txt t ++ more) t.length = (t, (txt t).length, 0) := by
  unfold rt txt
  rw [List.append_assoc, rd_enc h]
  simp only []
  rw [if_neg (by simp), if_neg (by omega), if_neg (by simp)]
  simp
theorem rt_front {t : List UInt8} {i : Nat} (h : t.length < 9223372036854775808) (hi : i < (txt t).length) : (rt ((txt t).take i) t.length).2.2 = 6 := by
  unfold rt
  by_cases hl : i < (enc t.length).length
  · unfold txt
    rw [rd_front h hl]
    rfl
  · have e : (txt t).take i = enc t.length ++ t.take (i - (enc t.length).length) := by
      unfold txt
      rw [List.take_append, List.take_of_length_le (by omega)]
    have hi' := hi
    unfold txt at hi'
    rw [List.length_append] at hi'
    rw [e, rd_enc h]
    simp only []
    rw [if_neg (by simp), if_neg (by omega), if_pos (by simp; omega)]

/-! sums -/
def Z (r : Nat) : Nat := (r / 2) ^^^ (if r % 2 = 1 then 3988292384 else 0)
theorem Z_lt {r : Nat} (h : r < 4294967296) : Z r < 4294967296 := by
  unfold Z
  exact Nat.xor_lt_two_pow (n := 32) (by omega) (by split <;> decide)
theorem xor_half (a b : Nat) : (a ^^^ b) / 2 = a / 2 ^^^ b / 2 := by
  apply Nat.eq_of_testBit_eq
  intro i
  simp [Nat.testBit_div_two]
theorem xor_odd (a b : Nat) : (a ^^^ b) % 2 = (a % 2 + b % 2) % 2 := by
  have := Nat.testBit_xor a b 0
  simp only [Nat.testBit_zero] at this
  have ha : a % 2 = 0 ∨ a % 2 = 1 := by omega
  have hb : b % 2 = 0 ∨ b % 2 = 1 := by omega
  have hc : (a ^^^ b) % 2 = 0 ∨ (a ^^^ b) % 2 = 1 := by omega
  rcases ha with ha | ha <;> rcases hb with hb | hb <;> rcases hc with hc | hc <;> simp [ha, hb, hc] at this ⊢
theorem Z_xor (a b : Nat) : Z (a ^^^ b) = Z a ^^^ Z b := by
  unfold Z
  rw [xor_half, xor_odd]
  have ha : a % 2 = 0 ∨ a % 2 = 1 := by omega
  have hb : b % 2 = 0 ∨ b % 2 = 1 := by omega
  rcases ha with ha | ha <;> rcases hb with hb | hb <;> simp only [ha, hb]
  · simp
  · simp [Nat.xor_assoc]
  · simp only [Nat.zero_ne_one, ↓reduceIte, Nat.xor_zero]
    ac_rfl
  · simp only [Nat.reduceAdd, Nat.reduceMod, Nat.zero_ne_one, ↓reduceIte, Nat.xor_zero]
    rw [show a / 2 ^^^ 3988292384 ^^^ (b / 2 ^^^ 3988292384) = (a / 2 ^^^ b / 2) ^^^ (3988292384 ^^^ 3988292384) from by ac_rfl, Nat.xor_self, Nat.xor_zero]
theorem Z_zero {r : Nat} (hr : r < 4294967296) (h : Z r = 0) : r = 0 := by
  unfold Z at h
  by_cases ho : r % 2 = 1
  · rw [if_pos ho] at h
    have hb := congrArg (fun n => n.testBit 31) h
    simp only [Nat.testBit_xor, Nat.zero_testBit] at hb
    rw [Nat.testBit_lt_two_pow (show r / 2 < 2 ^ 31 by omega)] at hb
    exact absurd hb (by decide)
  · rw [if_neg ho, Nat.xor_zero] at h
    omega
/-- the register behind n bits -/
def reg (f : Nat → Nat) : Nat → Nat
  | 0 => 4294967295
  | n + 1 => Z (reg f n ^^^ f n)
def bitAt (l : List UInt8) (j : Nat) : Nat := at' l (j / 8) / 2 ^ (j % 8) % 2
theorem bitAt_lt (l : List UInt8) (j : Nat) : bitAt l j < 2 := Nat.mod_lt _ (by decide)
theorem reg_lt {f : Nat → Nat} (hf : ∀ j, f j < 2) : ∀ n, reg f n < 4294967296
  | 0 => by show 4294967295 < 4294967296; decide
  | n + 1 => Z_lt (Nat.xor_lt_two_pow (n := 32) (reg_lt hf n) (by have := hf n; omega))
def crc (l : List UInt8) : Nat := 4294967295 - reg (bitAt l) (8 * l.length)

theorem xor_eq_zero {a b : Nat} (h : a ^^^ b = 0) : a = b := by
  have := congrArg (· ^^^ b) h
  simpa [Nat.xor_assoc] using this
theorem diff_step {f g : Nat → Nat} (n : Nat) : reg f (n + 1) ^^^ reg g (n + 1) = Z ((reg f n ^^^ reg g n) ^^^ (f n ^^^ g n)) := by
  show Z (reg f n ^^^ f n) ^^^ Z (reg g n ^^^ g n) = _
  rw [← Z_xor]
  congr 1
  ac_rfl
def Zs : Nat → Nat → Nat
  | 0, r => r
  | n + 1, r => Z (Zs n r)
theorem Zs_lt {r : Nat} (h : r < 4294967296) : ∀ n, Zs n r < 4294967296
  | 0 => h
  | n + 1 => Z_lt (Zs_lt h n)
theorem Zs_ne {r : Nat} (h : r < 4294967296) (h0 : r ≠ 0) : ∀ n, Zs n r ≠ 0
  | 0 => h0
  | n + 1 => fun e => Zs_ne h h0 n (Z_zero (Zs_lt h n) e)
/-- PETERSON, BROWN: a burst of at most 32 bits is told -/
theorem burst {f g : Nat → Nat} (hf : ∀ j, f j < 2) (hg : ∀ j, g j < 2) {k turn : Nat} (ht : turn < 4294967296) (h0 : turn ≠ 0)
    (h : ∀ j, f j ^^^ g j = if k ≤ j ∧ j < k + 32 then turn / 2 ^ (j - k) % 2 else 0) {N : Nat} (hN : k + 32 ≤ N) : reg f N ≠ reg g N := by
  have hpre : ∀ n, n ≤ k → reg f n ^^^ reg g n = 0 := by
    intro n
    induction n with
    | zero => intro _; simp [reg]
    | succ n ih =>
      intro hn
      rw [diff_step, ih (by omega), h, if_neg (by omega)]
      rfl
  have hmid : ∀ i, i ≤ 32 → (reg f (k + i) ^^^ reg g (k + i)) ^^^ (turn / 2 ^ i) = Zs i turn := by
    intro i
    induction i with
    | zero => intro _; rw [Nat.add_zero, hpre k (Nat.le_refl _)]; simp [Zs]
    | succ i ih =>
      intro hi
      have e := ih (by omega)
      rw [← Nat.add_assoc, diff_step, h, if_pos (by omega), show k + i - k = i from by omega, Zs, ← e]
      have hd : turn / 2 ^ (i + 1) = turn / 2 ^ i / 2 := by rw [Nat.pow_succ, Nat.div_div_eq_div_mul]
      have hz : ∀ x, Z x = Z (x % 2) ^^^ (x / 2) := by
        intro x
        unfold Z
        have : x % 2 / 2 = 0 := by omega
        rw [this, Nat.zero_xor, Nat.mod_mod, Nat.xor_comm]
      rw [Z_xor, Z_xor (reg f (k + i) ^^^ reg g (k + i)), hd, hz (turn / 2 ^ i)]
      ac_rfl
  have hend : ∀ n, reg f (k + 32 + n) ^^^ reg g (k + 32 + n) ≠ 0 := by
    intro n
    induction n with
    | zero =>
      have e := hmid 32 (Nat.le_refl _)
      rw [Nat.div_eq_of_lt (show turn < 2 ^ 32 by omega), Nat.xor_zero] at e
      rw [Nat.add_zero, e]
      exact Zs_ne ht h0 32
    | succ n ih =>
      intro e
      rw [← Nat.add_assoc, diff_step, h, if_neg (by omega), Nat.xor_zero] at e
      exact ih (Z_zero (Nat.xor_lt_two_pow (n := 32) (reg_lt hf _) (reg_lt hg _)) e)
  intro e
  have := hend (N - (k + 32))
  rw [show k + 32 + (N - (k + 32)) = N from by omega, e, Nat.xor_self] at this
  exact this rfl
end Go.Proofs.YtmccpkpeimejhagGreatDoor.Pk

namespace Go.Proofs.YtmccpkpeimejhagGreatDoor.Pk

/-! records -/
theorem rt_one {l x : List UInt8} {most : Int} {n : Nat} (h : rt l most = (x, n, 0)) : txt x = l.take n ∧ n ≤ l.length ∧ (x.length : Int) ≤ most := by
  unfold rt at h
  split at h
  · rename_i he; injection h with _ h; injection h with _ h; exact absurd h he
  rename_i he
  have he0 : (rd l).2.2 = 0 := Classical.byContradiction fun q => he q
  obtain ⟨g1, g2, g3, g4, g5⟩ := rd_good he0
  split at h
  · injection h with _ h; injection h with _ h; exact absurd h (by decide)
  rename_i hm
  split at h
  · injection h with _ h; injection h with _ h; exact absurd h (by decide)
  rename_i hl
  injection h with h1 h2
  injection h2 with h2 _
  have hx : x.length = (rd l).1 := by rw [← h1]; simp; omega
  refine ⟨?_, by omega, by omega⟩
  unfold txt
  rw [hx, g1, ← h1, ← h2, List.take_add]
/-- a record's body -/
def body (k q t : Nat) (s h d : List UInt8) : List UInt8 := UInt8.ofNat k :: (enc q ++ (enc t ++ (txt s ++ (txt h ++ txt d))))
def le4 (n : Nat) : List UInt8 := [UInt8.ofNat (n % 256), UInt8.ofNat (n / 256 % 256), UInt8.ofNat (n / 65536 % 256), UInt8.ofNat (n / 16777216 % 256)]
def num4 (l : List UInt8) : Nat := at' l 0 + 256 * at' l 1 + 65536 * at' l 2 + 16777216 * at' l 3
theorem num4_le4 {n : Nat} (h : n < 4294967296) (more : List UInt8) : num4 (le4 n ++ more) = n := by
  unfold num4 le4
  simp only [List.cons_append, at_zero, at_succ, List.nil_append]
  rw [u8_of (by omega), u8_of (by omega), u8_of (by omega), u8_of (by omega)]
  omega
theorem le4_num4 {l : List UInt8} (h : 4 ≤ l.length) : le4 (num4 l) = l.take 4 := by
  match l, h with
  | a :: b :: c :: d :: r, _ =>
    unfold num4 le4
    simp only [at_zero, at_succ]
    have ha := UInt8.toNat_lt a
    have hb := UInt8.toNat_lt b
    have hc := UInt8.toNat_lt c
    have hd := UInt8.toNat_lt d
    rw [show (a.toNat + 256 * b.toNat + 65536 * c.toNat + 16777216 * d.toNat) % 256 = a.toNat from by omega,
      show (a.toNat + 256 * b.toNat + 65536 * c.toNat + 16777216 * d.toNat) / 256 % 256 = b.toNat from by omega,
      show (a.toNat + 256 * b.toNat + 65536 * c.toNat + 16777216 * d.toNat) / 65536 % 256 = c.toNat from by omega,
      show (a.toNat + 256 * b.toNat + 65536 * c.toNat + 16777216 * d.toNat) / 16777216 % 256 = d.toNat from by omega]
    simp
/-- what stands behind a number, behind a text -/
def aftN (l : List UInt8) : List UInt8 := l.drop (rd l).2.1
def aftT (l : List UInt8) : List UInt8 := l.drop (rt l 1024).2.1
theorem split_N {l : List UInt8} (h : (rd l).2.2 = 0) : enc (rd l).1 ++ aftN l = l := by
  rw [(rd_good h).1]; exact List.take_append_drop _ _
theorem split_T {l : List UInt8} (h : (rt l 1024).2.2 = 0) : txt (rt l 1024).1 ++ aftT l = l ∧ (rt l 1024).1.length ≤ 1024 := by
  have := rt_one (l := l) (most := 1024) (x := (rt l 1024).1) (n := (rt l 1024).2.1) (by rw [← h])
  refine ⟨?_, by omega⟩
  rw [this.1]
  exact List.take_append_drop _ _
/-- are a body's parts right, and is nothing left behind them? -/
def partsOk (r0 : List UInt8) : Prop := (rd r0).2.2 = 0 ∧ (rd (aftN r0)).2.2 = 0 ∧ (rt (aftN (aftN r0)) 1024).2.2 = 0 ∧ (rt (aftT (aftN (aftN r0))) 1024).2.2 = 0 ∧ (rt (aftT (aftT (aftN (aftN r0)))) 1024).2.2 = 0 ∧ aftT (aftT (aftT (aftN (aftN r0)))) = []
theorem aftN_enc {n : Nat} (h : n < 9223372036854775808) (more : List UInt8) : aftN (enc n ++ more) = more := by
  unfold aftN; rw [rd_enc h]; simp
theorem rt_at {t : List UInt8} (h : t.length ≤ 1024) (more : List UInt8) : rt (txt t ++ more) 1024 = (t, (txt t).length, 0) := by
  have h0 : t.length < 9223372036854775808 := by omega
  unfold rt txt
  rw [List.append_assoc, rd_enc h0]
  simp only []
  rw [if_neg (by simp), if_neg (by omega), if_neg (by simp)]
  simp
theorem aftT_txt {x : List UInt8} (h : x.length ≤ 1024) (more : List UInt8) : aftT (txt x ++ more) = more := by
  unfold aftT; rw [rt_at h]; simp
theorem parts_body {q t : Nat} {s h d : List UInt8} (hq : q < 9223372036854775808) (ht : t < 9223372036854775808) (hs : s.length ≤ 1024) (hh : h.length ≤ 1024) (hd : d.length ≤ 1024) :
    partsOk (enc q ++ (enc t ++ (txt s ++ (txt h ++ txt d)))) := by
  have e5 : rt (txt d) 1024 = (d, (txt d).length, 0) := by have := rt_at hd []; rwa [List.append_nil] at this
  have e6 : aftT (txt d) = [] := by have := aftT_txt hd []; rwa [List.append_nil] at this
  unfold partsOk
  rw [aftN_enc hq, aftN_enc ht, aftT_txt hs, aftT_txt hh, rd_enc hq, rd_enc ht, rt_at hs, rt_at hh, e5, e6]
  exact ⟨rfl, rfl, rfl, rfl, rfl, rfl⟩
theorem parts_one {r0 : List UInt8} (h : partsOk r0) :
    enc (rd r0).1 ++ (enc (rd (aftN r0)).1 ++ (txt (rt (aftN (aftN r0)) 1024).1 ++ (txt (rt (aftT (aftN (aftN r0))) 1024).1 ++ txt (rt (aftT (aftT (aftN (aftN r0)))) 1024).1))) = r0 := by
  obtain ⟨h1, h2, h3, h4, h5, h6⟩ := h
  have s5 := (split_T h5).1
  rw [h6, List.append_nil] at s5
  rw [s5, (split_T h4).1, (split_T h3).1, split_N h2, split_N h1]
end Go.Proofs.YtmccpkpeimejhagGreatDoor.Pk

namespace Go.Proofs.YtmccpkpeimejhagGreatDoor.Pk

theorem xor_01 {a b : Nat} (ha : a < 2) (hb : b < 2) : a ^^^ b = (a + b) % 2 := by
  have h1 : a = 0 ∨ a = 1 := by omega
  have h2 : b = 0 ∨ b = 1 := by omega
  rcases h1 with rfl | rfl <;> rcases h2 with rfl | rfl <;> rfl
theorem bit_xor (a b q : Nat) : (a ^^^ b) / 2 ^ q % 2 = (a / 2 ^ q % 2 + b / 2 ^ q % 2) % 2 := by
  rw [← Nat.shiftRight_eq_div_pow, Nat.shiftRight_xor_distrib, xor_odd, Nat.shiftRight_eq_div_pow, Nat.shiftRight_eq_div_pow]
theorem bit_pow {p q : Nat} (hp : p < 8) (hq : q < 8) : 2 ^ p / 2 ^ q % 2 = if p = q then 1 else 0 := by
  have : ∀ p : Fin 8, ∀ q : Fin 8, 2 ^ p.val / 2 ^ q.val % 2 = if p.val = q.val then 1 else 0 := by decide
  exact this ⟨p, hp⟩ ⟨q, hq⟩
/-- a text of which one bit is turned -/
def flip (l : List UInt8) (j : Nat) : List UInt8 := l.set (j / 8) (UInt8.ofNat (at' l (j / 8) ^^^ 2 ^ (j % 8)))
theorem flip_byte (l : List UInt8) (j : Nat) : at' l (j / 8) ^^^ 2 ^ (j % 8) < 256 :=
  Nat.xor_lt_two_pow (n := 8) (at_lt l _) (Nat.lt_of_le_of_lt (Nat.pow_le_pow_right (by decide) (show j % 8 ≤ 7 by omega)) (by decide))
theorem flip_len (l : List UInt8) (j : Nat) : (flip l j).length = l.length := by simp [flip]
theorem flip_at {l : List UInt8} {j : Nat} (h : j / 8 < l.length) (k : Nat) : at' (flip l j) k = if k = j / 8 then at' l (j / 8) ^^^ 2 ^ (j % 8) else at' l k := by
  unfold flip
  by_cases hk : k = j / 8
  · subst hk
    rw [if_pos rfl]
    show ((l.set (j / 8) _)[j / 8]?.getD 0).toNat = _
    rw [List.getElem?_set_self h]
    exact u8_of (flip_byte l j)
  · rw [if_neg hk]
    unfold at'
    rw [List.getElem?_set_ne (by omega)]
theorem flip_bit {l : List UInt8} {j : Nat} (h : j / 8 < l.length) (i : Nat) : bitAt (flip l j) i = (bitAt l i + if i = j then 1 else 0) % 2 := by
  unfold bitAt
  rw [flip_at h]
  by_cases hk : i / 8 = j / 8
  · rw [if_pos hk, bit_xor, bit_pow (by omega) (by omega), hk]
    by_cases hp : j % 8 = i % 8
    · rw [if_pos hp, if_pos (by omega)]
    · rw [if_neg hp, if_neg (by omega)]
  · rw [if_neg hk, if_neg (by intro e; subst e; exact hk rfl)]
    omega
/-- the first i bits of the burst are turned -/
def Turned (l0 : List UInt8) (k turn i : Nat) (l : List UInt8) : Prop :=
  l.length = l0.length ∧ ∀ j, bitAt l0 j ^^^ bitAt l j = if k ≤ j ∧ j < k + i then turn / 2 ^ (j - k) % 2 else 0
theorem turned_none (l : List UInt8) (k turn : Nat) : Turned l k turn 0 l := ⟨rfl, fun j => by rw [Nat.xor_self, if_neg (by omega)]⟩
theorem turned_stay {l0 l : List UInt8} {k turn i : Nat} (h : Turned l0 k turn i l) (hb : turn / 2 ^ i % 2 = 0) : Turned l0 k turn (i + 1) l := by
  refine ⟨h.1, fun j => ?_⟩
  rw [h.2]
  by_cases h1 : k ≤ j ∧ j < k + i
  · rw [if_pos h1, if_pos (by omega)]
  · rw [if_neg h1]
    by_cases h2 : k ≤ j ∧ j < k + (i + 1)
    · rw [if_pos h2, show j - k = i from by omega, hb]
    · rw [if_neg h2]
theorem turned_flip {l0 l : List UInt8} {k turn i : Nat} (h : Turned l0 k turn i l) (hb : turn / 2 ^ i % 2 = 1) (hj : (k + i) / 8 < l.length) : Turned l0 k turn (i + 1) (flip l (k + i)) := by
  refine ⟨by rw [flip_len]; exact h.1, fun j => ?_⟩
  have e := h.2 j
  have b0 := bitAt_lt l0 j
  have b1 := bitAt_lt l j
  have b2 := bitAt_lt (flip l (k + i)) j
  rw [xor_01 b0 b1] at e
  rw [xor_01 b0 b2, flip_bit hj]
  by_cases h1 : j = k + i
  · subst h1
    rw [if_neg (by omega)] at e
    rw [if_pos rfl, if_pos (by omega), show k + i - k = i from by omega, hb]
    omega
  · rw [if_neg h1]
    by_cases h2 : k ≤ j ∧ j < k + i
    · rw [if_pos h2] at e
      rw [if_pos (by omega)]
      omega
    · rw [if_neg h2] at e
      rw [if_neg (by omega)]
      omega
theorem turned_sums {l0 l : List UInt8} {k turn : Nat} (h : Turned l0 k turn 32 l) (ht : turn < 4294967296) (h0 : turn ≠ 0) (hk : k + 32 ≤ 8 * l0.length) : crc l ≠ crc l0 := by
  have := burst (bitAt_lt l0) (bitAt_lt l) ht h0 h.2 hk
  have r0 := reg_lt (bitAt_lt l0) (8 * l0.length)
  have r1 := reg_lt (bitAt_lt l) (8 * l0.length)
  unfold crc
  rw [h.1]
  omega
theorem crc_check : crc [49, 50, 51, 52, 53, 54, 55, 56, 57] = 3421780262 := by decide +kernel
end Go.Proofs.YtmccpkpeimejhagGreatDoor.Pk
