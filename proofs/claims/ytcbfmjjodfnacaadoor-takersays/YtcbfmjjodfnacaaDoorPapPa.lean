/-
  Texts that are cut at a byte, and glued; numbers in decimal and back. No program.
-/
import Derived.Test.YtcbfmjjodfnacaaDoorPlain
import Derived.Lib.ItoaNum
namespace Go.Proofs.YtcbfmjjodfnacaaDoor.Pn
open Go

/-- the pieces of a text between bytes b -/
def cut (b : UInt8) : List UInt8 → List (List UInt8)
  | [] => [[]]
  | c :: r => if c = b then [] :: cut b r else (cut b r).modifyHead (fun p => c :: p)
theorem cut_dot : ∀ l : List UInt8, cut 46 l = Pl.pcs l
  | [] => rfl
  | c :: r => by unfold cut Pl.pcs; rw [cut_dot r]
theorem cut_ne (b : UInt8) : ∀ l : List UInt8, cut b l ≠ []
  | [] => by simp [cut]
  | c :: r => by
    unfold cut
    split
    · simp
    · have := cut_ne b r
      cases e : cut b r with
      | nil => exact absurd e this
      | cons x y => simp
theorem cut_free (b : UInt8) : ∀ (l : List UInt8) (p : List UInt8), p ∈ cut b l → b ∉ p
  | [], p, h => by
    simp [cut] at h
    rw [h]; simp
  | c :: r, p, h => by
    unfold cut at h
    by_cases e : c = b
    · rw [if_pos e] at h
      rcases List.mem_cons.1 h with y | y
      · rw [y]; simp
      · exact cut_free b r p y
    · rw [if_neg e] at h
      cases hc : cut b r with
      | nil => exact absurd hc (cut_ne b r)
      | cons x xs =>
        rw [hc] at h
        simp only [List.modifyHead_cons] at h
        rcases List.mem_cons.1 h with y | y
        · rw [y]
          have hx := cut_free b r x (by rw [hc]; exact List.mem_cons_self ..)
          intro z
          rcases List.mem_cons.1 z with q | q
          · exact e q.symm
          · exact hx q
        · exact cut_free b r p (by rw [hc]; exact List.mem_cons_of_mem _ y)
/-- texts with b between -/
def glue (b : UInt8) : List (List UInt8) → List UInt8
  | [] => []
  | [t] => t
  | t :: u :: ts => t ++ b :: glue b (u :: ts)
theorem glue_cons (b : UInt8) (t : List UInt8) {ts : List (List UInt8)} (h : ts ≠ []) : glue b (t :: ts) = t ++ b :: glue b ts := by
  cases ts with
  | nil => exact absurd rfl h
  | cons u us => rfl
theorem glue_snoc (b : UInt8) : ∀ (ts : List (List UInt8)) (t : List UInt8), ts ≠ [] → glue b (ts ++ [t]) = glue b ts ++ b :: t
  | [], _, h => absurd rfl h
  | [x], t, _ => rfl
  | x :: y :: ts, t, _ => by
    have h1 := glue_snoc b (y :: ts) t (by simp)
    rw [List.cons_append, glue_cons b x (by simp), h1, glue_cons b x (by simp), List.append_assoc]
    rfl
theorem glue_cut (b : UInt8) : ∀ l : List UInt8, glue b (cut b l) = l
  | [] => rfl
  | c :: r => by
    have ih := glue_cut b r
    unfold cut
    by_cases e : c = b
    · rw [if_pos e, glue_cons b [] (cut_ne b r), ih, e]; rfl
    · rw [if_neg e]
      cases hc : cut b r with
      | nil => exact absurd hc (cut_ne b r)
      | cons x xs =>
        rw [hc] at ih
        rw [List.modifyHead_cons]
        cases xs with
        | nil => rw [← ih]; rfl
        | cons y ys =>
          rw [glue_cons b (c :: x) (List.cons_ne_nil y ys), ← ih, glue_cons b x (List.cons_ne_nil y ys)]
          rfl
theorem cut_front (b : UInt8) : ∀ (a l : List UInt8), b ∉ a → cut b (a ++ b :: l) = a :: cut b l
  | [], l, _ => by rw [List.nil_append, cut, if_pos rfl]
  | c :: a, l, h => by
    have hc : ¬ c = b := fun e => h (by rw [e]; exact List.mem_cons_self ..)
    rw [List.cons_append, cut, if_neg hc, cut_front b a l (fun z => h (List.mem_cons_of_mem _ z)), List.modifyHead_cons]
theorem cut_none (b : UInt8) : ∀ (a : List UInt8), b ∉ a → cut b a = [a]
  | [], _ => rfl
  | c :: a, h => by
    have hc : ¬ c = b := fun e => h (by rw [e]; exact List.mem_cons_self ..)
    rw [cut, if_neg hc, cut_none b a (fun z => h (List.mem_cons_of_mem _ z)), List.modifyHead_cons]
theorem cut_glue (b : UInt8) : ∀ (ts : List (List UInt8)), ts ≠ [] → (∀ t ∈ ts, b ∉ t) → cut b (glue b ts) = ts
  | [], h, _ => absurd rfl h
  | [t], _, h => cut_none b t (h t (List.mem_cons_self ..))
  | t :: u :: ts, _, h => by
    rw [glue_cons b t (by simp), cut_front b t _ (h t (List.mem_cons_self ..)), cut_glue b (u :: ts) (by simp) (fun x hx => h x (List.mem_cons_of_mem _ hx))]
theorem glue_len (b : UInt8) (M : Nat) : ∀ (ts : List (List UInt8)), (∀ t ∈ ts, t.length ≤ M) → (glue b ts).length ≤ ts.length * (M + 1)
  | [], _ => by simp [glue]
  | [t], h => by have := h t (List.mem_cons_self ..); simp [glue]; omega
  | t :: u :: ts, h => by
    have h1 := glue_len b M (u :: ts) (fun x hx => h x (List.mem_cons_of_mem _ hx))
    have h2 := h t (List.mem_cons_self ..)
    rw [glue_cons b t (by simp), List.length_append, List.length_cons]
    rw [List.length_cons (a := t), Nat.add_mul]
    omega
theorem glue_mem (b : UInt8) : ∀ (ts : List (List UInt8)) (c : UInt8), c ∈ glue b ts → c = b ∨ ∃ t ∈ ts, c ∈ t
  | [], c, h => by cases h
  | [t], c, h => .inr ⟨t, List.mem_cons_self .., h⟩
  | t :: u :: ts, c, h => by
    rw [glue_cons b t (by simp)] at h
    rcases List.mem_append.1 h with y | y
    · exact .inr ⟨t, List.mem_cons_self .., y⟩
    · rcases List.mem_cons.1 y with z | z
      · exact .inl z
      · rcases glue_mem b (u :: ts) c z with q | ⟨x, hx, hc⟩
        · exact .inl q
        · exact .inr ⟨x, List.mem_cons_of_mem _ hx, hc⟩

/-- a digit; a number of digits -/
def isDig (c : UInt8) : Bool := decide (48 ≤ c.toNat) && decide (c.toNat ≤ 57)
def val10 (l : List UInt8) : Nat := l.foldl (fun n c => n * 10 + (c.toNat - 48)) 0
theorem val10_snoc (l : List UInt8) (c : UInt8) : val10 (l ++ [c]) = val10 l * 10 + (c.toNat - 48) := by unfold val10; rw [List.foldl_append]; rfl
theorem dig_at {d : Nat} (h : d < 10) : (UInt8.ofNat (48 + d)).toNat = 48 + d := by rw [UInt8.toNat_ofNat']; omega
theorem isDig_at {d : Nat} (h : d < 10) : isDig (UInt8.ofNat (48 + d)) = true := by unfold isDig; rw [dig_at h]; simp; omega
theorem dec_ne (u : Nat) : Lib.decDigits u ≠ [] := by rw [Lib.decDigits]; split <;> simp
theorem dec_dig (u : Nat) : ∀ c ∈ Lib.decDigits u, isDig c = true := by
  induction u using Nat.strongRecOn with
  | _ u ih =>
    intro c hc
    rw [Lib.decDigits] at hc
    split at hc
    · rename_i h
      rw [List.mem_singleton.1 hc]; exact isDig_at h
    · rename_i h
      rcases List.mem_append.1 hc with y | y
      · exact ih (u / 10) (by omega) c y
      · rw [List.mem_singleton.1 y]; exact isDig_at (by omega)
theorem dec_val (u : Nat) : val10 (Lib.decDigits u) = u := by
  induction u using Nat.strongRecOn with
  | _ u ih =>
    rw [Lib.decDigits]
    split
    · rename_i h
      have := val10_snoc [] (UInt8.ofNat (48 + u))
      rw [List.nil_append, dig_at h] at this
      rw [this]; simp [val10]
    · rename_i h
      rw [val10_snoc, ih (u / 10) (by omega), dig_at (by omega)]; omega
theorem dec_head (u : Nat) (hu : 1 ≤ u) : (Lib.decDigits u).head? ≠ some 48 := by
  induction u using Nat.strongRecOn with
  | _ u ih =>
    rw [Lib.decDigits]
    split
    · rename_i h
      intro z
      simp only [List.head?_cons, Option.some.injEq] at z
      have := congrArg UInt8.toNat z
      rw [dig_at h] at this
      simp at this
      omega
    · rename_i h
      have hr := ih (u / 10) (by omega) (by omega)
      cases hd : Lib.decDigits (u / 10) with
      | nil => exact absurd hd (dec_ne _)
      | cons x xs =>
        rw [hd] at hr
        simpa using hr
theorem dec_len : ∀ (k u : Nat), u < 10 ^ (k + 1) → (Lib.decDigits u).length ≤ k + 1
  | 0, u, h => by
    have h' : u < 10 := by simpa using h
    rw [Lib.decDigits, dif_pos h']; simp
  | k + 1, u, h => by
    rw [Lib.decDigits]
    split
    · simp
    · have : u / 10 < 10 ^ (k + 1) := by rw [Nat.pow_succ] at h; omega
      have := dec_len k (u / 10) this
      rw [List.length_append]
      simp
      omega
theorem snoc_rec {P : List UInt8 → Prop} (h0 : P []) (h1 : ∀ a d, P a → P (a ++ [d])) (l : List UInt8) : P l := by
  have key : ∀ (n : Nat) (l : List UInt8), l.length = n → P l := by
    intro n
    induction n with
    | zero => intro l hl; rw [List.eq_nil_of_length_eq_zero hl]; exact h0
    | succ n ih =>
      intro l hl
      have hne : l ≠ [] := by intro z; rw [z] at hl; simp at hl
      rw [← List.dropLast_concat_getLast hne]
      exact h1 _ _ (ih _ (by simp [hl]))
  exact key _ l rfl
theorem val_pos : ∀ {l : List UInt8}, (∀ c ∈ l, isDig c = true) → l ≠ [] → l.head? ≠ some 48 → 1 ≤ val10 l := by
  refine fun {l} => snoc_rec (P := fun l => (∀ c ∈ l, isDig c = true) → l ≠ [] → l.head? ≠ some 48 → 1 ≤ val10 l) ?_ ?_ l
  · intro _ h; exact absurd rfl h
  · intro a d ih hd _ hh
    rw [val10_snoc]
    cases a with
    | nil =>
      simp only [List.nil_append, List.head?_cons, ne_eq, Option.some.injEq] at hh
      have h1 := hd d (by simp)
      unfold isDig at h1
      simp at h1
      have : d.toNat ≠ 48 := fun z => hh (UInt8.toNat_inj.1 (by simpa using z))
      omega
    | cons x xs =>
      have := ih (fun c hc => hd c (List.mem_append_left _ hc)) (by simp) (by simpa using hh)
      omega
theorem val_dec : ∀ {l : List UInt8}, (∀ c ∈ l, isDig c = true) → l ≠ [] → l.head? ≠ some 48 → Lib.decDigits (val10 l) = l := by
  refine fun {l} => snoc_rec (P := fun l => (∀ c ∈ l, isDig c = true) → l ≠ [] → l.head? ≠ some 48 → Lib.decDigits (val10 l) = l) ?_ ?_ l
  · intro _ h; exact absurd rfl h
  · intro a d ih hd _ hh
    have h1 := hd d (by simp)
    unfold isDig at h1
    simp at h1
    have hdd : ∀ n, n = d.toNat - 48 → UInt8.ofNat (48 + n) = d := fun n hn => UInt8.toNat_inj.1 (by rw [UInt8.toNat_ofNat', hn]; omega)
    rw [val10_snoc]
    cases a with
    | nil =>
      have e : val10 [] * 10 + (d.toNat - 48) = d.toNat - 48 := by simp [val10]
      rw [e, Lib.decDigits, dif_pos (by omega), hdd _ rfl]; rfl
    | cons x xs =>
      have ha : ∀ c ∈ x :: xs, isDig c = true := fun c hc => hd c (List.mem_append_left _ hc)
      have hh' : (x :: xs).head? ≠ some 48 := by simpa using hh
      have hp := val_pos ha (by simp) hh'
      rw [Lib.decDigits, dif_neg (by omega), show (val10 (x :: xs) * 10 + (d.toNat - 48)) / 10 = val10 (x :: xs) by omega, ih ha (by simp) hh', hdd _ (by omega)]
/-- Digits: a number without noughts ahead, of one to nine digits; -1: none -/
def digV (l : List UInt8) : Int := if (l.take 10).all isDig = true ∧ 1 ≤ l.length ∧ l.length ≤ 9 ∧ ¬ (l.head? = some 48 ∧ l ≠ [48]) then (val10 l : Int) else -1
theorem digV_dec {u : Nat} (h : 1 ≤ u) (h9 : u < 1000000000) : digV (Lib.decDigits u) = (u : Int) := by
  have hl := dec_len 8 u (by simpa using h9)
  have hn := dec_ne u
  unfold digV
  rw [if_pos, dec_val]
  refine ⟨?_, ?_, hl, fun z => dec_head u h z.1⟩
  · rw [List.all_eq_true]
    exact fun c hc => dec_dig u c (List.mem_of_mem_take hc)
  · cases hd : Lib.decDigits u with
    | nil => exact absurd hd hn
    | cons x xs => simp
theorem digV_back {l : List UInt8} (h : 1 ≤ digV l) : Lib.itoa (digV l) = l ∧ digV l < 1000000000 := by
  unfold digV at h ⊢
  split
  · rename_i hc
    rw [if_pos hc] at h
    obtain ⟨h1, h2, h3, h4⟩ := hc
    have hall : ∀ c ∈ l, isDig c = true := by
      rw [List.take_of_length_le (by omega), List.all_eq_true] at h1
      exact h1
    have hne : l ≠ [] := by intro z; rw [z] at h2; simp at h2
    have hh : l.head? ≠ some 48 := fun z => by
      have : l = [48] := Classical.byContradiction (fun y => h4 ⟨z, y⟩)
      rw [this] at h
      simp [val10] at h
    have hd := val_dec hall hne hh
    refine ⟨?_, ?_⟩
    · unfold Lib.itoa
      rw [if_neg (by omega)]
      simpa using hd
    · apply Classical.byContradiction
      intro z
      have hlen : ∀ (k v : Nat), 10 ^ k ≤ v → k + 1 ≤ (Lib.decDigits v).length := by
        intro k
        induction k with
        | zero => intro v _; cases hd : Lib.decDigits v with
          | nil => exact absurd hd (dec_ne v)
          | cons x xs => simp
        | succ k ih =>
          intro v hv
          rw [Nat.pow_succ] at hv
          have hp : 1 ≤ 10 ^ k := Nat.one_le_pow _ _ (by decide)
          rw [Lib.decDigits, dif_neg (by omega), List.length_append]
          have := ih (v / 10) (by omega)
          simp; omega
      have := hlen 9 (val10 l) (by simp; omega)
      rw [hd] at this
      omega
  · rename_i hc
    rw [if_neg hc] at h
    omega
end Go.Proofs.YtcbfmjjodfnacaaDoor.Pn
