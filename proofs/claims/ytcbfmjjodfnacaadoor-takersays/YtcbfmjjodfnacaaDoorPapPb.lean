/-
  A plan of a stream, pure: when it is right, its text, and the text read. No program.
-/
import Derived.Test.YtcbfmjjodfnacaaDoorPapPa
import Derived.Test.YtcbfmjjodfnacaaDoorPlainK
namespace Go.Proofs.YtcbfmjjodfnacaaDoor.Pn
open Go

/-- the words of a plan's numbers; the most that each may be -/
def words8 : List (List UInt8) := [[109, 115, 103, 115], [98, 121, 116, 101, 115], [97, 103, 101], [112, 101, 114], [115, 105, 122, 101], [100, 105, 115, 99, 97, 114, 100], [107, 101, 101, 112], [119, 105, 110, 100, 111, 119]]
def most8 : List Int := [200, 65536, 100000, 200, 256, 1, 2, 100000]
/-- a plan: its name, its filters, its eight numbers -/
structure Pln where
  n : ByteArray
  f : List ByteArray
  v : List Int
def nameB (c : UInt8) : Bool := (decide (97 ≤ c.toNat) && decide (c.toNat ≤ 122)) || ((decide (48 ≤ c.toNat) && decide (c.toNat ≤ 57)) || decide (c.toNat = 45))
def namedB (s : ByteArray) : Bool := s.data.toList.all nameB && (decide (1 ≤ s.size) && decide (s.size ≤ 16))
/-- the error of the first filter that has one; 0: none -/
def filtE : List ByteArray → Int
  | [] => 0
  | f :: r => if errS true f = 0 then filtE r else errS true f
/-- do two of them overlap? -/
def laps : List ByteArray → Bool
  | [] => false
  | f :: r => r.any (fun g => meetL (Pl.toks f) (Pl.toks g)) || laps r
def inAll : List Int → List Int → Bool
  | [], [] => true
  | x :: v, m :: ms => (decide (0 ≤ x) && decide (x ≤ m)) && inAll v ms
  | _, _ => false
def planE (p : Pln) : Int := if namedB p.n = false then 3 else if 4 < p.f.length then 2 else if p.f.length = 0 then 1 else if filtE p.f ≠ 0 then filtE p.f else if laps p.f = true then 10 else if inAll p.v most8 = true then 0 else 1
theorem plan_ok {p : Pln} (h : planE p = 0) : namedB p.n = true ∧ p.f.length ≤ 4 ∧ p.f.length ≠ 0 ∧ filtE p.f = 0 ∧ laps p.f = false ∧ inAll p.v most8 = true := by
  unfold planE at h
  by_cases h1 : namedB p.n = false
  · rw [if_pos h1] at h; cases h
  · rw [if_neg h1] at h
    by_cases h2 : 4 < p.f.length
    · rw [if_pos h2] at h; cases h
    · rw [if_neg h2] at h
      by_cases h3 : p.f.length = 0
      · rw [if_pos h3] at h; cases h
      · rw [if_neg h3] at h
        by_cases h4 : filtE p.f ≠ 0
        · rw [if_pos h4] at h; exact absurd h h4
        · rw [if_neg h4] at h
          by_cases h5 : laps p.f = true
          · rw [if_pos h5] at h; cases h
          · rw [if_neg h5] at h
            by_cases h6 : inAll p.v most8 = true
            · exact ⟨by simpa using h1, by omega, h3, Classical.not_not.1 h4, by simpa using h5, h6⟩
            · rw [if_neg h6] at h; cases h
theorem filtE_all : ∀ {l : List ByteArray}, filtE l = 0 → ∀ f ∈ l, errS true f = 0
  | [], _, f, hf => by cases hf
  | g :: r, h, f, hf => by
    unfold filtE at h
    by_cases e : errS true g = 0
    · rw [if_pos e] at h
      rcases List.mem_cons.1 hf with y | y
      · rw [y]; exact e
      · exact filtE_all h f y
    · rw [if_neg e] at h; exact absurd h e
/-- the words of the numbers that aren't 0 -/
def wordsT : List (List UInt8) → List Int → List (List UInt8)
  | w :: ws, x :: v => if x = 0 then wordsT ws v else (w ++ 61 :: Lib.itoa x) :: wordsT ws v
  | _, _ => []
def textL (p : Pln) : List (List UInt8) := p.n.data.toList :: glue 44 (p.f.map (·.data.toList)) :: wordsT words8 p.v
/-- Print: the text; has a filter a comma? -/
def planT (p : Pln) : ByteArray := ⟨(glue 32 (textL p)).toArray⟩
def commas (p : Pln) : Bool := p.f.any (fun f => f.data.toList.contains 44)
/-- the words that are read: of each word in its turn the number, or 0 -/
def rdN : List (List UInt8) → List (List UInt8) → Option (List Int)
  | [], [] => some []
  | [], _ :: _ => none
  | _ :: ws, [] => (rdN ws []).map (fun v => 0 :: v)
  | w :: ws, t :: ts => if (w ++ [61]).isPrefixOf t = true then (if digV (t.drop (w.length + 1)) < 1 then none else (rdN ws ts).map (fun v => digV (t.drop (w.length + 1)) :: v)) else (rdN ws (t :: ts)).map (fun v => 0 :: v)
def zeroP : Pln := ⟨⟨#[]⟩, [], [0, 0, 0, 0, 0, 0, 0, 0]⟩
def bs (l : List UInt8) : ByteArray := ⟨l.toArray⟩
/-- Parse -/
def readP (s : ByteArray) : Pln × Int := if 1024 < s.size then (zeroP, 2) else match cut 32 s.data.toList with
  | n :: f :: ts => match rdN words8 ts with
    | some v => if planE ⟨bs n, (cut 44 f).map bs, v⟩ = 0 then (⟨bs n, (cut 44 f).map bs, v⟩, 0) else (zeroP, planE ⟨bs n, (cut 44 f).map bs, v⟩)
    | none => (zeroP, 3)
  | _ => (zeroP, 3)

theorem prefix_word {a b d : List UInt8} (ha : (61 : UInt8) ∉ a) (hb : (61 : UInt8) ∉ b) (h : (a ++ [61]).isPrefixOf (b ++ 61 :: d) = true) : a = b := by
  induction a generalizing b with
  | nil =>
    cases b with
    | nil => rfl
    | cons x b =>
      simp [List.isPrefixOf] at h
      exact absurd (by rw [← h]; exact List.mem_cons_self ..) hb
  | cons y a ih =>
    cases b with
    | nil =>
      simp [List.isPrefixOf] at h
      exact absurd (by rw [h.1]; exact List.mem_cons_self ..) ha
    | cons x b =>
      simp only [List.cons_append, List.isPrefixOf, Bool.and_eq_true, beq_iff_eq] at h
      rw [h.1, ih (fun z => ha (List.mem_cons_of_mem _ z)) (fun z => hb (List.mem_cons_of_mem _ z)) h.2]
theorem prefix_self (w d : List UInt8) : (w ++ [61]).isPrefixOf (w ++ 61 :: d) = true ∧ (w ++ 61 :: d).drop (w.length + 1) = d := by
  constructor
  · rw [List.isPrefixOf_iff_prefix]
    exact ⟨d, by simp⟩
  · rw [List.drop_append, List.drop_of_length_le (by omega), show w.length + 1 - w.length = 1 by omega]
    rfl
theorem wordsT_head : ∀ (ws : List (List UInt8)) (v : List Int) {t : List UInt8} {ts : List (List UInt8)}, wordsT ws v = t :: ts → ∃ u ∈ ws, ∃ d, t = u ++ 61 :: d
  | [], _, t, ts, h => by simp [wordsT] at h
  | w :: ws, [], t, ts, h => by simp [wordsT] at h
  | w :: ws, x :: v, t, ts, h => by
    by_cases e : x = 0
    · rw [wordsT, if_pos e] at h
      obtain ⟨u, hu, d, hd⟩ := wordsT_head ws v h
      exact ⟨u, List.mem_cons_of_mem _ hu, d, hd⟩
    · rw [wordsT, if_neg e] at h
      exact ⟨w, List.mem_cons_self .., Lib.itoa x, (List.cons.inj h).1.symm⟩
/-- what is printed is read -/
theorem rdN_back : ∀ (ws : List (List UInt8)) (v : List Int), ws.Nodup → (∀ w ∈ ws, (61 : UInt8) ∉ w) → v.length = ws.length → (∀ x ∈ v, 0 ≤ x ∧ x < 1000000000) → rdN ws (wordsT ws v) = some v
  | [], [], _, _, _, _ => rfl
  | [], _ :: _, _, _, h, _ => by simp at h
  | w :: ws, [], _, _, h, _ => by simp at h
  | w :: ws, x :: v, hn, hw, hl, hx => by
    have hn' := List.nodup_cons.1 hn
    have ih := rdN_back ws v hn'.2 (fun u hu => hw u (List.mem_cons_of_mem _ hu)) (by simpa using hl) (fun y hy => hx y (List.mem_cons_of_mem _ hy))
    by_cases e : x = 0
    · have e1 : wordsT (w :: ws) (x :: v) = wordsT ws v := by rw [wordsT, if_pos e]
      rw [e1]
      cases ht : wordsT ws v with
      | nil => rw [ht] at ih; rw [rdN, ih, e]; rfl
      | cons t ts =>
        have hm : ∃ u ∈ ws, ∃ d, t = u ++ 61 :: d := wordsT_head ws v ht
        obtain ⟨u, hu, d, rfl⟩ := hm
        rw [ht] at ih
        have hp : ¬ (w ++ [61]).isPrefixOf (u ++ 61 :: d) = true := fun z => by
          have := prefix_word (hw w (List.mem_cons_self ..)) (hw u (List.mem_cons_of_mem _ hu)) z
          rw [this] at hn'
          exact hn'.1 hu
        rw [rdN, if_neg hp, ih, e]; rfl
    · have e1 : wordsT (w :: ws) (x :: v) = (w ++ 61 :: Lib.itoa x) :: wordsT ws v := by rw [wordsT, if_neg e]
      have hx0 := hx x (List.mem_cons_self ..)
      obtain ⟨u, rfl⟩ : ∃ u : Nat, x = (u : Int) := ⟨x.toNat, by omega⟩
      have hi : Lib.itoa (u : Int) = Lib.decDigits u := by unfold Lib.itoa; rw [if_neg (by omega)]; simp
      obtain ⟨p1, p2⟩ := prefix_self w (Lib.itoa (u : Int))
      have hd : digV (Lib.itoa (u : Int)) = (u : Int) := by rw [hi]; exact digV_dec (by omega) (by omega)
      rw [e1, rdN, if_pos p1, p2, hd, if_neg (by omega), ih]
      rfl
/-- what is read is printed as it stood -/
theorem rdN_one : ∀ (ws ts : List (List UInt8)) {v : List Int}, rdN ws ts = some v → wordsT ws v = ts ∧ v.length = ws.length ∧ ∀ x ∈ v, 0 ≤ x ∧ x < 1000000000
  | [], [], v, h => by
    simp [rdN] at h
    subst h
    exact ⟨rfl, rfl, fun x hx => by cases hx⟩
  | [], _ :: _, v, h => by simp [rdN] at h
  | w :: ws, [], v, h => by
    rw [rdN] at h
    cases hr : rdN ws [] with
    | none => rw [hr] at h; simp at h
    | some u =>
      rw [hr] at h
      simp at h
      subst h
      obtain ⟨h1, h2, h3⟩ := rdN_one ws [] hr
      refine ⟨by rw [wordsT, if_pos rfl]; exact h1, by simp [h2], fun x hx => ?_⟩
      rcases List.mem_cons.1 hx with y | y
      · omega
      · exact h3 x y
  | w :: ws, t :: ts, v, h => by
    rw [rdN] at h
    by_cases hp : (w ++ [61]).isPrefixOf t = true
    · rw [if_pos hp] at h
      by_cases hd : digV (t.drop (w.length + 1)) < 1
      · rw [if_pos hd] at h; cases h
      · rw [if_neg hd] at h
        cases hr : rdN ws ts with
        | none => rw [hr] at h; simp at h
        | some u =>
          rw [hr] at h
          simp at h
          subst h
          obtain ⟨h1, h2, h3⟩ := rdN_one ws ts hr
          obtain ⟨b1, b2⟩ := digV_back (l := t.drop (w.length + 1)) (by omega)
          obtain ⟨d, hd2⟩ := List.isPrefixOf_iff_prefix.1 hp
          have e : t.drop (w.length + 1) = d := by rw [← hd2, List.append_assoc]; exact (prefix_self w d).2
          refine ⟨?_, by simp [h2], fun x hx => ?_⟩
          · rw [wordsT, if_neg (by omega), b1, h1, e, ← hd2]
            simp
          · rcases List.mem_cons.1 hx with y | y
            · omega
            · exact h3 x y
    · rw [if_neg hp] at h
      cases hr : rdN ws (t :: ts) with
      | none => rw [hr] at h; simp at h
      | some u =>
        rw [hr] at h
        simp at h
        subst h
        obtain ⟨h1, h2, h3⟩ := rdN_one ws (t :: ts) hr
        refine ⟨by rw [wordsT, if_pos rfl]; exact h1, by simp [h2], fun x hx => ?_⟩
        rcases List.mem_cons.1 hx with y | y
        · omega
        · exact h3 x y
end Go.Proofs.YtcbfmjjodfnacaaDoor.Pn
