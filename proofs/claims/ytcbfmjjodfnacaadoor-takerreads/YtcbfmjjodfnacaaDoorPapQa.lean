/-
  A consumer's plan, pure: when it is right, its text, and the text read. No program.
-/
import Derived.Test.YtcbfmjjodfnacaaDoorPapQ0
import Derived.Test.YtcbfmjjodfnacaaDoorJointPapPbPapPc
import Derived.Test.YtcbfmjjodfnacaaDoorPapPe
namespace Go.Proofs.YtcbfmjjodfnacaaDoor.Tk
open Go Pn

def inB (n lo hi : Int) : Bool := decide (lo ≤ n) && decide (n ≤ hi)
def startB (t : Tkr) : Bool := if t.fr = 3 then inB t.st 1 999999999 else (inB t.fr 0 2 && decide (t.st = 0))
def waitsB (t : Tkr) : Bool := t.bo.all (fun n => inB n 1 100000) && inB t.wait 1 100000
def ackB (t : Tkr) : Bool := if t.ack = 0 then (decide (t.wait = 0) && (decide (t.mo = 0) && (decide (t.pe = 0) && decide (t.bo.length = 0)))) else if t.ack = 1 ∨ t.ack = 2 then (waitsB t && (inB t.mo 0 20 && inB t.pe 0 50)) else false
/-- Check -/
def takE (t : Tkr) : Int := if namedB t.n = false then 3 else if errS true t.f ≠ 0 then errS true t.f else if 5 < t.bo.length then 2 else if (startB t && ackB t) = true then 0 else 1
theorem tak_ok {t : Tkr} (h : takE t = 0) : namedB t.n = true ∧ errS true t.f = 0 ∧ t.bo.length ≤ 5 ∧ startB t = true ∧ ackB t = true := by
  unfold takE at h
  by_cases h1 : namedB t.n = false
  · rw [if_pos h1] at h; cases h
  · rw [if_neg h1] at h
    by_cases h2 : errS true t.f ≠ 0
    · rw [if_pos h2] at h; exact absurd h h2
    · rw [if_neg h2] at h
      by_cases h3 : 5 < t.bo.length
      · rw [if_pos h3] at h; cases h
      · rw [if_neg h3] at h
        by_cases h4 : (startB t && ackB t) = true
        · rw [Bool.and_eq_true] at h4
          exact ⟨by simpa using h1, Classical.not_not.1 h2, by omega, h4.1, h4.2⟩
        · rw [if_neg h4] at h; cases h
/-- the words -/
def hd : Nat → List UInt8
  | 0 => [102, 114, 111, 109, 61]
  | 1 => [97, 99, 107, 61]
  | 2 => [119, 97, 105, 116, 61]
  | 3 => [98, 97, 99, 107, 111, 102, 102, 61]
  | 4 => [109, 111, 115, 116, 61]
  | 5 => [112, 101, 110, 100, 105, 110, 103, 61]
  | _ => [112, 117, 115, 104]
def lastT : List UInt8 := [108, 97, 115, 116]
def newT : List UInt8 := [110, 101, 119]
def noneT : List UInt8 := [110, 111, 110, 101]
def allT : List UInt8 := [97, 108, 108]
def numV (n : Int) : Option (List UInt8) := if n = 0 then none else some (Lib.itoa n)
def fromV (t : Tkr) : Option (List UInt8) := if t.fr = 1 then some lastT else if t.fr = 2 then some newT else if t.fr = 3 then some (Lib.itoa t.st) else none
def ackV (n : Int) : Option (List UInt8) := if n = 0 then some noneT else if n = 1 then some allT else none
def boV (l : List Int) : Option (List UInt8) := if l = [] then none else some (glue 44 (l.map Lib.itoa))
/-- what stands behind the i-th word -/
def valT (t : Tkr) : Nat → Option (List UInt8)
  | 0 => fromV t
  | 1 => ackV t.ack
  | 2 => numV t.wait
  | 3 => boV t.bo
  | 4 => numV t.mo
  | 5 => numV t.pe
  | _ => if t.pu = true then some [] else none
def wordT (t : Tkr) (i : Nat) : Option (List UInt8) := (valT t i).map (fun v => hd i ++ v)
def seven : List Nat := [0, 1, 2, 3, 4, 5, 6]
def textL (t : Tkr) : List (List UInt8) := t.n.data.toList :: t.f.data.toList :: seven.filterMap (wordT t)
/-- Print -/
def takT (t : Tkr) : ByteArray := ⟨(glue 32 (textL t)).toArray⟩
/-- numbers with commas between -/
def rdB : List (List UInt8) → Option (List Int)
  | [] => some []
  | v :: vs => if digV v < 1 then none else (rdB vs).map (fun l => digV v :: l)
/-- the i-th word's value is read -/
def setT (t : Tkr) (i : Nat) (v : List UInt8) : Option Tkr := match i with
  | 0 => if v = lastT then some { t with fr := 1 } else if v = newT then some { t with fr := 2 } else if digV v < 1 then none else some { t with fr := 3, st := digV v }
  | 1 => if v = noneT then some { t with ack := 0 } else if v = allT then some { t with ack := 1 } else none
  | 2 => if digV v < 1 then none else some { t with wait := digV v }
  | 3 => (rdB (cut 44 v)).map (fun l => { t with bo := t.bo ++ l })
  | 4 => if digV v < 1 then none else some { t with mo := digV v }
  | 5 => if digV v < 1 then none else some { t with pe := digV v }
  | _ => if v = [] then some { t with pu := true } else none
def rdT : List Nat → List (List UInt8) → Tkr → Option Tkr
  | [], [], t => some t
  | [], _ :: _, _ => none
  | _ :: _, [], t => some t
  | i :: is, u :: us, t => if (hd i).isPrefixOf u = true then (match setT t i (u.drop (hd i).length) with
    | some t' => rdT is us t'
    | none => none) else rdT is (u :: us) t
def base (n f : ByteArray) : Tkr := ⟨n, f, 0, 0, 2, 0, [], 0, 0, false⟩
def zeroT : Tkr := ⟨⟨#[]⟩, ⟨#[]⟩, 0, 0, 0, 0, [], 0, 0, false⟩
/-- Parse -/
def readT (s : ByteArray) : Tkr × Int := if 1024 < s.size then (zeroT, 2) else match cut 32 s.data.toList with
  | n :: f :: ts => match rdT seven ts (base (bs n) (bs f)) with
    | some t => if takE t = 0 then (t, 0) else (zeroT, takE t)
    | none => (zeroT, 3)
  | _ => (zeroT, 3)
/-- the i-th word's fields, copied -/
def put (t c : Tkr) : Nat → Tkr
  | 0 => { c with fr := t.fr, st := t.st }
  | 1 => { c with ack := t.ack }
  | 2 => { c with wait := t.wait }
  | 3 => { c with bo := t.bo }
  | 4 => { c with mo := t.mo }
  | 5 => { c with pe := t.pe }
  | _ => { c with pu := t.pu }
/-- the i-th word's fields are as by themselves -/
def bare (c : Tkr) : Nat → Prop
  | 0 => c.fr = 0 ∧ c.st = 0
  | 1 => c.ack = 2
  | 2 => c.wait = 0
  | 3 => c.bo = []
  | 4 => c.mo = 0
  | 5 => c.pe = 0
  | _ => c.pu = false
/-- two have the same i-th fields -/
def like (a b : Tkr) : Nat → Prop
  | 0 => a.fr = b.fr ∧ a.st = b.st
  | 1 => a.ack = b.ack
  | 2 => a.wait = b.wait
  | 3 => a.bo = b.bo
  | 4 => a.mo = b.mo
  | 5 => a.pe = b.pe
  | _ => a.pu = b.pu
theorem val_like {a b : Tkr} : ∀ {i : Nat}, like a b i → valT a i = valT b i
  | 0, h => by simp only [like] at h; simp only [valT, fromV]; rw [h.1, h.2]
  | 1, h => by simp only [like] at h; simp only [valT]; rw [h]
  | 2, h => by simp only [like] at h; simp only [valT]; rw [h]
  | 3, h => by simp only [like] at h; simp only [valT]; rw [h]
  | 4, h => by simp only [like] at h; simp only [valT]; rw [h]
  | 5, h => by simp only [like] at h; simp only [valT]; rw [h]
  | _ + 6, h => by simp only [like] at h; simp only [valT]; rw [h]
theorem itoa_num {x : Int} (h : 1 ≤ x) (h9 : x ≤ 999999999) : digV (Lib.itoa x) = x := by
  obtain ⟨u, rfl⟩ : ∃ u : Nat, x = (u : Int) := ⟨x.toNat, by omega⟩
  have hi : Lib.itoa (u : Int) = Lib.decDigits u := by unfold Lib.itoa; rw [if_neg (by omega)]; simp
  rw [hi]
  exact digV_dec (by omega) (by omega)
theorem rdB_back : ∀ (l : List Int), (∀ x ∈ l, 1 ≤ x ∧ x ≤ 999999999) → rdB (l.map Lib.itoa) = some l
  | [], _ => rfl
  | x :: l, h => by
    have hx := h x (List.mem_cons_self ..)
    rw [List.map_cons, rdB, itoa_num hx.1 hx.2, if_neg (by omega), rdB_back l (fun y hy => h y (List.mem_cons_of_mem _ hy))]
    rfl
theorem rdB_one : ∀ (vs : List (List UInt8)) {l : List Int}, rdB vs = some l → l.map Lib.itoa = vs ∧ l.length = vs.length
  | [], l, h => by simp [rdB] at h; subst h; exact ⟨rfl, rfl⟩
  | v :: vs, l, h => by
    rw [rdB] at h
    by_cases hd : digV v < 1
    · rw [if_pos hd] at h; cases h
    · rw [if_neg hd] at h
      cases hr : rdB vs with
      | none => rw [hr] at h; simp at h
      | some u =>
        rw [hr] at h
        simp at h
        subst h
        obtain ⟨h1, h2⟩ := rdB_one vs hr
        have := (digV_back (l := v) (by omega)).1
        exact ⟨by rw [List.map_cons, this, h1], by simp [h2]⟩
theorem dig_no {v : List UInt8} (h : v = lastT ∨ v = newT) : digV v < 1 := by
  rcases h with h | h <;> (rw [h]; decide)
theorem itoa_free {x : Int} (h : 1 ≤ x ∧ x ≤ 999999999) (b : UInt8) (hb : b.toNat < 48) : b ∉ Lib.itoa x := by
  intro hm
  have e : Lib.itoa x = Lib.decDigits x.toNat := by unfold Lib.itoa; rw [if_neg (by omega)]
  rw [e] at hm
  have := dec_dig _ b hm
  unfold isDig at this
  simp at this
  omega
theorem in_of {n lo hi : Int} (h : inB n lo hi = true) : lo ≤ n ∧ n ≤ hi := by unfold inB at h; simpa using h
theorem ack_of {t : Tkr} (h : ackB t = true) : (t.ack = 0 ∧ t.wait = 0 ∧ t.mo = 0 ∧ t.pe = 0 ∧ t.bo = []) ∨ ((t.ack = 1 ∨ t.ack = 2) ∧ (∀ x ∈ t.bo, 1 ≤ x ∧ x ≤ 100000) ∧ (1 ≤ t.wait ∧ t.wait ≤ 100000) ∧ (0 ≤ t.mo ∧ t.mo ≤ 20) ∧ (0 ≤ t.pe ∧ t.pe ≤ 50)) := by
  unfold ackB at h
  by_cases h0 : t.ack = 0
  · rw [if_pos h0] at h
    simp only [Bool.and_eq_true, decide_eq_true_eq] at h
    exact .inl ⟨h0, h.1, h.2.1, h.2.2.1, List.eq_nil_of_length_eq_zero h.2.2.2⟩
  · rw [if_neg h0] at h
    by_cases h1 : t.ack = 1 ∨ t.ack = 2
    · rw [if_pos h1] at h
      simp only [Bool.and_eq_true, waitsB, List.all_eq_true] at h
      exact .inr ⟨h1, fun x hx => in_of (h.1.1 x hx), in_of h.1.2, in_of h.2.1, in_of h.2.2⟩
    · rw [if_neg h1] at h; cases h
theorem start_of {t : Tkr} (h : startB t = true) : (t.fr = 3 ∧ 1 ≤ t.st ∧ t.st ≤ 999999999) ∨ ((t.fr = 0 ∨ t.fr = 1 ∨ t.fr = 2) ∧ t.st = 0) := by
  unfold startB at h
  by_cases h3 : t.fr = 3
  · rw [if_pos h3] at h
    exact .inl ⟨h3, in_of h⟩
  · rw [if_neg h3] at h
    simp only [Bool.and_eq_true, decide_eq_true_eq] at h
    have := in_of h.1
    exact .inr ⟨by omega, h.2⟩
/-- the numbers of a right plan -/
theorem nums_of {t : Tkr} (h : ackB t = true) : (t.wait = 0 ∨ 1 ≤ t.wait ∧ t.wait ≤ 100000) ∧ (t.mo = 0 ∨ 1 ≤ t.mo ∧ t.mo ≤ 100000) ∧ (t.pe = 0 ∨ 1 ≤ t.pe ∧ t.pe ≤ 100000) ∧ ∀ x ∈ t.bo, 1 ≤ x ∧ x ≤ 100000 := by
  rcases ack_of h with ⟨_, h1, h2, h3, h4⟩ | ⟨_, h1, h2, h3, h4⟩
  · exact ⟨.inl h1, .inl h2, .inl h3, fun x hx => by rw [h4] at hx; cases hx⟩
  · exact ⟨.inr h2, by omega, by omega, h1⟩
theorem num_set {n : Int} (h : n = 0 ∨ 1 ≤ n ∧ n ≤ 100000) {v : List UInt8} (hv : numV n = some v) : digV v = n ∧ 1 ≤ n := by
  unfold numV at hv
  by_cases e : n = 0
  · rw [if_pos e] at hv; cases hv
  · rw [if_neg e] at hv
    cases hv
    exact ⟨itoa_num (by omega) (by omega), by omega⟩
/-- a right plan's word is read -/
theorem set_val {t c : Tkr} (h : takE t = 0) : ∀ {i : Nat}, bare c i → ∀ {v}, valT t i = some v → setT c i v = some (put t c i)
  | 0, hb, v, hv => by
    obtain ⟨_, _, _, hs, _⟩ := tak_ok h
    simp only [bare] at hb
    simp only [valT, fromV] at hv
    rcases start_of hs with ⟨h3, h4⟩ | ⟨h3, h4⟩
    · rw [if_neg (by omega), if_neg (by omega), if_pos h3] at hv
      cases hv
      have hd := itoa_num h4.1 h4.2
      have n1 : ¬ Lib.itoa t.st = lastT := fun z => by have := dig_no (.inl z); omega
      have n2 : ¬ Lib.itoa t.st = newT := fun z => by have := dig_no (.inr z); omega
      simp only [setT]
      rw [if_neg n1, if_neg n2, hd, if_neg (by omega)]
      simp only [put, h3]
    · rcases h3 with h3 | h3 | h3
      · rw [if_neg (by omega), if_neg (by omega), if_neg (by omega)] at hv; cases hv
      · rw [if_pos h3] at hv
        cases hv
        simp only [setT]
        rw [if_pos trivial]
        simp only [put, h3, h4]
        rw [← hb.2]
      · rw [if_neg (by omega), if_pos h3] at hv
        cases hv
        simp only [setT]
        rw [if_neg (by decide), if_pos trivial]
        simp only [put, h3, h4]
        rw [← hb.2]
  | 1, hb, v, hv => by
    simp only [valT, ackV] at hv
    by_cases h0 : t.ack = 0
    · rw [if_pos h0] at hv
      cases hv
      simp only [setT]
      rw [if_pos trivial]
      simp only [put, h0]
    · rw [if_neg h0] at hv
      by_cases h1 : t.ack = 1
      · rw [if_pos h1] at hv
        cases hv
        simp only [setT]
        rw [if_neg (by decide), if_pos trivial]
        simp only [put, h1]
      · rw [if_neg h1] at hv; cases hv
  | 2, hb, v, hv => by
    obtain ⟨_, _, _, _, ha⟩ := tak_ok h
    obtain ⟨e1, e2⟩ := num_set (nums_of ha).1 hv
    simp only [setT]
    rw [e1, if_neg (by omega)]
    rfl
  | 3, hb, v, hv => by
    obtain ⟨_, _, _, _, ha⟩ := tak_ok h
    have hn := (nums_of ha).2.2.2
    simp only [bare] at hb
    simp only [valT, boV] at hv
    by_cases e : t.bo = []
    · rw [if_pos e] at hv; cases hv
    · rw [if_neg e] at hv
      cases hv
      have hc : cut 44 (glue 44 (t.bo.map Lib.itoa)) = t.bo.map Lib.itoa := cut_glue 44 _ (fun z => e (List.map_eq_nil_iff.1 z)) (fun u hu => by
        obtain ⟨x, hx, rfl⟩ := List.mem_map.1 hu
        have := hn x hx
        exact itoa_free (by omega) 44 (by decide))
      simp only [setT]
      rw [hc, rdB_back t.bo (fun x hx => by have := hn x hx; omega)]
      simp only [Option.map_some, put, hb, List.nil_append]
  | 4, hb, v, hv => by
    obtain ⟨_, _, _, _, ha⟩ := tak_ok h
    obtain ⟨e1, e2⟩ := num_set (nums_of ha).2.1 hv
    simp only [setT]
    rw [e1, if_neg (by omega)]
    rfl
  | 5, hb, v, hv => by
    obtain ⟨_, _, _, _, ha⟩ := tak_ok h
    obtain ⟨e1, e2⟩ := num_set (nums_of ha).2.2.1 hv
    simp only [setT]
    rw [e1, if_neg (by omega)]
    rfl
  | i + 6, hb, v, hv => by
    simp only [valT] at hv
    by_cases e : t.pu = true
    · rw [if_pos e] at hv
      cases hv
      simp only [setT]
      rw [if_pos trivial]
      simp only [put, e]
    · rw [if_neg e] at hv; cases hv
/-- a right plan's word that isn't there -/
theorem put_none {t c : Tkr} (h : takE t = 0) : ∀ {i : Nat}, bare c i → valT t i = none → put t c i = c
  | 0, hb, hv => by
    obtain ⟨_, _, _, hs, _⟩ := tak_ok h
    simp only [bare] at hb
    simp only [valT, fromV] at hv
    rcases start_of hs with ⟨h3, h4⟩ | ⟨h3, h4⟩
    · rw [if_neg (by omega), if_neg (by omega), if_pos h3] at hv; cases hv
    · rcases h3 with h3 | h3 | h3
      · simp only [put, h3, h4]
        cases c
        simp only at hb
        simp [hb.1, hb.2]
      · rw [if_pos h3] at hv; cases hv
      · rw [if_neg (by omega), if_pos h3] at hv; cases hv
  | 1, hb, hv => by
    obtain ⟨_, _, _, _, ha⟩ := tak_ok h
    simp only [bare] at hb
    simp only [valT, ackV] at hv
    have : t.ack = 2 := by
      rcases ack_of ha with ⟨h0, _⟩ | ⟨h0, _⟩
      · rw [if_pos h0] at hv; cases hv
      · rcases h0 with h0 | h0
        · rw [if_neg (by omega), if_pos h0] at hv; cases hv
        · exact h0
    simp only [put, this]
    rw [← hb]
  | 2, hb, hv => by
    simp only [bare] at hb
    simp only [valT, numV] at hv
    by_cases e : t.wait = 0
    · simp only [put, e]; rw [← hb]
    · rw [if_neg e] at hv; cases hv
  | 3, hb, hv => by
    simp only [bare] at hb
    simp only [valT, boV] at hv
    by_cases e : t.bo = []
    · simp only [put, e]; rw [← hb]
    · rw [if_neg e] at hv; cases hv
  | 4, hb, hv => by
    simp only [bare] at hb
    simp only [valT, numV] at hv
    by_cases e : t.mo = 0
    · simp only [put, e]; rw [← hb]
    · rw [if_neg e] at hv; cases hv
  | 5, hb, hv => by
    simp only [bare] at hb
    simp only [valT, numV] at hv
    by_cases e : t.pe = 0
    · simp only [put, e]; rw [← hb]
    · rw [if_neg e] at hv; cases hv
  | i + 6, hb, hv => by
    simp only [bare] at hb
    simp only [valT] at hv
    by_cases e : t.pu = true
    · rw [if_pos e] at hv; cases hv
    · have e' : t.pu = false := by simpa using e
      simp only [put, e']; rw [← hb]
end Go.Proofs.YtcbfmjjodfnacaaDoor.Tk
