/-
  Plain facts on rows of tokens: what covers, what meets, what takes.
-/
import Derived.Test.YtcbfmjjodfnacaaDoorWalk2
namespace Go.Proofs.YtcbfmjjodfnacaaDoor
open Go.RowKit

def gtB (t : ByteArray) : Bool := t.toList == [62]
def stB (t : ByteArray) : Bool := t.toList == [42]
def eqB (a b : ByteArray) : Bool := a.toList == b.toList
def coverL : List ByteArray → List ByteArray → Bool
  | [], g => g.isEmpty
  | _ :: _, [] => false
  | f :: fs, g :: gs => gtB f || (!gtB g && ((stB f || eqB f g) && coverL fs gs))
def meetL : List ByteArray → List ByteArray → Bool
  | [], g => g.isEmpty
  | _ :: _, [] => false
  | f :: fs, g :: gs => gtB f || (gtB g || ((eqB f g || (stB f || stB g)) && meetL fs gs))
def takesL : List ByteArray → List ByteArray → Bool
  | [], s => s.isEmpty
  | _ :: _, [] => false
  | f :: fs, s :: ss => gtB f || ((stB f || eqB f s) && takesL fs ss)

theorem drop_tk {l : List ByteArray} {k : Nat} (h : k < l.length) : l.drop k = tk l k :: l.drop (k + 1) := by
  rw [List.drop_eq_getElem_cons h]
  simp [tk, List.getElem?_eq_getElem h]
theorem cover_step {f g : List ByteArray} {k : Nat} (hf : k < f.length) (hg : k < g.length) : coverL (f.drop k) (g.drop k) = (gtB (tk f k) || (!gtB (tk g k) && ((stB (tk f k) || eqB (tk f k) (tk g k)) && coverL (f.drop (k + 1)) (g.drop (k + 1))))) := by
  rw [drop_tk hf, drop_tk hg, coverL]
theorem cover_end {f g : List ByteArray} {k : Nat} (h : k ≤ f.length) (h2 : k ≤ g.length) (he : k = f.length ∨ k = g.length) : coverL (f.drop k) (g.drop k) = decide (f.length = g.length) := by
  rw [Bool.eq_iff_iff]
  rcases Nat.lt_or_ge k f.length with hf | hf
  · rw [drop_tk hf, show g.drop k = [] from List.drop_of_length_le (by omega), coverL]
    simp; omega
  · rw [List.drop_of_length_le hf, coverL]
    simp; omega
theorem meet_step {f g : List ByteArray} {k : Nat} (hf : k < f.length) (hg : k < g.length) : meetL (f.drop k) (g.drop k) = (gtB (tk f k) || (gtB (tk g k) || ((eqB (tk f k) (tk g k) || (stB (tk f k) || stB (tk g k))) && meetL (f.drop (k + 1)) (g.drop (k + 1))))) := by
  rw [drop_tk hf, drop_tk hg, meetL]
theorem meet_end {f g : List ByteArray} {k : Nat} (h : k ≤ f.length) (h2 : k ≤ g.length) (he : k = f.length ∨ k = g.length) : meetL (f.drop k) (g.drop k) = decide (f.length = g.length) := by
  rw [Bool.eq_iff_iff]
  rcases Nat.lt_or_ge k f.length with hf | hf
  · rw [drop_tk hf, show g.drop k = [] from List.drop_of_length_le (by omega), meetL]
    simp; omega
  · rw [List.drop_of_length_le hf, meetL]
    simp; omega
theorem cov_of {f g : List ByteArray} {k : Nat} {a b c d : Bool} (hq : coverL f g = coverL (f.drop k) (g.drop k)) (hf : k < f.length) (hg : k < g.length) (ha : ((tk f k).toList == [62]) = a) (hb : ((tk g k).toList == [62]) = b) (hc : ((tk f k).toList == [42]) = c) (hd : ((tk f k).toList == (tk g k).toList) = d) :
    coverL f g = (a || (!b && ((c || d) && coverL (f.drop (k + 1)) (g.drop (k + 1))))) := by
  rw [hq, cover_step hf hg]; unfold gtB stB eqB; rw [ha, hb, hc, hd]
theorem meet_of {f g : List ByteArray} {k : Nat} {a b c d e : Bool} (hq : meetL f g = meetL (f.drop k) (g.drop k)) (hf : k < f.length) (hg : k < g.length) (ha : ((tk f k).toList == [62]) = a) (hb : ((tk g k).toList == [62]) = b) (hc : ((tk f k).toList == (tk g k).toList) = c) (hd : ((tk f k).toList == [42]) = d) (he : ((tk g k).toList == [42]) = e) :
    meetL f g = (a || (b || ((c || (d || e)) && meetL (f.drop (k + 1)) (g.drop (k + 1))))) := by
  rw [hq, meet_step hf hg]; unfold gtB stB eqB; rw [ha, hb, hc, hd, he]
end Go.Proofs.YtcbfmjjodfnacaaDoor
