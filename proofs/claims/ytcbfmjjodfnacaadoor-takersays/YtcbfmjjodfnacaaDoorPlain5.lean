/-
  What Match, Overlap and Covers answer, pure.
-/
import Derived.Test.YtcbfmjjodfnacaaDoorPlain2
namespace Go.Proofs.YtcbfmjjodfnacaaDoor
open Go.RowKit

theorem below_drewN {B : Nat} {a w : World} (h : Below B a w) (n : Nat) : Below B a (w.drewN n) := h.trans ⟨rfl, rfl, rfl, Nat.le_refl _, fun _ _ => rfl⟩
def pairErr (a b : Int) : Int := if a = 0 then b else a
theorem err_range (wild : Bool) (s : ByteArray) : 0 ≤ errS wild s ∧ errS wild s ≤ 3 := by
  unfold errS Pl.errOf
  split
  · omega
  · split <;> omega
theorem few {wild : Bool} {s : ByteArray} (h : errS wild s = 0) : (Pl.toks s).length ≤ 8 := by
  rcases Nat.lt_or_ge 8 (Pl.toks s).length with h2 | h2
  · rw [err_many (by simpa [manyB] using h2)] at h
    omega
  · exact h2
def matchB (f s : ByteArray) : Bool := (errS true f == 0 && errS false s == 0) && coverL (Pl.toks f) (Pl.toks s)
def overlapB (f g : ByteArray) : Bool := (errS true f == 0 && errS true g == 0) && meetL (Pl.toks f) (Pl.toks g)
def coversB (f g : ByteArray) : Bool := (errS true f == 0 && errS true g == 0) && coverL (Pl.toks f) (Pl.toks g)
theorem ret_two {a b : Bool} {c d : Int} (h : b = a) (g : d = c) : Ending.returned (.tuple #[.bool a, .int .i64 c]) = .returned (.tuple #[.bool b, .int .i64 d]) := by rw [h, g]
end Go.Proofs.YtcbfmjjodfnacaaDoor
