/-
  Names, byte by byte. No program.
-/
import Derived.Test.YtcbfmjjodfnacaaDoorJointPapPbPapPc
import Derived.Test.YtcbfmjjodfnacaaDoorBase0
namespace Go.Proofs.YtcbfmjjodfnacaaDoor
open Go.RowKit

theorem take_byte (s : ByteArray) (k : Nat) (h : k < s.size) : s.data.toList.take (k + 1) = s.data.toList.take k ++ [s[k]] := by
  rw [List.take_succ_eq_append_getElem (by simpa using h)]; rfl
/-- are the first k bytes all right for a name? -/
def namedTo (s : ByteArray) (k : Nat) : Bool := (s.data.toList.take k).all Pn.nameB
theorem namedTo_succ {s : ByteArray} {k : Nat} (h : k < s.size) : namedTo s (k + 1) = (namedTo s k && Pn.nameB s[k]) := by
  unfold namedTo
  rw [take_byte s k h, List.all_append]
  simp
theorem named_bad {s : ByteArray} {k : Nat} (h : k < s.size) (hb : Pn.nameB s[k] = false) : Pn.namedB s = false := by
  unfold Pn.namedB
  have : s.data.toList.all Pn.nameB = false := by
    rw [List.all_eq_false]
    exact ⟨s[k], by
      have : s.data.toList[k]'(by simpa using h) ∈ s.data.toList := List.getElem_mem _
      exact this, by simp [hb]⟩
  rw [this]; rfl
theorem named_ok {s : ByteArray} (h : namedTo s s.size = true) : Pn.namedB s = (decide (1 ≤ s.size) && decide (s.size ≤ 16)) := by
  unfold namedTo at h
  rw [List.take_of_length_le (by simp)] at h
  unfold Pn.namedB
  rw [h, Bool.true_and]
end Go.Proofs.YtcbfmjjodfnacaaDoor
