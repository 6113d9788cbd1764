/-
  Texts that are put one behind the other: how long they grow. No program.
-/
import Derived.Test.YtcbfmjjodfnacaaDoorJointPapPbPapPc
import Derived.Test.YtcbfmjjodfnacaaDoorWalkSplit
namespace Go.Proofs.YtcbfmjjodfnacaaDoor
open Go.RowKit

namespace Pn
theorem bs_app (a : List UInt8) (f : ByteArray) : bs a ++ f = bs (a ++ f.data.toList) := by
  apply ByteArray.ext
  unfold bs
  simp [ByteArray.data_append]
theorem bs_size (a : List UInt8) : (bs a).size = a.length := by show a.toArray.size = a.length; simp
theorem glue_take {b : UInt8} {l : List ByteArray} {i : Nat} (h : i < l.length) : glue b ((l.take (i + 1)).map (·.data.toList)) = (if i = 0 then [] else glue b ((l.take i).map (·.data.toList)) ++ [b]) ++ (tk l i).data.toList := by
  rw [List.take_succ_eq_append_getElem h, List.map_append]
  have e : tk l i = l[i] := by unfold tk; rw [List.getElem?_eq_getElem h]; rfl
  rw [e]
  by_cases hi : i = 0
  · subst hi; simp [glue]
  · rw [if_neg hi, List.map_cons, List.map_nil, glue_snoc b _ _ (by
      intro z
      have := congrArg List.length z
      rw [List.length_map, List.length_take, List.length_nil] at this
      omega)]
    simp
theorem glue_few {b : UInt8} {l : List ByteArray} (hz : ∀ k, k < l.length → (tk l k).size ≤ 1000) (i : Nat) : (glue b ((l.take i).map (·.data.toList))).length ≤ l.length * 1001 := by
  have := glue_len b 1000 ((l.take i).map (·.data.toList)) (fun t ht => by
    obtain ⟨f, hf, rfl⟩ := List.mem_map.1 ht
    obtain ⟨k, hk, rfl⟩ := List.mem_iff_getElem.1 (List.mem_of_mem_take hf)
    have := hz k hk
    unfold tk at this
    rw [List.getElem?_eq_getElem hk] at this
    simpa using this)
  rw [List.length_map, List.length_take] at this
  exact Nat.le_trans this (Nat.mul_le_mul_right _ (Nat.min_le_right _ _))
end Pn
end Go.Proofs.YtcbfmjjodfnacaaDoor
