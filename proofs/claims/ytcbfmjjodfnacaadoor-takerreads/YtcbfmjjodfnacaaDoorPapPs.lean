/-
  What is read of a plan's text, by cases. No program.
-/
import Derived.Test.YtcbfmjjodfnacaaDoorJointPapPdPapPwPapPr
import Derived.Test.YtcbfmjjodfnacaaDoorWalkSplit
namespace Go.Proofs.YtcbfmjjodfnacaaDoor
open Go

theorem read_large {s : ByteArray} (h : 1024 < s.size) : Pn.readP s = (Pn.zeroP, 2) := by unfold Pn.readP; rw [if_pos h]
theorem read_short {s : ByteArray} {ws : List ByteArray} (h : ¬ 1024 < s.size) (hc : ws.map (·.data.toList) = Pn.cut 32 s.data.toList) (h2 : ws.length < 2) : Pn.readP s = (Pn.zeroP, 3) := by
  unfold Pn.readP
  rw [if_neg h, ← hc]
  cases ws with
  | nil => rfl
  | cons x xs =>
    cases xs with
    | nil => rfl
    | cons y ys => simp at h2; omega
theorem cut_piece {s : ByteArray} {ws : List ByteArray} {b : UInt8} (hc : ws.map (·.data.toList) = Pn.cut b s.data.toList) {i : Nat} (hi : i < ws.length) : (tk ws i).size ≤ s.size := by
  have hm : (tk ws i).data.toList ∈ Pn.cut b s.data.toList := by
    rw [← hc, List.mem_map]
    refine ⟨tk ws i, ?_, rfl⟩
    unfold tk
    rw [List.getElem?_eq_getElem hi]
    exact List.getElem_mem hi
  have := Pn.cut_short b _ _ hm
  simpa using this
theorem bs_back {l : List ByteArray} {C : List (List UInt8)} (h : l.map (·.data.toList) = C) : l = C.map Pn.bs := by
  rw [← h, List.map_map]
  conv => lhs; rw [← List.map_id l]
  apply List.map_congr_left
  intro x _
  exact (Pn.bs_list x).symm
theorem rest_cons {ws : List ByteArray} {k : Nat} (h : k < ws.length) : (ws.drop k).map (·.data.toList) = (tk ws k).data.toList :: (ws.drop (k + 1)).map (·.data.toList) := by
  rw [List.drop_eq_getElem_cons h, List.map_cons]
  unfold tk
  rw [List.getElem?_eq_getElem h]
  rfl
theorem word_eq (u : ByteArray) : (u ++ ⟨#[61]⟩ : ByteArray).data.toList = u.data.toList ++ [61] := by simp [ByteArray.data_append]
theorem word_size (u : ByteArray) : (u ++ ⟨#[61]⟩ : ByteArray).size = u.data.toList.length + 1 := by rw [ByteArray.size_append]; simp; rfl
theorem eight {v : List Int} (h : v.length = 8) : ∃ x0 x1 x2 x3 x4 x5 x6 x7, v = [x0, x1, x2, x3, x4, x5, x6, x7] := by
  match v, h with
  | [x0, x1, x2, x3, x4, x5, x6, x7], _ => exact ⟨x0, x1, x2, x3, x4, x5, x6, x7, rfl⟩
end Go.Proofs.YtcbfmjjodfnacaaDoor
