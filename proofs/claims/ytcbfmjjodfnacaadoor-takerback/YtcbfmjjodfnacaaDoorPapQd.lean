/-
  A consumer's text, piece by piece, as the document writes it: pure. No program.
-/
import Derived.Test.YtcbfmjjodfnacaaDoorPapQb
namespace Go.Proofs.YtcbfmjjodfnacaaDoor.Tk
open Go Pn

/-- the i-th word with a space ahead, or nothing -/
def tl (t : Tkr) (i : Nat) : List UInt8 := ((wordT t i).map (fun u => 32 :: u)).getD []
theorem tl_none {t : Tkr} {i : Nat} (h : valT t i = none) : tl t i = [] := by unfold tl wordT; rw [h]; rfl
theorem tl_some {t : Tkr} {i : Nat} {v : List UInt8} (h : valT t i = some v) : tl t i = 32 :: (hd i ++ v) := by unfold tl wordT; rw [h]; rfl
theorem glue_flat (b : UInt8) : ∀ (x : List UInt8) (ts : List (List UInt8)), glue b (x :: ts) = x ++ ts.flatMap (fun u => b :: u)
  | x, [] => by simp [glue]
  | x, u :: ts => by
    rw [glue_cons b x (by simp), glue_flat b u ts]
    simp
theorem flat_tl (t : Tkr) : ∀ (is : List Nat), (is.filterMap (wordT t)).flatMap (fun u => (32 : UInt8) :: u) = is.flatMap (tl t)
  | [] => rfl
  | i :: is => by
    have ih := flat_tl t is
    cases h : wordT t i with
    | none => rw [List.filterMap_cons_none h, List.flatMap_cons, ih]; unfold tl; rw [h]; rfl
    | some u => rw [List.filterMap_cons_some h, List.flatMap_cons, List.flatMap_cons, ih]; congr 1; unfold tl; rw [h]; rfl
/-- the text, piece by piece -/
theorem takT_tl (t : Tkr) : takT t = bs (t.n.data.toList ++ 32 :: (t.f.data.toList ++ (tl t 0 ++ (tl t 1 ++ (tl t 2 ++ (tl t 3 ++ (tl t 4 ++ (tl t 5 ++ tl t 6)))))))) := by
  unfold takT textL bs
  rw [glue_flat, List.flatMap_cons, flat_tl]
  simp [seven, List.flatMap_cons]
theorem tl_from0 {t : Tkr} (h : t.fr = 0) : tl t 0 = [] := tl_none (by simp [valT, fromV, h])
theorem tl_from1 {t : Tkr} (h : t.fr = 1) : tl t 0 = [32, 102, 114, 111, 109, 61, 108, 97, 115, 116] := by rw [tl_some (v := lastT) (by simp [valT, fromV, h])]; rfl
theorem tl_from2 {t : Tkr} (h : t.fr = 2) : tl t 0 = [32, 102, 114, 111, 109, 61, 110, 101, 119] := by rw [tl_some (v := newT) (by simp [valT, fromV, h])]; rfl
theorem tl_from3 {t : Tkr} (h : t.fr = 3) : tl t 0 = [32, 102, 114, 111, 109, 61] ++ Lib.itoa t.st := by rw [tl_some (v := Lib.itoa t.st) (by simp [valT, fromV, h])]; rfl
theorem tl_ack0 {t : Tkr} (h : t.ack = 0) : tl t 1 = [32, 97, 99, 107, 61, 110, 111, 110, 101] := by rw [tl_some (v := noneT) (by simp [valT, ackV, h])]; rfl
theorem tl_ack1 {t : Tkr} (h : t.ack = 1) : tl t 1 = [32, 97, 99, 107, 61, 97, 108, 108] := by rw [tl_some (v := allT) (by simp [valT, ackV, h])]; rfl
theorem tl_ack2 {t : Tkr} (h : t.ack = 2) : tl t 1 = [] := tl_none (by simp [valT, ackV, h])
theorem ack_wait {t : Tkr} (h : ackB t = true) : (t.ack = 0 ∧ t.wait = 0) ∨ ((t.ack = 1 ∨ t.ack = 2) ∧ 1 ≤ t.wait) := by
  unfold ackB at h
  by_cases h0 : t.ack = 0
  · rw [if_pos h0] at h
    simp at h
    exact .inl ⟨h0, h.1⟩
  · rw [if_neg h0] at h
    by_cases h1 : t.ack = 1 ∨ t.ack = 2
    · rw [if_pos h1] at h
      simp [waitsB, inB] at h
      exact .inr ⟨h1, h.1.2.1⟩
    · rw [if_neg h1] at h; cases h
theorem tl_wait0 {t : Tkr} (h : t.wait = 0) : tl t 2 = [] := tl_none (by simp [valT, numV, h])
theorem tl_wait1 {t : Tkr} (h : 1 ≤ t.wait) : tl t 2 = [32, 119, 97, 105, 116, 61] ++ Lib.itoa t.wait := by rw [tl_some (v := Lib.itoa t.wait) (by simp only [valT, numV]; rw [if_neg (by omega)])]; rfl
theorem tl_most0 {t : Tkr} (h : t.mo = 0) : tl t 4 = [] := tl_none (by simp [valT, numV, h])
theorem tl_most1 {t : Tkr} (h : t.mo ≠ 0) : tl t 4 = [32, 109, 111, 115, 116, 61] ++ Lib.itoa t.mo := by rw [tl_some (v := Lib.itoa t.mo) (by simp only [valT, numV]; rw [if_neg h])]; rfl
theorem tl_pend0 {t : Tkr} (h : t.pe = 0) : tl t 5 = [] := tl_none (by simp [valT, numV, h])
theorem tl_pend1 {t : Tkr} (h : t.pe ≠ 0) : tl t 5 = [32, 112, 101, 110, 100, 105, 110, 103, 61] ++ Lib.itoa t.pe := by rw [tl_some (v := Lib.itoa t.pe) (by simp only [valT, numV]; rw [if_neg h])]; rfl
theorem tl_push0 {t : Tkr} (h : t.pu = false) : tl t 6 = [] := tl_none (by simp [valT, h])
theorem tl_push1 {t : Tkr} (h : t.pu = true) : tl t 6 = [32, 112, 117, 115, 104] := by rw [tl_some (v := []) (by simp [valT, h])]; rfl
/-- the backoff's numbers so far -/
def boX (l : List Int) (i : Nat) : List UInt8 := if i = 0 then [] else [32, 98, 97, 99, 107, 111, 102, 102, 61] ++ glue 44 ((l.take i).map Lib.itoa)
theorem boX_zero (l : List Int) : boX l 0 = [] := rfl
theorem take_nth {l : List Int} {i : Nat} (h : i < l.length) : l.take (i + 1) = l.take i ++ [Dk.nth l i] := by
  rw [List.take_add_one]
  congr 1
  unfold Dk.nth
  rw [List.getElem?_eq_getElem h]
  rfl
theorem boX_one {l : List Int} (h : 0 < l.length) : boX l 1 = [32, 98, 97, 99, 107, 111, 102, 102, 61] ++ Lib.itoa (Dk.nth l 0) := by
  unfold boX
  rw [if_neg (by omega), take_nth h]
  simp [glue]
theorem boX_more {l : List Int} {i : Nat} (hi : i ≠ 0) (h : i < l.length) : boX l (i + 1) = boX l i ++ ([44] ++ Lib.itoa (Dk.nth l i)) := by
  unfold boX
  rw [if_neg (by omega), if_neg hi, take_nth h, List.map_append, List.map_cons, List.map_nil, glue_snoc 44 _ _ (by
    intro z
    have := congrArg List.length z
    rw [List.length_map, List.length_take, List.length_nil] at this
    omega)]
  simp
theorem boX_all (t : Tkr) : boX t.bo t.bo.length = tl t 3 := by
  by_cases h : t.bo = []
  · rw [h, tl_none (by simp [valT, boV, h])]; rfl
  · rw [tl_some (v := glue 44 (t.bo.map Lib.itoa)) (by simp only [valT, boV]; rw [if_neg h])]
    unfold boX
    rw [if_neg (by intro z; exact h (List.length_eq_zero_iff.1 z)), List.take_length]
    rfl
end Go.Proofs.YtcbfmjjodfnacaaDoor.Tk
