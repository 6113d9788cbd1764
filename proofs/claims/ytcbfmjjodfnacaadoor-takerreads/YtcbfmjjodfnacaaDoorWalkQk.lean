/-
  Contracts of the landed taker.readNumber, readAck, readFrom.
-/
import Derived.Test.YtcbfmjjodfnacaaDoorJointRowNRowQr
import Derived.Test.YtcbfmjjodfnacaaDoorWalkYq
namespace Go.Proofs.YtcbfmjjodfnacaaDoor
open Go.RowKit

/-- what a text says as a number, or 0 -/
def numOr (v : ByteArray) : Int := if Pn.numB v.data.toList = true then Pn.digV v.data.toList else 0
set_option maxHeartbeats 1000000 in
theorem readNum_at (v : ByteArray) (b i : Nat) (x : Int) (w : World) (hs : v.size ≤ 140737488355328) (hb : b < w.heap.size) (hc : w.cell? ⟨b, i, none⟩ = some (.int .i64 x)) (hf : w.frozen? ⟨b, i, none⟩ = false) :
    Calls Tryd.prog 72 #[.string v, .pointer (some ⟨b, i, none⟩)] w fun e w' => ∃ w2, e = .returned (.bool (Pn.numB v.data.toList)) ∧ Below w.heap.size w w2 ∧ w' = w2.setCell ⟨b, i, none⟩ (.int .i64 (numOr v)) := by
  have PR : Hid (Calls Tryd.prog 82 #[.string v] w fun e w' => e = .returned (.tuple #[.int .i64 (numOr v), .bool (Pn.numB v.data.toList)]) ∧ Below w.heap.size w w') := hide (by
    unfold numOr
    cases hn : Pn.numB v.data.toList with
    | false =>
      refine (readNum_no v w hs hn).mono ?_
      rintro e w' ⟨rfl, rfl⟩
      exact ⟨rfl, Below.refl _ _⟩
    | true =>
      refine (readNum_yes v w hn).mono ?_
      rintro e w' ⟨rfl, h⟩
      exact ⟨rfl, h⟩)
  obtain ⟨N, hN⟩ : ∃ N, N = numOr v := ⟨_, rfl⟩
  obtain ⟨R, hR⟩ : ∃ R, R = Pn.numB v.data.toList := ⟨_, rfl⟩
  rw [← hN, ← hR] at PR
  rw [← hN, ← hR]
  have HC := hide (fun (w2 : World) (h2 : Below w.heap.size w w2) => show w2.cell? ⟨b, i, none⟩ = some (.int .i64 x) ∧ w2.frozen? ⟨b, i, none⟩ = false from ⟨by rw [h2.cell (p := ⟨b, i, none⟩) hb]; exact hc, by rw [h2.frozen (p := ⟨b, i, none⟩) hb]; exact hf⟩)
  clear hN hR hc hf hb
  go_enter Tryd.func72, Tryd.ntmps72
  go_wp2_with fail
  refine (unhide PR).mono ?_
  rintro e w2 ⟨rfl, b2⟩
  obtain ⟨c1, f1⟩ := unhide HC w2 b2
  have B2 := hide b2
  clear PR b2
  go_wp2_with fail
  go_ret
  exact ⟨w2, rfl, unhide B2, rfl⟩
/-- what readValue and its like answer -/
def SetIs (w0 : World) (b : Nat) (t : Tk.Tkr) (a : Option Addr) (c : Nat) (i : Nat) (v : List UInt8) (e : Ending) (w' : World) : Prop := ∃ (r : Bool) (t' : Tk.Tkr) (a' : Option Addr) (c' : Nat), e = .returned (.bool r) ∧ (r = true → Tk.setT t i v = some t') ∧ (r = false → Tk.setT t i v = none) ∧ Rdt w0 w' b t' a' c' ∧ t'.bo.length ≤ t.bo.length + 2000 ∧ (i ≠ 3 → a' = a ∧ c' = c ∧ t'.bo = t.bo)
theorem numOr_yes {v : ByteArray} (h : Pn.numB v.data.toList = true) : numOr v = Pn.digV v.data.toList ∧ ¬ Pn.digV v.data.toList < 1 := by
  have := (Pn.numB_yes h).1
  exact ⟨by unfold numOr; rw [if_pos h], by omega⟩
/-- a number's word is read -/
theorem set_num {w0 : World} {b : Nat} {t : Tk.Tkr} {a : Option Addr} {c i : Nat} {v : ByteArray} (f : Int → Tk.Tkr) (w3 : World) (hbo : ∀ x, (f x).bo = t.bo) (hs : Tk.setT t i v.data.toList = if Pn.digV v.data.toList < 1 then none else some (f (Pn.digV v.data.toList))) (hr : Rdt w0 w3 b (f (numOr v)) a c) : SetIs w0 b t a c i v.data.toList (.returned (.bool (Pn.numB v.data.toList))) w3 := by
  refine ⟨_, f (numOr v), a, c, rfl, fun h => ?_, fun h => ?_, hr, by rw [hbo]; omega, fun _ => ⟨rfl, rfl, hbo _⟩⟩
  · obtain ⟨e1, e2⟩ := numOr_yes h
    rw [hs, if_neg e2, e1]
  · rw [hs, if_pos (Pn.numB_no h)]
theorem set0 (t : Tk.Tkr) (v : List UInt8) : Tk.setT t 0 v = if v = Tk.lastT then some { t with fr := 1 } else if v = Tk.newT then some { t with fr := 2 } else if Pn.digV v < 1 then none else some { t with fr := 3, st := Pn.digV v } := rfl
theorem set1 (t : Tk.Tkr) (v : List UInt8) : Tk.setT t 1 v = if v = Tk.noneT then some { t with ack := 0 } else if v = Tk.allT then some { t with ack := 1 } else none := rfl
theorem lst (v : ByteArray) : v.toList = v.data.toList := ByteArray.toList_eq ..
theorem str_eq {v : ByteArray} {l : List UInt8} (h : v.data.toList = l) : v = Pn.bs l := by rw [← h]; exact (Pn.bs_list v).symm
set_option maxHeartbeats 1000000 in
theorem readAck_any (v : ByteArray) (w0 w : World) (b : Nat) (t : Tk.Tkr) (a : Option Addr) (c : Nat) (h : Rdt w0 w b t a c) :
    Calls Tryd.prog 71 #[.string v, .pointer (some ⟨b, 0, none⟩)] w fun e w' => SetIs w0 b t a c 1 v.data.toList e w' := by
  have c4 := h.tb.c4
  have f4 := h.fr 4
  have H := hide h
  clear h
  by_cases h0 : v.data.toList = Tk.noneT
  · have HE : Hid (SetIs w0 b t a c 1 v.data.toList (.returned (.bool true)) (w.setCell ⟨b, 4, none⟩ (.int .i64 0))) := hide ⟨true, _, a, c, rfl, fun _ => by rw [set1, if_pos h0], fun z => by simp at z, (unhide H).ack' 0, by show t.bo.length ≤ _; omega, fun _ => ⟨rfl, rfl, rfl⟩⟩
    have e0 : (v.toList == [110, 111, 110, 101]) = true := by rw [lst, h0]; rfl
    clear h0
    go_enter Tryd.func71, Tryd.ntmps71
    go_wp2_with fail
    go_ret
    exact unhide HE
  · have e0 : (v.toList == [110, 111, 110, 101]) = false := by rw [lst, beq_eq_false_iff_ne]; exact h0
    by_cases h1 : v.data.toList = Tk.allT
    · have HE : Hid (SetIs w0 b t a c 1 v.data.toList (.returned (.bool true)) (w.setCell ⟨b, 4, none⟩ (.int .i64 1))) := hide ⟨true, _, a, c, rfl, fun _ => by rw [set1, if_neg h0, if_pos h1], fun z => by simp at z, (unhide H).ack' 1, by show t.bo.length ≤ _; omega, fun _ => ⟨rfl, rfl, rfl⟩⟩
      have e1 : (v.toList == [97, 108, 108]) = true := by rw [lst, h1]; rfl
      clear h0 h1
      go_enter Tryd.func71, Tryd.ntmps71
      go_wp2_with fail
      go_ret
      exact unhide HE
    · have HE : Hid (SetIs w0 b t a c 1 v.data.toList (.returned (.bool false)) w) := hide ⟨false, t, a, c, rfl, fun z => by simp at z, fun _ => by rw [set1, if_neg h0, if_neg h1], unhide H, by omega, fun _ => ⟨rfl, rfl, rfl⟩⟩
      have e1 : (v.toList == [97, 108, 108]) = false := by rw [lst, beq_eq_false_iff_ne]; exact h1
      clear h0 h1
      go_enter Tryd.func71, Tryd.ntmps71
      go_wp2_with fail
      go_ret
      exact unhide HE
set_option maxHeartbeats 1000000 in
theorem readFrom_any (v : ByteArray) (w0 w : World) (b : Nat) (t : Tk.Tkr) (a : Option Addr) (c : Nat) (hs : v.size ≤ 1024) (h : Rdt w0 w b t a c) :
    Calls Tryd.prog 70 #[.string v, .pointer (some ⟨b, 0, none⟩)] w fun e w' => SetIs w0 b t a c 0 v.data.toList e w' := by
  have c2 := h.tb.c2
  have f2 := h.fr 2
  have H := hide h
  clear h
  by_cases h0 : v.data.toList = Tk.lastT
  · have HE : Hid (SetIs w0 b t a c 0 v.data.toList (.returned (.bool true)) (w.setCell ⟨b, 2, none⟩ (.int .i64 1))) := hide ⟨true, _, a, c, rfl, fun _ => by rw [set0, if_pos h0], fun z => by simp at z, (unhide H).fr' 1, by show t.bo.length ≤ _; omega, fun _ => ⟨rfl, rfl, rfl⟩⟩
    have e0 : (v.toList == [108, 97, 115, 116]) = true := by rw [lst, h0]; rfl
    clear h0
    go_enter Tryd.func70, Tryd.ntmps70
    go_wp2_with fail
    go_ret
    exact unhide HE
  · have e0 : (v.toList == [108, 97, 115, 116]) = false := by rw [lst, beq_eq_false_iff_ne]; exact h0
    by_cases h1 : v.data.toList = Tk.newT
    · have HE : Hid (SetIs w0 b t a c 0 v.data.toList (.returned (.bool true)) (w.setCell ⟨b, 2, none⟩ (.int .i64 2))) := hide ⟨true, _, a, c, rfl, fun _ => by rw [set0, if_neg h0, if_pos h1], fun z => by simp at z, (unhide H).fr' 2, by show t.bo.length ≤ _; omega, fun _ => ⟨rfl, rfl, rfl⟩⟩
      have e1 : (v.toList == [110, 101, 119]) = true := by rw [lst, h1]; rfl
      clear h0 h1
      go_enter Tryd.func70, Tryd.ntmps70
      go_wp2_with fail
      go_ret
      exact unhide HE
    · have H2 := hide ((unhide H).fr' 3)
      have PN := hide (readNum_at v b 3 t.st (w.setCell ⟨b, 2, none⟩ (.int .i64 3)) (by omega) (unhide H2).tb.lt (unhide H2).tb.c3 ((unhide H2).fr 3))
      have HE : Hid (∀ w2, Below (w.setCell ⟨b, 2, none⟩ (.int .i64 3)).heap.size (w.setCell ⟨b, 2, none⟩ (.int .i64 3)) w2 → SetIs w0 b t a c 0 v.data.toList (.returned (.bool (Pn.numB v.data.toList))) (w2.setCell ⟨b, 3, none⟩ (.int .i64 (numOr v)))) := hide (fun w2 b2 => set_num (a := a) (c := c) (fun x => { t with fr := 3, st := x }) _ (fun _ => rfl) (by rw [set0, if_neg h0, if_neg h1]) (((unhide H2).next b2).st' (numOr v)))
      have e1 : (v.toList == [110, 101, 119]) = false := by rw [lst, beq_eq_false_iff_ne]; exact h1
      clear h0 h1
      go_enter Tryd.func70, Tryd.ntmps70
      go_wp2_with fail
      refine (unhide PN).mono ?_
      rintro e w3 ⟨w2, rfl, b2, rfl⟩
      have HE2 := hide (unhide HE w2 b2)
      clear b2 PN HE
      go_wp2_with fail
      go_ret
      exact unhide HE2
end Go.Proofs.YtcbfmjjodfnacaaDoor
