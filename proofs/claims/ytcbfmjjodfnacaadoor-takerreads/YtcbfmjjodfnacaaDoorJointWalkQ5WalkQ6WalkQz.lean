/-
  Contract of rillref.option: one word's value is read.
  Contract of rillref.ReadTaker.
  The walk of the law TakerReads.
-/
import Derived.Test.YtcbfmjjodfnacaaDoorJointWalkQlWalkQm
import Derived.Test.YtcbfmjjodfnacaaDoorJointWalkB1WalkB4
import Derived.Test.YtcbfmjjodfnacaaDoorWalk3b
import Derived.Test.YtcbfmjjodfnacaaDoorRowY
import Derived.Test.YtcbfmjjodfnacaaDoorJointWalkQoWalkQp
import Derived.Test.YtcbfmjjodfnacaaDoorWalkQc
import Derived.Test.YtcbfmjjodfnacaaDoorJointWalkE1WalkQu
namespace Go.Proofs.YtcbfmjjodfnacaaDoor
open Go.RowKit

/-- what option answers; which block it may write -/
def OptIs (w0 w : World) (b : Nat) (t : Tk.Tkr) (a : Option Addr) (c i : Nat) (v : List UInt8) (e : Ending) (w' : World) : Prop := SetIs w0 b t a c i v e w' ∧ Dk.Chg (fun k => k = b) w w'
theorem chg_one (w : World) (b i : Nat) (x : Value) : Dk.Chg (fun k => k = b) w (w.setCell ⟨b, i, none⟩ x) := (Dk.Chg.refl (fun k => k = b) w).setCell (p := ⟨b, i, none⟩) (.inl rfl) x
section
variable {w0 w : World} {b : Nat} {t : Tk.Tkr} {a : Option Addr} {c : Nat} {v : ByteArray}
theorem set_opt {i : Nat} {D : Int} (f : Int → Tk.Tkr) (w3 : World) (hD : D = Pn.digV v.data.toList) (hbo : ∀ x, (f x).bo = t.bo) (hs : Tk.setT t i v.data.toList = if Pn.digV v.data.toList < 1 then none else some (f (Pn.digV v.data.toList))) (hr : Rdt w0 w3 b (f D) a c) : SetIs w0 b t a c i v.data.toList (.returned (.bool (decide (0 < D)))) w3 := by
  subst hD
  refine ⟨_, _, a, c, rfl, fun h => ?_, fun h => ?_, hr, by rw [hbo]; omega, fun _ => ⟨rfl, rfl, hbo _⟩⟩
  · have := of_decide_eq_true h
    rw [hs, if_neg (by omega)]
  · have := of_decide_eq_false h
    rw [hs, if_pos (by omega)]
set_option maxRecDepth 100000 in
set_option maxHeartbeats 2000000 in
theorem opt0 (hs : v.size ≤ 1024) (h : Rdt w0 w b t a c) :
    Calls Tryd.prog 28 #[.pointer (some ⟨b, 0, none⟩), .int .i64 0, .string v] w fun e w' => OptIs w0 w b t a c 0 v.data.toList e w' := by
  have PD := hide (rdigits_any v w (by omega))
  obtain ⟨D, hD⟩ : ∃ D, D = Pn.digV v.data.toList := ⟨_, rfl⟩
  rw [← hD] at PD
  have c2 := h.tb.c2
  have c3 := h.tb.c3
  have f2 := h.fr 2
  have f3 := h.fr 3
  by_cases h0 : v.data.toList = Tk.lastT
  · have HE : Hid (OptIs w0 w b t a c 0 v.data.toList (.returned (.bool true)) (w.setCell ⟨b, 2, none⟩ (.int .i64 1))) := hide ⟨⟨true, _, a, c, rfl, fun _ => by rw [set0, if_pos h0], fun z => by simp at z, h.fr' 1, by show t.bo.length ≤ _; omega, fun _ => ⟨rfl, rfl, rfl⟩⟩, chg_one _ _ _ _⟩
    have e0 : (v.toList == [108, 97, 115, 116]) = true := by rw [lst, h0]; rfl
    clear h0 hD h
    go_enter Tryd.func28, Tryd.ntmps28
    go_wp2_with fail
    refine (unhide PD).mono ?_
    rintro e w2 ⟨rfl, hw⟩
    rw [hw]
    clear PD hw
    go_wp2_with fail
    go_ret
    exact unhide HE
  · have e0 : (v.toList == [108, 97, 115, 116]) = false := by rw [lst, beq_eq_false_iff_ne]; exact h0
    by_cases h1 : v.data.toList = Tk.newT
    · have HE : Hid (OptIs w0 w b t a c 0 v.data.toList (.returned (.bool true)) (w.setCell ⟨b, 2, none⟩ (.int .i64 2))) := hide ⟨⟨true, _, a, c, rfl, fun _ => by rw [set0, if_neg h0, if_pos h1], fun z => by simp at z, h.fr' 2, by show t.bo.length ≤ _; omega, fun _ => ⟨rfl, rfl, rfl⟩⟩, chg_one _ _ _ _⟩
      have e1 : (v.toList == [110, 101, 119]) = true := by rw [lst, h1]; rfl
      clear h0 h1 hD h
      go_enter Tryd.func28, Tryd.ntmps28
      go_wp2_with fail
      refine (unhide PD).mono ?_
      rintro e w2 ⟨rfl, hw⟩
      rw [hw]
      clear PD hw
      go_wp2_with fail
      go_ret
      exact unhide HE
    · have e1 : (v.toList == [110, 101, 119]) = false := by rw [lst, beq_eq_false_iff_ne]; exact h1
      have HE : Hid (OptIs w0 w b t a c 0 v.data.toList (.returned (.bool (decide (0 < D)))) ((w.setCell ⟨b, 2, none⟩ (.int .i64 3)).setCell ⟨b, 3, none⟩ (.int .i64 D))) := hide ⟨(set_opt (fun x => { t with fr := 3, st := x }) _ hD (fun _ => rfl) (by rw [set0, if_neg h0, if_neg h1]) ((h.fr' 3).st' D)), (chg_one _ _ _ _).trans (chg_one _ _ _ _)⟩
      clear h0 h1 hD h
      go_enter Tryd.func28, Tryd.ntmps28
      go_wp2_with fail
      refine (unhide PD).mono ?_
      rintro e w2 ⟨rfl, hw⟩
      rw [hw]
      clear PD hw
      go_wp2_with fail
      go_ret
      exact unhide HE
set_option maxRecDepth 100000 in
set_option maxHeartbeats 2000000 in
theorem opt1 (hs : v.size ≤ 1024) (h : Rdt w0 w b t a c) :
    Calls Tryd.prog 28 #[.pointer (some ⟨b, 0, none⟩), .int .i64 1, .string v] w fun e w' => OptIs w0 w b t a c 1 v.data.toList e w' := by
  have PD := hide (rdigits_any v w (by omega))
  obtain ⟨D, hD⟩ : ∃ D, D = Pn.digV v.data.toList := ⟨_, rfl⟩
  rw [← hD] at PD
  have c4 := h.tb.c4
  have f4 := h.fr 4
  by_cases h0 : v.data.toList = Tk.noneT
  · have HE : Hid (OptIs w0 w b t a c 1 v.data.toList (.returned (.bool true)) (w.setCell ⟨b, 4, none⟩ (.int .i64 0))) := hide ⟨⟨true, _, a, c, rfl, fun _ => by rw [set1, if_pos h0], fun z => by simp at z, h.ack' 0, by show t.bo.length ≤ _; omega, fun _ => ⟨rfl, rfl, rfl⟩⟩, chg_one _ _ _ _⟩
    have e0 : (v.toList == [110, 111, 110, 101]) = true := by rw [lst, h0]; rfl
    have e1 : (v.toList == [97, 108, 108]) = false := by rw [lst, h0]; rfl
    clear h0 hD h
    go_enter Tryd.func28, Tryd.ntmps28
    go_wp2_with fail
    refine (unhide PD).mono ?_
    rintro e w2 ⟨rfl, hw⟩
    rw [hw]
    clear PD hw
    go_wp2_with fail
    go_ret
    exact unhide HE
  · have e0 : (v.toList == [110, 111, 110, 101]) = false := by rw [lst, beq_eq_false_iff_ne]; exact h0
    by_cases h1 : v.data.toList = Tk.allT
    · have HE : Hid (OptIs w0 w b t a c 1 v.data.toList (.returned (.bool true)) ((w.setCell ⟨b, 4, none⟩ (.int .i64 0)).setCell ⟨b, 4, none⟩ (.int .i64 1))) := hide ⟨⟨true, _, a, c, rfl, fun _ => by rw [set1, if_neg h0, if_pos h1], fun z => by simp at z, (h.ack' 0).ack' 1, by show t.bo.length ≤ _; omega, fun _ => ⟨rfl, rfl, rfl⟩⟩, (chg_one _ _ _ _).trans (chg_one _ _ _ _)⟩
      have e1 : (v.toList == [97, 108, 108]) = true := by rw [lst, h1]; rfl
      clear h0 h1 hD h
      go_enter Tryd.func28, Tryd.ntmps28
      go_wp2_with fail
      refine (unhide PD).mono ?_
      rintro e w2 ⟨rfl, hw⟩
      rw [hw]
      clear PD hw
      go_wp2_with fail
      go_ret
      exact unhide HE
    · have HE : Hid (OptIs w0 w b t a c 1 v.data.toList (.returned (.bool false)) (w.setCell ⟨b, 4, none⟩ (.int .i64 0))) := hide ⟨⟨false, _, a, c, rfl, fun z => by simp at z, fun _ => by rw [set1, if_neg h0, if_neg h1], h.ack' 0, by show t.bo.length ≤ _; omega, fun _ => ⟨rfl, rfl, rfl⟩⟩, chg_one _ _ _ _⟩
      have e1 : (v.toList == [97, 108, 108]) = false := by rw [lst, beq_eq_false_iff_ne]; exact h1
      clear h0 h1 hD h
      go_enter Tryd.func28, Tryd.ntmps28
      go_wp2_with fail
      refine (unhide PD).mono ?_
      rintro e w2 ⟨rfl, hw⟩
      rw [hw]
      clear PD hw
      go_wp2_with fail
      go_ret
      exact unhide HE
set_option maxRecDepth 100000 in
set_option maxHeartbeats 2000000 in
theorem opt2 (hs : v.size ≤ 1024) (h : Rdt w0 w b t a c) :
    Calls Tryd.prog 28 #[.pointer (some ⟨b, 0, none⟩), .int .i64 2, .string v] w fun e w' => OptIs w0 w b t a c 2 v.data.toList e w' := by
  have PD := hide (rdigits_any v w (by omega))
  obtain ⟨D, hD⟩ : ∃ D, D = Pn.digV v.data.toList := ⟨_, rfl⟩
  rw [← hD] at PD
  have c5 := h.tb.c5
  have f5 := h.fr 5
  have HE : Hid (OptIs w0 w b t a c 2 v.data.toList (.returned (.bool (decide (0 < D)))) (w.setCell ⟨b, 5, none⟩ (.int .i64 D))) := hide ⟨(set_opt (fun x => { t with wait := x }) _ hD (fun _ => rfl) rfl (h.wait' D)), chg_one _ _ _ _⟩
  clear hD h
  go_enter Tryd.func28, Tryd.ntmps28
  go_wp2_with fail
  refine (unhide PD).mono ?_
  rintro e w2 ⟨rfl, hw⟩
  rw [hw]
  clear PD hw
  go_wp2_with fail
  go_ret
  exact unhide HE
set_option maxRecDepth 100000 in
set_option maxHeartbeats 2000000 in
theorem opt4 (hs : v.size ≤ 1024) (h : Rdt w0 w b t a c) :
    Calls Tryd.prog 28 #[.pointer (some ⟨b, 0, none⟩), .int .i64 4, .string v] w fun e w' => OptIs w0 w b t a c 4 v.data.toList e w' := by
  have PD := hide (rdigits_any v w (by omega))
  obtain ⟨D, hD⟩ : ∃ D, D = Pn.digV v.data.toList := ⟨_, rfl⟩
  rw [← hD] at PD
  have c7 := h.tb.c7
  have f7 := h.fr 7
  have HE : Hid (OptIs w0 w b t a c 4 v.data.toList (.returned (.bool (decide (0 < D)))) (w.setCell ⟨b, 7, none⟩ (.int .i64 D))) := hide ⟨(set_opt (fun x => { t with mo := x }) _ hD (fun _ => rfl) rfl (h.mo' D)), chg_one _ _ _ _⟩
  clear hD h
  go_enter Tryd.func28, Tryd.ntmps28
  go_wp2_with fail
  refine (unhide PD).mono ?_
  rintro e w2 ⟨rfl, hw⟩
  rw [hw]
  clear PD hw
  go_wp2_with fail
  go_ret
  exact unhide HE
set_option maxRecDepth 100000 in
set_option maxHeartbeats 2000000 in
theorem opt5 (hs : v.size ≤ 1024) (h : Rdt w0 w b t a c) :
    Calls Tryd.prog 28 #[.pointer (some ⟨b, 0, none⟩), .int .i64 5, .string v] w fun e w' => OptIs w0 w b t a c 5 v.data.toList e w' := by
  have PD := hide (rdigits_any v w (by omega))
  obtain ⟨D, hD⟩ : ∃ D, D = Pn.digV v.data.toList := ⟨_, rfl⟩
  rw [← hD] at PD
  have c8 := h.tb.c8
  have f8 := h.fr 8
  have HE : Hid (OptIs w0 w b t a c 5 v.data.toList (.returned (.bool (decide (0 < D)))) (w.setCell ⟨b, 8, none⟩ (.int .i64 D))) := hide ⟨(set_opt (fun x => { t with pe := x }) _ hD (fun _ => rfl) rfl (h.pe' D)), chg_one _ _ _ _⟩
  clear hD h
  go_enter Tryd.func28, Tryd.ntmps28
  go_wp2_with fail
  refine (unhide PD).mono ?_
  rintro e w2 ⟨rfl, hw⟩
  rw [hw]
  clear PD hw
  go_wp2_with fail
  go_ret
  exact unhide HE
set_option maxRecDepth 100000 in
set_option maxHeartbeats 2000000 in
theorem opt6 (hs : v.size ≤ 1024) (h : Rdt w0 w b t a c) :
    Calls Tryd.prog 28 #[.pointer (some ⟨b, 0, none⟩), .int .i64 6, .string v] w fun e w' => OptIs w0 w b t a c 6 v.data.toList e w' := by
  have PD := hide (rdigits_any v w (by omega))
  obtain ⟨D, hD⟩ : ∃ D, D = Pn.digV v.data.toList := ⟨_, rfl⟩
  rw [← hD] at PD
  have c9 := h.tb.c9
  have f9 := h.fr 9
  by_cases h0 : v.data.toList = []
  · have HE : Hid (OptIs w0 w b t a c 6 v.data.toList (.returned (.bool true)) (w.setCell ⟨b, 9, none⟩ (.bool true))) := hide ⟨⟨true, _, a, c, rfl, fun _ => by rw [set6, if_pos h0], fun z => by simp at z, h.pu' true, by show t.bo.length ≤ _; omega, fun _ => ⟨rfl, rfl, rfl⟩⟩, chg_one _ _ _ _⟩
    have e1 : v.toList.isEmpty = true := by rw [lst, h0]; rfl
    clear h0 h hD
    go_enter Tryd.func28, Tryd.ntmps28
    go_wp2_with fail
    refine (unhide PD).mono ?_
    rintro e w2 ⟨rfl, hw⟩
    rw [hw]
    clear PD hw
    go_wp2_with fail
    go_ret
    exact unhide HE
  · have HE : Hid (OptIs w0 w b t a c 6 v.data.toList (.returned (.bool false)) (w.setCell ⟨b, 9, none⟩ (.bool true))) := hide ⟨⟨false, _, a, c, rfl, fun z => by simp at z, fun _ => by rw [set6, if_neg h0], h.pu' true, by show t.bo.length ≤ _; omega, fun _ => ⟨rfl, rfl, rfl⟩⟩, chg_one _ _ _ _⟩
    have e1 : (v.toList == []) = false := by rw [lst, beq_eq_false_iff_ne]; exact h0
    clear h0 h hD
    go_enter Tryd.func28, Tryd.ntmps28
    go_wp2_with fail
    refine (unhide PD).mono ?_
    rintro e w2 ⟨rfl, hw⟩
    rw [hw]
    clear PD hw
    go_wp2_with fail
    go_ret
    exact unhide HE

theorem set3' {ws : List ByteArray} (hc : ws.map (·.data.toList) = Pn.cut 44 v.data.toList) : Tk.setT t 3 v.data.toList = (Tk.rdB (ws.map (·.data.toList))).map (fun l => { t with bo := t.bo ++ l }) := by rw [set3, hc]
/-- the numbers that were laid so far -/
structure Bd (w0 w w1 wr : World) (b g : Nat) (t : Tk.Tkr) (ws : List ByteArray) (k : Nat) (a : Option Addr) (c : Nat) : Prop where
  rd : Rdt w0 wr b { t with bo := numsK ws k } a c
  nums : Dk.Nums wr w1.heap.size (.slice a (numsK ws k).length c) (numsK ws k)
  row : SlS wr (some ⟨g, 0, none⟩) ws
  gl : g < w1.heap.size
  gb : g ≠ b
  bl : b < w1.heap.size
  le : w1.heap.size ≤ wr.heap.size
  lw : w.heap.size ≤ w1.heap.size
  chg : Dk.Chg (fun k => k = b) w wr
theorem Bd.next {w1 wr w2 : World} {g : Nat} {ws : List ByteArray} {k : Nat} (h : Bd w0 w w1 wr b g t ws k a c) (hb : Below wr.heap.size wr w2) : Bd w0 w w1 w2 b g t ws k a c :=
  ⟨h.rd.next hb, h.nums.below hb, h.row.next hb, h.gl, h.gb, h.bl, Nat.le_trans h.le hb.size, h.lw, h.chg.trans (Dk.Chg.of_below hb)⟩
theorem Bd.more {w1 wx : World} {g : Nat} {ws : List ByteArray} {k : Nat} (h : Bd w0 w w1 wx b g t ws k a c) (hk : k < ws.length) (hl : ws.length ≤ 100000) :
    ∃ a' c' w', (Builtin.append_ #[22, 22] 22 #[.slice a k c, .slice (some ⟨wx.heap.size, 0, none⟩) 1 1]).run Tryd.prog (wx.alloc (.cells #[.int .i64 (Pn.digV (tk ws k).data.toList)] 3)) = .ok (.slice a' (k + 1) c') w' ∧ w'.frozen? ⟨b, 6, none⟩ = false ∧ w'.cell? ⟨b, 6, none⟩ = some (.slice a k c) ∧ b < w'.heap.size ∧ Bd w0 w w1 (w'.setCell ⟨b, 6, none⟩ (.slice a' (k + 1) c')) b g t ws (k + 1) a' c' := by
  have hlen := numsK_len (Nat.le_of_lt hk)
  obtain ⟨a', c', w', h1, h2, h3, h4, h5, h6, h7⟩ := h.rd.more h.nums h.bl h.le (by show (numsK ws k).length ≤ _; omega) (Pn.digV (tk ws k).data.toList)
  have e : ({ t with bo := numsK ws k } : Tk.Tkr).bo.length = k := hlen
  have e2 : ({ ({ t with bo := numsK ws k } : Tk.Tkr) with bo := ({ t with bo := numsK ws k } : Tk.Tkr).bo ++ [Pn.digV (tk ws k).data.toList] } : Tk.Tkr) = { t with bo := numsK ws (k + 1) } := by rw [numsK_succ hk]
  have e3 : ({ t with bo := numsK ws k } : Tk.Tkr).bo ++ [Pn.digV (tk ws k).data.toList] = numsK ws (k + 1) := (numsK_succ hk).symm
  rw [e] at h1 h3 h5 h6 h7
  rw [e2] at h5
  rw [e3] at h6
  refine ⟨a', c', w', h1, h2, h3, h4, h5, h6, ?_, h.gl, h.gb, h.bl, Nat.le_trans h.le h7.size, h.lw, ⟨h7.os.trans h.chg.os, h7.tape.trans h.chg.tape, h7.output.trans h.chg.output, Nat.le_trans h.chg.size h7.size, fun k hk hn => (h7.block k (Nat.lt_of_lt_of_le hk h.chg.size) (by rintro (z | z); exact hn z; have := h.lw; have : w1.heap.size ≤ k := z; omega)).trans (h.chg.block k hk hn)⟩⟩
  intro j hj
  obtain ⟨b', o, e0, e1, e2⟩ := h.row j hj
  cases e0
  exact ⟨g, 0, rfl, Nat.lt_of_lt_of_le e1 h7.size, by rw [h7.cell (p := ⟨g, 0 + j, none⟩) e1 (by rintro (z | z); exact h.gb z; have := h.gl; have : w1.heap.size ≤ g := z; omega)]; exact e2⟩
theorem Bd.at {w1 wx : World} {g : Nat} {ws : List ByteArray} {k : Nat} (h : Bd w0 w w1 wx b g t ws k a c) {j : Nat} (hj : j < ws.length) : wx.cell? ⟨g, j, none⟩ = some (.string (tk ws j)) := by
  obtain ⟨_, _, e0, _, e1⟩ := h.row j hj
  cases e0
  rw [Nat.zero_add] at e1
  exact e1
set_option maxRecDepth 100000 in
set_option maxHeartbeats 4000000 in
theorem opt3 (hs : v.size ≤ 1024) (h : Rdt w0 w b t none 0) (h0 : t.bo = []) :
    Calls Tryd.prog 28 #[.pointer (some ⟨b, 0, none⟩), .int .i64 3, .string v] w fun e w' => OptIs w0 w b t none 0 3 v.data.toList e w' := by
  have PD := hide (rdigits_any v w (by omega))
  obtain ⟨D, hD⟩ : ∃ D, D = Pn.digV v.data.toList := ⟨_, rfl⟩
  rw [← hD] at PD
  clear hD
  have hcl : (Pn.cut 44 v.data.toList).length ≤ 1025 := by
    rw [Pn.cut_length]
    have h1 := List.count_le_length (a := (44 : UInt8)) (l := v.data.toList)
    have e : v.data.toList.length = v.size := by simp
    omega
  have PP : Hid (Calls Tryd.prog 26 #[.string v, .int .u8 44] w fun e w' => ∃ g cap l, e = .returned (.slice (some ⟨g, 0, none⟩) l.length cap) ∧ Own w' w.heap.size g cap l ∧ isCut 44 v v.size l ∧ Below w.heap.size w w') := hide (pieces_at 44 v w (by omega) (by omega))
  have H := hide h
  have hbl := h.tb.lt
  clear h
  go_enter Tryd.func28, Tryd.ntmps28
  go_wp2_with fail
  refine (unhide PD).mono ?_
  rintro e w2 ⟨rfl, hw⟩
  rw [hw]
  clear PD hw
  go_wp2_with fail
  refine (unhide PP).mono ?_
  rintro e w1 ⟨g, cap, ws, rfl, o1, p1, b1⟩
  have hcut : ws.map (·.data.toList) = Pn.cut 44 v.data.toList := by
    have := p1
    unfold isCut at this
    rwa [List.take_of_length_le (by simp)] at this
  have hf : ws.length ≤ 1025 := by
    have e := congrArg List.length hcut
    rw [List.length_map] at e
    omega
  have HZ : Hid (∀ k, k < ws.length → (tk ws k).size ≤ 1024) := hide (fun k hk => Nat.le_trans (cut_piece hcut hk) hs)
  have HQ : Hid (∀ k, k < ws.length → Pn.digV (tk ws k).data.toList < 1 → Tk.setT t 3 v.data.toList = none) := hide (fun k hk hb => by
    rw [set3' hcut, rdB_none _ k hk (by
      cases hn : Pn.numB (tk ws k).data.toList with
      | false => rfl
      | true => have := (Pn.numB_yes hn).1; omega)]
    rfl)
  have HQ2 : Hid ((∀ k, k < ws.length → 1 ≤ Pn.digV (tk ws k).data.toList) → Tk.setT t 3 v.data.toList = some { t with bo := numsK ws ws.length }) := hide (fun hk => by
    rw [set3' hcut, rdB_all _ (fun k hl => by
      cases hn : Pn.numB (tk ws k).data.toList with
      | true => rfl
      | false => have h1 := Pn.numB_no hn; have h2 := hk k hl; omega)]
    unfold numsK
    rw [List.take_length, Option.map_some, h0, List.nil_append])
  have hg := own_base o1
  have K0 : Hid (Bd w0 w w1 w1 b g t ws 0 none 0) := hide ⟨by
    have e : ({ t with bo := numsK ws 0 } : Tk.Tkr) = t := by unfold numsK; rw [List.take_zero, List.map_nil, ← h0]
    rw [e]
    exact (unhide H).next b1, ⟨by simp [numsK], .inl ⟨by simp [numsK], by simp [numsK]⟩⟩, own_txts o1, hg.2, by omega, Nat.lt_of_lt_of_le hbl b1.size, Nat.le_refl _, b1.size, Dk.Chg.of_below b1⟩
  clear PP o1 b1 hg H h0 p1 hcut hcl hs
  go_wp2_with fail
  go_loopw [9] (fun iv wr => ∃ (k : Nat) (a : Option Addr) (c : Nat), iv = .int .i64 k ∧ k ≤ ws.length ∧ Hid (Bd w0 w w1 wr b g t ws k a c) ∧ Hid (∀ j, j < k → 1 ≤ Pn.digV (tk ws j).data.toList)) (fun iv _ => ws.length - (intOf iv).toNat)
  case atStart => exact ⟨0, none, 0, rfl, Nat.zero_le _, K0, hide (fun j hj => by omega)⟩
  case round =>
    clear K0
    obtain ⟨k, a, c, rfl, hk, K, HO⟩ := hrel
    by_cases hlt : k < ws.length
    · have e1 := (unhide K).at hlt
      have hz := unhide HZ k hlt
      have PC := hide (fun (W : World) => rdigits_any (tk ws k) W (by omega))
      have hkl : ({ t with bo := numsK ws k } : Tk.Tkr).bo.length = k := numsK_len hk
      have c6 := (unhide K).rd.tb.c6
      rw [hkl] at c6
      have hwl : b < wr.heap.size := (unhide K).rd.tb.lt
      have hgw : g < wr.heap.size := Nat.lt_of_lt_of_le (unhide K).gl (unhide K).le
      have PA := hide (fun (W : World) (h : Below wr.heap.size wr W) => ((unhide K).next h).more hlt (by omega))
      have HT : Hid (∀ a' c' (W : World), Bd w0 w w1 W b g t ws (k + 1) a' c' → W.cell? ⟨g, k, none⟩ = some (.string (tk ws k)) ∧ (Pn.digV (tk ws k).data.toList < 1 → OptIs w0 w b t none 0 3 v.data.toList (.returned (.bool false)) W) ∧ (1 ≤ Pn.digV (tk ws k).data.toList → ∀ j, j < k + 1 → 1 ≤ Pn.digV (tk ws j).data.toList)) := hide (fun a' c' W hB => ⟨hB.at hlt, fun hd => ⟨⟨false, _, a', c', rfl, fun z => by simp at z, fun _ => unhide HQ k hlt hd, hB.rd, by show (numsK ws (k + 1)).length ≤ _; rw [numsK_len hlt]; omega, fun z => absurd rfl z⟩, hB.chg⟩, fun hd j hj => by
        by_cases ej : j < k
        · exact unhide HO j ej
        · obtain rfl : j = k := by omega
          exact hd⟩)
      obtain ⟨x, hx⟩ : ∃ x, tk ws k = x := ⟨_, rfl⟩
      obtain ⟨D2, hD2⟩ : ∃ D2, Pn.digV (tk ws k).data.toList = D2 := ⟨_, rfl⟩
      rw [hD2] at PA PC HT
      rw [hx] at e1 PC hz HT
      clear hx hD2 K HQ HQ2 hkl HO
      go_wp2_with fail
      go_region_law (first
        | (refine step_appendX rfl _ _ 22 22 rfl (.slice a k c) _ (by first | (simp [Act.eval]; done) | (simp [Act.eval, Act.put]; done)) (by first | (simp [Act.eval]; done) | (simp [Act.eval, Act.put]; done)) hrun ?_)
        | (go_simp; go_at_call 48; refine (unhide PC _).mono ?_; rintro e w6 ⟨rfl, hw6⟩; have b6 : Below wr.heap.size wr w6 := (by rw [hw6]; exact (Below.refl _ _).drew); have d2 := (b6.cell (p := ⟨b, 6, none⟩) hwl).trans c6; have hp6 := Nat.lt_of_lt_of_le hwl b6.size; clear hw6; obtain ⟨a', c', w8, hrun, f8, e8, l8, F8⟩ := unhide PA w6 b6; dsimp only))
      all_goals
        have F9 := hide F8
        obtain ⟨t1, t2, t3⟩ := unhide HT a' c' _ F8
        generalize w8.setCell ⟨b, 6, none⟩ (.slice a' (k + 1) c') = W9 at F9 t1 t2 ⊢
        have T2 := hide t2
        have T3 := hide t3
        have P9 := hide (unhide PC W9)
        clear F8 e8 f8 l8 hrun d2 hp6 b6 PC PA e1 c6 hwl t2 t3 HT
        go_wp2_with fail
        refine (unhide P9).mono ?_
        rintro e w7 ⟨rfl, hw⟩
        rw [hw]
        clear P9 hw
        by_cases hd : D2 < 1
        · have HE := hide (unhide T2 hd)
          have gx : decide (D2 < 1) = true := decide_eq_true hd
          clear T2 T3 F9
          go_wp2_with fail
          go_ret
          exact unhide HE
        · have HO2 := hide (unhide T3 (by omega))
          have gx : decide (D2 < 1) = false := decide_eq_false hd
          clear T2 T3
          go_wp2_with fail
          refine ⟨⟨k + 1, a', c', by go_num, by omega, F9, HO2⟩, ?_⟩
          simp [intOf]; omega
    · obtain rfl : k = ws.length := by omega
      have HE : Hid (OptIs w0 w b t none 0 3 v.data.toList (.returned (.bool true)) wr) := hide ⟨⟨true, _, a, c, rfl, fun _ => unhide HQ2 (unhide HO), fun z => by simp at z, (unhide K).rd, by show (numsK ws _).length ≤ _; rw [numsK_len hk]; omega, fun z => absurd rfl z⟩, (unhide K).chg⟩
      clear K HQ HQ2 HZ HO
      go_wp2_with fail
      go_ret
      exact unhide HE
theorem opt_any (i : Nat) (hi : i < 7) (hs : v.size ≤ 1024) (h : Rdt w0 w b t a c) (h3 : i = 3 → a = none ∧ c = 0 ∧ t.bo = []) :
    Calls Tryd.prog 28 #[.pointer (some ⟨b, 0, none⟩), .int .i64 (i : Int), .string v] w fun e w' => OptIs w0 w b t a c i v.data.toList e w' := by
  have : i = 0 ∨ i = 1 ∨ i = 2 ∨ i = 3 ∨ i = 4 ∨ i = 5 ∨ i = 6 := by omega
  rcases this with rfl | rfl | rfl | rfl | rfl | rfl | rfl
  · exact opt0 hs h
  · exact opt1 hs h
  · exact opt2 hs h
  · obtain ⟨rfl, rfl, h0⟩ := h3 rfl
    exact opt3 hs h h0
  · exact opt4 hs h
  · exact opt5 hs h
  · exact opt6 hs h
end
end Go.Proofs.YtcbfmjjodfnacaaDoor

namespace Go.Proofs.YtcbfmjjodfnacaaDoor
open Go.RowKit

theorem cutT_of {d : UInt8} {s : ByteArray} {ws : List ByteArray} (h : ws.map (·.data.toList) = Pn.cut d s.data.toList) : cutT d s = ws := by
  unfold cutT
  rw [← h, List.map_map]
  conv => rhs; rw [← List.map_id ws]
  apply List.map_congr_left
  intro x _
  exact Pn.bs_list x
/-- the words' list, as the document writes it -/
def heads : List ByteArray := [Pn.bs (Tk.hd 0), Pn.bs (Tk.hd 1), Pn.bs (Tk.hd 2), Pn.bs (Tk.hd 3), Pn.bs (Tk.hd 4), Pn.bs (Tk.hd 5), Pn.bs (Tk.hd 6)]
theorem tk_heads {i : Nat} (h : i < 7) : tk heads i = Pn.bs (Tk.hd i) := by
  have : i = 0 ∨ i = 1 ∨ i = 2 ∨ i = 3 ∨ i = 4 ∨ i = 5 ∨ i = 6 := by omega
  rcases this with rfl | rfl | rfl | rfl | rfl | rfl | rfl <;> rfl
abbrev hdO : Obj := .cells #[.string ⟨#[102, 114, 111, 109, 61]⟩, .string ⟨#[97, 99, 107, 61]⟩, .string ⟨#[119, 97, 105, 116, 61]⟩, .string ⟨#[98, 97, 99, 107, 111, 102, 102, 61]⟩, .string ⟨#[109, 111, 115, 116, 61]⟩, .string ⟨#[112, 101, 110, 100, 105, 110, 103, 61]⟩, .string ⟨#[112, 117, 115, 104]⟩] 9
theorem heads_new (w : World) : SlS (w.alloc hdO) (some ⟨w.heap.size, 0, none⟩) heads := fun k hk => by
  refine ⟨w.heap.size, 0, rfl, by simp, ?_⟩
  rw [cell_of_row _ w.heap.size (0 + k) _ _ _ (heap_alloc_new w _), Nat.zero_add]
  have hk7 : k < 7 := hk
  rw [tk_heads hk7]
  have : k = 0 ∨ k = 1 ∨ k = 2 ∨ k = 3 ∨ k = 4 ∨ k = 5 ∨ k = 6 := by omega
  rcases this with rfl | rfl | rfl | rfl | rfl | rfl | rfl <;> rfl
/-- what lies beside the plan that is read -/
structure Rk (w wr : World) (rb b g hb : Nat) (ws : List ByteArray) : Prop where
  zb : Zb wr rb
  row : SlS wr (some ⟨g, 0, none⟩) ws
  hds : SlS wr (some ⟨hb, 0, none⟩) heads
  bl : Below w.heap.size w wr
  ne1 : rb ≠ b
  ne2 : g ≠ b
  ne3 : hb ≠ b
  blo : w.heap.size ≤ b
  gl : g < wr.heap.size
  hl : hb < wr.heap.size
theorem sls_chg {A : Nat → Prop} {w w' : World} {a : Option Addr} {l : List ByteArray} (h : SlS w a l) (hc : Dk.Chg A w w') (hn : ∀ z, a = some z → ¬ A z.block) : SlS w' a l := fun k hk => by
  obtain ⟨b, o, e, h1, h2⟩ := h k hk
  exact ⟨b, o, e, Nat.lt_of_lt_of_le h1 hc.size, by rw [hc.cell (p := ⟨b, o + k, none⟩) h1 (show ¬ A b from hn ⟨b, o, none⟩ e)]; exact h2⟩
theorem Rk.chg {w wr w' : World} {rb b g hb : Nat} {ws : List ByteArray} (h : Rk w wr rb b g hb ws) (hc : Dk.Chg (fun k => k = b) wr w') : Rk w w' rb b g hb ws where
  zb := ⟨h.zb.1.same hc.size (fun j => hc.cell (p := ⟨rb, j, none⟩) h.zb.1.lt h.ne1), fun j => by rw [hc.frozen (p := ⟨rb, j, none⟩) h.zb.1.lt h.ne1]; exact h.zb.2 j⟩
  row := sls_chg h.row hc (fun z hz => by cases hz; exact h.ne2)
  hds := sls_chg h.hds hc (fun z hz => by cases hz; exact h.ne3)
  bl := h.bl.trans (hc.below h.bl.size (fun k hk z => by have : k = b := z; have := h.blo; omega))
  ne1 := h.ne1
  ne2 := h.ne2
  ne3 := h.ne3
  blo := h.blo
  gl := Nat.lt_of_lt_of_le h.gl hc.size
  hl := Nat.lt_of_lt_of_le h.hl hc.size
theorem Rk.next {w wr w' : World} {rb b g hb : Nat} {ws : List ByteArray} (h : Rk w wr rb b g hb ws) (hc : Below wr.heap.size wr w') : Rk w w' rb b g hb ws := h.chg (Dk.Chg.of_below hc)
theorem Wp.next {w0 wr w' : World} {b i : Nat} {t : Tk.Tkr} {a : Option Addr} {c : Nat} (h : Wp w0 wr b i t a c) (hb : Below wr.heap.size wr w') : Wp w0 w' b i t a c := ⟨h.rd.next hb, h.few, h.none3⟩
abbrev Wk2 (g k hb i : Nat) (u x : ByteArray) (w : World) : Prop := w.cell? ⟨g, k, none⟩ = some (.string u) ∧ w.cell? ⟨hb, i, none⟩ = some (.string x)
theorem drop_map {ws : List ByteArray} {k : Nat} (h : k < ws.length) : (ws.drop k).map (·.data.toList) = (tk ws k).data.toList :: (ws.drop (k + 1)).map (·.data.toList) := by
  rw [List.drop_eq_getElem_cons h, List.map_cons, Pn.tk_at h]
theorem LayQ.drew (X Y : ByteArray) (w1 : World) : LayQ w1 (w1.alloc (tkO (Tk.base X Y) none 0)).drew w1.heap.size X Y :=
  ⟨(TB.new w1 (Tk.base X Y) none 0).next (Below.refl _ _).drew, fun j => World.frozen?_alloc_new _ _ _ j, ((Below.refl _ _).alloc (Nat.le_refl _) _).drew, Nat.le_refl _⟩
/-- the place that was found -/
def Hit (i n : Nat) (U : List UInt8) (us : List (List UInt8)) (V : ByteArray) (t : Tk.Tkr) (ans : Option Tk.Tkr) : Prop := ∃ j, i = j + 1 ∧ j < 7 ∧ n ≤ j ∧ (Tk.hd j).isPrefixOf U = true ∧ V.data.toList = U.drop (Tk.hd j).length ∧ Tk.rdT (Tk.seven.drop j) (U :: us) t = ans
set_option maxRecDepth 100000 in
set_option maxHeartbeats 8000000 in
theorem rreadq_any (s : ByteArray) (w : World) (hs : s.size ≤ 140737488355328) :
    Calls Tryd.prog 13 #[.string s] w fun e w' => ParseQ s w e w' := by
  have r0 := Zb.new w
  have b0 : Below w.heap.size w (w.alloc tkZ) := (Below.refl _ _).alloc (Nat.le_refl _) _
  by_cases h1 : 1024 < s.size
  · have HR := hide (readT_large h1)
    have R0 := hide (And.intro r0 b0)
    have g1 : decide ((1024 : Int) < (s.size : Int)) = true := decide_eq_true (by omega)
    clear r0 b0
    go_enter Tryd.func13, Tryd.ntmps13
    go_wp2_with fail
    refine bodyPost_ret (results_tk2 rfl rfl (unhide R0).1.1) rfl ?_
    exact ParseQ.bad (unhide HR) (unhide R0).2 rfl
  · have g1 : decide ((1024 : Int) < (s.size : Int)) = false := decide_eq_false (by omega)
    obtain ⟨W, hW⟩ : ∃ W, W = w.alloc tkZ := ⟨_, rfl⟩
    rw [← hW] at r0 b0
    have hcl : (Pn.cut 32 s.data.toList).length ≤ 1025 := by
      rw [Pn.cut_length]
      have h1 := List.count_le_length (a := (32 : UInt8)) (l := s.data.toList)
      have e : s.data.toList.length = s.size := by simp
      omega
    have PP : Hid (Calls Tryd.prog 26 #[.string s, .int .u8 32] W fun e w' => ∃ g cap l, e = .returned (.slice (some ⟨g, 0, none⟩) l.length cap) ∧ Own w' W.heap.size g cap l ∧ isCut 32 s s.size l ∧ Below W.heap.size W w') := hide (pieces_at 32 s W (by omega) (by omega))
    have hWl : w.heap.size < W.heap.size := r0.1.lt
    have H0 := hide r0
    have HB := hide b0
    clear r0 b0
    go_enter Tryd.func13, Tryd.ntmps13
    go_wp2_with fail
    rw [← hW]
    obtain ⟨rb, hrb⟩ : ∃ rb, rb = w.heap.size := ⟨_, rfl⟩
    rw [← hrb] at H0 ⊢
    have hrw : w.heap.size ≤ rb := by omega
    rw [← hrb] at hWl
    clear hW hrb
    refine (unhide PP).mono ?_
    rintro e w1 ⟨g, cap, ws, rfl, o1, p1, b1⟩
    have hcut : ws.map (·.data.toList) = Pn.cut 32 s.data.toList := by
      have := p1
      unfold isCut at this
      rwa [List.take_of_length_le (by simp)] at this
    have hf : ws.length ≤ 1025 := by
      have e := congrArg List.length hcut
      rw [List.length_map] at e
      omega
    have H1 : Hid (Zb w1 rb ∧ Below w.heap.size w w1 ∧ SlS w1 (some ⟨g, 0, none⟩) ws) := hide ⟨(unhide H0).next b1, bstep (unhide HB) b1, own_txts o1⟩
    have hgl : g < w1.heap.size := (own_base o1).2
    have hgr : rb ≠ g := by have := (own_base o1).1; omega
    have HSz : Hid (∀ k, k < ws.length → (tk ws k).size ≤ 1024) := hide (fun k hk => by
      have := cut_piece hcut hk
      omega)
    have HS2 : Hid (ws.length < 2 → Tk.readT s = (Tk.zeroT, 3)) := hide (by
      have := readT_short (s := s) h1
      rwa [cutT_of hcut] at this)
    have HS3 : Hid (¬ ws.length < 2 → _) := hide (by
      have := readT_cut (s := s) h1
      rw [cutT_of hcut] at this
      exact this)
    clear PP o1 b1 H0 HB p1 hcut hcl
    by_cases h2 : ws.length < 2
    · have g2 : decide ((ws.length : Int) < 2) = true := decide_eq_true (by omega)
      have HR := hide (unhide HS2 h2)
      obtain ⟨⟨_, y0, y1, y2, y3, y4, y5, y6, y7, y8, y9⟩, fz⟩ := (unhide H1).1
      clear HS2 HS3 HSz
      go_wp2_with fail
      refine bodyPost_ret (results_tk2 rfl rfl ((unhide H1).1.1.puts Tk.zeroT none 0)) rfl ?_
      exact ParseQ.bad (unhide HR) (puts_below hrw [_, _, _, _, _, _, _, _, _, _] w1 0 (unhide H1).2.1) rfl
    · have g2 : decide ((ws.length : Int) < 2) = false := decide_eq_false (by omega)
      have HR := hide (unhide HS3 h2)
      obtain ⟨_, _, e0, _, c0⟩ := (unhide H1).2.2 0 (by omega)
      cases e0
      obtain ⟨_, _, e0, _, c1⟩ := (unhide H1).2.2 1 (by omega)
      cases e0
      rw [Nat.zero_add] at c0 c1
      have hXz := unhide HSz 0 (by omega)
      have hYz := unhide HSz 1 (by omega)
      obtain ⟨X, hX⟩ : ∃ X, tk ws 0 = X := ⟨_, rfl⟩
      obtain ⟨Y, hY⟩ : ∃ Y, tk ws 1 = Y := ⟨_, rfl⟩
      rw [hX] at c0 hXz HR
      rw [hY] at c1 hYz HR
      have hi0 : 0 < ws.length := by omega
      have hi1 : 1 < ws.length := by omega
      have hj0 : (0 : Int) < (ws.length : Int) := by omega
      have hj1 : (1 : Int) < (ws.length : Int) := by omega
      have k0 : Tw g X Y w1.drew := ⟨by simpa using c0, by simpa using c1⟩
      have hne : g ≠ w1.heap.size := by omega
      clear hX hY HS2 HS3 c0 c1
      go_upto_region 6 with fail
      go_cut [5] (fun v wx => ∃ b, v = .pointer (some ⟨b, 0, none⟩) ∧ Hid (LayQ w1 wx b X Y))
      case first =>
        clear HR H1 HSz
        go_wp2_with fail
        go_region_held_law (Tw g X Y) (first | with_reducible assumption | ((with_reducible refine Tw.alloc ?_ ?_) <;> assumption) | ((with_reducible refine Tw.allocd ?_ ?_) <;> assumption)) (fail)
        have HL := hide (LayQ.drew X Y w1)
        clear k0
        go_wp2_with fail
        go_meet
        exact ⟨_, rfl, HL⟩
      case rest =>
        obtain ⟨b, rfl, HL⟩ := hcut
        obtain ⟨l1, l2, l3, l4⟩ := unhide HL
        have hbw : w.heap.size ≤ b := Nat.le_trans (unhide H1).2.1.size l4
        have kh : Below wc.heap.size wc (wc.alloc hdO) := (Below.refl _ _).alloc (Nat.le_refl _) _
        have hbc : b < wc.heap.size := l1.lt
        have hrb1 : rb < w1.heap.size := (unhide H1).1.1.lt
        have RK : Hid (Rk w (wc.alloc hdO) rb b g wc.heap.size ws) := hide ⟨((unhide H1).1.next l3).next kh, ((unhide H1).2.2.next l3).next kh, heads_new wc, bstep (bstep (unhide H1).2.1 l3) kh, by omega, by omega, by omega, hbw, Nat.lt_of_lt_of_le hgl (Nat.le_trans l3.size kh.size), by simp⟩
        have WP : Hid (Wp wc (wc.alloc hdO) b 0 (Tk.base X Y) none 0) := hide ⟨⟨l1.next kh, ⟨rfl, .inl ⟨rfl, rfl⟩⟩, fun j => by rw [kh.frozen (p := ⟨b, j, none⟩) hbc]; exact l2 j, kh.mono (Nat.le_of_lt hbc)⟩, by simp [Tk.base], fun _ => ⟨rfl, rfl, rfl⟩⟩
        obtain ⟨ans, hans⟩ : ∃ ans, Tk.rdT Tk.seven ((ws.drop 2).map (·.data.toList)) (Tk.base X Y) = ans := ⟨_, rfl⟩
        rw [hans] at HR
        have HN : Hid (∀ t', ans = some t' → t'.n.size ≤ 1024 ∧ t'.f.size ≤ 1024) := hide (fun t' ht => by
          obtain ⟨q1, q2⟩ := rdT_name (hans.trans ht)
          rw [q1, q2]
          exact ⟨hXz, hYz⟩)
        have HA : Hid (Tk.rdT (Tk.seven.drop 0) ((ws.drop 2).map (·.data.toList)) (Tk.base X Y) = ans) := hide hans
        have HRn : Hid (ans = none → Tk.readT s = (Tk.zeroT, 3)) := hide (fun h => by rw [unhide HR, h])
        have HRs : Hid (∀ t', ans = some t' → Tk.readT s = if Tk.takE t' = 0 then (t', 0) else (Tk.zeroT, Tk.takE t')) := hide (fun t' h => by rw [unhide HR, h])
        have hrbb : rb < b := by omega
        clear l1 l2 l3 l4 HL H1 hans k0 hne HR kh
        go_wp2_with fail
        obtain ⟨hb, hhb⟩ : ∃ hb, hb = wc.heap.size := ⟨_, rfl⟩
        obtain ⟨W3, hW3⟩ : ∃ W3, W3 = wc.alloc hdO := ⟨_, rfl⟩
        rw [← hW3, ← hhb] at RK
        rw [← hW3] at WP
        rw [← hW3, ← hhb]
        clear hW3 hhb
        go_loopw [7, 8] (fun nv kv wr => ∃ (n k : Nat) (t : Tk.Tkr) (a : Option Addr) (c : Nat), nv = .int .i64 n ∧ kv = .int .i64 k ∧ 2 ≤ k ∧ k ≤ ws.length ∧ n ≤ 7 ∧ Hid (Tk.rdT (Tk.seven.drop n) ((ws.drop k).map (·.data.toList)) t = ans) ∧ Hid (Wp wc wr b n t a c) ∧ Hid (Rk w wr rb b g hb ws)) (fun _ kv _ => ws.length - (intOf kv).toNat)
        case atStart => exact ⟨0, 2, _, none, 0, rfl, rfl, by omega, by omega, by omega, HA, WP, RK⟩
        case round =>
          clear HA WP RK
          obtain ⟨n, k, t, a, c, rfl, rfl, hk2, hk, hn7, HA, WP, RK⟩ := hrel
          by_cases hlt : k < ws.length
          · have hUz := unhide HSz k hlt
            have HA2 : Hid (Tk.rdT (Tk.seven.drop n) ((tk ws k).data.toList :: (ws.drop (k + 1)).map (·.data.toList)) t = ans) := hide (by rw [← drop_map hlt]; exact unhide HA)
            have HK : Hid (∀ {wx : World}, Rk w wx rb b g hb ws → wx.cell? ⟨g, k, none⟩ = some (.string (tk ws k))) := hide (fun h => by
              obtain ⟨_, _, e0, _, e1⟩ := h.row k hlt
              cases e0
              rw [Nat.zero_add] at e1
              exact e1)
            obtain ⟨U, hU⟩ : ∃ U, tk ws k = U := ⟨_, rfl⟩
            obtain ⟨us, hus⟩ : ∃ us, (ws.drop (k + 1)).map (·.data.toList) = us := ⟨_, rfl⟩
            rw [hU] at hUz HA2 HK
            rw [hus] at HA2
            have HUS := hide hus
            clear HA hU hus
            go_wp2_with fail
            go_loopw [9, 10, 11] (fun iv vv fv wx => ∃ (i : Nat) (V : ByteArray) (f : Bool), iv = .int .i64 i ∧ vv = .string V ∧ fv = .bool f ∧ i ≤ 7 ∧ V.size ≤ 1024 ∧ Hid (n ≤ i) ∧ Hid (f = false → Tk.rdT (Tk.seven.drop i) (U.data.toList :: us) t = ans) ∧ Hid (f = true → Hit i n U.data.toList us V t ans) ∧ Hid (Wp wc wx b n t a c) ∧ Hid (Rk w wx rb b g hb ws)) (fun iv _ _ _ => 7 - (intOf iv).toNat)
            case atStart => exact ⟨n, ⟨#[]⟩, false, rfl, rfl, rfl, hn7, by decide, hide (Nat.le_refl _), hide (fun _ => unhide HA2), hide (fun h => by simp at h), WP, RK⟩
            case round =>
              clear HA2 WP RK
              obtain ⟨i, V, f, rfl, rfl, rfl, hi7, hVz, HNi, HF, HT, WP, RK⟩ := hrel
              cases f with
              | true =>
                obtain ⟨j, rfl, hj, hnj, hp, hV, hA⟩ := unhide HT rfl
                have PO := hide (opt_any (v := V) j hj hVz (unhide WP).rd (fun z => (unhide WP).none3 (by omega)))
                have HQ : Hid (∀ (wy : World) (r : Bool) (t' : Tk.Tkr) (a' : Option Addr) (c' : Nat), ((r = true → Tk.setT t j V.data.toList = some t') ∧ (r = false → Tk.setT t j V.data.toList = none) ∧ Rdt wc wy b t' a' c' ∧ t'.bo.length ≤ t.bo.length + 2000 ∧ (j ≠ 3 → a' = a ∧ c' = c ∧ t'.bo = t.bo)) → (r = true → Tk.rdT (Tk.seven.drop (j + 1)) us t' = ans ∧ Wp wc wy b (j + 1) t' a' c') ∧ (r = false → ans = none)) := hide (fun wy r t' a' c' ⟨h1, h2, h3, h4, h5⟩ => by
                  have hf : t'.bo.length ≤ 2000 := by
                    by_cases e3 : j = 3
                    · have := ((unhide WP).none3 (by omega)).2.2
                      rw [this] at h4
                      simpa using h4
                    · rw [(h5 e3).2.2]; exact (unhide WP).few
                  refine ⟨fun hr => ⟨?_, h3, hf, fun h => ?_⟩, fun hr => ?_⟩
                  · rw [← hA, rdT_hit hj _ _ _ hp (by rw [← hV]; exact h1 hr)]
                  · obtain ⟨q1, q2, q3⟩ := h5 (by omega)
                    obtain ⟨p1, p2, p3⟩ := (unhide WP).none3 (by omega)
                    exact ⟨q1.trans p1, q2.trans p2, q3.trans p3⟩
                  · rw [← hA, rdT_bad hj _ _ _ hp (by rw [← hV]; exact h2 hr)])
                clear HF HT hp hV hA HNi WP
                by_cases hj6 : j + 1 < 7
                all_goals
                  first
                  | (have g7 : decide ((j : Int) + 1 < 7) = true := decide_eq_true (by omega))
                  | (have g7 : decide ((j : Int) + 1 < 7) = false := decide_eq_false (by omega))
                  go_wp2_with fail
                  refine (unhide PO).mono ?_
                  rintro e wy ⟨⟨r, t', a', c', rfl, hq⟩, ch⟩
                  obtain ⟨q1, q2⟩ := unhide HQ wy r t' a' c' hq
                  have RY := hide ((unhide RK).chg ch)
                  clear PO HQ hq ch RK
                  cases r with
                  | false =>
                    have HE := hide (unhide HRn (q2 rfl))
                    obtain ⟨⟨_, y0, y1, y2, y3, y4, y5, y6, y7, y8, y9⟩, fz⟩ := (unhide RY).zb
                    clear q1 q2
                    go_wp2_with fail
                    refine bodyPost_ret (results_tk2 rfl rfl ((unhide RY).zb.1.puts Tk.zeroT none 0)) rfl ?_
                    exact ParseQ.bad (unhide HE) (puts_below hrw [_, _, _, _, _, _, _, _, _, _] _ 0 (unhide RY).bl) rfl
                  | true =>
                    have HA3 : Hid (Tk.rdT (Tk.seven.drop (j + 1)) ((ws.drop (k + 1)).map (·.data.toList)) t' = ans) := hide (by rw [unhide HUS]; exact (q1 rfl).1)
                    have HW3 := hide (q1 rfl).2
                    clear q1 q2
                    go_wp2_with fail
                    refine ⟨⟨j + 1, k + 1, t', a', c', by go_num, by go_num, by omega, by omega, by omega, HA3, HW3, RY⟩, ?_⟩
                    simp [intOf]; omega
              | false =>
                have HA3 := hide (unhide HF rfl)
                clear HF HT
                by_cases hi : i < 7
                · have g7 : decide ((i : Int) < 7) = true := decide_eq_true (by omega)
                  have e1 := unhide HK (unhide RK)
                  obtain ⟨_, _, e0, _, e2⟩ := (unhide RK).hds i hi
                  cases e0
                  rw [Nat.zero_add, tk_heads hi] at e2
                  have hgx := (unhide RK).gl
                  have hhx := (unhide RK).hl
                  have PF := hide (fun W => rfront_any U (Pn.bs (Tk.hd i)) W (by rw [Pn.bs_size]; have := (Tk.hd_bytes i).1; omega))
                  have WD := hide ((unhide WP).next (Below.refl _ _).drew)
                  have RD := hide ((unhide RK).next (Below.refl _ _).drew)
                  by_cases hp : (Tk.hd i).isPrefixOf U.data.toList = true
                  · have hF : frontV U (Pn.bs (Tk.hd i)) = .tuple #[.string (Pn.bs (U.data.toList.drop (Tk.hd i).length)), .bool true] := by
                      unfold frontV
                      rw [Pn.list_bs, if_pos hp, Pn.bs_size]
                    rw [hF] at PF
                    have HH : Hid (Hit (i + 1) n U.data.toList us (Pn.bs (U.data.toList.drop (Tk.hd i).length)) t ans) := hide ⟨i, rfl, hi, unhide HNi, hp, Pn.list_bs _, unhide HA3⟩
                    have hz : (Pn.bs (U.data.toList.drop (Tk.hd i).length)).size ≤ 1024 := by
                      rw [Pn.bs_size, List.length_drop]
                      have : U.data.toList.length = U.size := by simp
                      omega
                    obtain ⟨HDi, hHDi⟩ : ∃ x, Pn.bs (Tk.hd i) = x := ⟨_, rfl⟩
                    obtain ⟨V2, hV2⟩ : ∃ x, Pn.bs (U.data.toList.drop (Tk.hd i).length) = x := ⟨_, rfl⟩
                    rw [hHDi] at PF e2
                    rw [hV2] at PF HH hz
                    have k1 : Wk2 g k hb i U HDi wr.drew := ⟨by simpa using e1, by simpa using e2⟩
                    clear hHDi hV2 hF hp e1 e2 HA3 WP RK
                    go_wp2_with fail
                    go_region_held_law (Wk2 g k hb i U HDi) (first | assumption | go_keep)
                      (first | (go_at_call 27; refine (unhide PF _).mono ?_; rintro e w5 ⟨rfl, rfl⟩))
                    all_goals
                      clear k1 PF
                      go_wp2_with fail
                      refine ⟨⟨i + 1, V2, true, by go_num, rfl, rfl, by omega, hz, hide (by have := unhide HNi; omega), hide (fun h => by simp at h), hide (fun _ => unhide HH), WD, RD⟩, ?_⟩
                      simp [intOf]; omega
                  · have hF : frontV U (Pn.bs (Tk.hd i)) = .tuple #[.string ⟨#[]⟩, .bool false] := by
                      unfold frontV
                      rw [Pn.list_bs, if_neg hp]
                    rw [hF] at PF
                    have HA4 : Hid (Tk.rdT (Tk.seven.drop (i + 1)) (U.data.toList :: us) t = ans) := hide (by rw [← unhide HA3, rdT_skip hi _ _ _ hp])
                    obtain ⟨HDi, hHDi⟩ : ∃ x, Pn.bs (Tk.hd i) = x := ⟨_, rfl⟩
                    rw [hHDi] at PF e2
                    have k1 : Wk2 g k hb i U HDi wr.drew := ⟨by simpa using e1, by simpa using e2⟩
                    clear hHDi hF hp e1 e2 HA3 WP RK
                    go_wp2_with fail
                    go_region_held_law (Wk2 g k hb i U HDi) (first | assumption | go_keep)
                      (first | (go_at_call 27; refine (unhide PF _).mono ?_; rintro e w5 ⟨rfl, rfl⟩))
                    all_goals
                      clear k1 PF
                      go_wp2_with fail
                      refine ⟨⟨i + 1, ⟨#[]⟩, false, by go_num, rfl, rfl, by omega, by decide, hide (by have := unhide HNi; omega), hide (fun _ => unhide HA4), hide (fun h => by simp at h), WD, RD⟩, ?_⟩
                      simp [intOf]; omega
                · obtain rfl : i = 7 := by omega
                  have HE := hide (unhide HRn ((unhide HA3).symm.trans rfl))
                  obtain ⟨⟨_, y0, y1, y2, y3, y4, y5, y6, y7, y8, y9⟩, fz⟩ := (unhide RK).zb
                  clear HA3 WP HNi
                  go_wp2_with fail
                  refine bodyPost_ret (results_tk2 rfl rfl ((unhide RK).zb.1.puts Tk.zeroT none 0)) rfl ?_
                  exact ParseQ.bad (unhide HE) (puts_below hrw [_, _, _, _, _, _, _, _, _, _] _ 0 (unhide RK).bl) rfl
          · obtain rfl : k = ws.length := by omega
            have hsome : ans = some t := by
              rw [← unhide HA, List.drop_length]
              exact rdT_nil t
            have HE := hide (unhide HRs t hsome)
            obtain ⟨z1, z2⟩ := unhide HN t hsome
            have few := (unhide WP).few
            have hza : ∀ z, a = some z → b + 1 ≤ z.block := fun z hz => by
              subst hz
              exact (World.ownsRow.lt (unhide WP).rd.nums z.block rfl).1
            have sl : Dk.SlI wr a t.bo := by
              obtain ⟨_, _, es, sl⟩ := (unhide WP).rd.nums.sl
              obtain ⟨rfl, _, _⟩ := Value.slice.inj es
              exact sl
            have hc9 : t.bo.length ≤ c := by
              obtain ⟨_, _, es, hc, _⟩ := (unhide WP).rd.nums.shape
              obtain ⟨_, _, rfl⟩ := Value.slice.inj es
              exact hc
            have PC := hide (rtaker_any t a c wr ⟨by omega, by omega, by omega⟩ sl)
            obtain ⟨E, hE⟩ : ∃ E, Tk.takE t = E := ⟨_, rfl⟩
            rw [hE] at PC HE
            have HNr : Hid (∀ z, a = some z → z.block ≠ rb) := hide (fun z hz e => by
              have := hza z hz
              omega)
            have H2 : Hid (Zb wr rb ∧ Below w.heap.size w wr ∧ TB wr b t a c ∧ Dk.SlI wr a t.bo) := hide ⟨(unhide RK).zb, (unhide RK).bl, (unhide WP).rd.tb, sl⟩
            obtain ⟨_, z0, z1, z2, z3, z4, z5, z6, z7, z8, z9⟩ := (unhide WP).rd.tb
            clear hE HA WP RK hza sl hsome few HRn HRs HN
            go_wp2_with fail
            refine (unhide PC).mono ?_
            rintro e w5 ⟨rfl, b5⟩
            have H5 : Hid (Zb w5 rb ∧ Below w.heap.size w w5 ∧ TB w5 b t a c ∧ Dk.SlI w5 a t.bo) := hide ⟨(unhide H2).1.next b5, bstep (unhide H2).2.1 b5, (unhide H2).2.2.1.next b5, nums_on (unhide H2).2.2.2 b5⟩
            obtain ⟨⟨_, y0, y1, y2, y3, y4, y5, y6, y7, y8, y9⟩, fz⟩ := (unhide H5).1
            clear PC b5 H2 z0 z1 z2 z3 z4 z5 z6 z7 z8 z9
            by_cases hE0 : E = 0
            · subst hE0
              rw [if_pos rfl] at HE
              obtain ⟨_, z0, z1, z2, z3, z4, z5, z6, z7, z8, z9⟩ := (unhide H5).2.2.1
              go_wp2_with fail
              refine bodyPost_ret (results_tk2 rfl rfl ((unhide H5).1.1.puts t a c)) rfl ?_
              exact ParseQ.good (unhide HE) (puts_below hrw [_, _, _, _, _, _, _, _, _, _] _ 0 (unhide H5).2.1) (nums_puts (unhide HNr) [_, _, _, _, _, _, _, _, _, _] _ 0 (unhide H5).2.2.2) hc9 rfl
            · have gE : (E != 0) = true := by simpa using hE0
              rw [if_neg hE0] at HE
              go_wp2_with fail
              refine bodyPost_ret (results_tk2 rfl rfl ((unhide H5).1.1.puts Tk.zeroT none 0)) rfl ?_
              exact ParseQ.bad (unhide HE) (puts_below hrw [_, _, _, _, _, _, _, _, _, _] _ 0 (unhide H5).2.1) rfl
end Go.Proofs.YtcbfmjjodfnacaaDoor

namespace Go.Proofs.YtcbfmjjodfnacaaDoor
open Go.RowKit

theorem few_read (s : ByteArray) : (Tk.readT s).1.bo.length ≤ 200000 := by
  by_cases h : (Tk.readT s).2 = 0
  · have hx : Tk.readT s = ((Tk.readT s).1, 0) := by rw [← h]
    have := (Tk.tak_ok (Tk.print_read hx).1).2.2.1
    omega
  · rw [Tk.read_bad h]
    simp [Tk.zeroT]
set_option maxRecDepth 100000 in
set_option maxHeartbeats 4000000 in
theorem taker_reads (s : ByteArray) (w : World) (hs : s.size ≤ 140737488355328) (hG : TG w) :
    Calls Tryd.prog 4 #[.string s] w fun e w' => e = .returned (.bool true) ∧ Below w.heap.size w w' := by
  have P1 := hide (tparse_any s w hs hG.1)
  have P2 := hide (fun W => rreadq_any s W hs)
  have hf := few_read s
  unfold ParseQ at P1 P2
  obtain ⟨q, hq⟩ : ∃ q, (Tk.readT s).1 = q := ⟨_, rfl⟩
  obtain ⟨E, hE⟩ : ∃ E, (Tk.readT s).2 = E := ⟨_, rfl⟩
  rw [hq, hE] at P1 P2
  rw [hq] at hf
  clear hq hE hG
  go_enter Tryd.func4, Tryd.ntmps4
  go_wp2_with fail
  refine (unhide P1).mono ?_
  rintro e w1 ⟨a1, c1, rfl, s1, b1, _⟩
  have k1 : Below w1.heap.size w1 (w1.alloc (tkO q a1 c1)) := (Below.refl _ _).alloc (Nat.le_refl _) _
  have Q1 : Hid (TB (w1.alloc (tkO q a1 c1)) w1.heap.size q a1 c1 ∧ Dk.SlI (w1.alloc (tkO q a1 c1)) a1 q.bo ∧ Below w.heap.size w (w1.alloc (tkO q a1 c1))) := hide ⟨TB.new w1 q a1 c1, nums_on s1 k1, bstep b1 k1⟩
  obtain ⟨x1, hx1⟩ : ∃ b, b = w1.heap.size := ⟨_, rfl⟩
  obtain ⟨W1, hW1⟩ : ∃ W, W = w1.alloc (tkO q a1 c1) := ⟨_, rfl⟩
  have P3 := hide (unhide P2 W1)
  rw [← hW1, ← hx1] at Q1
  clear P1 P2 s1 b1 k1
  go_wp2_with fail
  rw [← hW1, ← hx1]
  clear hW1 hx1
  refine (unhide P3).mono ?_
  rintro e w2 ⟨a2, c2, rfl, s2, b2, _⟩
  have k2 : Below w2.heap.size w2 (w2.alloc (tkO q a2 c2)) := (Below.refl _ _).alloc (Nat.le_refl _) _
  have bx : Below W1.heap.size W1 (w2.alloc (tkO q a2 c2)) := bstep b2 k2
  have P4 := hide (same_taker q a1 a2 c1 c2 _ (nums_on (unhide Q1).2.1 bx) (nums_on s2 k2) hf)
  have T1 := (unhide Q1).1.next bx
  have T2 := TB.new w2 q a2 c2
  have B2 := hide (bstep (unhide Q1).2.2 bx)
  obtain ⟨_, y0, y1, y2, y3, y4, y5, y6, y7, y8, y9⟩ := T1
  obtain ⟨_, z0, z1, z2, z3, z4, z5, z6, z7, z8, z9⟩ := T2
  clear P3 s2 b2 k2 bx Q1
  go_wp2_with fail
  refine (unhide P4).mono ?_
  rintro e w5 ⟨rfl, b5⟩
  have B5 := hide (bstep (unhide B2) b5)
  clear P4 b5 B2 y0 y1 y2 y3 y4 y5 y6 y7 y8 y9 z0 z1 z2 z3 z4 z5 z6 z7 z8 z9
  go_wp2_with fail
  go_ret
  exact ⟨rfl, unhide B5⟩
end Go.Proofs.YtcbfmjjodfnacaaDoor
