/-
  Contract of the landed taker.readBackoff.
  Contract of the landed taker.readValue.
-/
import Derived.Test.YtcbfmjjodfnacaaDoorWalkQk
import Derived.Test.YtcbfmjjodfnacaaDoorWalkY0
import Derived.Test.YtcbfmjjodfnacaaDoorJointRowPtRowPu
import Derived.Test.YtcbfmjjodfnacaaDoorPapPs
namespace Go.Proofs.YtcbfmjjodfnacaaDoor
open Go.RowKit

theorem set3 (t : Tk.Tkr) (v : List UInt8) : Tk.setT t 3 v = (Tk.rdB (Pn.cut 44 v)).map (fun l => { t with bo := t.bo ++ l }) := rfl
/-- the numbers of the first k pieces -/
def numsK (ws : List ByteArray) (k : Nat) : List Int := (ws.take k).map (fun u => Pn.digV u.data.toList)
theorem numsK_len {ws : List ByteArray} {k : Nat} (h : k ≤ ws.length) : (numsK ws k).length = k := by unfold numsK; rw [List.length_map, List.length_take]; omega
theorem numsK_succ {ws : List ByteArray} {k : Nat} (h : k < ws.length) : numsK ws (k + 1) = numsK ws k ++ [Pn.digV (tk ws k).data.toList] := by
  unfold numsK
  rw [List.take_succ_eq_append_getElem h, List.map_append, Pn.tk_at h]
  rfl
theorem rdB_all : ∀ (ws : List ByteArray), (∀ k, k < ws.length → Pn.numB (tk ws k).data.toList = true) → Tk.rdB (ws.map (·.data.toList)) = some (ws.map (fun u => Pn.digV u.data.toList))
  | [], _ => rfl
  | u :: us, h => by
    have h0 : Pn.numB u.data.toList = true := h 0 (by simp)
    rw [List.map_cons, Tk.rdB, if_neg (by have := (Pn.numB_yes h0).1; omega), rdB_all us (fun k hk => h (k + 1) (by simpa using hk))]
    rfl
theorem rdB_none : ∀ (ws : List ByteArray) (k : Nat), k < ws.length → Pn.numB (tk ws k).data.toList = false → Tk.rdB (ws.map (·.data.toList)) = none
  | [], _, h, _ => by simp at h
  | u :: us, k, h, hb => by
    rw [List.map_cons, Tk.rdB]
    by_cases h0 : Pn.digV u.data.toList < 1
    · rw [if_pos h0]
    · rw [if_neg h0]
      cases k with
      | zero => exact absurd (Pn.numB_no hb) h0
      | succ k => rw [rdB_none us k (by simpa using h) hb]; rfl
/-- the numbers that were read so far -/
structure Bk (w0 w1 wr : World) (b g : Nat) (t : Tk.Tkr) (ws : List ByteArray) (k : Nat) (a : Option Addr) (c : Nat) : Prop where
  rd : Rdt w0 wr b { t with bo := numsK ws k } a c
  nums : Dk.Nums wr w1.heap.size (.slice a (numsK ws k).length c) (numsK ws k)
  row : SlS wr (some ⟨g, 0, none⟩) ws
  ok : ∀ j, j < k → Pn.numB (tk ws j).data.toList = true
  gl : g < w1.heap.size
  gb : g ≠ b
  bl : b < w1.heap.size
  le : w1.heap.size ≤ wr.heap.size
theorem Bk.next {w0 w1 wr w2 : World} {b g : Nat} {t : Tk.Tkr} {ws : List ByteArray} {k : Nat} {a : Option Addr} {c : Nat} (h : Bk w0 w1 wr b g t ws k a c) (hb : Below wr.heap.size wr w2) : Bk w0 w1 w2 b g t ws k a c :=
  ⟨h.rd.next hb, h.nums.below hb, h.row.next hb, h.ok, h.gl, h.gb, h.bl, Nat.le_trans h.le hb.size⟩
theorem Bk.more {w0 w1 w : World} {b g : Nat} {t : Tk.Tkr} {ws : List ByteArray} {k : Nat} {a : Option Addr} {c : Nat} (h : Bk w0 w1 w b g t ws k a c) (hk : k < ws.length) (hl : ws.length ≤ 100000) (hok : Pn.numB (tk ws k).data.toList = true) :
    ∃ a' c' w', (Builtin.append_ #[22, 22] 22 #[.slice a k c, .slice (some ⟨w.heap.size, 0, none⟩) 1 1]).run Tryd.prog (w.alloc (.cells #[.int .i64 (Pn.digV (tk ws k).data.toList)] 3)) = .ok (.slice a' (k + 1) c') w' ∧ w'.frozen? ⟨b, 6, none⟩ = false ∧ w'.cell? ⟨b, 6, none⟩ = some (.slice a k c) ∧ b < w'.heap.size ∧ Bk w0 w1 (w'.setCell ⟨b, 6, none⟩ (.slice a' (k + 1) c')) b g t ws (k + 1) a' c' := by
  have hlen := numsK_len (Nat.le_of_lt hk)
  obtain ⟨a', c', w', h1, h2, h3, h4, h5, h6, h7⟩ := h.rd.more h.nums h.bl h.le (by show (numsK ws k).length ≤ _; omega) (Pn.digV (tk ws k).data.toList)
  have e : ({ t with bo := numsK ws k } : Tk.Tkr).bo.length = k := hlen
  have e2 : ({ ({ t with bo := numsK ws k } : Tk.Tkr) with bo := ({ t with bo := numsK ws k } : Tk.Tkr).bo ++ [Pn.digV (tk ws k).data.toList] } : Tk.Tkr) = { t with bo := numsK ws (k + 1) } := by rw [numsK_succ hk]
  have e3 : ({ t with bo := numsK ws k } : Tk.Tkr).bo ++ [Pn.digV (tk ws k).data.toList] = numsK ws (k + 1) := (numsK_succ hk).symm
  rw [e] at h1 h3 h5 h6 h7
  rw [e2] at h5
  rw [e3] at h6
  refine ⟨a', c', w', h1, h2, h3, h4, h5, h6, ?_, fun j hj => ?_, h.gl, h.gb, h.bl, Nat.le_trans h.le h7.size⟩
  · intro j hj
    obtain ⟨b', o, e0, e1, e2⟩ := h.row j hj
    cases e0
    exact ⟨g, 0, rfl, Nat.lt_of_lt_of_le e1 h7.size, by rw [h7.cell (p := ⟨g, 0 + j, none⟩) e1 (by rintro (z | z); exact h.gb z; have := h.gl; have : w1.heap.size ≤ g := z; omega)]; exact e2⟩
  · by_cases ej : j < k
    · exact h.ok j ej
    · obtain rfl : j = k := by omega
      exact hok
set_option maxRecDepth 100000 in
set_option maxHeartbeats 2000000 in
theorem readBackoff_any (v : ByteArray) (w0 w : World) (b : Nat) (t : Tk.Tkr) (hs : v.size ≤ 1024) (h : Rdt w0 w b t none 0) (h0 : t.bo = []) :
    Calls Tryd.prog 73 #[.string v, .pointer (some ⟨b, 0, none⟩)] w fun e w' => SetIs w0 b t none 0 3 v.data.toList e w' := by
  have hf : (cutT 44 v).length ≤ 1025 := by
    rw [cutT_length]
    have h1 := List.count_le_length (a := (44 : UInt8)) (l := v.data.toList)
    have e : v.data.toList.length = v.size := by simp
    omega
  have PP := hide (split_at 44 v w (by omega) (by omega))
  have HZ : Hid (∀ k, k < (cutT 44 v).length → (tk (cutT 44 v) k).size ≤ 1024) := hide (fun k hk => Nat.le_trans (cut_piece (cutT_data 44 v) hk) hs)
  have HQ : Hid (∀ k, k < (cutT 44 v).length → Pn.numB (tk (cutT 44 v) k).data.toList = false → Tk.setT t 3 v.data.toList = none) := hide (fun k hk hb => by rw [set3, ← cutT_data, rdB_none _ k hk hb]; rfl)
  have HQ2 : Hid ((∀ k, k < (cutT 44 v).length → Pn.numB (tk (cutT 44 v) k).data.toList = true) → Tk.setT t 3 v.data.toList = some { t with bo := numsK (cutT 44 v) (cutT 44 v).length }) := hide (fun hk => by
    rw [set3, ← cutT_data, rdB_all _ hk]
    unfold numsK
    rw [List.take_length, Option.map_some, h0, List.nil_append])
  obtain ⟨ws, hws⟩ : ∃ ws, cutT 44 v = ws := ⟨_, rfl⟩
  rw [hws] at PP HZ HQ HQ2 hf
  have H := hide h
  have hbl := h.tb.lt
  clear hws h hs
  go_enter Tryd.func73, Tryd.ntmps73
  go_wp2_with fail
  refine (unhide PP).mono ?_
  rintro e w1 ⟨g, rfl, o1, b1⟩
  have hg := own_base o1
  have K0 : Hid (Bk w0 w1 w1 b g t ws 0 none 0) := hide ⟨by
    have e : ({ t with bo := numsK ws 0 } : Tk.Tkr) = t := by unfold numsK; rw [List.take_zero, List.map_nil, ← h0]
    rw [e]
    exact (unhide H).next b1, ⟨by simp [numsK], .inl ⟨by simp [numsK], by simp [numsK]⟩⟩, own_txts o1, fun j hj => by omega, hg.2, by omega, Nat.lt_of_lt_of_le hbl b1.size, Nat.le_refl _⟩
  clear PP o1 b1 hg H h0
  go_wp2_with fail
  go_loopw [12] (fun iv wr => ∃ (k : Nat) (a : Option Addr) (c : Nat), iv = .int .i64 k ∧ k ≤ ws.length ∧ Hid (Bk w0 w1 wr b g t ws k a c)) (fun iv _ => ws.length - (intOf iv).toNat)
  case atStart => exact ⟨0, none, 0, rfl, Nat.zero_le _, K0⟩
  case round =>
    clear K0
    obtain ⟨k, a, c, rfl, hk, K⟩ := hrel
    by_cases hlt : k < ws.length
    · have e1 : wr.cell? ⟨g, k, none⟩ = some (.string (tk ws k)) := by
        obtain ⟨_, _, e0, _, e1⟩ := (unhide K).row k hlt
        cases e0
        rw [Nat.zero_add] at e1
        exact e1
      have hz := unhide HZ k hlt
      cases hn : Pn.numB (tk ws k).data.toList with
      | false =>
        have PN := hide (readNum_no (tk ws k) wr (by omega) hn)
        have HE : Hid (SetIs w0 b t none 0 3 v.data.toList (.returned (.bool false)) wr) := hide ⟨false, _, a, c, rfl, fun z => by simp at z, fun _ => unhide HQ k hlt hn, (unhide K).rd, by show (numsK ws k).length ≤ _; rw [numsK_len hk]; omega, fun z => absurd rfl z⟩
        obtain ⟨x, hx⟩ : ∃ x, tk ws k = x := ⟨_, rfl⟩
        rw [hx] at e1 PN hz
        clear hx hn K HQ HQ2 HZ
        go_wp2_with fail
        refine (unhide PN).mono ?_
        rintro e w2 ⟨rfl, hw⟩
        rw [hw]
        clear PN hw
        go_wp2_with fail
        go_ret
        exact unhide HE
      | true =>
        have PN := hide (readNum_yes (tk ws k) wr hn)
        have HM := hide (fun (w2 : World) (b2 : Below wr.heap.size wr w2) => And.intro ((unhide K).next b2).rd.tb.c6 (((unhide K).next b2).more hlt (by omega) hn))
        have hkl : ({ t with bo := numsK ws k } : Tk.Tkr).bo.length = k := numsK_len hk
        rw [hkl] at HM
        obtain ⟨x, hx⟩ : ∃ x, tk ws k = x := ⟨_, rfl⟩
        obtain ⟨D, hD⟩ : ∃ D, Pn.digV (tk ws k).data.toList = D := ⟨_, rfl⟩
        rw [hD] at HM PN
        rw [hx] at e1 PN hz
        have hbl2 : b < wr.heap.size := (unhide K).rd.tb.lt
        clear hx hD hn K HQ HQ2 hkl
        go_wp2_with fail
        refine (unhide PN).mono ?_
        rintro e w2 ⟨rfl, b2⟩
        obtain ⟨c6, a', c', w3, hrun, f3, c3, l3, K3⟩ := unhide HM w2 b2
        have hbl3 := Nat.lt_of_lt_of_le hbl2 b2.size
        have HRun := hide hrun
        have HK := hide K3
        clear PN HM b2 hrun K3 e1 hz
        go_wp2_with (at_builtin; refine Lib.wpList_append_run _ rfl _ _ _ _ rfl _ _ rfl rfl _ _ (unhide HRun) ?_)
        refine ⟨⟨k + 1, a', c', by go_num, by omega, HK⟩, ?_⟩
        simp [intOf]; omega
    · obtain rfl : k = ws.length := by omega
      have HE : Hid (SetIs w0 b t none 0 3 v.data.toList (.returned (.bool true)) wr) := hide ⟨true, _, a, c, rfl, fun _ => unhide HQ2 (unhide K).ok, fun z => by simp at z, (unhide K).rd, by show (numsK ws _).length ≤ _; rw [numsK_len hk]; omega, fun z => absurd rfl z⟩
      clear K HQ HQ2 HZ
      go_wp2_with fail
      go_ret
      exact unhide HE
end Go.Proofs.YtcbfmjjodfnacaaDoor

namespace Go.Proofs.YtcbfmjjodfnacaaDoor
open Go.RowKit

section
variable {w0 w : World} {b : Nat} {t : Tk.Tkr} {a : Option Addr} {c : Nat} {v : ByteArray}
theorem set6 (t : Tk.Tkr) (v : List UInt8) : Tk.setT t 6 v = if v = [] then some { t with pu := true } else none := rfl
set_option maxRecDepth 100000 in
set_option maxHeartbeats 1000000 in
theorem readVal0 (hs : v.size ≤ 1024) (h : Rdt w0 w b t a c) :
    Calls Tryd.prog 58 #[.string ⟨#[102, 114, 111, 109, 61]⟩, .string v, .pointer (some ⟨b, 0, none⟩)] w fun e w' => SetIs w0 b t a c 0 v.data.toList e w' := by
  have P1 := hide (readFrom_any v w0 w b t a c hs h)
  clear h hs
  go_enter Tryd.func58, Tryd.ntmps58
  go_wp2_with fail
  refine (unhide P1).mono ?_
  rintro e w1 ⟨r, t', a', c', rfl, hq⟩
  have HV : Hid (SetIs w0 b t a c 0 v.data.toList (.returned (.bool r)) w1) := hide ⟨r, t', a', c', rfl, hq⟩
  clear P1 hq
  go_wp2_with fail
  go_ret
  exact unhide HV
set_option maxRecDepth 100000 in
set_option maxHeartbeats 1000000 in
theorem readVal1 (h : Rdt w0 w b t a c) :
    Calls Tryd.prog 58 #[.string ⟨#[97, 99, 107, 61]⟩, .string v, .pointer (some ⟨b, 0, none⟩)] w fun e w' => SetIs w0 b t a c 1 v.data.toList e w' := by
  have P1 := hide (readAck_any v w0 w b t a c h)
  clear h
  go_enter Tryd.func58, Tryd.ntmps58
  go_wp2_with fail
  refine (unhide P1).mono ?_
  rintro e w1 ⟨r, t', a', c', rfl, hq⟩
  have HV : Hid (SetIs w0 b t a c 1 v.data.toList (.returned (.bool r)) w1) := hide ⟨r, t', a', c', rfl, hq⟩
  clear P1 hq
  go_wp2_with fail
  go_ret
  exact unhide HV
set_option maxRecDepth 100000 in
set_option maxHeartbeats 1000000 in
theorem readVal2 (hs : v.size ≤ 1024) (h : Rdt w0 w b t a c) :
    Calls Tryd.prog 58 #[.string ⟨#[119, 97, 105, 116, 61]⟩, .string v, .pointer (some ⟨b, 0, none⟩)] w fun e w' => SetIs w0 b t a c 2 v.data.toList e w' := by
  have P1 := hide (readNum_at v b 5 t.wait w (by omega) h.tb.lt h.tb.c5 (h.fr 5))
  have HE : Hid (∀ w2, Below w.heap.size w w2 → SetIs w0 b t a c 2 v.data.toList (.returned (.bool (Pn.numB v.data.toList))) (w2.setCell ⟨b, 5, none⟩ (.int .i64 (numOr v)))) := hide (fun w2 b2 => set_num (a := a) (c := c) (fun x => { t with wait := x }) _ (fun _ => rfl) rfl ((h.next b2).wait' (numOr v)))
  clear h hs
  go_enter Tryd.func58, Tryd.ntmps58
  go_wp2_with fail
  refine (unhide P1).mono ?_
  rintro e w3 ⟨w2, rfl, b2, rfl⟩
  have HE2 := hide (unhide HE w2 b2)
  clear b2 P1 HE
  go_wp2_with fail
  go_ret
  exact unhide HE2
set_option maxRecDepth 100000 in
set_option maxHeartbeats 1000000 in
theorem readVal3 (hs : v.size ≤ 1024) (h : Rdt w0 w b t none 0) (h0 : t.bo = []) :
    Calls Tryd.prog 58 #[.string ⟨#[98, 97, 99, 107, 111, 102, 102, 61]⟩, .string v, .pointer (some ⟨b, 0, none⟩)] w fun e w' => SetIs w0 b t none 0 3 v.data.toList e w' := by
  have P1 := hide (readBackoff_any v w0 w b t hs h h0)
  clear h hs h0
  go_enter Tryd.func58, Tryd.ntmps58
  go_wp2_with fail
  refine (unhide P1).mono ?_
  rintro e w1 ⟨r, t', a', c', rfl, hq⟩
  have HV : Hid (SetIs w0 b t none 0 3 v.data.toList (.returned (.bool r)) w1) := hide ⟨r, t', a', c', rfl, hq⟩
  clear P1 hq
  go_wp2_with fail
  go_ret
  exact unhide HV
set_option maxRecDepth 100000 in
set_option maxHeartbeats 1000000 in
theorem readVal4 (hs : v.size ≤ 1024) (h : Rdt w0 w b t a c) :
    Calls Tryd.prog 58 #[.string ⟨#[109, 111, 115, 116, 61]⟩, .string v, .pointer (some ⟨b, 0, none⟩)] w fun e w' => SetIs w0 b t a c 4 v.data.toList e w' := by
  have P1 := hide (readNum_at v b 7 t.mo w (by omega) h.tb.lt h.tb.c7 (h.fr 7))
  have HE : Hid (∀ w2, Below w.heap.size w w2 → SetIs w0 b t a c 4 v.data.toList (.returned (.bool (Pn.numB v.data.toList))) (w2.setCell ⟨b, 7, none⟩ (.int .i64 (numOr v)))) := hide (fun w2 b2 => set_num (a := a) (c := c) (fun x => { t with mo := x }) _ (fun _ => rfl) rfl ((h.next b2).mo' (numOr v)))
  clear h hs
  go_enter Tryd.func58, Tryd.ntmps58
  go_wp2_with fail
  refine (unhide P1).mono ?_
  rintro e w3 ⟨w2, rfl, b2, rfl⟩
  have HE2 := hide (unhide HE w2 b2)
  clear b2 P1 HE
  go_wp2_with fail
  go_ret
  exact unhide HE2
set_option maxRecDepth 100000 in
set_option maxHeartbeats 1000000 in
theorem readVal5 (hs : v.size ≤ 1024) (h : Rdt w0 w b t a c) :
    Calls Tryd.prog 58 #[.string ⟨#[112, 101, 110, 100, 105, 110, 103, 61]⟩, .string v, .pointer (some ⟨b, 0, none⟩)] w fun e w' => SetIs w0 b t a c 5 v.data.toList e w' := by
  have P1 := hide (readNum_at v b 8 t.pe w (by omega) h.tb.lt h.tb.c8 (h.fr 8))
  have HE : Hid (∀ w2, Below w.heap.size w w2 → SetIs w0 b t a c 5 v.data.toList (.returned (.bool (Pn.numB v.data.toList))) (w2.setCell ⟨b, 8, none⟩ (.int .i64 (numOr v)))) := hide (fun w2 b2 => set_num (a := a) (c := c) (fun x => { t with pe := x }) _ (fun _ => rfl) rfl ((h.next b2).pe' (numOr v)))
  clear h hs
  go_enter Tryd.func58, Tryd.ntmps58
  go_wp2_with fail
  refine (unhide P1).mono ?_
  rintro e w3 ⟨w2, rfl, b2, rfl⟩
  have HE2 := hide (unhide HE w2 b2)
  clear b2 P1 HE
  go_wp2_with fail
  go_ret
  exact unhide HE2
set_option maxRecDepth 100000 in
set_option maxHeartbeats 1000000 in
theorem readVal6 (h : Rdt w0 w b t a c) :
    Calls Tryd.prog 58 #[.string ⟨#[112, 117, 115, 104]⟩, .string v, .pointer (some ⟨b, 0, none⟩)] w fun e w' => SetIs w0 b t a c 6 v.data.toList e w' := by
  have c9 := h.tb.c9
  have f9 := h.fr 9
  by_cases h0 : v.data.toList = []
  · have HE : Hid (SetIs w0 b t a c 6 v.data.toList (.returned (.bool true)) (w.setCell ⟨b, 9, none⟩ (.bool true))) := hide ⟨true, _, a, c, rfl, fun _ => by rw [set6, if_pos h0], fun z => by simp at z, h.pu' true, by show t.bo.length ≤ _; omega, fun _ => ⟨rfl, rfl, rfl⟩⟩
    have e1 : v.toList.isEmpty = true := by rw [lst, h0]; rfl
    clear h0 h
    go_enter Tryd.func58, Tryd.ntmps58
    go_wp2_with fail
    go_ret
    exact unhide HE
  · have HE : Hid (SetIs w0 b t a c 6 v.data.toList (.returned (.bool false)) (w.setCell ⟨b, 9, none⟩ (.bool true))) := hide ⟨false, _, a, c, rfl, fun z => by simp at z, fun _ => by rw [set6, if_neg h0], h.pu' true, by show t.bo.length ≤ _; omega, fun _ => ⟨rfl, rfl, rfl⟩⟩
    have e1 : (v.toList == []) = false := by rw [lst, beq_eq_false_iff_ne]; exact h0
    clear h0 h
    go_enter Tryd.func58, Tryd.ntmps58
    go_wp2_with fail
    go_ret
    exact unhide HE
theorem readVal_any (i : Nat) (hi : i < 7) (hs : v.size ≤ 1024) (h : Rdt w0 w b t a c) (h3 : i = 3 → a = none ∧ c = 0 ∧ t.bo = []) :
    Calls Tryd.prog 58 #[.string (Pn.bs (Tk.hd i)), .string v, .pointer (some ⟨b, 0, none⟩)] w fun e w' => SetIs w0 b t a c i v.data.toList e w' := by
  have : i = 0 ∨ i = 1 ∨ i = 2 ∨ i = 3 ∨ i = 4 ∨ i = 5 ∨ i = 6 := by omega
  rcases this with rfl | rfl | rfl | rfl | rfl | rfl | rfl
  · exact readVal0 hs h
  · exact readVal1 h
  · exact readVal2 hs h
  · obtain ⟨rfl, rfl, h0⟩ := h3 rfl
    exact readVal3 hs h h0
  · exact readVal4 hs h
  · exact readVal5 hs h
  · exact readVal6 h
end
end Go.Proofs.YtcbfmjjodfnacaaDoor
