/-
  Contract of the landed taker.readWords.
-/
import Derived.Test.YtcbfmjjodfnacaaDoorJointWalkQlWalkQm
import Derived.Test.YtcbfmjjodfnacaaDoorWalkQh
import Derived.Test.YtcbfmjjodfnacaaDoorWalkYp
namespace Go.Proofs.YtcbfmjjodfnacaaDoor
open Go.RowKit

theorem seven_drop {i : Nat} (h : i < 7) : Tk.seven.drop i = i :: Tk.seven.drop (i + 1) := by
  have : i = 0 ∨ i = 1 ∨ i = 2 ∨ i = 3 ∨ i = 4 ∨ i = 5 ∨ i = 6 := by omega
  rcases this with rfl | rfl | rfl | rfl | rfl | rfl | rfl <;> rfl
theorem rdT_nil {i : Nat} (t : Tk.Tkr) : Tk.rdT (Tk.seven.drop i) [] t = some t := by
  cases Tk.seven.drop i <;> rfl
theorem rdT_skip {i : Nat} (h : i < 7) (u : List UInt8) (us : List (List UInt8)) (t : Tk.Tkr) (hp : ¬ (Tk.hd i).isPrefixOf u = true) : Tk.rdT (Tk.seven.drop i) (u :: us) t = Tk.rdT (Tk.seven.drop (i + 1)) (u :: us) t := by
  rw [seven_drop h, Tk.rdT, if_neg hp]
theorem rdT_hit {i : Nat} (h : i < 7) (u : List UInt8) (us : List (List UInt8)) (t : Tk.Tkr) (hp : (Tk.hd i).isPrefixOf u = true) {t' : Tk.Tkr} (hs : Tk.setT t i (u.drop (Tk.hd i).length) = some t') : Tk.rdT (Tk.seven.drop i) (u :: us) t = Tk.rdT (Tk.seven.drop (i + 1)) us t' := by
  rw [seven_drop h, Tk.rdT, if_pos hp, hs]
theorem rdT_bad {i : Nat} (h : i < 7) (u : List UInt8) (us : List (List UInt8)) (t : Tk.Tkr) (hp : (Tk.hd i).isPrefixOf u = true) (hs : Tk.setT t i (u.drop (Tk.hd i).length) = none) : Tk.rdT (Tk.seven.drop i) (u :: us) t = none := by
  rw [seven_drop h, Tk.rdT, if_pos hp, hs]
/-- the words that are left, as they lie below the plan's block -/
structure Wq (w0 : World) (b : Nat) (ar : Option Addr) (rest : List ByteArray) : Prop where
  row : SlS w0 ar rest
  low : ∀ z, ar = some z → z.block < b
  sz : ∀ k, k < rest.length → (tk rest k).size ≤ 1024
theorem Wq.rest {w0 : World} {b g o : Nat} {t : ByteArray} {ts : List ByteArray} (h : Wq w0 b (some ⟨g, o, none⟩) (t :: ts)) (cw : Nat) (hc : ts.length + 1 ≤ cw) : Wq w0 b (if cw = 1 then some ⟨g, o, none⟩ else some ⟨g, o + 1, none⟩) ts := by
  have hl := h.low ⟨g, o, none⟩ rfl
  refine ⟨fun k hk => ?_, fun z hz => ?_, fun k hk => h.sz (k + 1) (by simpa using hk)⟩
  · rw [if_neg (by omega)]
    obtain ⟨b', o', e, h2, h3⟩ := h.row (k + 1) (by simpa using hk)
    cases e
    exact ⟨g, o + 1, rfl, h2, by rw [show o + 1 + k = o + (k + 1) by omega]; exact h3⟩
  · split at hz <;> (cases hz; exact hl)
/-- what readWords answers -/
def WordsIs (w0 : World) (b : Nat) (ans : Option Tk.Tkr) (e : Ending) (w' : World) : Prop := ∃ (r : Bool) (t' : Tk.Tkr) (a' : Option Addr) (c' : Nat), e = .returned (.bool r) ∧ (r = true → ans = some t') ∧ (r = false → ans = none) ∧ Rdt w0 w' b t' a' c' ∧ t'.bo.length ≤ 2000
/-- the plan so far -/
structure Wp (w0 wr : World) (b i : Nat) (t : Tk.Tkr) (a : Option Addr) (c : Nat) : Prop where
  rd : Rdt w0 wr b t a c
  few : t.bo.length ≤ 2000
  none3 : i ≤ 3 → a = none ∧ c = 0 ∧ t.bo = []
set_option maxRecDepth 100000 in
set_option maxHeartbeats 4000000 in
theorem readWords_any (aw : Option Addr) (ws : List ByteArray) (cw : Nat) (b : Nat) (t0 : Tk.Tkr) (w0 w : World) (hG : OrdIs w0) (hGb : 0 < b) (hm : Wq w0 b aw ws) (hr : Rdt w0 w b t0 none 0) (h0 : t0.bo = []) (hcw : ws.length ≤ cw) :
    Calls Tryd.prog 47 #[.slice aw ws.length cw, .pointer (some ⟨b, 0, none⟩)] w fun e w' => WordsIs w0 b (Tk.rdT Tk.seven (ws.map (·.data.toList)) t0) e w' := by
  have HO := hide (fun i hi => (hr.low.cell (p := ⟨0, i, none⟩) hGb).trans (hG.2 i hi))
  have o0 := unhide HO 0 (by omega)
  have o1 := unhide HO 1 (by omega)
  have o2 := unhide HO 2 (by omega)
  have o3 := unhide HO 3 (by omega)
  have o4 := unhide HO 4 (by omega)
  have o5 := unhide HO 5 (by omega)
  have o6 := unhide HO 6 (by omega)
  have hbl := hr.tb.lt
  have hgl : 0 < w.heap.size := Nat.lt_trans hGb hbl
  obtain ⟨ans, hans⟩ : ∃ ans, Tk.rdT Tk.seven (ws.map (·.data.toList)) t0 = ans := ⟨_, rfl⟩
  have HA : Hid (Tk.rdT (Tk.seven.drop 0) (ws.map (·.data.toList)) t0 = ans) := hide hans
  have HW : Hid (Wp w0 w b 0 t0 none 0) := hide ⟨hr, by rw [h0]; simp, fun _ => ⟨rfl, rfl, h0⟩⟩
  have HM := hide hm
  rw [hans]
  clear hans hr hm h0 hG HO hGb
  go_enter Tryd.func47, Tryd.ntmps47
  go_wp2_with fail
  clear o0 o1 o2 o3 o4 o5 o6 hgl hbl
  go_loopw [0, 10] (fun sv iv wr => ∃ (i : Nat) (ar : Option Addr) (rest : List ByteArray) (cr : Nat) (t : Tk.Tkr) (a : Option Addr) (c : Nat), sv = .slice ar rest.length cr ∧ iv = .int .i64 i ∧ i ≤ 7 ∧ rest.length ≤ cr ∧ Hid (Tk.rdT (Tk.seven.drop i) (rest.map (·.data.toList)) t = ans) ∧ Hid (Wp w0 wr b i t a c) ∧ Hid (Wq w0 b ar rest)) (fun _ iv _ => 7 - (intOf iv).toNat)
  case atStart => exact ⟨0, aw, ws, cw, t0, none, 0, rfl, rfl, by omega, hcw, HA, HW, HM⟩
  case round =>
    clear HM HW HA hcw
    obtain ⟨i, ar, rest, cr, t, a, c, rfl, rfl, hi, hcr, HA, HW, HM⟩ := hrel
    by_cases hlt : i < 7
    · have hix := run_index_ord i hlt
      cases rest with
      | nil =>
        have HE : Hid (∀ (W : World), W = wr → WordsIs w0 b ans (.returned (.bool true)) W) := hide (fun W hW => by
          subst hW
          exact ⟨true, t, a, c, rfl, fun _ => by rw [← unhide HA]; exact rdT_nil t, fun h => by simp at h, (unhide HW).rd, (unhide HW).few⟩)
        clear HA HW HM
        go_wp2_with fail
        go_ret
        exact unhide HE _ rfl
      | cons u us =>
        obtain ⟨g, o, rfl, _, e1⟩ := (unhide HM).row 0 (by simp)
        have hgb := (unhide HM).low _ rfl
        have e1' : wr.cell? ⟨g, o, none⟩ = some (.string u) := ((unhide HW).rd.low.cell (p := ⟨g, o, none⟩) hgb).trans e1
        have huz : u.size ≤ 1024 := (unhide HM).sz 0 (by simp)
        have hlen : (u :: us).length = us.length + 1 := rfl
        have hwl : b < wr.heap.size := (unhide HW).rd.tb.lt
        have hgw : g < wr.heap.size := Nat.lt_trans hgb hwl
        clear e1
        by_cases hp : (Tk.hd i).isPrefixOf u.data.toList = true
        · have PF := hide (fun W => cutPrefix_hit u (Pn.bs (Tk.hd i)) W (by rw [Pn.list_bs]; exact hp))
          obtain ⟨D, hD⟩ : ∃ D, D = Pn.bs (u.data.toList.drop (Tk.hd i).length) := ⟨_, rfl⟩
          rw [Pn.bs_size, ← hD] at PF
          have hDz : D.size ≤ 1024 := by
            rw [hD, Pn.bs_size, List.length_drop]
            have : u.data.toList.length = u.size := by simp
            omega
          have hDl : D.data.toList = u.data.toList.drop (Tk.hd i).length := by rw [hD, Pn.list_bs]
          have PV := hide (readVal_any (v := D) i hlt hDz (unhide HW).rd (fun z => (unhide HW).none3 (by omega)))
          have HQ : Hid (∀ w' r t' a' c', (r = true → Tk.setT t i D.data.toList = some t') ∧ (r = false → Tk.setT t i D.data.toList = none) ∧ Rdt w0 w' b t' a' c' ∧ t'.bo.length ≤ t.bo.length + 2000 ∧ (i ≠ 3 → a' = a ∧ c' = c ∧ t'.bo = t.bo) → (r = true → Tk.rdT (Tk.seven.drop (i + 1)) (us.map (·.data.toList)) t' = ans ∧ Wp w0 w' b (i + 1) t' a' c') ∧ (r = false → WordsIs w0 b ans (.returned (.bool false)) w')) := hide (fun w' r t' a' c' ⟨h1, h2, h3, h4, h5⟩ => by
            have hf : t'.bo.length ≤ 2000 := by
              by_cases e3 : i = 3
              · have := ((unhide HW).none3 (by omega)).2.2
                rw [this] at h4
                simpa using h4
              · rw [(h5 e3).2.2]; exact (unhide HW).few
            refine ⟨fun hr => ⟨?_, h3, hf, fun h => ?_⟩, fun hr => ⟨false, t', a', c', rfl, fun z => by simp at z, fun _ => ?_, h3, hf⟩⟩
            · rw [← unhide HA, List.map_cons, rdT_hit hlt _ _ _ hp (by rw [← hDl]; exact h1 hr)]
            · obtain ⟨q1, q2, q3⟩ := h5 (by omega)
              obtain ⟨p1, p2, p3⟩ := (unhide HW).none3 (by omega)
              exact ⟨q1.trans p1, q2.trans p2, q3.trans p3⟩
            · rw [← unhide HA, List.map_cons, rdT_bad hlt _ _ _ hp (by rw [← hDl]; exact h2 hr)])
          obtain ⟨HDi, hHDi⟩ : ∃ x, Pn.bs (Tk.hd i) = x := ⟨_, rfl⟩
          rw [hHDi] at hix PV PF
          have HM9 := hide ((unhide HM).rest cr hcr)
          clear hHDi HA HW hp hD hDl HM hDz
          go_wp2_with fail
          refine (unhide PF _).mono ?_
          rintro e w2 ⟨rfl, hw⟩
          rw [hw]
          clear PF hw
          go_wp2_with fail
          refine (unhide PV).mono ?_
          rintro e w3 ⟨r, t', a', c', rfl, hq⟩
          obtain ⟨k1, k2⟩ := unhide HQ w3 r t' a' c' hq
          clear PV hq HQ e1' hix
          cases r with
          | false =>
            have HE := hide (k2 rfl)
            clear k1 k2
            go_wp2_with fail
            go_ret
            exact unhide HE
          | true =>
            have HA3 := hide (k1 rfl).1
            have HW3 := hide (k1 rfl).2
            clear k1 k2
            go_wp2_with fail
            refine ⟨⟨i + 1, _, us, cr - 1, t', a', c', rfl, by go_num, by omega, by omega, HA3, HW3, HM9⟩, ?_⟩
            simp [intOf]; omega
        · have PF := hide (fun W => cutPrefix_miss u (Pn.bs (Tk.hd i)) W (by rw [Pn.list_bs]; exact hp))
          have HA2 : Hid (Tk.rdT (Tk.seven.drop (i + 1)) ((u :: us).map (·.data.toList)) t = ans) := hide (by rw [← unhide HA, List.map_cons, rdT_skip hlt _ _ _ hp])
          have HW2 : Hid (Wp w0 wr b (i + 1) t a c) := hide ⟨(unhide HW).rd, (unhide HW).few, fun h => (unhide HW).none3 (by omega)⟩
          obtain ⟨HDi, hHDi⟩ : ∃ x, Pn.bs (Tk.hd i) = x := ⟨_, rfl⟩
          rw [hHDi] at hix PF
          clear hHDi HA HW hp
          go_wp2_with fail
          refine (unhide PF _).mono ?_
          rintro e w2 ⟨rfl, hw⟩
          rw [hw]
          clear PF hw
          go_wp2_with fail
          refine ⟨⟨i + 1, some ⟨g, o, none⟩, u :: us, cr, t, a, c, rfl, by go_num, by omega, hcr, HA2, HW2, HM⟩, ?_⟩
          simp [intOf]; omega
    · obtain rfl : i = 7 := by omega
      cases rest with
      | nil =>
        have HE : Hid (∀ (W : World), W = wr → WordsIs w0 b ans (.returned (.bool true)) W) := hide (fun W hW => by
          subst hW
          exact ⟨true, t, a, c, rfl, fun _ => by rw [← unhide HA]; exact rdT_nil t, fun h => by simp at h, (unhide HW).rd, (unhide HW).few⟩)
        clear HA HW HM
        go_wp2_with fail
        go_ret
        exact unhide HE _ rfl
      | cons u us =>
        have HE : Hid (∀ (W : World), W = wr → WordsIs w0 b ans (.returned (.bool false)) W) := hide (fun W hW => by
          subst hW
          exact ⟨false, t, a, c, rfl, fun h => by simp at h, fun _ => by rw [← unhide HA]; rfl, (unhide HW).rd, (unhide HW).few⟩)
        have hlen : (u :: us).length = us.length + 1 := rfl
        have g0 : (((us.length : Int) + 1) == 0) = false := by rw [beq_eq_false_iff_ne]; omega
        clear HA HW HM
        go_wp2_with fail
        go_ret
        exact unhide HE _ rfl
end Go.Proofs.YtcbfmjjodfnacaaDoor
