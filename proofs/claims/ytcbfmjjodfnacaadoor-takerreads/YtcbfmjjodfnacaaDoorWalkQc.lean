/-
  The document's Taker (a consumer's plan is checked), Wait.
-/
import Derived.Test.YtcbfmjjodfnacaaDoorRowQa
import Derived.Test.YtcbfmjjodfnacaaDoorPapQa
import Derived.Test.YtcbfmjjodfnacaaDoorJointWalkB1WalkB4
import Derived.Test.YtcbfmjjodfnacaaDoorJointWalk3Walk4
import Derived.Deep.DeepCutAuto
namespace Go.Proofs.YtcbfmjjodfnacaaDoor
open Go.RowKit

theorem inI_inB (n lo hi : Int) : inI n lo hi = Tk.inB n lo hi := rfl
/-- what the document looks at, one behind the other -/
def tfrB (t : Tk.Tkr) : Bool := Tk.inB t.fr 0 3 && Tk.inB t.ack 0 2
def tstB (t : Tk.Tkr) : Bool := if t.fr = 3 then Tk.inB t.st 1 999999999 else decide (t.st = 0)
def takB (t : Tk.Tkr) : Bool := if t.ack = 0 then ((decide (t.wait = 0) && decide (t.mo = 0)) && decide (t.pe = 0)) && decide (t.bo.length = 0) else ((Tk.inB t.wait 1 100000 && Tk.inB t.mo 0 20) && Tk.inB t.pe 0 50) && t.bo.all (fun n => Tk.inB n 1 100000)
theorem ok_all (t : Tk.Tkr) : ((tfrB t && tstB t) && takB t) = (Tk.startB t && Tk.ackB t) := by
  rw [Bool.eq_iff_iff]
  unfold tfrB tstB takB Tk.startB Tk.ackB Tk.waitsB
  constructor
  · intro h
    rw [Bool.and_eq_true, Bool.and_eq_true, Bool.and_eq_true] at h
    obtain ⟨⟨⟨h1, h2⟩, h3⟩, h4⟩ := h
    have k1 := Tk.in_of h1
    have k2 := Tk.in_of h2
    rw [Bool.and_eq_true]
    refine ⟨?_, ?_⟩
    · by_cases e : t.fr = 3
      · rw [if_pos e] at h3 ⊢; exact h3
      · rw [if_neg e] at h3 ⊢
        rw [h3, Bool.and_true]
        unfold Tk.inB
        rw [decide_eq_true k1.1, decide_eq_true (by omega : t.fr ≤ 2)]
        rfl
    · by_cases e : t.ack = 0
      · rw [if_pos e] at h4 ⊢
        simp only [Bool.and_eq_true] at h4 ⊢
        exact ⟨h4.1.1.1, h4.1.1.2, h4.1.2, h4.2⟩
      · rw [if_neg e] at h4 ⊢
        rw [if_pos (by omega)]
        simp only [Bool.and_eq_true] at h4 ⊢
        exact ⟨⟨h4.2, h4.1.1.1⟩, h4.1.1.2, h4.1.2⟩
  · intro h
    rw [Bool.and_eq_true] at h
    obtain ⟨h3, h4⟩ := h
    rw [Bool.and_eq_true, Bool.and_eq_true, Bool.and_eq_true]
    refine ⟨⟨⟨?_, ?_⟩, ?_⟩, ?_⟩
    · by_cases e : t.fr = 3
      · unfold Tk.inB; rw [e]; decide
      · rw [if_neg e, Bool.and_eq_true] at h3
        have := Tk.in_of h3.1
        unfold Tk.inB
        rw [decide_eq_true this.1, decide_eq_true (by omega : t.fr ≤ 3)]
        rfl
    · by_cases e : t.ack = 0
      · unfold Tk.inB; rw [e]; decide
      · rw [if_neg e] at h4
        by_cases e2 : t.ack = 1 ∨ t.ack = 2
        · unfold Tk.inB
          rw [decide_eq_true (by omega : 0 ≤ t.ack), decide_eq_true (by omega : t.ack ≤ 2)]
          rfl
        · rw [if_neg e2] at h4; cases h4
    · by_cases e : t.fr = 3
      · rw [if_pos e] at h3 ⊢; exact h3
      · rw [if_neg e, Bool.and_eq_true] at h3
        rw [if_neg e]; exact h3.2
    · by_cases e : t.ack = 0
      · rw [if_pos e] at h4 ⊢
        simp only [Bool.and_eq_true] at h4 ⊢
        exact ⟨⟨⟨h4.1, h4.2.1⟩, h4.2.2.1⟩, h4.2.2.2⟩
      · rw [if_neg e] at h4 ⊢
        by_cases e2 : t.ack = 1 ∨ t.ack = 2
        · rw [if_pos e2] at h4
          simp only [Bool.and_eq_true] at h4 ⊢
          exact ⟨⟨⟨h4.1.2, h4.2.1⟩, h4.2.2⟩, h4.1.1⟩
        · rw [if_neg e2] at h4; cases h4
theorem all_take {l : List Int} {q : Int → Bool} {i : Nat} (h : i < l.length) : (l.take (i + 1)).all q = ((l.take i).all q && q (Dk.nth l i)) := by
  rw [List.take_succ_eq_append_getElem h, List.all_append]
  have e : Dk.nth l i = l[i] := by unfold Dk.nth; rw [List.getElem?_eq_getElem h]; rfl
  rw [e]
  simp

set_option maxRecDepth 100000 in
set_option maxHeartbeats 4000000 in
theorem rtaker_any (t : Tk.Tkr) (a : Option Addr) (c : Nat) (w : World) (hs : SmallQ t) (hsl : Dk.SlI w a t.bo) :
    Calls Tryd.prog 6 #[tkV t a c] w fun e w' => e = .returned (.int .i64 (Tk.takE t)) ∧ Below w.heap.size w w' := by
  have b0 : Below w.heap.size w (w.alloc (tkO t a c)) := (Below.refl _ _).alloc (Nat.le_refl _) _
  have PN := hide (rnamed_any t.n (w.alloc (tkO t a c)) hs.name)
  have PF := hide (fun W => rfilter_any t.f W hs.filt)
  have HW := hide (fun (W : World) (hW : Below (w.alloc (tkO t a c)).heap.size (w.alloc (tkO t a c)) W) => show TB W w.heap.size t a c ∧ Dk.SlI W a t.bo ∧ Below w.heap.size w W from ⟨(TB.new w t a c).next hW, nums_on (nums_on hsl b0) hW, bstep b0 hW⟩)
  have hl := hs.many
  obtain ⟨_, c0, c1, c2, c3, c4, c5, c6, c7, c8, c9⟩ := TB.new w t a c
  have HE0 : Hid (Pn.namedB t.n = false → Tk.takE t = 3) := hide (fun h => by unfold Tk.takE; rw [if_pos h])
  have HE1 : Hid (Pn.namedB t.n = true → Tk.takE t = if errS true t.f ≠ 0 then errS true t.f else if 5 < t.bo.length then 2 else if ((tfrB t && tstB t) && takB t) = true then 0 else 1) := hide (fun h => by unfold Tk.takE; rw [if_neg (by rw [h]; simp), ok_all])
  obtain ⟨N, hN⟩ : ∃ N, Pn.namedB t.n = N := ⟨_, rfl⟩
  rw [hN] at PN HE0 HE1
  obtain ⟨E, hE⟩ : ∃ E, errS true t.f = E := ⟨_, rfl⟩
  rw [hE] at PF HE1
  obtain ⟨R, hR⟩ : ∃ R, Tk.takE t = R := ⟨_, rfl⟩
  rw [hR] at HE0 HE1 ⊢
  clear hN hE hR hs hsl b0
  go_enter Tryd.func6, Tryd.ntmps6
  go_wp2_with fail
  refine (unhide PN).mono ?_
  rintro e w1 ⟨rfl, b1⟩
  have B1 := hide b1
  obtain ⟨tb, _, be⟩ := unhide HW w1 b1
  have BE := hide be
  clear PN b1 be c0 c1 c2 c3 c4 c5 c6 c7 c8 c9
  obtain ⟨hbl, c0, c1, c2, c3, c4, c5, c6, c7, c8, c9⟩ := tb
  cases N with
  | false =>
    obtain rfl : R = 3 := unhide HE0 rfl
    clear HE0 HE1 HW
    go_wp2_with fail
    go_ret
    exact ⟨rfl, unhide BE⟩
  | true =>
    have HR := hide (unhide HE1 rfl)
    have PF1 := hide (unhide PF w1)
    clear HE0 HE1 PF BE
    go_wp2_with fail
    refine (unhide PF1).mono ?_
    rintro e w2 ⟨rfl, b2⟩
    obtain ⟨tb, hs2, be⟩ := unhide HW w2 (bstep (unhide B1) b2)
    have BE := hide be
    have HS := hide hs2
    clear PF1 b2 be hs2 HW B1 hbl c0 c1 c2 c3 c4 c5 c6 c7 c8 c9
    obtain ⟨hbl, c0, c1, c2, c3, c4, c5, c6, c7, c8, c9⟩ := tb
    by_cases hE0 : E = 0
    · subst hE0
      by_cases h5 : 5 < t.bo.length
      · have hd : (5 : Int) < (t.bo.length : Int) := by omega
        obtain rfl : R = 2 := by rw [unhide HR, if_neg (by simp), if_pos h5]
        clear HR h5
        go_wp2_with fail
        go_ret
        exact ⟨rfl, unhide BE⟩
      · have hd : decide ((5 : Int) < (t.bo.length : Int)) = false := decide_eq_false (by omega)
        have HR2 := hide (show R = if ((tfrB t && tstB t) && takB t) = true then 0 else 1 from by rw [unhide HR, if_neg (by simp), if_neg h5])
        clear HR
        go_upto_region 8 with fail
        go_cut [4] (fun v wx => v = .bool (tfrB t) ∧ wx = w2)
        case first =>
          clear HR2 HS
          obtain ⟨G, hG⟩ : ∃ G, inI t.ack 0 2 = G := ⟨_, rfl⟩
          have HG := hide hG
          have HT : Hid (tfrB t = (inI t.fr 0 3 && inI t.ack 0 2)) := hide rfl
          rw [hG] at HT
          clear hG
          cases hF : inI t.fr 0 3 with
          | false =>
            have HF := hide hF
            rw [hF] at HT
            clear hF
            go_wp2_with (go_at_call 17; refine (in_any _ _ _ _).mono ?_; rintro e w3 ⟨rfl, rfl⟩; rw [unhide HF])
            go_meet
            exact ⟨by rw [unhide HT]; try rfl, rfl⟩
          | true =>
            have HF := hide hF
            rw [hF] at HT
            clear hF
            go_wp2_with (go_at_call 17; refine (in_any _ _ _ _).mono ?_; rintro e w3 ⟨rfl, rfl⟩; first | rw [unhide HF] | rw [unhide HG])
            go_meet
            exact ⟨by rw [unhide HT]; try rfl, rfl⟩
        case rest =>
          obtain ⟨rfl, hwx⟩ := hcut
          rw [hwx]
          clear hwx
          obtain ⟨K, hK⟩ : ∃ K, tfrB t = K := ⟨_, rfl⟩
          rw [hK] at HR2 ⊢
          clear hK
          go_upto_if 30 with fail
          go_cut [4] (fun v wx => v = .bool (K && tstB t) ∧ wx = w2)
          case first =>
            clear HR2 HS
            by_cases h3 : t.fr = 3
            · have e3 : (t.fr == 3) = true := by simpa using h3
              obtain ⟨G, hG⟩ : ∃ G, inI t.st 1 999999999 = G := ⟨_, rfl⟩
              have HG := hide hG
              have HT : Hid (tstB t = inI t.st 1 999999999) := hide (by unfold tstB; rw [if_pos h3]; rfl)
              rw [hG] at HT
              clear hG h3
              cases K with
              | false =>
                go_wp2_with fail
                go_meet
                exact ⟨by try rfl, rfl⟩
              | true =>
                go_wp2_with (go_at_call 17; refine (in_any _ _ _ _).mono ?_; rintro e w3 ⟨rfl, rfl⟩; rw [unhide HG])
                go_meet
                exact ⟨by rw [unhide HT]; try rfl, rfl⟩
            · have e3 : (t.fr == 3) = false := by simpa using h3
              have HT : Hid (tstB t = (t.st == 0)) := hide (by unfold tstB; rw [if_neg h3]; by_cases e : t.st = 0 <;> simp [e])
              clear h3
              cases K with
              | false =>
                go_wp2_with fail
                go_meet
                exact ⟨by try rfl, rfl⟩
              | true =>
                go_wp2_with fail
                go_meet
                exact ⟨by rw [unhide HT]; try rfl, rfl⟩
          case rest =>
            obtain ⟨rfl, hwx⟩ := hcut
            rw [hwx]
            clear hwx
            obtain ⟨K2, hK2⟩ : ∃ K2, (K && tstB t) = K2 := ⟨_, rfl⟩
            rw [hK2] at HR2 ⊢
            clear hK2
            go_upto_if 45 with fail
            go_cut [4] (fun v wx => v = .bool (K2 && takB t) ∧ wx = w2)
            case first =>
              clear HR2
              by_cases h0 : t.ack = 0
              · have e0 : (t.ack == 0) = true := by simpa using h0
                have HT : Hid (takB t = ((((t.wait == 0) && (t.mo == 0)) && (t.pe == 0)) && ((t.bo.length : Int) == 0))) := hide (by
                  unfold takB
                  rw [if_pos h0]
                  have f : ∀ x : Int, decide (x = 0) = (x == 0) := fun x => by by_cases e : x = 0 <;> simp [e]
                  have g : decide (t.bo.length = 0) = ((t.bo.length : Int) == 0) := by rw [← f]; exact decide_eq_decide.2 (by omega)
                  rw [f, f, f, g])
                clear h0 HS
                cases K2 with
                | false =>
                  go_wp2_with fail
                  go_meet
                  exact ⟨by try rfl, rfl⟩
                | true =>
                  cases h5 : (t.wait == 0) with
                  | false =>
                    rw [h5] at HT
                    go_wp2_with fail
                    go_meet
                    exact ⟨by rw [unhide HT]; try rfl, rfl⟩
                  | true =>
                    rw [h5] at HT
                    cases h7 : (t.mo == 0) with
                    | false =>
                      rw [h7] at HT
                      go_wp2_with fail
                      go_meet
                      exact ⟨by rw [unhide HT]; try rfl, rfl⟩
                    | true =>
                      rw [h7] at HT
                      cases h8 : (t.pe == 0) with
                      | false =>
                        rw [h8] at HT
                        go_wp2_with fail
                        go_meet
                        exact ⟨by rw [unhide HT]; try rfl, rfl⟩
                      | true =>
                        rw [h8] at HT
                        go_wp2_with fail
                        go_meet
                        exact ⟨by rw [unhide HT]; try rfl, rfl⟩
              · have e0 : (t.ack == 0) = false := by simpa using h0
                obtain ⟨G1, g1⟩ : ∃ G, inI t.wait 1 100000 = G := ⟨_, rfl⟩
                obtain ⟨G2, g2⟩ : ∃ G, inI t.mo 0 20 = G := ⟨_, rfl⟩
                obtain ⟨G3, g3⟩ : ∃ G, inI t.pe 0 50 = G := ⟨_, rfl⟩
                have HT : Hid (takB t = (((G1 && G2) && G3) && t.bo.all (fun n => Tk.inB n 1 100000))) := hide (by unfold takB; rw [if_neg h0, ← g1, ← g2, ← g3]; rfl)
                have H1 := hide g1
                have H2 := hide g2
                have H3 := hide g3
                clear h0 g1 g2 g3
                go_upto_region 14 with fail
                go_cut [4] (fun v wx => v = .bool (K2 && ((G1 && G2) && G3)) ∧ wx = w2)
                case first =>
                  clear HS HT
                  cases K2 with
                  | false =>
                    go_wp2_with fail
                    go_meet
                    exact ⟨by try rfl, rfl⟩
                  | true =>
                    cases G1 with
                    | false =>
                      go_wp2_with (go_at_call 17; refine (in_any _ _ _ _).mono ?_; rintro e w3 ⟨rfl, rfl⟩; first | rw [unhide H1] | rw [unhide H2] | rw [unhide H3])
                      go_meet
                      exact ⟨by try rfl, rfl⟩
                    | true =>
                      cases G2 with
                      | false =>
                        go_wp2_with (go_at_call 17; refine (in_any _ _ _ _).mono ?_; rintro e w3 ⟨rfl, rfl⟩; first | rw [unhide H1] | rw [unhide H2] | rw [unhide H3])
                        go_meet
                        exact ⟨by try rfl, rfl⟩
                      | true =>
                        go_wp2_with (go_at_call 17; refine (in_any _ _ _ _).mono ?_; rintro e w3 ⟨rfl, rfl⟩; first | rw [unhide H1] | rw [unhide H2] | rw [unhide H3])
                        go_meet
                        exact ⟨by try rfl, rfl⟩
                case rest =>
                  obtain ⟨rfl, hwx⟩ := hcut
                  rw [hwx]
                  clear hwx H1 H2 H3
                  obtain ⟨K3, hK3⟩ : ∃ K3, (K2 && ((G1 && G2) && G3)) = K3 := ⟨_, rfl⟩
                  have HT2 : Hid ((K2 && takB t) = (K3 && t.bo.all (fun n => Tk.inB n 1 100000))) := hide (by rw [unhide HT, ← hK3]; simp only [Bool.and_assoc])
                  rw [hK3]
                  clear HT hK3
                  go_wp2_with fail
                  go_loop [4, 5] (fun kv iv => ∃ (i : Nat) (A : Bool), kv = .bool A ∧ iv = .int .i64 i ∧ i ≤ t.bo.length ∧ Hid (A = (K3 && (t.bo.take i).all (fun n => Tk.inB n 1 100000)))) (fun _ iv => t.bo.length - (intOf iv).toNat)
                  case atStart => exact ⟨0, K3, rfl, rfl, Nat.zero_le _, hide (by simp)⟩
                  case round =>
                    obtain ⟨i, A, rfl, rfl, hi, HA⟩ := hrel
                    by_cases hlt : i < t.bo.length
                    · obtain ⟨g, o, rfl, _, e1⟩ := unhide HS i hlt
                      have HS2 := hide (all_take (q := fun n => Tk.inB n 1 100000) hlt)
                      obtain ⟨x, hx⟩ : ∃ x, x = Dk.nth t.bo i := ⟨_, rfl⟩
                      rw [← hx] at e1 HS2
                      clear hx
                      have hi2 : (i : Int) < (t.bo.length : Int) := by omega
                      cases A with
                      | false =>
                        have HA2 : Hid (false = (K3 && (t.bo.take (i + 1)).all (fun n => Tk.inB n 1 100000))) := hide (by rw [unhide HS2, ← Bool.and_assoc, ← unhide HA]; rfl)
                        clear HA HS2
                        go_wp2_with fail
                        go_round
                        case rel => exact ⟨i + 1, false, by try rfl, by go_num, by omega, HA2⟩
                        case measure => simp [intOf]; omega
                      | true =>
                        obtain ⟨G, hG⟩ : ∃ G, inI x 1 100000 = G := ⟨_, rfl⟩
                        have HG := hide hG
                        have HA2 : Hid (G = (K3 && (t.bo.take (i + 1)).all (fun n => Tk.inB n 1 100000))) := hide (by rw [unhide HS2, ← Bool.and_assoc, ← unhide HA, ← hG]; rfl)
                        clear HA HS2 hG
                        go_wp2_with (go_at_call 17; refine (in_any _ _ _ _).mono ?_; rintro e w3 ⟨rfl, rfl⟩; rw [unhide HG])
                        go_round
                        case rel => exact ⟨i + 1, G, by try rfl, by go_num, by omega, HA2⟩
                        case measure => simp [intOf]; omega
                    · obtain rfl : i = t.bo.length := by omega
                      rw [List.take_of_length_le (Nat.le_refl _)] at HA
                      go_wp2_with fail
                      go_meet
                      exact ⟨by rw [unhide HT2, ← unhide HA]; try rfl, rfl⟩
            case rest =>
              obtain ⟨rfl, hwx⟩ := hcut
              rw [hwx]
              clear hwx HS c0 c1 c2 c3 c4 c5 c6 c7 c8 c9
              cases hK3 : (K2 && takB t) with
              | false =>
                obtain rfl : R = 1 := by rw [unhide HR2, hK3]; rfl
                clear HR2
                go_wp2_with fail
                go_ret
                exact ⟨rfl, unhide BE⟩
              | true =>
                obtain rfl : R = 0 := by rw [unhide HR2, hK3]; rfl
                clear HR2
                go_wp2_with fail
                go_ret
                exact ⟨rfl, unhide BE⟩
    · have e5 : (E != 0) = true := by simpa using hE0
      obtain rfl : R = E := by rw [unhide HR, if_pos hE0]
      clear HR hE0
      go_wp2_with fail
      go_ret
      exact ⟨rfl, unhide BE⟩
end Go.Proofs.YtcbfmjjodfnacaaDoor
