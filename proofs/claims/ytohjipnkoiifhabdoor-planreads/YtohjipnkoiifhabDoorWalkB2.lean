/-
  Contract of rillref.Plan.
-/
import Derived.Test.YtohjipnkoiifhabDoorJointRowPlRowPsRowPv
import Derived.Test.YtohjipnkoiifhabDoorWalkB1
import Derived.Test.YtohjipnkoiifhabDoorJointWalk6aWalk6
import Derived.Test.YtohjipnkoiifhabDoorJointPlain2Plain5PlainK
namespace Go.Proofs.YtohjipnkoiifhabDoor
open Go.RowKit

set_option maxRecDepth 100000 in
set_option maxHeartbeats 4000000 in
theorem rplan_any (n : ByteArray) (a : Option Addr) (l : List ByteArray) (c : Nat) (x0 x1 x2 x3 x4 x5 x6 x7 : Int) (w : World) (hn : n.size ≤ 140737488355328) (hsl : SlS w a l) (hz : ∀ k, k < l.length → (tk l k).size ≤ 140737488355328) (hl : l.length ≤ 140737488355328) :
    Calls Tryd.prog 5 #[planV n a l.length c x0 x1 x2 x3 x4 x5 x6 x7] w fun e w' => e = .returned (.int .i64 (Pn.planE ⟨n, l, [x0, x1, x2, x3, x4, x5, x6, x7]⟩)) ∧ Below w.heap.size w w' := by
  have b0 : Below w.heap.size w (w.alloc (.cells #[.string n, .slice a l.length c, .int .i64 x0, .int .i64 x1, .int .i64 x2, .int .i64 x3, .int .i64 x4, .int .i64 x5, .int .i64 x6, .int .i64 x7] 24)) := (Below.refl _ _).alloc (Nat.le_refl _) _
  have HP := hide (PB.new w n a l.length c x0 x1 x2 x3 x4 x5 x6 x7 24)
  have HB := hide b0
  have HS := hide hsl
  have HZ := hide hz
  clear b0 hsl hz
  go_enter Tryd.func5, Tryd.ntmps5
  go_wp2_with fail
  refine (rnamed_any n _ hn).mono ?_
  rintro e w1 ⟨rfl, b1⟩
  have P1 := hide ((unhide HP).next b1)
  have B1 := hide (bstep (unhide HB) b1)
  clear HP HB b1
  cases hN : Pn.namedB n with
  | false =>
    have HR := hide (Pn.planE_name (p := ⟨n, l, [x0, x1, x2, x3, x4, x5, x6, x7]⟩) hN)
    clear hN
    go_wp2_with fail
    go_ret
    rw [unhide HR]
    exact ⟨rfl, unhide B1⟩
  | true =>
    have HN := hide hN
    have d1 := (unhide P1).c1
    clear hN
    by_cases h4 : 4 < l.length
    · have HR := hide (Pn.planE_many (p := ⟨n, l, [x0, x1, x2, x3, x4, x5, x6, x7]⟩) (unhide HN) h4)
      have g4 : decide ((4 : Int) < (l.length : Int)) = true := decide_eq_true (by omega)
      go_wp2_with fail
      go_ret
      rw [unhide HR]
      exact ⟨rfl, unhide B1⟩
    · have g4 : decide ((4 : Int) < (l.length : Int)) = false := decide_eq_false (by omega)
      by_cases h0 : l.length = 0
      · have HR := hide (Pn.planE_none (p := ⟨n, l, [x0, x1, x2, x3, x4, x5, x6, x7]⟩) (unhide HN) h0)
        have g0 : ((l.length : Int) == 0) = true := by rw [beq_iff_eq]; omega
        go_wp2_with fail
        go_ret
        rw [unhide HR]
        exact ⟨rfl, unhide B1⟩
      · have g0 : ((l.length : Int) == 0) = false := by rw [beq_eq_false_iff_ne]; omega
        have Q1 : Hid (Pst w w1 w.heap.size n a l c x0 x1 x2 x3 x4 x5 x6 x7) := hide ⟨unhide P1, (unhide HS).from (unhide B1) (Nat.le_refl _), unhide B1⟩
        obtain ⟨b, hb⟩ : ∃ b, b = w.heap.size := ⟨_, rfl⟩
        rw [← hb] at Q1
        clear P1 B1 HS
        go_wp2_with fail
        rw [← hb]
        clear d1 hb
        go_loopw [4] (fun iv wr => ∃ (i : Nat), iv = .int .i64 i ∧ i ≤ l.length ∧ Hid (Pn.filtE l = Pn.filtE (l.drop i) ∧ ∀ k, k < i → errS true (tk l k) = 0) ∧ Hid (Pst w wr b n a l c x0 x1 x2 x3 x4 x5 x6 x7)) (fun iv _ => l.length - (intOf iv).toNat)
        case atStart => exact ⟨0, rfl, Nat.zero_le _, hide ⟨rfl, fun k hk => by omega⟩, Q1⟩
        case round =>
          clear Q1
          obtain ⟨i, rfl, hi, HF, Q2⟩ := hrel
          by_cases hlt : i < l.length
          · obtain ⟨ba, o, rfl, _, e1⟩ := (unhide Q2).2.1 i hlt
            have d1 := (unhide Q2).1.c1
            have hzi := unhide HZ i hlt
            obtain ⟨E, hE⟩ : ∃ E, errS true (tk l i) = E := ⟨_, rfl⟩
            have PF := hide (rfilter_any (tk l i) wr hzi)
            rw [hE] at PF
            have HE := hide hE
            clear hE
            go_wp2_with fail
            refine (unhide PF).mono ?_
            rintro e w2 ⟨rfl, b2⟩
            have Q3 := hide ((unhide Q2).next b2)
            clear PF b2 Q2 d1 e1
            by_cases hE0 : E = 0
            · have HF2 : Hid (Pn.filtE l = Pn.filtE (l.drop (i + 1)) ∧ ∀ k, k < i + 1 → errS true (tk l k) = 0) := hide ⟨by rw [(unhide HF).1, Pn.filtE_drop hlt, if_pos (by rw [unhide HE]; exact hE0)], fun k hk => by
                by_cases e : k = i
                · rw [e, unhide HE]; exact hE0
                · exact (unhide HF).2 k (by omega)⟩
              subst hE0
              clear HF HE
              go_wp2_with fail
              refine ⟨⟨i + 1, by go_num, by omega, HF2, Q3⟩, ?_⟩
              simp [intOf]; omega
            · have HR : Hid (Pn.planE ⟨n, l, [x0, x1, x2, x3, x4, x5, x6, x7]⟩ = E) := hide (by
                have e1 : Pn.filtE l = E := by rw [(unhide HF).1, Pn.filtE_drop hlt, if_neg (by rw [unhide HE]; exact hE0), unhide HE]
                rw [Pn.planE_filt (unhide HN) h4 h0 (by rw [show Pn.filtE _ = E from e1]; exact hE0)]
                exact e1)
              have hE' : (E != 0) = true := by simpa using hE0
              clear HF HE
              go_wp2_with fail
              go_ret
              rw [unhide HR]
              exact ⟨rfl, (unhide Q3).2.2⟩
          · obtain rfl : i = l.length := by omega
            have HF0 : Hid (Pn.filtE l = 0 ∧ ∀ k, k < l.length → errS true (tk l k) = 0) := hide ⟨by rw [(unhide HF).1, List.drop_length]; rfl, (unhide HF).2⟩
            clear HF hlt
            go_wp2_with fail
            go_loopw [6] (fun iv wr => ∃ (i : Nat), iv = .int .i64 i ∧ i ≤ l.length ∧ Hid (Pn.laps l = Pn.laps (l.drop i)) ∧ Hid (Pst w wr b n a l c x0 x1 x2 x3 x4 x5 x6 x7)) (fun iv _ => l.length - (intOf iv).toNat)
            case atStart => exact ⟨0, rfl, Nat.zero_le _, hide rfl, Q2⟩
            case round =>
              clear Q2
              obtain ⟨i, rfl, hi, HL, Q2⟩ := hrel
              by_cases hlt : i < l.length
              · have hw1 : IntKind.i64.wrap ((i : Int) + 1) = ((i + 1 : Nat) : Int) := by rw [IntKind.wrap_i64]; omega
                go_wp2_with fail
                go_loopw [7] (fun kv wr => ∃ (k : Nat), kv = .int .i64 k ∧ i < k ∧ k ≤ l.length ∧ Hid ((l.drop (i + 1)).any (fun g => meetL (Pl.toks (tk l i)) (Pl.toks g)) = (l.drop k).any (fun g => meetL (Pl.toks (tk l i)) (Pl.toks g))) ∧ Hid (Pst w wr b n a l c x0 x1 x2 x3 x4 x5 x6 x7)) (fun kv _ => l.length - (intOf kv).toNat)
                case atStart => exact ⟨i + 1, by first | rfl | go_num, by omega, by omega, hide rfl, Q2⟩
                case round =>
                  clear Q2
                  obtain ⟨k, rfl, hik, hk, HA, Q2⟩ := hrel
                  by_cases hkl : k < l.length
                  · obtain ⟨ba, o, rfl, _, _⟩ := (unhide Q2).2.1 i hlt
                    have Q3 := hide ((unhide Q2).next (Below.refl _ _).drew)
                    have k3 := (unhide Q3).two hlt hkl
                    have hf := (unhide HF0).2 i hlt
                    have hg := (unhide HF0).2 k hkl
                    obtain ⟨M, hM⟩ : ∃ M, meetL (Pl.toks (tk l i)) (Pl.toks (tk l k)) = M := ⟨_, rfl⟩
                    have PO := hide (rOverlap_any (tk l i) (tk l k) wr.drew (unhide HZ i hlt) (unhide HZ k hkl) (by have := few hf; rw [Pl.toks_length] at this; omega) (by have := few hg; rw [Pl.toks_length] at this; omega))
                    rw [hM] at PO
                    have HMM := hide hM
                    have HT := hide (fun (w' : World) (h : Below wr.drew.heap.size wr.drew w') => ((unhide Q3).next h).two hlt hkl)
                    clear Q2 hf hg hM
                    go_wp2_with fail
                    go_region_held3 (Two2 b (some ⟨ba, o, none⟩) l.length c ba o i k (tk l i) (tk l k)) (first | assumption | go_keep)
                      (first
                        | (go_at_call 14; refine (unhide PO).mono ?_; rintro e w4 ⟨rfl, b4⟩; have k4 := unhide HT w4 b4))
                    have Q4 := hide ((unhide Q3).next b4)
                    clear k3 k4 b4 PO HT Q3
                    cases M with
                    | true =>
                      have HR : Hid (Pn.planE ⟨n, l, [x0, x1, x2, x3, x4, x5, x6, x7]⟩ = 10) := hide (Pn.planE_laps (unhide HN) h4 h0 (unhide HF0).1 (by
                        show Pn.laps l = true
                        rw [unhide HL, Pn.laps_drop hlt, unhide HA, Pn.any_drop hkl, unhide HMM]
                        rfl))
                      clear HA HMM HL
                      go_wp2_with fail
                      go_ret
                      rw [unhide HR]
                      exact ⟨rfl, (unhide Q4).2.2⟩
                    | false =>
                      have HA2 : Hid ((l.drop (i + 1)).any (fun g => meetL (Pl.toks (tk l i)) (Pl.toks g)) = (l.drop (k + 1)).any (fun g => meetL (Pl.toks (tk l i)) (Pl.toks g))) := hide (by rw [unhide HA, Pn.any_drop hkl, unhide HMM]; rfl)
                      clear HA HMM
                      go_wp2_with fail
                      refine ⟨⟨k + 1, by go_num, by omega, by omega, HA2, Q4⟩, ?_⟩
                      simp [intOf]; omega
                  · obtain rfl : k = l.length := by omega
                    have HL2 : Hid (Pn.laps l = Pn.laps (l.drop (i + 1))) := hide (by
                      rw [unhide HL, Pn.laps_drop hlt, unhide HA, List.drop_length]
                      rfl)
                    clear HA HL hkl
                    go_wp2_with fail
                    refine ⟨⟨i + 1, by go_num, by omega, HL2, Q2⟩, ?_⟩
                    simp [intOf]; omega
              · obtain rfl : i = l.length := by omega
                have HL0 : Hid (Pn.laps l = false) := hide (by rw [unhide HL, List.drop_length]; rfl)
                have HR := hide (Pn.planE_nums (p := ⟨n, l, [x0, x1, x2, x3, x4, x5, x6, x7]⟩) (unhide HN) h4 h0 (unhide HF0).1 (unhide HL0))
                obtain ⟨_, y0, y1, y2, y3, y4, y5, y6, y7, y8, y9⟩ := (unhide Q2).1
                clear HL HF0 HL0 hlt HN
                go_wp2_with fail
                refine (rvalues_any n a l.length c x0 x1 x2 x3 x4 x5 x6 x7 wr).mono ?_
                rintro e w5 ⟨g1, g2, rfl, v1, v2, b5⟩
                have HV : Hid (Vst w w5 g1 g2 [x0, x1, x2, x3, x4, x5, x6, x7]) := hide ⟨v1, v2, bstep (unhide Q2).2.2 b5⟩
                obtain ⟨v, hv⟩ : ∃ v, v = [x0, x1, x2, x3, x4, x5, x6, x7] := ⟨_, rfl⟩
                have hv8 : v.length = 8 := by rw [hv]; rfl
                rw [← hv] at HV HR
                have HVV := hide hv
                clear hv v1 v2 b5 Q2 y0 y1 y2 y3 y4 y5 y6 y7 y8 y9
                go_wp2_with fail
                go_loopw [10] (fun iv wr => ∃ (i : Nat), iv = .int .i64 i ∧ i ≤ 8 ∧ Hid (Pn.inAll v Pn.most8 = Pn.inAll (v.drop i) (Pn.most8.drop i)) ∧ Hid (Vst w wr g1 g2 v)) (fun iv _ => 8 - (intOf iv).toNat)
                case atStart => exact ⟨0, rfl, Nat.zero_le _, hide rfl, HV⟩
                case round =>
                  clear HV
                  obtain ⟨i, rfl, hi, HA, HV⟩ := hrel
                  by_cases hlt : i < 8
                  · have HV2 := hide ((unhide HV).next (Below.refl _ _).drew)
                    have k2 := (unhide HV2).two hv8 hlt
                    have HA2 := hide ((unhide HA).trans (Pn.inAll_drop (v := v) (i := i) (by omega) hv8))
                    have HT := hide (fun (w' : World) (h : Vst w w' g1 g2 v) => h.two hv8 hlt)
                    obtain ⟨x, hx⟩ : ∃ x, Dk.nth v i = x := ⟨_, rfl⟩
                    obtain ⟨y, hy⟩ : ∃ y, Dk.nth Pn.most8 i = y := ⟨_, rfl⟩
                    rw [hx, hy] at HA2 k2 HT
                    have PI := hide (in_any x 0 y wr.drew)
                    obtain ⟨I, hI⟩ : ∃ I, inI x 0 y = I := ⟨_, rfl⟩
                    rw [hI] at PI
                    have HI := hide hI
                    clear hx hy hI HA HV
                    go_wp2_with fail
                    go_region_held3 (Two3 g1 g2 i x y) (first | assumption | go_keep)
                      (first
                        | (go_at_call 16; refine (unhide PI).mono ?_; rintro e w6 ⟨rfl, rfl⟩))
                    clear k2 PI HT
                    cases I with
                    | true =>
                      have HA3 : Hid (Pn.inAll v Pn.most8 = Pn.inAll (v.drop (i + 1)) (Pn.most8.drop (i + 1))) := hide (by
                        have h2 := unhide HI
                        unfold inI at h2
                        rw [unhide HA2, h2, Bool.true_and])
                      clear HA2 HI
                      go_wp2_with fail
                      refine ⟨⟨i + 1, by go_num, by omega, HA3, HV2⟩, ?_⟩
                      simp [intOf]; omega
                    | false =>
                      have HR2 : Hid (Pn.planE ⟨n, l, [x0, x1, x2, x3, x4, x5, x6, x7]⟩ = 1) := hide (by
                        have h2 := unhide HI
                        unfold inI at h2
                        have h3 : Pn.inAll v Pn.most8 = false := by rw [unhide HA2, h2, Bool.false_and]
                        have := unhide HR
                        rw [← unhide HVV, this]
                        show (if Pn.inAll v Pn.most8 = true then (0 : Int) else 1) = 1
                        rw [h3]; rfl)
                      clear HA2 HI HR
                      go_wp2_with fail
                      go_ret
                      rw [unhide HR2]
                      exact ⟨rfl, (unhide HV2).2.2⟩
                  · obtain rfl : i = 8 := by omega
                    have HR2 : Hid (Pn.planE ⟨n, l, [x0, x1, x2, x3, x4, x5, x6, x7]⟩ = 0) := hide (by
                      have h3 : Pn.inAll v Pn.most8 = true := by
                        rw [unhide HA, List.drop_of_length_le (by omega)]
                        rfl
                      have := unhide HR
                      rw [← unhide HVV, this]
                      show (if Pn.inAll v Pn.most8 = true then (0 : Int) else 1) = 0
                      rw [h3]; rfl)
                    clear HA HR
                    go_wp2_with fail
                    go_ret
                    rw [unhide HR2]
                    exact ⟨rfl, (unhide HV).2.2⟩
end Go.Proofs.YtohjipnkoiifhabDoor
