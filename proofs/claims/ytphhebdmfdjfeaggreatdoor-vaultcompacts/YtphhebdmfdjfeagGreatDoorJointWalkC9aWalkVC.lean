/-
  Contract of rillkeep.note.
  The walk of the law VaultCompacts, over what is asked of any vault and its store.
-/
import Derived.Test.YtphhebdmfdjfeagGreatDoorJointWalkC3WalkC6
import Derived.Test.YtphhebdmfdjfeagGreatDoorJointPapVaPapVbWorksVWalkVa
import Derived.Test.YtphhebdmfdjfeagGreatDoorJointWalkG1rWorksTaPapW
import Derived.Deep.RegionHeldLaw
namespace Go.Proofs.YtphhebdmfdjfeagGreatDoor
open Go.RowKit

theorem results_rec1 {fn : Func} {a : Tmp} {tmps : Array Value} {w : World} {b : Nat} {k q t : Int} {s h d : ByteArray} (hf : fn.results = #[.cell a 30]) (ha : tmps.getD a undef = .pointer (some ⟨b, 0, none⟩)) (r : RB w b k q t s h d) :
    (results fn tmps).run Tryz.prog w = .ok (.agg #[.int .i64 k, .int .i64 q, .int .i64 t, .string s, .string h, .string d]) w := by
  have ha' : tmps[a]?.getD undef = .pointer (some ⟨b, 0, none⟩) := by simpa using ha
  simp [results, hf, ha', asAddr, load_rec r]

set_option maxRecDepth 100000 in
set_option maxHeartbeats 400000 in
theorem note_any (n : Int) (w : World) :
    Calls Tryz.prog 7 #[.int .i64 n] w fun e w' => e = .returned (.agg #[.int .i64 1, .int .i64 n, .int .i64 0, .string ⟨#[97, 46, 98]⟩, .string ⟨#[]⟩, .string ⟨#[120]⟩]) ∧ Below w.heap.size w w' := by
  go_enter Tryz.func7, Tryz.ntmps7
  go_wp2_with fail
  refine bodyPost_ret (results_rec1 rfl rfl (RB.new w 1 n 0 _ _ _ _)) rfl ?_
  exact ⟨rfl, (Below.refl _ _).alloc (Nat.le_refl _) _⟩
theorem note_chk1 : chkV 1 1 0 ⟨#[97, 46, 98]⟩ ⟨#[]⟩ ⟨#[120]⟩ = 0 := by decide +kernel
theorem note_chk2 : chkV 1 2 0 ⟨#[97, 46, 98]⟩ ⟨#[]⟩ ⟨#[120]⟩ = 0 := by decide +kernel
end Go.Proofs.YtphhebdmfdjfeagGreatDoor

namespace Go.Proofs.YtphhebdmfdjfeagGreatDoor.Dk
open Go.RowKit

set_option maxRecDepth 100000 in
set_option maxHeartbeats 2000000 in
theorem compacts_any {VH : World → Nat → Nat → (Nat → Prop) → Int → Int → List Pap → Sto → Prop} {SH : World → Nat → Nat → (Nat → Prop) → Sto → Prop} (V : VWorks VH SH) (HE : SSees SH) (m size : Int) (l : List Rc) (a : Option Addr) (c : Nat) (w : World) (hsl : SlR w a l) (hsm : ∀ k, k < l.length → Small (rc l k)) :
    Calls Tryz.prog 3 #[.int .i64 m, .int .i64 size, .slice a l.length c] w fun e w' => e = .returned (.bool true) ∧ Below w.heap.size w w' := by
  have HSl := hide hsl
  have HM := hide hsm
  have P1 := hide (Vay.new V w (m := 100) (size := 100) rfl rfl)
  clear hsl hsm
  go_enter Tryz.func3, Tryz.ntmps3
  go_wp2_with fail
  refine (unhide P1).mono ?_
  rintro e w1 ⟨p, rfl, y1⟩
  have P2 := hide (y1.compact V)
  rw [hun_comp] at P2
  clear y1 P1
  go_wp2_with fail
  refine (unhide P2).mono ?_
  rintro e w2 ⟨rfl, y2, _⟩
  have Y2 := hide y2
  clear y2 P2
  go_wp2_with fail
  refine (note_any 1 w2).mono ?_
  rintro e w3 ⟨rfl, b3⟩
  have Y3 := hide ((unhide Y2).below V b3)
  have P3 : Hid (Calls Tryz.prog 6 #[.pointer (some ⟨p, 0, none⟩), .agg #[.int .i64 1, .int .i64 1, .int .i64 0, .string ⟨#[97, 46, 98]⟩, .string ⟨#[]⟩, .string ⟨#[120]⟩]] w3 fun e w' => e = .returned (.int .i64 0) ∧ Vay VH (fun _ => False) w w' p 100 100 (doL comp1 ⟨[], 0⟩ 100 100 oneR) (doS comp1 ⟨[], 0⟩ 100 100 oneR) ∧ Stay (fun _ => False) w3 w') := hide (by
    have h := (unhide Y3).did V oneR one_small
    rw [show compF [] ⟨[], 0⟩ 100 100 = comp1 from rfl, hun_do1] at h
    exact h)
  clear b3 Y2 Y3
  go_wp2_with fail
  refine (unhide P3).mono ?_
  rintro e w4 ⟨rfl, y4, _⟩
  have P4 := hide (y4.compact V)
  rw [hun_comp1] at P4
  clear y4 P3
  go_wp2_with fail
  refine (unhide P4).mono ?_
  rintro e w5 ⟨rfl, y5, _⟩
  have P5 := hide (y5.used V)
  rw [hun_used1] at P5
  clear y5 P4
  go_wp2_with fail
  refine (unhide P5).mono ?_
  rintro e w6 ⟨rfl, y6, _⟩
  have B6 := hide y6.bl
  clear y6 P5
  by_cases hg : (inI m 1 65536 && inI size 1 4096) = false
  · have P6 := hide (V.bad w6 m size hg)
    clear hg
    go_wp2_with fail
    refine (unhide P6).mono ?_
    rintro e w7 ⟨rfl, b7⟩
    have B7 := hide (bstep (unhide B6) b7)
    clear b7 P6
    go_wp2_with fail
    go_ret
    exact ⟨rfl, unhide B7⟩
  · obtain ⟨hg1, hg2⟩ : inI m 1 65536 = true ∧ inI size 1 4096 = true := by
      cases h1 : inI m 1 65536 <;> cases h2 : inI size 1 4096 <;> simp_all
    have P6 := hide (Vay.new V w6 hg1 hg2)
    clear hg hg1 hg2
    go_wp2_with fail
    refine (unhide P6).mono ?_
    rintro e w7 ⟨q, rfl, y7⟩
    have Y7 : Hid (Vay VH (fun _ => False) w6 w7 q m size (doAll m size (l.take 0)).1 (doAll m size (l.take 0)).2) := hide y7
    clear y7 P6
    by_cases hl : 100 < l.length
    · have hd : (100 : Int) < (l.length : Int) := by omega
      go_wp2_with fail
      go_ret
      exact ⟨rfl, (unhide B6).trans ((unhide Y7).bl.mono (unhide B6).size)⟩
    · have hd : decide ((100 : Int) < (l.length : Int)) = false := decide_eq_false (by omega)
      go_wp2_with fail
      go_loopw [59] (fun iv wr => ∃ (k : Nat), iv = .int .i64 k ∧ k ≤ l.length ∧ Hid (Vay VH (fun _ => False) w6 wr q m size (doAll m size (l.take k)).1 (doAll m size (l.take k)).2)) (fun iv _ => l.length - (intOf iv).toNat)
      case atStart => exact ⟨0, rfl, Nat.zero_le _, Y7⟩
      case round =>
        clear Y7
        obtain ⟨k, rfl, hkl, Y8⟩ := hrel
        by_cases hlt : k < l.length
        · obtain ⟨ga, o, rfl, s6⟩ := unhide HSl k hlt
          have s7 : Six wr ga (o + k * 6) (rc l k) := s6.below ((unhide B6).trans ((unhide Y8).bl.mono (unhide B6).size)) s6.lt
          have hsm := unhide HM k hlt
          have hft := doAll_take (m := m) (size := size) hlt
          obtain ⟨r, hr⟩ : ∃ r, r = rc l k := ⟨_, rfl⟩
          rw [← hr] at s7 hsm hft
          obtain ⟨_, x0, x1, x2, x3, x4, x5⟩ := s7
          have Y9 := hide ((unhide Y8).below V ((Below.refl _ _).alloc (Nat.le_refl _) (.cells #[.int .i64 r.k, .int .i64 r.q, .int .i64 r.t, .string r.s, .string r.h, .string r.d] 30)))
          have PA : Hid (Calls Tryz.prog 6 #[.pointer (some ⟨q, 0, none⟩), .agg #[.int .i64 r.k, .int .i64 r.q, .int .i64 r.t, .string r.s, .string r.h, .string r.d]] _ fun e w' => (∃ E, e = .returned (.int .i64 E)) ∧ Vay VH (fun _ => False) w6 w' q m size (doAll m size (l.take (k + 1))).1 (doAll m size (l.take (k + 1))).2) := hide (((unhide Y9).did V r hsm).mono (fun e w' z => ⟨⟨_, z.1⟩, by rw [hft]; exact z.2.1⟩))
          clear hr hft s6 Y8 Y9
          go_wp2_with fail
          refine (unhide PA).mono ?_
          rintro e w9 ⟨⟨E, rfl⟩, y9⟩
          have Y10 := hide y9
          clear y9 PA x0 x1 x2 x3 x4 x5
          go_wp2_with fail
          refine ⟨⟨k + 1, by go_num, by omega, Y10⟩, ?_⟩
          simp [intOf]; omega
        · obtain rfl : k = l.length := by omega
          rw [List.take_length] at Y8
          generalize (doAll m size l).1 = es at Y8
          generalize (doAll m size l).2 = s at Y8
          have hfew := (unhide Y8).ok.few
          have P8 := hide ((unhide Y8).store V)
          clear hlt
          go_wp2_with fail
          refine (unhide P8).mono ?_
          rintro e w8 ⟨q8, F8, rfl, h8, b8⟩
          have Y9 := hide ((unhide Y8).below V b8)
          have P9 := hide (HE.all h8 (unhide Y8).ok (unhide Y9).room)
          clear h8 b8 P8 Y8
          go_wp2_with fail
          refine (unhide P9).mono ?_
          rintro e w9 ⟨v9, rfl, a9, b9⟩
          obtain ⟨aa, ca, rfl, ca1, ca2, s9⟩ := a9.shape
          have ha9 : ∀ z, aa = some z → w8.heap.size ≤ z.block ∧ z.block < w9.heap.size := fun z hz => World.ownsRow.lt a9 z.block (by rw [hz]; rfl)
          have Y10 := hide ((unhide Y9).mine V (Cs' := fun k => ∃ z, aa = some z ∧ z.block = k) b9 (fun k hk => by
            obtain ⟨z, hz, rfl⟩ := hk
            exact .inr (ha9 z hz)))
          have S10 := hide s9
          have P10 := hide ((unhide Y10).store V)
          clear a9 b9 s9 ha9 P9 Y9
          go_wp2_with fail
          refine (unhide P10).mono ?_
          rintro e w10 ⟨q10, F10, rfl, h10, b10⟩
          have Y11 := hide ((unhide Y10).below V b10)
          have S11 := hide ((unhide S10).below b10)
          have P11 := hide (HE.sums h10 (unhide Y10).ok (unhide Y11).room)
          clear h10 b10 P10 Y10 S10
          go_wp2_with fail
          refine (unhide P11).mono ?_
          rintro e w11 ⟨rfl, b11⟩
          have Y12 := hide ((unhide Y11).below V b11)
          have S12 := hide ((unhide S11).below b11)
          have P12 := hide ((unhide Y12).used V)
          clear b11 P11 Y11 S11
          go_wp2_with fail
          refine (unhide P12).mono ?_
          rintro e w12 ⟨rfl, y12, st12⟩
          have L13 := hide (Lk.new V y12 (st12.recs (unhide S12) (fun z hz => ⟨z, hz, rfl⟩)) (s.l.length : Int) (byteN s.l : Int) (firstQ s.l) s.last)
          have P13 := hide ((unhide L13).compact V)
          have HC : Hid (compE es s m size ≠ 0 → compF es s m size = es) := hide comp_not
          obtain ⟨E, hE⟩ : ∃ E, E = compE es s m size := ⟨_, rfl⟩
          rw [← hE] at P13 HC
          clear y12 st12 P12 Y12 S12 L13
          go_wp2_with fail
          refine (unhide P13).mono ?_
          rintro e w13 ⟨rfl, l13⟩
          by_cases h0 : E = 0
          · subst h0
            have P14 := hide (l13.compact V)
            have HU := hide l13.1.vok
            clear l13 P13 HC hE
            go_wp2_with fail
            refine (unhide P14).mono ?_
            rintro e w14 ⟨rfl, l14⟩
            have L14 := hide l14
            have hfit := l14.1.vok.used
            clear l14 P14
            have hN := eqlS (s.l.length : Int) (byteN s.l : Int) (firstQ s.l) s.last
            have hm : Tryz.prog.eqGuardType Tryz.prog.depth 37 = false := by kernel_rfl
            have k0 := SB.at4 ((unhide L14).below V (Below.refl _ _).drew).2.2
            have L15 := hide ((unhide L14).below V (Below.refl _ _).drew)
            have P15 := hide ((unhide L15).store V)
            go_wp2_with fail
            first | (go_region_held_law (At4 w12.heap.size (s.l.length : Int) (byteN s.l : Int) (firstQ s.l) s.last) (first | assumption | go_keep)
              (first
                | (go_at_call 9; refine (unhide P15).mono ?_; rintro e wA ⟨qA, FA, rfl, hA, lA⟩; have kA := SB.at4 lA.2.2; have LA := hide lA; have PA := hide (HE.all hA lA.1.ok lA.1.room); clear hA lA P15)
                | (go_at_call 10; refine (unhide PA).mono ?_; rintro e wB ⟨vB, rfl, aB, bB⟩; obtain ⟨ab, cb, rfl, cb1, cb2, sB⟩ := aB.shape; have LB := hide ((unhide LA).below V bB); have kB := SB.at4 (unhide LB).2.2; have PB := hide (equal_rec ab aa cb ca s.l wB sB (unhide LB).2.1 (by omega)); clear aB bB sB PA LA)
                | (go_at_call 12; refine (unhide PB).mono ?_; rintro e wC ⟨rfl, nq, rfl⟩; have LC := hide ((unhide LB).below V (below_drewN (Below.refl _ _) nq)); have kC := SB.at4 (unhide LC).2.2; have PC := hide ((unhide LC).store V); clear PB LB)
                | (go_at_call 9; refine (unhide PC).mono ?_; rintro e wD ⟨qD, FD, rfl, hD, lD⟩; have kD := SB.at4 lD.2.2; have LD := hide lD; have PD := hide (HE.sums hD lD.1.ok lD.1.room); clear hD lD PC)
                | (go_at_call 11; refine (unhide PD).mono ?_; rintro e wE ⟨rfl, bE⟩; have LE := hide ((unhide LD).below V bE); have kE := SB.at4 (unhide LE).2.2; have PE := hide ((unhide LE).used V); clear bE PD)
                | (go_at_call 8; refine (unhide PE).mono ?_; rintro e wF ⟨rfl, lF⟩; have kF := SB.at4 lF.2.2; have LF := hide lF; clear lF PE))) | fail
            all_goals clear hN hm k0
            all_goals go_wp2_with fail
            all_goals go_ret
            all_goals exact ⟨rfl, (unhide B6).trans ((unhide LF).1.bl.mono (unhide B6).size)⟩
          · rw [unhide HC h0] at l13
            have P14 := hide (l13.used V)
            have e0 : (E != 0) = true := by simpa using h0
            have e1 : decide (E = 0) = false := decide_eq_false h0
            have e2 : (E == 0) = false := by rw [beq_eq_false_iff_ne]; exact h0
            clear l13 P13 HC
            go_wp2_with fail
            refine (unhide P14).mono ?_
            rintro e w14 ⟨rfl, l14⟩
            have P14b := hide (l14.compact V)
            rw [← hE] at P14b
            clear l14 P14
            go_wp2_with fail
            refine (unhide P14b).mono ?_
            rintro e w15 ⟨rfl, l15⟩
            have L14 := hide l15
            clear l15 P14b
            have hN := eqlS (s.l.length : Int) (byteN s.l : Int) (firstQ s.l) s.last
            have hm : Tryz.prog.eqGuardType Tryz.prog.depth 37 = false := by kernel_rfl
            have k0 := SB.at4 ((unhide L14).below V (Below.refl _ _).drew).2.2
            have L15 := hide ((unhide L14).below V (Below.refl _ _).drew)
            have P15 := hide ((unhide L15).store V)
            go_wp2_with fail
            first | (go_region_held_law (At4 w12.heap.size (s.l.length : Int) (byteN s.l : Int) (firstQ s.l) s.last) (first | assumption | go_keep)
              (first
                | (go_at_call 9; refine (unhide P15).mono ?_; rintro e wA ⟨qA, FA, rfl, hA, lA⟩; have kA := SB.at4 lA.2.2; have LA := hide lA; have PA := hide (HE.all hA lA.1.ok lA.1.room); clear hA lA P15)
                | (go_at_call 10; refine (unhide PA).mono ?_; rintro e wB ⟨vB, rfl, aB, bB⟩; obtain ⟨ab, cb, rfl, cb1, cb2, sB⟩ := aB.shape; have LB := hide ((unhide LA).below V bB); have kB := SB.at4 (unhide LB).2.2; have PB := hide (equal_rec ab aa cb ca s.l wB sB (unhide LB).2.1 (by omega)); clear aB bB sB PA LA)
                | (go_at_call 12; refine (unhide PB).mono ?_; rintro e wC ⟨rfl, nq, rfl⟩; have LC := hide ((unhide LB).below V (below_drewN (Below.refl _ _) nq)); have kC := SB.at4 (unhide LC).2.2; have PC := hide ((unhide LC).store V); clear PB LB)
                | (go_at_call 9; refine (unhide PC).mono ?_; rintro e wD ⟨qD, FD, rfl, hD, lD⟩; have kD := SB.at4 lD.2.2; have LD := hide lD; have PD := hide (HE.sums hD lD.1.ok lD.1.room); clear hD lD PC)
                | (go_at_call 11; refine (unhide PD).mono ?_; rintro e wE ⟨rfl, bE⟩; have LE := hide ((unhide LD).below V bE); have kE := SB.at4 (unhide LE).2.2; clear bE PD))) | fail
            all_goals clear hN hm k0
            all_goals go_wp2_with fail
            all_goals go_ret
            all_goals exact ⟨rfl, (unhide B6).trans ((unhide LE).1.bl.mono (unhide B6).size)⟩
end Go.Proofs.YtphhebdmfdjfeagGreatDoor.Dk
