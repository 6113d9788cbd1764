/-
  The walk of the law VaultPlays, over what is asked of any vault and its store.
  A struct of six fields of one cell each, by value: opened and shut. No program.
-/
import Derived.Test.YtphhebdmfdjfeabGreatDoorJointRowSaStepsV
import Derived.Test.YtphhebdmfdjfeabGreatDoorJointWalkZ1WalkZ2WalkZ3
import Derived.Test.YtphhebdmfdjfeabGreatDoorWalkSS
import Derived.Test.YtphhebdmfdjfeabGreatDoorJointWalkO3WalkO4WalkRest
import Derived.Test.YtphhebdmfdjfeabGreatDoorJointRowNRowPWalkP1WalkP2WalkP3WalkP4WalkP5
import Derived.Lib.SmallJoins
import Derived.OpenShut
namespace Go.Proofs.YtphhebdmfdjfeabGreatDoor.Dk
open Go.RowKit

set_option maxRecDepth 100000 in
set_option maxHeartbeats 4000000 in
theorem plays_vault {VH : World → Nat → Nat → (Nat → Prop) → Int → Int → List Pap → Sto → Prop} {SH : World → Nat → Nat → (Nat → Prop) → Sto → Prop} (V : VWorks VH SH) (C : VStops VH) (H : SWorks SH) (HT : STells SH) (HY : STrys SH) (m size : Int) (l : List Rc) (a : Option Addr) (cap : Nat) (f : ByteArray) (n : Int) (w : World) (hsl : SlR w a l) (hsm : ∀ k, k < l.length → Small (rc l k)) (hf : f.size ≤ 140737488355328) :
    Calls Tryz.prog 5 #[.int .i64 m, .int .i64 size, .slice a l.length cap, .string f, .int .i64 n] w fun e w' => e = .returned (.bool true) ∧ Below w.heap.size w w' := by
  have HSl := hide hsl
  have HM := hide hsm
  have HFz := hide hf
  clear hsl hsm hf
  by_cases hg : (inI m 1 65536 && inI size 1 4096) = false
  · have P1 := hide (V.bad w m size hg)
    cases hI : inI m 1 65536 with
    | false =>
      have HI := hide hI
      clear hI hg
      go_enter Tryz.func5, Tryz.ntmps5
      go_wp2_with fail
      refine (unhide P1).mono ?_
      rintro e w1 ⟨rfl, b1⟩
      clear P1
      go_wp2_with (go_at_call 9; refine (in_any _ _ _ _).mono ?_; rintro e w2 ⟨rfl, rfl⟩; rw [unhide HI])
      go_ret
      exact ⟨rfl, b1⟩
    | true =>
      have HI := hide hI
      have HJ : Hid (inI size 1 4096 = false) := hide (by rw [hI] at hg; simpa using hg)
      clear hI hg
      go_enter Tryz.func5, Tryz.ntmps5
      go_wp2_with fail
      refine (unhide P1).mono ?_
      rintro e w1 ⟨rfl, b1⟩
      clear P1
      go_wp2_with (go_at_call 9; refine (in_any _ _ _ _).mono ?_; rintro e w2 ⟨rfl, rfl⟩; first | rw [unhide HI] | rw [unhide HJ])
      go_ret
      exact ⟨rfl, b1⟩
  · obtain ⟨hg1, hg2⟩ : inI m 1 65536 = true ∧ inI size 1 4096 = true := by
      cases h1 : inI m 1 65536 <;> cases h2 : inI size 1 4096 <;> simp_all
    have hm : 1 ≤ m ∧ m ≤ 65536 := by simpa [inI] using hg1
    have HI := hide hg1
    have HJ := hide hg2
    have P1 := hide (V.good w m size hg1 hg2)
    clear hg hg1 hg2
    go_enter Tryz.func5, Tryz.ntmps5
    go_wp2_with fail
    refine (unhide P1).mono ?_
    rintro e w1 ⟨p, F1, rfl, h1, b1⟩
    have V1 := hide (And.intro h1 b1)
    clear P1 h1 b1
    by_cases h60 : 60 < l.length
    · have hd : (60 : Int) < (l.length : Int) := by omega
      go_wp2_with (go_at_call 9; refine (in_any _ _ _ _).mono ?_; rintro e w2 ⟨rfl, rfl⟩; first | rw [unhide HI] | rw [unhide HJ])
      go_ret
      exact ⟨rfl, (unhide V1).2⟩
    · have hd : decide ((60 : Int) < (l.length : Int)) = false := decide_eq_false (by omega)
      have hs1 : (w1.alloc (.cells #[.int .i64 m, .slice none 0 0] 31)).heap.size = w1.heap.size + 1 := by simp
      have hs2 : ((w1.alloc (.cells #[.int .i64 m, .slice none 0 0] 31)).alloc (.cells #[.slice none 0 0, .int .i64 0] 65)).heap.size = w1.heap.size + 1 + 1 := by simp
      have HP := hide (PV.begins V (unhide V1).1 (unhide V1).2 rfl rfl rfl)
      rw [hs1, hs2] at HP
      obtain ⟨x, hx⟩ : ∃ x, x = w1.heap.size + 1 + 1 := ⟨_, rfl⟩
      obtain ⟨W, hW⟩ : ∃ W, W = (((w1.alloc (.cells #[.int .i64 m, .slice none 0 0] 31)).alloc (.cells #[.slice none 0 0, .int .i64 0] 65)).alloc (.cells #[.pointer (some ⟨w1.heap.size, 0, none⟩), .pointer (some ⟨w1.heap.size + 1, 0, none⟩), .int .i64 size] 73)) := ⟨_, rfl⟩
      rw [← hx, ← hW] at HP
      have HV0 := hide (VOk.nil (m := m) (by omega))
      clear V1 hs1 hs2
      go_wp2_with (go_at_call 9; refine (in_any _ _ _ _).mono ?_; rintro e w1 ⟨rfl, rfl⟩; first | rw [unhide HI] | rw [unhide HJ])
      rw [← hx, ← hW]
      generalize w1.heap.size = d at HP
      clear hx hW
      go_loopw [62] (fun iv wr => ∃ (k : Nat) (es : List Pap) (s : Sto), iv = .int .i64 k ∧ k ≤ l.length ∧ Hid (VOk m es s) ∧ Hid (PV VH w wr p x d m size es s es s)) (fun iv _ => l.length - (intOf iv).toNat)
      case atStart => exact ⟨0, [], ⟨[], 0⟩, rfl, Nat.zero_le _, HV0, HP⟩
      case round =>
        clear HP HV0
        obtain ⟨k, es, s, rfl, hk, HV, HP⟩ := hrel
        by_cases hlt : k < l.length
        · obtain ⟨ba, bo, rfl, s6⟩ := unhide HSl k hlt
          have s7 : Six wr ba (bo + k * 6) (rc l k) := s6.below (unhide HP).bl s6.lt
          have hsm := unhide HM k hlt
          generalize rc l k = r at *
          obtain ⟨_, x0, x1, x2, x3, x4, x5⟩ := s7
          obtain ⟨b, hb⟩ : ∃ b, b = wr.heap.size := ⟨_, rfl⟩
          obtain ⟨W, hW⟩ : ∃ W, W = wr.alloc (.cells #[.int .i64 r.k, .int .i64 r.q, .int .i64 r.t, .string r.s, .string r.h, .string r.d] 43) := ⟨_, rfl⟩
          have B0 := hide (((unhide HP).box V r))
          rw [← hW, ← hb] at B0
          have B1 := hide ((unhide B0).next V (Below.refl _ _).drew)
          have k1 := (unhide B1).at
          have P1 := hide ((unhide B1).left V (fun F hF => V.did r hsm hF (unhide HV) hm.2 (unhide HJ) (unhide B1).bl.size))
          obtain ⟨E, hE⟩ : ∃ E, E = doE es s m size r := ⟨_, rfl⟩
          have HV1 := hide ((unhide HV).did (size := size) r)
          obtain ⟨es1, he1⟩ : ∃ z, z = doL es s m size r := ⟨_, rfl⟩
          obtain ⟨s1, hs1⟩ : ∃ z, z = doS es s m size r := ⟨_, rfl⟩
          rw [← he1, ← hs1] at HV1
          rw [← hE, ← he1, ← hs1] at P1
          have PR : Hid (∀ (W2 : World), PVB VH w W2 p x d m size es1 s1 es s b r → Calls Tryz.prog 33 #[.pointer (some ⟨x, 0, none⟩), .agg #[.int .i64 r.k, .int .i64 r.q, .int .i64 r.t, .string r.s, .string r.h, .string r.d]] W2 fun e w' => e = .returned (.int .i64 E) ∧ PVB VH w w' p x d m size es1 s1 es1 s1 b r) := hide (fun W2 h2 => by
            rw [hE, he1, hs1] at *
            exact h2.right V (fun G hG => sdo_any r hsm hG (unhide HV) hm.2 h2.bl.size))
          have hfew := (unhide HV1).tidy.few
          have hfit := (unhide HV1).tidy.fits
          clear s6 HP B0 hE he1 hs1 HV hsm
          go_wp2_with fail
          rw [← hW, ← hb]
          clear hW hb x0 x1 x2 x3 x4 x5
          go_region_held3 (At7 x 0 d b r) (first | assumption | go_keep)
            (first
              | (go_at_call 32; refine (unhide P1).mono ?_; rintro e w2 ⟨rfl, p2⟩; have k2 := p2.at; have P2 := hide (unhide PR w2 p2); clear p2)
              | (go_at_call 33; refine (unhide P2).mono ?_; rintro e w3 ⟨rfl, p3⟩; have k3 := p3.at; have P3 := hide (p3.left V (fun F hF => V.used hF (unhide HV1) hm.2 (unhide HJ) p3.bl.size)); clear p3)
              | (go_at_call 34; refine (unhide P3).mono ?_; rintro e w4 ⟨rfl, p4⟩; have k4 := p4.at; have B4 := hide p4; have P4 := hide (p4.dused (by omega) (by omega)); clear p4)
              | (go_at_call 35; refine (unhide P4).mono ?_; rintro e w4 ⟨rfl, rfl⟩))
          have y2 := (unhide B4).rb.c2
          clear k1 k2 k3 k4 P1 P2 P3 P4 PR B1
          go_wp2_with fail
          refine (rest_any r.t 6 _ (by decide) (by decide)).mono ?_
          rintro e w4 ⟨i, rfl, hi, rfl⟩
          clear y2
          by_cases i1 : i = 1
          · subst i1
            have PC := hide ((unhide B4).left V (fun F hF => C.crash n hF (unhide HV1) hm.2 (unhide HJ) (unhide B4).bl.size))
            clear B4
            go_wp2_with fail
            refine (unhide PC).mono ?_
            rintro e w5 ⟨rfl, p5⟩
            have PD := hide (p5.right V (fun G hG => scrash_any n hG (unhide HV1) hm.2 p5.bl.size))
            clear PC p5
            go_wp2_with fail
            refine (unhide PD).mono ?_
            rintro e w6 ⟨rfl, p6⟩
            have B6 := hide p6
            clear PD p6
            go_wp2_with fail
            have hfew6 := (unhide HV1).tidy.few
            have hfit6 := (unhide HV1).tidy.fits
            have B7 := hide ((unhide B6).next V (Below.refl _ _).drew)
            obtain ⟨c, vd, Gd, z0, z1, zl, zk, zc⟩ := (unhide B7).seen
            have k7 : At2d x d c _ := ⟨z0, z1⟩
            have HC := hide (And.intro zl zc)
            have P7 := hide ((unhide B7).store V (unhide HV1) hm.2 (unhide HJ))
            clear B6 z0 z1 zl zk zc
            go_region_held3 (At2d x d c) (first | assumption | go_keep)
              (first
                | (go_at_call 40; refine (unhide P7).mono ?_; rintro e w8 ⟨q8, F8, rfl, h8, p8, b8⟩; have k8 := At2d.below k7 (unhide HC).1 b8; have HC8 := hide (And.intro (Nat.lt_of_lt_of_le (unhide HC).1 b8.size) ((unhide HC).2.below b8)); have B8 := hide p8; have P8 := hide (same_store H HT HY f n (unhide HFz) h8 (unhide HC8).2 (unhide HV1).ok p8.bl.size); clear h8 p8 b8)
                | (go_at_call 30; refine (unhide P8).mono ?_; rintro e w9 ⟨rfl, b9⟩; have k9 := At2d.below k8 (unhide HC8).1 b9; have B9 := hide ((unhide B8).next V b9); have P9 := hide ((unhide B9).leftk V (fun F hF => V.used hF (unhide HV1) hm.2 (unhide HJ) (unhide B9).bl.size)); clear b9)
                | (go_at_call 34; refine (unhide P9).mono ?_; rintro e w10 ⟨rfl, p10, t10⟩; have k10 := k9.blk t10; have B10 := hide p10; have P10 := hide (p10.dused (by omega) (by omega)); clear p10 t10)
                | (go_at_call 35; refine (unhide P10).mono ?_; rintro e w10 ⟨rfl, rfl⟩))
            clear k7 k8 k9 k10 P7 P8 P9 P10 B7 B8 B9 HC HC8
            go_wp2_with fail
            refine ⟨⟨k + 1, es1, s1, by go_num, by omega, HV1, hide (unhide B10).pair⟩, ?_⟩
            simp [intOf]; omega
          · by_cases i3 : i = 3
            · subst i3
              have PC := hide ((unhide B4).left V (fun F hF => V.compact hF (unhide HV1) hm.2 (unhide HJ) (unhide B4).bl.size))
              have HV2 := hide ((unhide HV1).comp (size := size))
              have PR : Hid (∀ (W2 : World), PVB VH w W2 p x d m size (compF es1 s1 m size) s1 es1 s1 b r → Calls Tryz.prog 39 #[.pointer (some ⟨x, 0, none⟩)] W2 fun e w' => e = .returned (.int .i64 (compE es1 s1 m size)) ∧ PVB VH w w' p x d m size (compF es1 s1 m size) s1 (compF es1 s1 m size) s1 b r) := hide (fun W2 h2 => h2.right V (fun G hG => scompact_any hG (unhide HV1) hm.2 h2.bl.size))
              obtain ⟨E3, hE3⟩ : ∃ E, compE es1 s1 m size = E := ⟨_, rfl⟩
              obtain ⟨es2, he2⟩ : ∃ z, compF es1 s1 m size = z := ⟨_, rfl⟩
              rw [hE3, he2] at PC PR
              rw [he2] at HV2
              clear B4 HV1 hE3 he2 hfew hfit
              go_wp2_with fail
              refine (unhide PC).mono ?_
              rintro e w5 ⟨rfl, p5⟩
              have PD := hide (unhide PR w5 p5)
              clear PC p5 PR
              go_wp2_with fail
              refine (unhide PD).mono ?_
              rintro e w6 ⟨rfl, p6⟩
              have B6 := hide p6
              clear PD p6
              go_wp2_with fail
              have hfew6 := (unhide HV2).tidy.few
              have hfit6 := (unhide HV2).tidy.fits
              have B7 := hide ((unhide B6).next V (Below.refl _ _).drew)
              obtain ⟨c, vd, Gd, z0, z1, zl, zk, zc⟩ := (unhide B7).seen
              have k7 : At2d x d c _ := ⟨z0, z1⟩
              have HC := hide (And.intro zl zc)
              have P7 := hide ((unhide B7).store V (unhide HV2) hm.2 (unhide HJ))
              clear B6 z0 z1 zl zk zc
              go_region_held3 (At2d x d c) (first | assumption | go_keep)
                (first
                  | (go_at_call 40; refine (unhide P7).mono ?_; rintro e w8 ⟨q8, F8, rfl, h8, p8, b8⟩; have k8 := At2d.below k7 (unhide HC).1 b8; have HC8 := hide (And.intro (Nat.lt_of_lt_of_le (unhide HC).1 b8.size) ((unhide HC).2.below b8)); have B8 := hide p8; have P8 := hide (same_store H HT HY f n (unhide HFz) h8 (unhide HC8).2 (unhide HV2).ok p8.bl.size); clear h8 p8 b8)
                  | (go_at_call 30; refine (unhide P8).mono ?_; rintro e w9 ⟨rfl, b9⟩; have k9 := At2d.below k8 (unhide HC8).1 b9; have B9 := hide ((unhide B8).next V b9); have P9 := hide ((unhide B9).leftk V (fun F hF => V.used hF (unhide HV2) hm.2 (unhide HJ) (unhide B9).bl.size)); clear b9)
                  | (go_at_call 34; refine (unhide P9).mono ?_; rintro e w10 ⟨rfl, p10, t10⟩; have k10 := k9.blk t10; have B10 := hide p10; have P10 := hide (p10.dused (by omega) (by omega)); clear p10 t10)
                  | (go_at_call 35; refine (unhide P10).mono ?_; rintro e w10 ⟨rfl, rfl⟩))
              clear k7 k8 k9 k10 P7 P8 P9 P10 B7 B8 B9 HC HC8
              go_wp2_with fail
              refine ⟨⟨k + 1, es2, s1, by go_num, by omega, HV2, hide (unhide B10).pair⟩, ?_⟩
              simp [intOf]; omega
            · have q1 : ¬ ((i : Int) = 1) := by omega
              have q3 : ¬ ((i : Int) = 3) := by omega
              go_wp2_with fail
              have hfew6 := (unhide HV1).tidy.few
              have hfit6 := (unhide HV1).tidy.fits
              have B7 := hide ((unhide B4).next V (Below.refl _ _).drew)
              obtain ⟨c, vd, Gd, z0, z1, zl, zk, zc⟩ := (unhide B7).seen
              have k7 : At2d x d c _ := ⟨z0, z1⟩
              have HC := hide (And.intro zl zc)
              have P7 := hide ((unhide B7).store V (unhide HV1) hm.2 (unhide HJ))
              clear B4 z0 z1 zl zk zc
              go_region_held3 (At2d x d c) (first | assumption | go_keep)
                (first
                  | (go_at_call 40; refine (unhide P7).mono ?_; rintro e w8 ⟨q8, F8, rfl, h8, p8, b8⟩; have k8 := At2d.below k7 (unhide HC).1 b8; have HC8 := hide (And.intro (Nat.lt_of_lt_of_le (unhide HC).1 b8.size) ((unhide HC).2.below b8)); have B8 := hide p8; have P8 := hide (same_store H HT HY f n (unhide HFz) h8 (unhide HC8).2 (unhide HV1).ok p8.bl.size); clear h8 p8 b8)
                  | (go_at_call 30; refine (unhide P8).mono ?_; rintro e w9 ⟨rfl, b9⟩; have k9 := At2d.below k8 (unhide HC8).1 b9; have B9 := hide ((unhide B8).next V b9); have P9 := hide ((unhide B9).leftk V (fun F hF => V.used hF (unhide HV1) hm.2 (unhide HJ) (unhide B9).bl.size)); clear b9)
                  | (go_at_call 34; refine (unhide P9).mono ?_; rintro e w10 ⟨rfl, p10, t10⟩; have k10 := k9.blk t10; have B10 := hide p10; have P10 := hide (p10.dused (by omega) (by omega)); clear p10 t10)
                  | (go_at_call 35; refine (unhide P10).mono ?_; rintro e w10 ⟨rfl, rfl⟩))
              clear k7 k8 k9 k10 P7 P8 P9 P10 B7 B8 B9 HC HC8
              go_wp2_with fail
              refine ⟨⟨k + 1, es1, s1, by go_num, by omega, HV1, hide (unhide B10).pair⟩, ?_⟩
              simp [intOf]; omega
        · go_wp2_with fail
          go_ret
          exact ⟨rfl, (unhide HP).bl⟩
end Go.Proofs.YtphhebdmfdjfeabGreatDoor.Dk

namespace Go.Proofs.YtphhebdmfdjfeabGreatDoor
open Go.Joins Go.Deep Go.WideShapes

section
variable {H : Type} {enc : TypeId × Value → H} {P : Program} {w : World} {base : Nat} {spare : Nat → Bool} {held : Bool}

theorem array6 {α : Type} {cs : Array α} (h : cs.size = 6) : ∃ c0 c1 c2 c3 c4 c5, cs = #[c0, c1, c2, c3, c4, c5] := by
  obtain ⟨l⟩ := cs
  match l, h with
  | [c0, c1, c2, c3, c4, c5], _ => exact ⟨c0, c1, c2, c3, c4, c5, rfl⟩
theorem trod_struct6 {t : TypeId} {f0 f1 f2 f3 f4 f5 : Field} {fuel : Nat} {cs : List Value} {x : DataW H × List MemPlace} (ht : P.underlying t = some (.struct #[f0, f1, f2, f3, f4, f5])) (h : DataW.trod enc P w base spare held fuel t cs = some x) :
    ∃ y0 y1 y2 y3 y4 y5 n, x = (.agg [y0.1, y1.1, y2.1, y3.1, y4.1, y5.1], y0.2 ++ (y1.2 ++ (y2.2 ++ (y3.2 ++ (y4.2 ++ y5.2))))) ∧ DataW.trod enc P w base spare held n f0.type ((cs.drop f0.offset).take (P.cellsOf f0.type)) = some y0 ∧
      DataW.trod enc P w base spare held n f1.type ((cs.drop f1.offset).take (P.cellsOf f1.type)) = some y1 ∧ DataW.trod enc P w base spare held n f2.type ((cs.drop f2.offset).take (P.cellsOf f2.type)) = some y2 ∧
      DataW.trod enc P w base spare held n f3.type ((cs.drop f3.offset).take (P.cellsOf f3.type)) = some y3 ∧ DataW.trod enc P w base spare held n f4.type ((cs.drop f4.offset).take (P.cellsOf f4.type)) = some y4 ∧
      DataW.trod enc P w base spare held n f5.type ((cs.drop f5.offset).take (P.cellsOf f5.type)) = some y5 := by
  obtain ⟨xs, n, _, rfl, hl, hlen, hf⟩ := DataW.trod_struct ht h
  match xs, hlen with
  | [y0, y1, y2, y3, y4, y5], _ => exact ⟨y0, y1, y2, y3, y4, y5, n, by simp, by simpa using hf 0 f0 rfl, by simpa using hf 1 f1 rfl, by simpa using hf 2 f2 rfl, by simpa using hf 3 f3 rfl, by simpa using hf 4 f4 rfl, by simpa using hf 5 f5 rfl⟩
theorem open_agg6 {r : Reach} {b0 : Nat} {t : TypeId} {f0 f1 f2 f3 f4 f5 : Field} {v : Value} {d : DataW H} {p : List MemPlace} (hs : P.underlying t = some (.struct #[f0, f1, f2, f3, f4, f5])) (hone : oneCellFields P #[f0, f1, f2, f3, f4, f5] = true) (hC : P.cellsOf t = 6)
    (hv : Value.okWide P w r b0 t v) (h : DataW.Trod enc P w base spare held t v d p) :
    ∃ (v0 v1 v2 v3 v4 v5 : Value) (y0 y1 y2 y3 y4 y5 : DataW H × List MemPlace) (n : Nat), v = .agg #[v0, v1, v2, v3, v4, v5] ∧ d = .agg [y0.1, y1.1, y2.1, y3.1, y4.1, y5.1] ∧ p = y0.2 ++ (y1.2 ++ (y2.2 ++ (y3.2 ++ (y4.2 ++ y5.2)))) ∧
      DataW.trod enc P w base spare held n f0.type [v0] = some y0 ∧ DataW.trod enc P w base spare held n f1.type [v1] = some y1 ∧ DataW.trod enc P w base spare held n f2.type [v2] = some y2 ∧
      DataW.trod enc P w base spare held n f3.type [v3] = some y3 ∧ DataW.trod enc P w base spare held n f4.type [v4] = some y4 ∧ DataW.trod enc P w base spare held n f5.type [v5] = some y5 := by
  obtain ⟨cs, rfl, hsz⟩ := okWide_struct hs hv
  obtain ⟨c0, c1, c2, c3, c4, c5, rfl⟩ := array6 (hsz.trans hC)
  obtain ⟨fuel, hf⟩ := h
  obtain ⟨y0, y1, y2, y3, y4, y5, n, hx, h0, h1, h2, h3, h4, h5⟩ := trod_struct6 hs hf
  obtain ⟨o0, k0⟩ := hone_of hone 0 f0 rfl
  obtain ⟨o1, k1⟩ := hone_of hone 1 f1 rfl
  obtain ⟨o2, k2⟩ := hone_of hone 2 f2 rfl
  obtain ⟨o3, k3⟩ := hone_of hone 3 f3 rfl
  obtain ⟨o4, k4⟩ := hone_of hone 4 f4 rfl
  obtain ⟨o5, k5⟩ := hone_of hone 5 f5 rfl
  simp only [Prod.mk.injEq] at hx
  exact ⟨c0, c1, c2, c3, c4, c5, y0, y1, y2, y3, y4, y5, n, rfl, hx.1, hx.2, by simpa [Value.cells, o0, k0] using h0, by simpa [Value.cells, o1, k1] using h1, by simpa [Value.cells, o2, k2] using h2, by simpa [Value.cells, o3, k3] using h3, by simpa [Value.cells, o4, k4] using h4, by simpa [Value.cells, o5, k5] using h5⟩
end
end Go.Proofs.YtphhebdmfdjfeabGreatDoor
