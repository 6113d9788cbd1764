/-
  The walk of the law StoreSeeks, over what is asked of any store.
-/
import Derived.Test.YtcdajajekmichafDoorWalkQ4a
import Derived.Test.YtcdajajekmichafDoorJointWorksSWorksT
import Derived.RegionTactic
import Derived.Deep.RegionLaw
import Derived.Deep.RegionHeld3
namespace Go.Proofs.YtcdajajekmichafDoor.Dk
open Go.RowKit

set_option maxRecDepth 100000 in
set_option maxHeartbeats 2000000 in
theorem seeks_law {SH : World → Nat → Nat → (Nat → Prop) → Sto → Prop} (H : SWorks SH) (l : List Rc) (a : Option Addr) (c : Nat) (f : ByteArray) (w : World) (hsl : SlR w a l) (hsm : ∀ k, k < l.length → Small (rc l k)) (hf : f.size ≤ 140737488355328) :
    Calls Tryd.prog 4 #[.slice a l.length c, .string f] w fun e w' => e = .returned (.bool true) ∧ Below w.heap.size w w' := by
  have HSl := hide hsl
  have HM := hide hsm
  clear hsl hsm
  go_enter Tryd.func4, Tryd.ntmps4
  go_wp2_with fail
  refine (note_any 4 w).mono ?_
  rintro e w1 ⟨rfl, b1⟩
  have B1 := hide b1
  clear b1
  go_wp2_with fail
  refine (note_any 7 w1).mono ?_
  rintro e w2 ⟨rfl, b2⟩
  have B2 := hide (bstep (unhide B1) b2)
  clear b2 B1
  have S3 := hide (row_recs w2 [noteR 4, noteR 7] 26)
  have B3 := hide (bstep (unhide B2) ((Below.refl _ w2).alloc (Nat.le_refl _) (.cells (celR [noteR 4, noteR 7]).toArray 26)))
  have PF := hide (filled_any H [noteR 4, noteR 7] (some ⟨w2.heap.size, 0, none⟩) 2 _ (unhide S3) (fun k hk => by
    match k, hk with
    | 0, _ => exact ⟨by decide, by decide, by decide⟩
    | 1, _ => exact ⟨by decide, by decide, by decide⟩) (by decide))
  go_wp2_with fail
  refine (unhide PF).mono ?_
  rintro e w4 ⟨q3, rfl, m4⟩
  have B4 : Hid (Below w.heap.size w w4) := hide (by
    obtain ⟨_, _, hb⟩ := m4
    exact (unhide B3).trans (hb.mono (unhide B3).size))
  have PS := hide (m4.next H (fill_ok _) ⟨#[97, 46, 42]⟩ 5 (by decide))
  rw [two_next] at PS
  clear m4 PF S3 B3 B2
  go_wp2_with fail
  refine (unhide PS).mono ?_
  rintro e w5' ⟨rfl, b5⟩
  have B5' := hide (bstep (unhide B4) b5)
  clear b5 PS B4
  have RX := hide (RB.new w5' 1 7 0 ⟨#[97, 46, 98]⟩ ⟨#[]⟩ ⟨#[120]⟩ 26)
  have B5 : Hid (Below w.heap.size w (w5'.alloc (.cells #[.int .i64 1, .int .i64 7, .int .i64 0, .string ⟨#[97, 46, 98]⟩, .string ⟨#[]⟩, .string ⟨#[120]⟩] 26))) := hide ((unhide B5').alloc (unhide B5').size _)
  obtain ⟨w5, hw5⟩ : ∃ w5, w5 = w5'.alloc (.cells #[.int .i64 1, .int .i64 7, .int .i64 0, .string ⟨#[97, 46, 98]⟩, .string ⟨#[]⟩, .string ⟨#[120]⟩] 26) := ⟨_, rfl⟩
  obtain ⟨_, p0, p1, p2, p3, p4, p5, _⟩ := unhide RX
  by_cases hl : 250 < l.length
  · have hd : (250 : Int) < (l.length : Int) := by omega
    clear hw5
    go_wp2_with fail
    go_ret
    exact ⟨rfl, unhide B5⟩
  · have hd : decide ((250 : Int) < (l.length : Int)) = false := decide_eq_false (by omega)
    have S5 : Hid (SlR (w5'.alloc (.cells #[.int .i64 1, .int .i64 7, .int .i64 0, .string ⟨#[97, 46, 98]⟩, .string ⟨#[]⟩, .string ⟨#[120]⟩] 26)) a l) := hide (fun k hk => by
      obtain ⟨b, o, h1, h2⟩ := unhide HSl k hk
      exact ⟨b, o, h1, h2.below (unhide B5) h2.lt⟩)
    have PF := hide (filled_any H l a c _ (unhide S5) (unhide HM) (by omega))
    clear S5 HSl hw5
    go_wp2_with fail
    refine (unhide PF).mono ?_
    rintro e w6 ⟨q, rfl, m6⟩
    have B6 : Hid (Below w.heap.size w w6) := hide (by
      obtain ⟨_, _, hb⟩ := m6
      exact (unhide B5).trans (hb.mono (unhide B5).size))
    have hok := fill_ok l
    obtain ⟨s, hs⟩ : ∃ s, s = fillS l := ⟨_, rfl⟩
    rw [← hs] at m6 hok
    have HOk := hide hok
    have hfew := hok.few
    have htl := took_len (f := f) hok
    have M6 : Hid (∃ W5, Made SH W5 w6 q s) := hide ⟨_, m6⟩
    clear m6 PF hs hok RX p0 p1 p2 p3 p4 p5 B5 B5'
    obtain ⟨W5, m6⟩ := unhide M6
    have M6' := hide m6
    clear m6 M6
    go_wp2_with fail
    obtain ⟨T, hT⟩ : ∃ T, T = tookL f s.l := ⟨_, rfl⟩
    have HNx : Hid (∀ wr k n, Below w6.heap.size w6 wr → Gone T k n → Calls Tryd.prog 11 #[.pointer (some ⟨q, 0, none⟩), .string f, .int .i64 n] wr fun e w' => e = .returned (if k < T.length then .tuple #[aggR (rc T k), .int .i64 0] else .tuple #[aggR zeroR, .int .i64 (noE f)]) ∧ Below wr.heap.size wr w') := hide (fun wr k n hb hg => by
      rw [hT] at hg ⊢
      rw [← next_at (unhide HOk) hg]
      exact ((unhide M6').below H hb).next H (unhide HOk) f n hf)
    rw [← hT] at htl
    have HTq : Hid (∀ k, k < T.length → 1 ≤ (rc T k).q ∧ (rc T k).q ≤ 1099511627776) := hide (fun k hk => (unhide HOk).seq (took_mem (f := f) (by rw [← hT, rc_get hk]; exact List.getElem_mem hk)))
    go_loopw [8, 11] (fun gv av wr => ∃ (k : Nat) (n : Int), av = .int .i64 n ∧ k ≤ T.length ∧ Hid (Gone T k n) ∧ Hid (Seek w6 wr gv T k)) (fun gv _ _ => T.length + 1 - lenV gv)
    case atStart => exact ⟨0, 0, rfl, Nat.zero_le _, hide (Gone.start T), hide (Seek.start w6 T)⟩
    case round =>
      obtain ⟨k, n, rfl, hk, HG, HK⟩ := hrel
      obtain ⟨av, cv, rfl, hcv1, hcv2⟩ := (unhide HK).1.shape
      unfold maxLen at hcv2
      have hln : (seqL (T.take k)).length = k := by rw [seqL_len, List.length_take]; omega
      rw [hln] at hcv1 HK ⊢
      have PN := hide (unhide HNx wr k n (unhide HK).2.2 (unhide HG))
      have hk200 : (k : Int) ≤ 200 := by omega
      by_cases hlt : k < T.length
      · rw [if_pos hlt] at PN
        obtain ⟨y, hy⟩ : ∃ y, y = rc T k := ⟨_, rfl⟩
        have hyq := unhide HTq k hlt
        rw [← hy] at PN hyq
        unfold aggR at PN
        clear hln
        go_wp2_with fail
        refine (unhide PN).mono ?_
        rintro e w7 ⟨rfl, b7⟩
        have b8 : Below wr.heap.size wr (w7.alloc (.cells #[.int .i64 y.k, .int .i64 y.q, .int .i64 y.t, .string y.s, .string y.h, .string y.d] 26)) := b7.alloc b7.size _
        have K1 := (unhide HK).below b8.drew
        have R1 := (RB.new w7 y.k y.q y.t y.s y.h y.d 26).drew
        obtain ⟨a', n', c', w8, hrun, R8, L8, K8⟩ := K1.more hlt htl hy R1 (fun g hg z => by
          have := (World.ownsRow.lt (unhide HK).1 g hg).2
          have := b7.size
          omega)
        have hrun2 : (Builtin.append_ #[41, 41] 41 #[.slice av k cv, .slice (some ⟨w7.heap.size + 1, 0, none⟩) 1 1]).run Tryd.prog ((w7.alloc (.cells #[.int .i64 y.k, .int .i64 y.q, .int .i64 y.t, .string y.s, .string y.h, .string y.d] 26)).alloc (.cells #[.int .i64 y.q] 3)).drew = .ok (.slice a' n' c') w8 := by
          have e : ((w7.alloc (.cells #[.int .i64 y.k, .int .i64 y.q, .int .i64 y.t, .string y.s, .string y.h, .string y.d] 26)).drew).heap.size = w7.heap.size + 1 := by simp
          rw [e] at hrun
          exact hrun
        have Y2 := hide hrun2
        have Y8 := hide K8
        obtain ⟨_, z0, z1, z2, z3, z4, z5, _⟩ := R8
        obtain ⟨_, l0, l1, l2, l3, l4, l5, lf⟩ := L8
        have f0 := lf 0
        have f1 := lf 1
        have f2 := lf 2
        have f3 := lf 3
        have f4 := lf 4
        have f5 := lf 5
        have HN' := hide ((unhide Y8).len (show k + 1 ≤ T.length from hlt))
        have HT := hide hT
        have HWr : Hid (IntKind.i64.wrap (y.q + 1) = y.q + 1) := hide (by rw [IntKind.wrap_i64]; omega)
        have HG2 : Hid (Gone T (k + 1) (y.q + 1)) := hide (by rw [hy, rc_get hlt]; exact Gone.step hlt)
        clear hrun hrun2 K8 K1 R1 lf b8 b7 PN HK hy hT
        go_wp2_with fail
        go_region_law (refine step_append_runQ rfl _ _ 41 41 rfl (.slice av k cv) _ (by first | (simp [Act.eval]; done) | (simp [Act.eval, Act.put]; done)) (by first | (simp [Act.eval]; done) | (simp [Act.eval, Act.put]; done)) (unhide Y2) ?_)
        all_goals clear Y2 z0 z1 z2 z3 z4 z5 l0 l1 l2 l3 l4 l5 f0 f1 f2 f3 f4 f5
        all_goals go_wp2_with fail
        all_goals refine ⟨⟨k + 1, y.q + 1, congrArg _ (unhide HWr), hlt, HG2, Y8⟩, ?_⟩
        all_goals rw [show lenV (.slice a' n' c') = k + 1 from unhide HN', show lenV (.slice av k cv) = k from rfl]
        all_goals omega
      · obtain rfl : k = T.length := by omega
        rw [if_neg hlt] at PN
        obtain ⟨E, hE⟩ : ∃ E, E = noE f := ⟨_, rfl⟩
        have hE0 : (E != 0) = true := by rw [hE]; simpa using noE_ne f
        rw [← hE] at PN
        unfold aggR zeroR at PN
        have HE := hide hE
        have HT := hide hT
        clear hln hE hT hlt HG
        go_wp2_with fail
        refine (unhide PN).mono ?_
        rintro e w7 ⟨rfl, b7⟩
        have b8 : Below wr.heap.size wr (w7.alloc (.cells #[.int .i64 0, .int .i64 0, .int .i64 0, .string ⟨#[]⟩, .string ⟨#[]⟩, .string ⟨#[]⟩] 26)) := b7.alloc b7.size _
        have K3 := hide ((unhide HK).below b8)
        have PA := hide (((unhide M6').below H (unhide K3).2.2).all H (unhide HOk))
        clear b7 b8 PN HK
        go_wp2_with fail
        refine (unhide PA).mono ?_
        rintro e w9 ⟨a1, c1, rfl, ⟨hc1, hc2⟩, s9, m9, b9⟩
        unfold maxLen at hc2
        have K9 := hide ((unhide K3).below b9)
        have S9 := hide s9
        have M9 := hide m9.made
        clear s9 m9 b9 PA K3
        go_wp2_with fail
        go_loopw [9, 63] (fun wv iv wr => ∃ (k : Nat), iv = .int .i64 k ∧ k ≤ s.l.length ∧ Hid (Nums wr w9.heap.size wv (seqL ((s.l.take k).filter (fun x => matchB f x.s))) ∧ Below w9.heap.size w9 wr)) (fun _ iv _ => s.l.length - (intOf iv).toNat)
        case atStart => exact ⟨0, rfl, Nat.zero_le _, hide ⟨World.ownsRow_nil _ _ _ _, Below.refl _ _⟩⟩
        case round =>
          obtain ⟨k, rfl, hk, HR⟩ := hrel
          have hwr := (unhide HR).2.size
          by_cases hlt : k < s.l.length
          · obtain ⟨ga, o, rfl, s6⟩ := unhide S9 k hlt
            obtain ⟨y, hy⟩ : ∃ y, y = rc s.l k := ⟨_, rfl⟩
            have s7 := s6.below (unhide HR).2 s6.lt
            have hft := keep_take (p := fun x => matchB f x.s) hlt
            have hys : (rc s.l k).s.size ≤ 135 := ((unhide HOk).small (by rw [rc_get hlt]; exact List.getElem_mem hlt)).1
            rw [← hy] at s7 hft hys
            obtain ⟨_, y0, y1, y2, y3, y4, y5⟩ := s7
            have hlen : (seqL ((s.l.take k).filter (fun x => matchB f x.s))).length ≤ 200 := by
              rw [seqL_len]
              refine Nat.le_trans (List.length_filter_le _ _) ?_
              rw [List.length_take]; omega
            have RX := hide (RB.new wr y.k y.q y.t y.s y.h y.d 26)
            have Hx : Hid (Below wr.heap.size wr (wr.alloc (.cells #[.int .i64 y.k, .int .i64 y.q, .int .i64 y.t, .string y.s, .string y.h, .string y.d] 26))) := hide ((Below.refl _ _).alloc (Nat.le_refl _) _)
            have HGo : Hid (matchB f y.s = false → ∀ w3, Below wr.heap.size wr w3 → Nums w3 w9.heap.size u9 (seqL ((s.l.take (k + 1)).filter (fun x => matchB f x.s))) ∧ Below w9.heap.size w9 w3) := hide (fun hg w3 hb3 => by
              rw [hft]
              simp only [hg, Bool.false_eq_true, if_false, List.append_nil]
              exact ⟨(unhide HR).1.below hb3, (unhide HR).2.trans (hb3.mono hwr)⟩)
            have HN : Hid (matchB f y.s = true → ∀ w3, Below wr.heap.size wr w3 → ∃ v8 w8, (Builtin.append_ #[41, 41] 41 #[u9, .slice (some ⟨w3.heap.size, 0, none⟩) 1 1]).run Tryd.prog (w3.alloc (.cells #[.int .i64 y.q] 3)) = .ok v8 w8 ∧ Nums w8 w9.heap.size v8 (seqL ((s.l.take (k + 1)).filter (fun x => matchB f x.s))) ∧ Below w9.heap.size w9 w8) := hide (fun hg w3 hb3 => by
              rw [hft]
              simp only [hg, if_true]
              rw [seqL_append]
              exact num_more ((unhide HR).1.below hb3) ((unhide HR).2.trans (hb3.mono hwr)) y.q (by omega) (Nat.le_trans hwr hb3.size))
            have PI := hide (isMatch_any f y.s (wr.alloc (.cells #[.int .i64 y.k, .int .i64 y.q, .int .i64 y.t, .string y.s, .string y.h, .string y.d] 26)) hf (by omega))
            obtain ⟨_, p0, p1, p2, p3, p4, p5, _⟩ := unhide RX
            clear hy hft s6 HR
            go_wp2_with fail
            refine (unhide PI).mono ?_
            rintro e w3 ⟨rfl, b3⟩
            have RX3 := hide ((unhide RX).next b3)
            have B3 := hide (bstep (unhide Hx) b3)
            clear b3 PI RX p0 p1 p2 p3 p4 p5
            cases hm : matchB f y.s with
            | false =>
              have G1 := hide (unhide HGo hm _ (unhide B3))
              clear HGo HN hm
              go_wp2_with fail
              refine ⟨⟨k + 1, by go_num, by omega, G1⟩, ?_⟩
              simp [intOf]; omega
            | true =>
              obtain ⟨v8, w8', hrun, n8⟩ := unhide HN hm _ (unhide B3)
              have N8 := hide n8
              have HRun := hide hrun
              obtain ⟨_, p0, p1, p2, p3, p4, p5, _⟩ := unhide RX3
              clear HGo HN hrun n8 hm
              go_wp2_with (at_builtin; refine Lib.wpList_append_run _ rfl _ _ _ _ rfl _ _ rfl rfl _ _ (unhide HRun) ?_)
              refine ⟨⟨k + 1, by go_num, by omega, N8⟩, ?_⟩
              simp [intOf]; omega
          · obtain rfl : k = s.l.length := by omega
            have h3 := unhide HR
            rw [List.take_length, ← took_match (fun x hx => right_msg ((unhide HOk).msg x hx).2 ((unhide HOk).msg x hx).1), ← unhide HT] at h3
            obtain ⟨aw, cw, rfl, hcw1, hcw2⟩ := h3.1.shape
            unfold maxLen at hcw2
            rw [seqL_len] at hcw1 h3 ⊢
            have PL := hide (((unhide M9).below H h3.2).last H (unhide HOk) f hf)
            rw [last_at, ← unhide HT, ← unhide HE] at PL
            have K3 := hide ((unhide K9).below (h3.2.mono (Nat.le_refl _)))
            have N3 := hide h3.1
            clear h3 HR S9 M9 K9 hlt
            by_cases hp : 0 < T.length
            · rw [if_pos hp] at PL
              have hlr : lastR T T.length = rc T (T.length - 1) := by
                obtain ⟨j, hj⟩ : ∃ j, T.length = j + 1 := ⟨T.length - 1, by omega⟩
                rw [hj]; rfl
              obtain ⟨y, hy⟩ : ∃ y, y = rc T (T.length - 1) := ⟨_, rfl⟩
              rw [← hy] at PL hlr
              unfold aggR at PL
              clear hy
              go_wp2_with fail
              refine (unhide PL).mono ?_
              rintro e w10 ⟨rfl, b10⟩
              have b11 : Below wr.heap.size wr (w10.alloc (.cells #[.int .i64 y.k, .int .i64 y.q, .int .i64 y.t, .string y.s, .string y.h, .string y.d] 26)) := b10.alloc b10.size _
              obtain ⟨n4, r4, b4⟩ := (unhide K3).below b11
              rw [hlr] at r4
              have N4 := hide n4
              have NW := hide ((unhide N3).below b11)
              have B4 := hide b4
              have hE1 : decide ((0 : Int) < (T.length : Int)) = true := decide_eq_true (by omega)
              obtain ⟨_, x0, x1, x2, x3, x4, x5, _⟩ := RB.new w10 y.k y.q y.t y.s y.h y.d 26
              obtain ⟨_, l0, l1, l2, l3, l4, l5, _⟩ := r4
              have PE := hide (seek_sameQ (by have := unhide N4; rw [List.take_length] at this; exact this) (unhide NW) htl)
              have hq := eqlR y
              clear hlr b10 PL n4 b4 K3
              go_wp2_with fail
              refine (unhide PE).mono ?_
              rintro e w11 ⟨rfl, nq, rfl⟩
              go_wp2_with fail
              go_ret
              exact ⟨rfl, below_drewN ((unhide B6).trans ((unhide B4).mono (unhide B6).size)) _⟩
            · rw [if_neg hp] at PL
              have hlr : lastR T T.length = zeroR := by
                rw [show T.length = 0 by omega]; rfl
              unfold aggR at PL
              have PL2 : Hid (Calls Tryd.prog 14 #[.pointer (some ⟨q, 0, none⟩), .string f] wr fun e w' => e = .returned (.tuple #[.agg #[.int .i64 0, .int .i64 0, .int .i64 0, .string ⟨#[]⟩, .string ⟨#[]⟩, .string ⟨#[]⟩], .int .i64 E]) ∧ Below wr.heap.size wr w') := hide (unhide PL)
              clear PL
              go_wp2_with fail
              refine (unhide PL2).mono ?_
              rintro e w10 ⟨rfl, b10⟩
              have b11 : Below wr.heap.size wr (w10.alloc (.cells #[.int .i64 0, .int .i64 0, .int .i64 0, .string ⟨#[]⟩, .string ⟨#[]⟩, .string ⟨#[]⟩] 26)) := b10.alloc b10.size _
              obtain ⟨n4, r4', b4⟩ := (unhide K3).below b11
              rw [hlr] at r4'
              have r4 : RB (w10.alloc (.cells #[.int .i64 0, .int .i64 0, .int .i64 0, .string ⟨#[]⟩, .string ⟨#[]⟩, .string ⟨#[]⟩] 26)) w6.heap.size 0 0 0 ⟨#[]⟩ ⟨#[]⟩ ⟨#[]⟩ := r4'
              have N4 := hide n4
              have NW := hide ((unhide N3).below b11)
              have B4 := hide b4
              have hE1 : decide ((0 : Int) < (T.length : Int)) = false := decide_eq_false (by omega)
              have hE2 : (E == 0) = false := by simpa using hE0
              have HE3 : Hid (true = !decide (0 < T.length)) := hide (by rw [decide_eq_false hp]; rfl)
              obtain ⟨_, x0, x1, x2, x3, x4, x5, _⟩ := RB.new w10 0 0 0 ⟨#[]⟩ ⟨#[]⟩ ⟨#[]⟩ 26
              obtain ⟨_, l0, l1, l2, l3, l4, l5, _⟩ := r4
              have PE := hide (seek_sameQ (by have := unhide N4; rw [List.take_length] at this; exact this) (unhide NW) htl)
              have hq : ∀ W : World, (binOp .eql 26 (.agg #[.int .i64 0, .int .i64 0, .int .i64 0, .string ⟨#[]⟩, .string ⟨#[]⟩, .string ⟨#[]⟩]) (.agg #[.int .i64 0, .int .i64 0, .int .i64 0, .string ⟨#[]⟩, .string ⟨#[]⟩, .string ⟨#[]⟩])).run Tryd.prog W = .ok (.bool true) W := eqlR zeroR
              clear hlr b10 PL2 n4 b4 K3 r4' hp
              go_wp2_with fail
              refine (unhide PE).mono ?_
              rintro e w11 ⟨rfl, nq, rfl⟩
              go_wp2_with fail
              go_ret
              exact ⟨ret_is (unhide HE3), below_drewN ((unhide B6).trans ((unhide B4).mono (unhide B6).size)) _⟩
end Go.Proofs.YtcdajajekmichafDoor.Dk
