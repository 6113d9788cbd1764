/-
  Contract of the document's store: Try.
  Contract of the document's store: Apply, but for what throws messages away.
  Contract of the document's store: Apply, where messages are thrown away.
-/
import Derived.Test.YtphhebdmfdjfeabGreatDoorJointRowTWalk3Walk4Walk6aWalkD1
import Derived.Test.YtphhebdmfdjfeabGreatDoorJointBase0RowZPlainPlainNPlainRecPlainSPlainR2PapDPapLPapMPapGPapN
import Derived.BigQuiet
import Derived.Test.YtphhebdmfdjfeabGreatDoorJointRowGRowBRowSRowURowVRowE
import Derived.RegionTactic
import Derived.Deep.RegionLaw
import Derived.Test.YtphhebdmfdjfeabGreatDoorJointWalkC3WalkC6WalkG1rWorksSWorksTaWorksTWorksYPapW
namespace Go.Proofs.YtphhebdmfdjfeabGreatDoor.Dk
open Go.RowKit

theorem put_none (a : Act) (v : Value) : a.put none v = a := rfl

set_option maxRecDepth 100000 in
set_option maxHeartbeats 1000000 in
theorem ctry_any {w : World} {B c : Nat} {F : Nat → Prop} {s : Sto} (r : Rc) (hr : Small r) (h : Che w B c F s) (hk : s.Ok) :
    Calls Tryz.prog 26 #[.pointer (some ⟨c, 0, none⟩), .agg #[.int .i64 r.k, .int .i64 r.q, .int .i64 r.t, .string r.s, .string r.h, .string r.d]] w fun e w' => e = .returned (.int .i64 (tryE s r)) ∧ Below w.heap.size w w' := by
  have hfew := hk.few
  have hlastq := hk.last
  have hsm : ∀ x ∈ s.l, x.s.size ≤ 135 := fun x hx => (hk.small hx).1
  have HS := hide hsm
  obtain ⟨a, cap, c0, c1, hcap, hcm, hsl, hcl⟩ := h.read
  unfold maxLen at hcm
  have HSl := hide hsl
  have HC : Hid (w.cell? ⟨c, 0, none⟩ = some (.slice a s.l.length cap) ∧ w.cell? ⟨c, 1, none⟩ = some (.int .i64 s.last)) := hide ⟨c0, c1⟩
  have C1 : Hid (∀ W, Calls Tryz.prog 54 #[.agg #[.int .i64 r.k, .int .i64 r.q, .int .i64 r.t, .string r.s, .string r.h, .string r.d]] W fun e w' => e = .returned (.int .i64 (chkR r)) ∧ Below W.heap.size W w') := hide (fun W => rrecord_any r.k r.q r.t r.s r.h r.d W hr.s hr.h hr.d)
  have R0 := hide (RB.new w r.k r.q r.t r.s r.h r.d 43)
  have hb0 := hide (((Below.refl w.heap.size w).alloc (Nat.le_refl _) (.cells #[.int .i64 r.k, .int .i64 r.q, .int .i64 r.t, .string r.s, .string r.h, .string r.d] 43)))
  obtain ⟨E, hE⟩ : ∃ E, chkR r = E := ⟨_, rfl⟩
  rw [hE] at C1
  have hmm := @run_makeMap Tryz.prog
  clear h hk hsm hsl c0 c1
  by_cases h0 : E = 0
  · subst h0
    obtain ⟨_, x0, x1, x2, x3, x4, x5, _⟩ := unhide R0
    go_enter Tryz.func26, Tryz.ntmps26
    go_wp2_with fail
    refine (unhide C1 _).mono ?_
    rintro e w1 ⟨rfl, b1⟩
    have R1 := hide ((unhide R0).next b1)
    have B1 := hide (bstep (unhide hb0) b1)
    have N1 : Hid (∃ D, Nam (w1.alloc (.map #[] 0)) w1.heap.size (s.l.take 0) D) := hide ⟨_, Nam.made w1⟩
    have L1 := hide (bstep (unhide B1) ((Below.refl _ w1).alloc (Nat.le_refl _) (.map #[] 0)))
    have hw1 : w.heap.size + 1 ≤ w1.heap.size := by have := b1.size; simp at this; omega
    clear b1 hb0 C1 x0 x1 x2 x3 x4 x5 R0
    go_wp2_with fail
    go_loopw [7, 8] (fun tv iv wr => ∃ (k : Nat) (b : Bool), iv = .int .i64 k ∧ tv = .bool b ∧ k ≤ s.l.length ∧ Hid (b = seqB (s.l.take k) r.q) ∧ Hid (∃ D, Nam wr w1.heap.size (s.l.take k) D) ∧ Hid (Below w.heap.size w wr) ∧ Hid (RB wr w.heap.size r.k r.q r.t r.s r.h r.d)) (fun _ iv _ => s.l.length - (intOf iv).toNat)
    case atStart => exact ⟨0, false, rfl, rfl, Nat.zero_le _, hide rfl, N1, L1, hide ((unhide R1).alloc _)⟩
    case round =>
      clear N1 L1 R1 B1
      obtain ⟨k, b, rfl, rfl, hk, HB, ⟨D, hN⟩, Hb, HR⟩ := hrel
      have hbs := (unhide Hb).size
      have c0 := ((unhide Hb).cell (p := ⟨c, 0, none⟩) hcl).trans (unhide HC).1
      have c1 := ((unhide Hb).cell (p := ⟨c, 1, none⟩) hcl).trans (unhide HC).2
      obtain ⟨_, x0, x1, x2, x3, x4, x5, _⟩ := unhide HR
      by_cases hlt : k < s.l.length
      · obtain ⟨ga, o, rfl, s6⟩ := unhide HSl k hlt
        have s7 := s6.below (unhide Hb) s6.lt
        have hgl := s6.lt
        obtain ⟨y, hy⟩ : ∃ y, y = rc s.l k := ⟨_, rfl⟩
        have htk : s.l.take (k + 1) = s.l.take k ++ [y] := by rw [hy, rc_get hlt]; exact List.take_succ_eq_append_getElem hlt
        have hys : y.s.size ≤ 135 := by rw [hy, rc_get hlt]; exact unhide HS _ (List.getElem_mem hlt)
        have hsq := seqB_take hlt r.q
        rw [← hy] at s7 hsq
        obtain ⟨_, y0, y1, y2, y3, y4, y5⟩ := s7
        have hym : y.s.size ≤ maxLen := by unfold maxLen; omega
        have hkey := keyS hym
        obtain ⟨n, hrun, hat, _⟩ := hN.own.lookup_int lawS Tryz.underlying105 Tryz.underlying3 (zeroI _) hkey
        have hn : n = (cntN (s.l.take k) y.s : Int) := by
          have h1 := hN.at' y.s hym
          rw [hat] at h1
          simpa using h1
        have hcn : cntN (s.l.take k) y.s ≤ k := by
          unfold cntN
          refine Nat.le_trans (List.length_filter_le _ _) ?_
          rw [List.length_take]; omega
        have hwn : IntKind.i64.wrap (n + 1) = n + 1 := by rw [IntKind.wrap_i64]; omega
        have hwf : (Lit.int .i64 (n + 1)).wf = true := WalkArith.wf_i64 (by omega)
        have hml := hN.own.lt
        have hlk : (s.l.take k).length < maxLen := by rw [List.length_take]; unfold maxLen; omega
        have HP : Hid (∀ w2, w2.ownsMap Tryz.prog 9 (plainElem Tryz.prog 3) w1.heap.size ((s.l.take k).length + 1) (D.put (kS y.s) (.lit (.int .i64 (n + 1)))) → wr.grownBy w2 (some w1.heap.size) → w2.cell? ⟨c, 0, none⟩ = some (.slice (some ⟨ga, o, none⟩) s.l.length cap) ∧ w2.cell? ⟨w.heap.size, 1, none⟩ = some (.int .i64 r.q) ∧ w2.cell? ⟨ga, o + k * 6 + 1, none⟩ = some (.int .i64 y.q) ∧ (∃ D', Nam w2 w1.heap.size (s.l.take (k + 1)) D') ∧ Below w.heap.size w w2 ∧ RB w2 w.heap.size r.k r.q r.t r.s r.h r.d) := hide (fun w2 ho hg => by
          have hc : Chg (fun k => k = w1.heap.size) wr w2 := (Chg.of_grown hg).mono (fun k _ z => (Option.some.inj z).symm)
          have e0 := (hc.cell (p := ⟨c, 0, none⟩) (show c < wr.heap.size by omega) (show ¬ c = w1.heap.size by omega)).trans c0
          have e1 := (hc.cell (p := ⟨w.heap.size, 1, none⟩) (unhide HR).lt (show ¬ w.heap.size = w1.heap.size by omega)).trans x1
          have e2 := (hc.cell (p := ⟨ga, o + k * 6 + 1, none⟩) (show ga < wr.heap.size by omega) (show ¬ ga = w1.heap.size by omega)).trans y1
          refine ⟨e0, e1, e2, ⟨D.put (kS y.s) (.lit (.int .i64 (n + 1))), ?_⟩, ?_, ?_⟩
          · rw [htk]
            rw [hn] at ho ⊢
            exact hN.put y hym ho
          · exact (unhide Hb).trans (hc.below (B := w.heap.size) (by omega) (fun k hk z => by omega))
          · exact (unhide HR).below (B := w1.heap.size) (hc.below (by omega) (fun k hk z => by omega)) (by omega))
        have HSq := hide hsq
        have hown := hN.own
        clear hy htk hsq hat hN s6 hn hcn
        cases b with
        | true =>
          go_wp2_with (first
            | (at_mapUpdate; refine wpList_mapUpdate_own _ rfl _ _ _ 105 rfl 9 3 lawS Tryz.underlying105 _ w1.heap.size _ _ rfl hown hlk _ _ _ rfl rfl hkey _ [] (plainElem_int Tryz.underlying3 hwf) ?_; intro w2 hown2 hgrow2; obtain ⟨d0, d1, d2, P2⟩ := unhide HP w2 hown2 hgrow2; have HP2 := hide P2; clear P2 hown2 hgrow2)
            | go_in)
          have HB2 : Hid (true = seqB (s.l.take (k + 1)) r.q) := hide (by rw [unhide HSq, ← unhide HB]; rfl)
          have N2 : Hid (∀ q, ∃ D', Nam (w2.drewN q) w1.heap.size (s.l.take (k + 1)) D') := hide (fun q => by obtain ⟨D', x⟩ := (unhide HP2).1; exact ⟨D', x.drewN q⟩)
          have B2 : Hid (∀ q, Below w.heap.size w (w2.drewN q)) := hide (fun q => below_drewN (unhide HP2).2.1 q)
          have R2 : Hid (∀ q, RB (w2.drewN q) w.heap.size r.k r.q r.t r.s r.h r.d) := hide (fun q => (unhide HP2).2.2.next (below_drewN (Below.refl _ _) q))
          clear HP2 HP HB HSq Hb HR hown hrun hkey
          rw [put_none]
          go_quiet (fail)
          go_wp2_with fail
          refine ⟨⟨k + 1, true, by go_num, rfl, by omega, HB2, hide (unhide N2 _), hide (unhide B2 _), hide (unhide R2 _)⟩, ?_⟩
          simp [intOf]; omega
        | false =>
          cases hq : (y.q == r.q) with
          | true =>
            go_wp2_with (first
              | (at_mapUpdate; refine wpList_mapUpdate_own _ rfl _ _ _ 105 rfl 9 3 lawS Tryz.underlying105 _ w1.heap.size _ _ rfl hown hlk _ _ _ rfl rfl hkey _ [] (plainElem_int Tryz.underlying3 hwf) ?_; intro w2 hown2 hgrow2; obtain ⟨d0, d1, d2, P2⟩ := unhide HP w2 hown2 hgrow2; have HP2 := hide P2; clear P2 hown2 hgrow2)
              | go_in)
            have HB2 : Hid (true = seqB (s.l.take (k + 1)) r.q) := hide (by rw [unhide HSq, ← unhide HB, decide_eq_true (by simpa using hq)]; rfl)
            have N2 : Hid (∀ q, ∃ D', Nam (w2.drewN q) w1.heap.size (s.l.take (k + 1)) D') := hide (fun q => by obtain ⟨D', x⟩ := (unhide HP2).1; exact ⟨D', x.drewN q⟩)
            have B2 : Hid (∀ q, Below w.heap.size w (w2.drewN q)) := hide (fun q => below_drewN (unhide HP2).2.1 q)
            have R2 : Hid (∀ q, RB (w2.drewN q) w.heap.size r.k r.q r.t r.s r.h r.d) := hide (fun q => (unhide HP2).2.2.next (below_drewN (Below.refl _ _) q))
            clear HP2 HP HB HSq Hb HR hown hrun hkey
            rw [put_none]
            go_quiet (fail)
            go_wp2_with fail
            refine ⟨⟨k + 1, true, by go_num, rfl, by omega, HB2, hide (unhide N2 _), hide (unhide B2 _), hide (unhide R2 _)⟩, ?_⟩
            simp [intOf]; omega
          | false =>
            go_wp2_with (first
              | (at_mapUpdate; refine wpList_mapUpdate_own _ rfl _ _ _ 105 rfl 9 3 lawS Tryz.underlying105 _ w1.heap.size _ _ rfl hown hlk _ _ _ rfl rfl hkey _ [] (plainElem_int Tryz.underlying3 hwf) ?_; intro w2 hown2 hgrow2; obtain ⟨d0, d1, d2, P2⟩ := unhide HP w2 hown2 hgrow2; have HP2 := hide P2; clear P2 hown2 hgrow2)
              | go_in)
            have HB2 : Hid (false = seqB (s.l.take (k + 1)) r.q) := hide (by rw [unhide HSq, ← unhide HB, decide_eq_false (by simpa using hq)]; rfl)
            have N2 : Hid (∀ q, ∃ D', Nam (w2.drewN q) w1.heap.size (s.l.take (k + 1)) D') := hide (fun q => by obtain ⟨D', x⟩ := (unhide HP2).1; exact ⟨D', x.drewN q⟩)
            have B2 : Hid (∀ q, Below w.heap.size w (w2.drewN q)) := hide (fun q => below_drewN (unhide HP2).2.1 q)
            have R2 : Hid (∀ q, RB (w2.drewN q) w.heap.size r.k r.q r.t r.s r.h r.d) := hide (fun q => (unhide HP2).2.2.next (below_drewN (Below.refl _ _) q))
            clear HP2 HP HB HSq Hb HR hown hrun hkey
            rw [put_none]
            go_quiet (fail)
            go_wp2_with fail
            refine ⟨⟨k + 1, false, by go_num, rfl, by omega, HB2, hide (unhide N2 _), hide (unhide B2 _), hide (unhide R2 _)⟩, ?_⟩
            simp [intOf]; omega
      · obtain rfl : k = s.l.length := by omega
        have HB2 : Hid (b = seqB s.l r.q) := hide (by have := unhide HB; rw [List.take_length] at this; exact this)
        have hN2 := hN
        rw [List.take_length] at hN2
        have hrm : r.s.size ≤ maxLen := by have := hr.s; unfold maxLen; omega
        obtain ⟨n, hn⟩ : ∃ n : Int, n = (cntN s.l r.s : Int) := ⟨_, rfl⟩
        have HX : Hid (∀ q, (Instr.lookup 105 (.map (some w1.heap.size)) (.string r.s) false).run Tryz.prog (wr.drewN q) = .ok (.int .i64 n) (wr.drewN q) ∧ ∀ ty, (Builtin.len_ #[105] ty #[.map (some w1.heap.size)]).run Tryz.prog (wr.drewN q) = .ok (.int .i64 (nameN s.l : Int)) (wr.drewN q)) := hide (fun q => by
          have hq := hN2.drewN q
          obtain ⟨m, h1, h2, _⟩ := hq.own.lookup_int lawS Tryz.underlying105 Tryz.underlying3 (zeroI _) (keyS hrm)
          have h3 := hq.at' r.s hrm
          rw [h2] at h3
          have h4 : m = n := by rw [hn]; simpa using h3
          rw [h4] at h1
          exact ⟨h1, fun ty => by rw [hq.own.len Tryz.underlying105 ty, hq.size]⟩)
        have HT : Hid (tryE s r = if r.k = 2 ∧ seqB s.l r.q = false then 4 else if r.k ≠ 1 then 0 else if r.q ≤ s.last then 9 else if 200 ≤ s.l.length ∨ (hasS s.l r.s = false ∧ 100 ≤ nameN s.l) then 8 else 0) := hide (by unfold tryE; rw [hE, if_neg (by simp)])
        have HH : Hid (hasS s.l r.s = decide (0 < n)) := hide (by rw [cntN_has, hn]; simp)
        have hn0 : 0 ≤ n := by rw [hn]; omega
        clear hN hN2 hn HB HR
        by_cases k2 : r.k = 2
        · have e2 : (r.k == 2) = true := by simpa using k2
          have e1 : (r.k != 1) = true := by simp [k2]
          cases b with
          | false =>
            have HRes : Hid (tryE s r = 4) := hide (by rw [unhide HT, if_pos ⟨k2, (unhide HB2).symm⟩])
            go_wp2_with fail
            go_ret
            rw [unhide HRes]
            exact ⟨rfl, unhide Hb⟩
          | true =>
            have HRes : Hid (tryE s r = 0) := hide (by rw [unhide HT, if_neg (by rw [← unhide HB2]; simp), if_pos (by omega)])
            go_wp2_with fail
            go_ret
            rw [unhide HRes]
            exact ⟨rfl, unhide Hb⟩
        · have e2 : (r.k == 2) = false := by simpa using k2
          by_cases k1 : r.k = 1
          · have e1 : (r.k != 1) = false := by simp [k1]
            have HT2 : Hid (tryE s r = if r.q ≤ s.last then 9 else if 200 ≤ s.l.length ∨ (hasS s.l r.s = false ∧ 100 ≤ nameN s.l) then 8 else 0) := hide (by rw [unhide HT, if_neg (fun z => k2 z.1), if_neg (by omega)])
            by_cases hq : r.q ≤ s.last
            · have HRes : Hid (tryE s r = 9) := hide (by rw [unhide HT2, if_pos hq])
              have hd : decide (r.q ≤ s.last) = true := decide_eq_true hq
              have B2 : Hid (∀ q, Below w.heap.size w (wr.drewN q)) := hide (fun q => below_drewN (unhide Hb) q)
              go_wp2_with fail
              go_quiet (fail)
              go_wp2_with fail
              go_ret
              rw [unhide HRes]
              exact ⟨rfl, unhide B2 _⟩
            · have hd : decide (r.q ≤ s.last) = false := decide_eq_false hq
              have HT3 : Hid (tryE s r = if 200 ≤ s.l.length ∨ (hasS s.l r.s = false ∧ 100 ≤ nameN s.l) then 8 else 0) := hide (by rw [unhide HT2, if_neg hq])
              have B2 : Hid (∀ q, Below w.heap.size w (wr.drewN q)) := hide (fun q => below_drewN (unhide Hb) q)
              by_cases h2 : 200 ≤ s.l.length
              · have HRes : Hid (tryE s r = 8) := hide (by rw [unhide HT3, if_pos (.inl h2)])
                have hd2 : decide ((200 : Int) ≤ (s.l.length : Int)) = true := decide_eq_true (by omega)
                go_wp2_with fail
                go_quiet (fail)
                obtain ⟨z1, z2⟩ := unhide HX nq
                go_wp2_with fail
                go_ret
                rw [unhide HRes]
                exact ⟨rfl, unhide B2 _⟩
              · have hd2 : decide ((200 : Int) ≤ (s.l.length : Int)) = false := decide_eq_false (by omega)
                by_cases h3 : n = 0
                · have HT4 : Hid (tryE s r = if 100 ≤ nameN s.l then 8 else 0) := hide (by
                    rw [unhide HT3]
                    by_cases z : 100 ≤ nameN s.l
                    · rw [if_pos (.inr ⟨by rw [unhide HH, h3]; rfl, z⟩), if_pos z]
                    · rw [if_neg (by omega), if_neg z])
                  have hd3 : (n == 0) = true := by simpa using h3
                  by_cases h4 : 100 ≤ nameN s.l
                  · have HRes : Hid (tryE s r = 8) := hide (by rw [unhide HT4, if_pos h4])
                    have hd4 : decide ((100 : Int) ≤ (nameN s.l : Int)) = true := decide_eq_true (by omega)
                    go_wp2_with fail
                    go_quiet (fail)
                    obtain ⟨z1, z2⟩ := unhide HX nq
                    go_wp2_with fail
                    go_ret
                    rw [unhide HRes]
                    exact ⟨rfl, unhide B2 _⟩
                  · have HRes : Hid (tryE s r = 0) := hide (by rw [unhide HT4, if_neg h4])
                    have hd4 : decide ((100 : Int) ≤ (nameN s.l : Int)) = false := decide_eq_false (by omega)
                    go_wp2_with fail
                    go_quiet (fail)
                    obtain ⟨z1, z2⟩ := unhide HX nq
                    go_wp2_with fail
                    go_ret
                    rw [unhide HRes]
                    exact ⟨rfl, unhide B2 _⟩
                · have HRes : Hid (tryE s r = 0) := hide (by
                    rw [unhide HT3, if_neg]
                    rintro (z | ⟨z, _⟩)
                    · exact h2 z
                    · rw [unhide HH, decide_eq_true (by omega)] at z; cases z)
                  have hd3 : (n == 0) = false := by simpa using h3
                  go_wp2_with fail
                  go_quiet (fail)
                  obtain ⟨z1, z2⟩ := unhide HX nq
                  go_wp2_with fail
                  go_ret
                  rw [unhide HRes]
                  exact ⟨rfl, unhide B2 _⟩
          · have e1 : (r.k != 1) = true := by simpa using k1
            have HRes : Hid (tryE s r = 0) := hide (by rw [unhide HT, if_neg (fun z => k2 z.1), if_pos k1])
            go_wp2_with fail
            go_ret
            rw [unhide HRes]
            exact ⟨rfl, unhide Hb⟩
  · have HR : Hid (tryE s r = E) := hide (by unfold tryE; rw [hE, if_pos h0])
    have h1 : (E != 0) = true := by simpa using h0
    obtain ⟨_, x0, x1, x2, x3, x4, x5, _⟩ := unhide R0
    clear hE
    go_enter Tryz.func26, Tryz.ntmps26
    go_wp2_with fail
    refine (unhide C1 _).mono ?_
    rintro e w1 ⟨rfl, b1⟩
    have B1 := hide (bstep (unhide hb0) b1)
    clear b1 hb0 C1 x0 x1 x2 x3 x4 x5 R0
    go_wp2_with fail
    go_ret
    rw [unhide HR]
    exact ⟨rfl, unhide B1⟩
end Go.Proofs.YtphhebdmfdjfeabGreatDoor.Dk

namespace Go.Proofs.YtphhebdmfdjfeabGreatDoor.Dk
open Go.RowKit

/-- an append whose run is known, as one step of a region that draws -/
theorem step_append_runT {P : Program} {ops : Array Oper} {o : Oper} {a : Act} {w : World} {K : Act → World → Prop} {Q : Exit → Act → World → Prop} {E : Prop}
    (hg : o.guard = none) (d x : Operand) (dT sT : TypeId) (hop : o.op = Op.call { callee := Callee.builtin Builtin.append, args := #[d, x], argTypes := #[dT, sT] })
    (v u : Value) (hd : a.eval d = v) (hx : a.eval x = u) {v' : Value} {w' : World} (hr : (Builtin.append_ #[dT, sT] o.type #[v, u]).run P w = .ok v' w') (hK : K (a.put o.dst v') w') :
    if Region.wanted o (yielded ops a.tmps) = true then Oper.wp P o a w K Q else E := by
  have hw : Region.wanted o (yielded ops a.tmps) = true := by simp [Region.wanted, hg]
  rw [if_pos hw]
  unfold Oper.wp
  simp [execOp, hop, resolve, invoke, builtin, hd, hx, hr, Result.andThen]
  exact hK
theorem DidS.below {w w' : World} {B c : Nat} {F : Nat → Prop} {s : Sto} (h : Che w B c F s) (hb : Below w.heap.size w w') : DidS Che w w' B c F s := ⟨F, h.below hb, Chg.of_below hb, fun _ hk => .inl hk⟩
def recO3 (r : Rc) : Obj := .cells #[.int .i64 r.k, .int .i64 r.q, .int .i64 r.t, .string r.s, .string r.h, .string r.d] 43
/-- a message more, and the last number -/
theorem che_more {w w1 : World} {B c : Nat} {F : Nat → Prop} {s : Sto} (h : Che w1 B c F s) (hb : Below w.heap.size w w1) (r : Rc) (hl : s.l.length ≤ 200000) (hB : B ≤ w1.heap.size) :
    ∃ a n cp a' n' cp' w8, w1.cell? ⟨c, 0, none⟩ = some (.slice a n cp) ∧ (Builtin.append_ #[36, 36] 36 #[.slice a n cp, .slice (some ⟨w1.heap.size, 0, none⟩) 1 1]).run Tryz.prog (w1.alloc (recO3 r)) = .ok (.slice a' n' cp') w8 ∧ w8.cell? ⟨c, 0, none⟩ = some (.slice a n cp) ∧ w8.frozen? ⟨c, 0, none⟩ = false ∧ w8.frozen? ⟨c, 1, none⟩ = false ∧ w8.cell? ⟨c, 1, none⟩ = some (.int .i64 s.last) ∧ Below w1.heap.size w1 (w1.alloc (recO3 r)) ∧ (∀ k, k < w1.heap.size → ¬ F k → w8.heap[k]? = w1.heap[k]?) ∧ DidS Che w ((w8.setCell ⟨c, 0, none⟩ (.slice a' n' cp')).setCell ⟨c, 1, none⟩ (.int .i64 r.q)) B c F ⟨s.l ++ [r], r.q⟩ := by
  obtain ⟨v, h1, h2, h3, h4, h5, h6, h7, h8⟩ := h
  have hb7 : Below w1.heap.size w1 (w1.alloc (recO3 r)) := (Below.refl _ _).alloc (Nat.le_refl _) _
  have h67 := h6.below hb7
  obtain ⟨v8, w8, hrun, A8, C8, L8⟩ := append_rec (w1.alloc (recO3 r)) B 36 v s.l [r] h67 ⟨w1.heap.size, 0, none⟩ 1 (six_row w1 r) (by simp; omega) (Nat.le_trans hB hb7.size)
  obtain ⟨a, cp, rfl, _⟩ := h6.shape
  obtain ⟨a', cp', hv8, _⟩ := A8.shape
  obtain ⟨n', hn'⟩ : ∃ n', n' = (s.l ++ [r]).length := ⟨_, rfl⟩
  rw [← hn'] at hv8
  subst hv8
  have hc7 : c < (w1.alloc (recO3 r)).heap.size := by have := h1.2; simp; omega
  have e0 : w8.cell? ⟨c, 0, none⟩ = some (.slice a s.l.length cp) := by rw [C8.cell (p := ⟨c, 0, none⟩) hc7 h7, hb7.cell (p := ⟨c, 0, none⟩) h1.2]; exact h2
  have e1 : w8.cell? ⟨c, 1, none⟩ = some (.int .i64 s.last) := by rw [C8.cell (p := ⟨c, 1, none⟩) hc7 h7, hb7.cell (p := ⟨c, 1, none⟩) h1.2]; exact h3
  have f0 : w8.frozen? ⟨c, 0, none⟩ = false := by rw [C8.frozen (p := ⟨c, 0, none⟩) hc7 h7, hb7.frozen (p := ⟨c, 0, none⟩) h1.2]; exact h4
  have f1 : w8.frozen? ⟨c, 1, none⟩ = false := by rw [C8.frozen (p := ⟨c, 1, none⟩) hc7 h7, hb7.frozen (p := ⟨c, 1, none⟩) h1.2]; exact h5
  have hout : ∀ k, k < w1.heap.size → ¬ F k → w8.heap[k]? = w1.heap[k]? := fun k hk hn => by
    rw [C8.block k (by simp; omega) (fun z => hn ((h8 k).2 (.inr z))), hb7.block k hk]
  have hc8 : c < w8.heap.size := Nat.lt_of_lt_of_le hc7 C8.size
  have hnc : (Value.slice a' n' cp').ownBlock ≠ some c := fun z => by
    rcases L8 c z with y | y
    · exact h7 y
    · have := h1.2; simp at y; omega
  have hS : Chg (fun k => k = c) w8 ((w8.setCell ⟨c, 0, none⟩ (.slice a' n' cp')).setCell ⟨c, 1, none⟩ (.int .i64 r.q)) :=
    (Chg.setCell (A := fun k => k = c) (p := ⟨c, 0, none⟩) (Chg.refl _ _) (.inl rfl) _).trans (Chg.setCell (A := fun k => k = c) (p := ⟨c, 1, none⟩) (Chg.refl _ _) (.inl rfl) _)
  have hFc : F c := (h8 c).2 (.inl rfl)
  refine ⟨a, s.l.length, cp, a', n', cp', w8, h2, hrun, e0, f0, f1, e1, hb7, hout, fun k => k = c ∨ (Value.slice a' n' cp').ownBlock = some k, ⟨.slice a' n' cp', ⟨h1.1, Nat.lt_of_lt_of_le hc8 hS.size⟩, ?_, ?_, ?_, ?_, A8.chg hS (fun g hg z => hnc (by rw [hg, z])), hnc, fun k => Iff.rfl⟩, ?_, fun k hk => ?_⟩
  · rw [World.cell?_setCell_other _ _ _ _ (by simp)]
    exact World.cell?_setCell_same _ _ _ (by rw [e0])
  · exact World.cell?_setCell_same _ _ _ (by rw [World.cell?_setCell_other _ _ _ _ (by simp), e1])
  · rw [World.frozen?_setCell, World.frozen?_setCell]; exact f0
  · rw [World.frozen?_setCell, World.frozen?_setCell]; exact f1
  · exact (((Chg.of_below (A := F) hb).trans (Chg.of_below hb7)).more C8 (fun i _ z => (h8 i).2 (.inr z))).more hS (fun i _ z => by subst z; exact hFc)
  · rcases hk with y | y
    · subst y; exact .inl hFc
    · rcases L8 k y with x | x
      · exact .inl ((h8 k).2 (.inr x))
      · exact .inr (by have := hb.size; simp at x; omega)

set_option maxRecDepth 100000 in
set_option maxHeartbeats 1000000 in
theorem capply_not {w : World} {B c : Nat} {F : Nat → Prop} {s : Sto} (r : Rc) (hr : Small r) (h : Che w B c F s) (hk : s.Ok) {E : Int} (hE : tryE s r = E) (h0 : E ≠ 0) :
    Calls Tryz.prog 29 #[.pointer (some ⟨c, 0, none⟩), .agg #[.int .i64 r.k, .int .i64 r.q, .int .i64 r.t, .string r.s, .string r.h, .string r.d]] w fun e w' => e = .returned (.int .i64 E) ∧ DidS Che w w' B c F s := by
  have hb0 := (((Below.refl w.heap.size w).alloc (Nat.le_refl _) (recO3 r)))
  have PT := hide (ctry_any r hr (h.below hb0) hk)
  rw [hE] at PT
  have HH := hide h
  have B0 := hide hb0
  obtain ⟨_, x0, x1, x2, x3, x4, x5, _⟩ := RB.new w r.k r.q r.t r.s r.h r.d 43
  have h1 : (E != 0) = true := by simpa using h0
  unfold recO3 at PT B0
  clear h hk hE hb0
  go_enter Tryz.func29, Tryz.ntmps29
  go_wp2_with fail
  refine (unhide PT).mono ?_
  rintro e w1 ⟨rfl, b1⟩
  have B1 := hide (bstep (unhide B0) b1)
  clear b1 PT B0 x0 x1 x2 x3 x4 x5
  go_wp2_with fail
  go_ret
  exact ⟨rfl, DidS.below (unhide HH) (unhide B1)⟩

set_option maxRecDepth 100000 in
set_option maxHeartbeats 1000000 in
theorem capply_msg {w : World} {B c : Nat} {F : Nat → Prop} {s : Sto} (r : Rc) (hr : Small r) (h : Che w B c F s) (hk : s.Ok) (hB : B ≤ w.heap.size) (hE : tryE s r = 0) (h1 : r.k = 1) :
    Calls Tryz.prog 29 #[.pointer (some ⟨c, 0, none⟩), .agg #[.int .i64 r.k, .int .i64 r.q, .int .i64 r.t, .string r.s, .string r.h, .string r.d]] w fun e w' => e = .returned (.int .i64 0) ∧ DidS Che w w' B c F ⟨s.l ++ [r], r.q⟩ := by
  have hfew := hk.few
  have hb0 := (((Below.refl w.heap.size w).alloc (Nat.le_refl _) (recO3 r)))
  have PT := hide (ctry_any r hr (h.below hb0) hk)
  rw [hE] at PT
  have hcl : c < w.heap.size := by obtain ⟨_, x, _⟩ := h; exact x.2
  have R0 := hide (RB.new w r.k r.q r.t r.s r.h r.d 43)
  obtain ⟨_, x0, x1, x2, x3, x4, x5, _⟩ := unhide R0
  have HX : Hid (∀ w1, Below w.heap.size w w1 → ∃ a n cp a' n' cp' w8, w1.cell? ⟨c, 0, none⟩ = some (.slice a n cp) ∧ (Builtin.append_ #[36, 36] 36 #[.slice a n cp, .slice (some ⟨w1.heap.size, 0, none⟩) 1 1]).run Tryz.prog (w1.alloc (recO3 r)) = .ok (.slice a' n' cp') w8 ∧ w8.cell? ⟨c, 0, none⟩ = some (.slice a n cp) ∧ w8.frozen? ⟨c, 0, none⟩ = false ∧ w8.frozen? ⟨c, 1, none⟩ = false ∧ w8.cell? ⟨c, 1, none⟩ = some (.int .i64 s.last) ∧ (∀ k, k < w1.heap.size → ¬ F k → w8.heap[k]? = w1.heap[k]?) ∧ DidS Che w ((w8.setCell ⟨c, 0, none⟩ (.slice a' n' cp')).setCell ⟨c, 1, none⟩ (.int .i64 r.q)) B c F ⟨s.l ++ [r], r.q⟩) := hide (fun w1 hb1 => by
    obtain ⟨a, n, cp, a', n', cp', w8, y1, y2, y3, y4, y5, y6, _, y8, y9⟩ := che_more (h.below hb1) hb1 r (by omega) (Nat.le_trans hB hb1.size)
    exact ⟨a, n, cp, a', n', cp', w8, y1, y2, y3, y4, y5, y6, y8, y9⟩)
  have HF : Hid (¬ F w.heap.size) := hide (fun z => by have := (h.own _ z).2; omega)
  have B0 := hide hb0
  unfold recO3 at PT B0
  have H1 := hide h1
  clear h hk hE hb0 h1
  go_enter Tryz.func29, Tryz.ntmps29
  go_wp2_with fail
  refine (unhide PT).mono ?_
  rintro e w1 ⟨rfl, b1⟩
  have b2 := (bstep (unhide B0) b1).drew
  have R1 := ((unhide R0).next b1).drew
  obtain ⟨a, n, cp, a', n', cp', w8, y1, y2, y3, y4, y5, y6, y8, y9⟩ := unhide HX w1.drew b2
  have q1 : w8.cell? ⟨w.heap.size, 1, none⟩ = some (.int .i64 r.q) := (World.cell?_of_block (w := w1.drew) (y8 w.heap.size R1.lt (unhide HF))).trans R1.c1
  have Y9 := hide y9
  have y1' : w1.cell? ⟨c, 0, none⟩ = some (.slice a n cp) := y1
  obtain ⟨_, z0, z1, z2, z3, z4, z5, _⟩ := (unhide R0).next b1
  have k1 : (r.k == 1) = true := by simpa using unhide H1
  have y2' : (Builtin.append_ #[36, 36] 36 #[.slice a n cp, .slice (some ⟨w1.heap.size, 0, none⟩) 1 1]).run Tryz.prog (w1.alloc (recO3 r)).drew = .ok (.slice a' n' cp') w8 := y2
  have y1'' : (w1.alloc (recO3 r)).cell? ⟨c, 0, none⟩ = some (.slice a n cp) := by rw [World.cell?_alloc_lt _ _ _ (show c < w1.heap.size from Nat.lt_of_lt_of_le hcl (bstep (unhide B0) b1).size)]; exact y1
  unfold recO3 at y2' y1''
  have Y2 := hide y2'
  clear b1 b2 y2 y2' y9 HX PT B0 x0 x1 x2 x3 x4 x5 y8 R0
  go_wp2_with fail
  go_region_law (refine step_append_runT rfl _ _ 36 36 rfl (.slice a n cp) _ (by simp [Act.eval]) (by simp [Act.eval]) (unhide Y2) ?_)
  all_goals clear Y2 y1 y1' y1'' z0 z1 z2 z3 z4 z5
  all_goals go_wp2_with fail
  all_goals go_ret
  all_goals exact ⟨rfl, unhide Y9⟩

set_option maxRecDepth 100000 in
set_option maxHeartbeats 1000000 in
theorem capply_mark {w : World} {B c : Nat} {F : Nat → Prop} {s : Sto} (r : Rc) (hr : Small r) (h : Che w B c F s) (hk : s.Ok) (hE : tryE s r = 0) (h4 : r.k = 4) :
    Calls Tryz.prog 29 #[.pointer (some ⟨c, 0, none⟩), .agg #[.int .i64 r.k, .int .i64 r.q, .int .i64 r.t, .string r.s, .string r.h, .string r.d]] w fun e w' => e = .returned (.int .i64 0) ∧ DidS Che w w' B c F ⟨s.l, max s.last r.q⟩ := by
  have hb0 := (((Below.refl w.heap.size w).alloc (Nat.le_refl _) (recO3 r)))
  have PT := hide (ctry_any r hr (h.below hb0) hk)
  rw [hE] at PT
  have R0 := hide (RB.new w r.k r.q r.t r.s r.h r.d 43)
  obtain ⟨_, x0, x1, x2, x3, x4, x5, _⟩ := unhide R0
  have HX : Hid (∀ w1, Below w.heap.size w w1 → w1.cell? ⟨c, 1, none⟩ = some (.int .i64 s.last) ∧ w1.frozen? ⟨c, 1, none⟩ = false ∧ DidS Che w (w1.setCell ⟨c, 1, none⟩ (.int .i64 (max s.last r.q))) B c F ⟨s.l, max s.last r.q⟩) := hide (fun w1 hb1 => by
    obtain ⟨v, y1, y2, y3, y4, y5, y6, y7, y8⟩ := h.below hb1
    have hS : Chg (fun k => k = c) w1 (w1.setCell ⟨c, 1, none⟩ (.int .i64 (max s.last r.q))) := Chg.setCell (A := fun k => k = c) (p := ⟨c, 1, none⟩) (Chg.refl _ _) (.inl rfl) _
    refine ⟨y3, y5, F, ⟨v, ⟨y1.1, Nat.lt_of_lt_of_le y1.2 hS.size⟩, ?_, ?_, ?_, ?_, y6.chg hS (fun g hg z => y7 (by rw [hg, z])), y7, y8⟩, (Chg.of_below (A := F) hb1).more hS (fun i _ z => by subst z; exact (y8 i).2 (.inl rfl)), fun _ hk => .inl hk⟩
    · rw [World.cell?_setCell_other _ _ _ _ (by simp)]; exact y2
    · exact World.cell?_setCell_same _ _ _ (by rw [y3])
    · rw [World.frozen?_setCell]; exact y4
    · rw [World.frozen?_setCell]; exact y5)
  have B0 := hide hb0
  unfold recO3 at PT B0
  have H4 := hide h4
  clear h hk hE hb0 h4
  go_enter Tryz.func29, Tryz.ntmps29
  go_wp2_with fail
  refine (unhide PT).mono ?_
  rintro e w1 ⟨rfl, b1⟩
  obtain ⟨y1, y2, y3⟩ := unhide HX w1.drew (bstep (unhide B0) b1).drew
  have Y3 := hide y3
  have y1' : w1.cell? ⟨c, 1, none⟩ = some (.int .i64 s.last) := y1
  have y2' : w1.frozen? ⟨c, 1, none⟩ = false := y2
  obtain ⟨_, z0, z1, z2, z3, z4, z5, _⟩ := (unhide R0).next b1
  have k1 : (r.k == 1) = false := by simp [unhide H4]
  have k4 : (r.k == 4) = true := by simpa using unhide H4
  clear b1 y3 HX PT B0 x0 x1 x2 x3 x4 x5 R0
  go_wp2_with fail
  go_region
  all_goals go_wp2_with fail
  all_goals go_ret
  all_goals exact ⟨rfl, unhide Y3⟩
end Go.Proofs.YtphhebdmfdjfeabGreatDoor.Dk

namespace Go.Proofs.YtphhebdmfdjfeabGreatDoor.Dk
open Go.RowKit

theorem chk_msg {r : Rc} (h : chkR r = 0) (h1 : r.k = 1) : errS false r.s = 0 := by
  have e := chkV_eq r.k r.q r.t r.s r.h r.d
  have e2 : chkV r.k r.q r.t r.s r.h r.d = 0 := h
  rw [e2] at e
  by_cases hb : Pk.inB r.k r.q r.t = false
  · rw [if_pos hb] at e; cases e
  · rw [if_neg hb, if_pos h1] at e
    unfold msgE at e
    by_cases z : errS false r.s ≠ 0
    · rw [if_pos z] at e; exact e.symm
    · exact Classical.byContradiction z
theorem chk_pur {r : Rc} (h : chkR r = 0) (h1 : r.k = 3) : errS true r.s = 0 := by
  have e := chkV_eq r.k r.q r.t r.s r.h r.d
  have e2 : chkV r.k r.q r.t r.s r.h r.d = 0 := h
  rw [e2] at e
  by_cases hb : Pk.inB r.k r.q r.t = false
  · rw [if_pos hb] at e; cases e
  · rw [if_neg hb, if_neg (by omega), if_pos h1] at e
    unfold purE at e
    by_cases z : errS true r.s ≠ 0
    · rw [if_pos z] at e; exact e.symm
    · exact Classical.byContradiction z
theorem takes_tk {f s : ByteArray} (hs : errS false s = 0) : takesL (Pl.toks f) (Pl.toks s) = tkB f s := by
  unfold tkB
  exact takes_cover2 _ _ (fun t ht => (subject_signs hs t ht).1)
theorem few_toks {wild : Bool} {s : ByteArray} (h : errS wild s = 0) : (Pl.pcs s.data.toList).length ≤ 1099511627776 := by
  have := few h
  rw [← Pl.toks_length]; omega
/-- one record more -/
theorem arr_snoc {w wr : World} {B : Nat} {ov : Value} {out : List Rc} (h : ArrR wr B ov out) (hb : Below B w wr) (r : Rc) (hl : out.length ≤ 200000) (hB : B ≤ wr.heap.size) :
    ∃ v8 w8, (Builtin.append_ #[36, 36] 36 #[ov, .slice (some ⟨wr.heap.size, 0, none⟩) 1 1]).run Tryz.prog (wr.alloc (recO3 r)) = .ok v8 w8 ∧ ArrR w8 B v8 (out ++ [r]) ∧ Below B w w8 := by
  have hb7 : Below wr.heap.size wr (wr.alloc (recO3 r)) := (Below.refl _ _).alloc (Nat.le_refl _) _
  have h7 := h.below hb7
  obtain ⟨v8, w8, hrun, A8, C8, _⟩ := append_rec (wr.alloc (recO3 r)) B 36 ov out [r] h7 ⟨wr.heap.size, 0, none⟩ 1 (six_row wr r) (by simp; omega) (Nat.le_trans hB hb7.size)
  exact ⟨v8, w8, hrun, A8, (hb.trans (hb7.mono hB)).trans (C8.below (Nat.le_trans hB hb7.size) (fun k hk z => by have := (World.ownsRow.lt h7 k z).1; omega))⟩
theorem filter_take {p : Rc → Bool} {l : List Rc} {k : Nat} (h : k < l.length) : (l.take (k + 1)).filter p = (l.take k).filter p ++ (if p (rc l k) then [rc l k] else []) := by
  rw [List.take_succ_eq_append_getElem h, ← rc_get h, List.filter_append]
  simp only [List.filter_cons, List.filter_nil]
/-- the messages that are left are put in -/
theorem che_left {w w1 : World} {B c : Nat} {F : Nat → Prop} {s : Sto} (h : Che w B c F s) (hb : Below w.heap.size w w1) {lv : Value} {l : List Rc} (ha : ArrR w1 w.heap.size lv l) (hB : B ≤ w.heap.size) :
    ∃ a n cp, lv = .slice a n cp ∧ w1.frozen? ⟨c, 0, none⟩ = false ∧ DidS Che w (w1.setCell ⟨c, 0, none⟩ (.slice a n cp)) B c F ⟨l, s.last⟩ := by
  obtain ⟨v, y1, y2, y3, y4, y5, y6, y7, y8⟩ := h.below hb
  have hcl : c < w.heap.size := by obtain ⟨_, x, _⟩ := h; exact x.2
  obtain ⟨a, cp, rfl, _⟩ := ha.shape
  have hn : (Value.slice a l.length cp).ownBlock ≠ some c := fun z => by have := (World.ownsRow.lt ha c z).1; omega
  have hS : Chg (fun k => k = c) w1 (w1.setCell ⟨c, 0, none⟩ (.slice a l.length cp)) := Chg.setCell (A := fun k => k = c) (p := ⟨c, 0, none⟩) (Chg.refl _ _) (.inl rfl) _
  have ha2 : ArrR (w1.setCell ⟨c, 0, none⟩ (.slice a l.length cp)) w.heap.size (.slice a l.length cp) l := ha.chg hS (fun g hg z => hn (by rw [hg, z]))
  have ha3 : ArrR (w1.setCell ⟨c, 0, none⟩ (.slice a l.length cp)) B (.slice a l.length cp) l := by
    refine ⟨ha2.1, ?_⟩
    rcases ha2.2 with q | ⟨g, cap, cur, h1, h2, h3⟩
    · exact .inl q
    · exact .inr ⟨g, cap, cur, h1, Nat.le_trans hB h2, h3⟩
  refine ⟨a, l.length, cp, rfl, y4, fun k => k = c ∨ (Value.slice a l.length cp).ownBlock = some k, ⟨_, ⟨y1.1, Nat.lt_of_lt_of_le y1.2 hS.size⟩, World.cell?_setCell_same _ _ _ (by rw [y2]), ?_, ?_, ?_, ha3, hn, fun k => Iff.rfl⟩, (Chg.of_below (A := F) hb).more hS (fun i _ z => by subst z; exact (y8 i).2 (.inl rfl)), fun k hk => ?_⟩
  · rw [World.cell?_setCell_other _ _ _ _ (by simp)]; exact y3
  · rw [World.frozen?_setCell]; exact y4
  · rw [World.frozen?_setCell]; exact y5
  · rcases hk with z | z
    · subst z; exact .inl ((y8 k).2 (.inl rfl))
    · exact .inr (World.ownsRow.lt ha k z).1

set_option maxRecDepth 100000 in
set_option maxHeartbeats 1000000 in
theorem capply_rest {w : World} {B c : Nat} {F : Nat → Prop} {s : Sto} (r : Rc) (hr : Small r) (h : Che w B c F s) (hk : s.Ok) (hB : B ≤ w.heap.size) (hE : tryE s r = 0) (hc : chkR r = 0) (hkk : r.k = 2 ∨ r.k = 3) :
    Calls Tryz.prog 29 #[.pointer (some ⟨c, 0, none⟩), .agg #[.int .i64 r.k, .int .i64 r.q, .int .i64 r.t, .string r.s, .string r.h, .string r.d]] w fun e w' => e = .returned (.int .i64 0) ∧ DidS Che w w' B c F ⟨s.l.filter (fun x => !goneB r x), s.last⟩ := by
  have hfew := hk.few
  have hb0 := (((Below.refl w.heap.size w).alloc (Nat.le_refl _) (recO3 r)))
  have PT := hide (ctry_any r hr (h.below hb0) hk)
  rw [hE] at PT
  have R0 := hide (RB.new w r.k r.q r.t r.s r.h r.d 43)
  obtain ⟨_, x0, x1, x2, x3, x4, x5, _⟩ := unhide R0
  obtain ⟨a, cap, c0, _, hcap, hcm, hsl, hcl⟩ := h.read
  unfold maxLen at hcm
  have HSl := hide hsl
  have HC := hide c0
  have HH := hide h
  have HM : Hid (∀ x ∈ s.l, errS false x.s = 0 ∧ x.s.size ≤ 140737488355328) := hide (fun x hx => ⟨chk_msg (hk.msg x hx).2 (hk.msg x hx).1, by have := (hk.small hx).1; omega⟩)
  have B0 := hide hb0
  have HK := hide hkk
  have HCk := hide hc
  have hrs := hr.s
  unfold recO3 at PT B0
  clear h hk hE hb0 hkk hsl c0 hc
  go_enter Tryz.func29, Tryz.ntmps29
  go_wp2_with fail
  refine (unhide PT).mono ?_
  rintro e w1 ⟨rfl, b1⟩
  have B1 := hide (bstep (unhide B0) b1)
  have R1 := hide ((unhide R0).next b1)
  have hw1 : w.heap.size + 1 ≤ w1.heap.size := by have := b1.size; simp at this; omega
  obtain ⟨_, z0, z1, z2, z3, z4, z5, _⟩ := unhide R1
  have k1 : (r.k == 1) = false := by rcases unhide HK with z | z <;> simp [z]
  have k4 : (r.k == 4) = false := by rcases unhide HK with z | z <;> simp [z]
  clear b1 PT B0 x0 x1 x2 x3 x4 x5 R0
  go_wp2_with fail
  clear z0 z1 z2 z3 z4 z5
  go_loopw [6, 7] (fun lv iv wr => ∃ (k : Nat), iv = .int .i64 k ∧ k ≤ s.l.length ∧ Hid (ArrR wr w1.heap.size lv ((s.l.take k).filter (fun x => !goneB r x)) ∧ Below w1.heap.size w1 wr)) (fun _ iv _ => s.l.length - (intOf iv).toNat)
  case atStart => exact ⟨0, rfl, Nat.zero_le _, hide ⟨ArrR.empty _ _, Below.refl _ _⟩⟩
  case round =>
    obtain ⟨k, rfl, hk, HT⟩ := hrel
    have Hb : Hid (Below w.heap.size w wr) := hide ((unhide B1).trans ((unhide HT).2.mono (by omega)))
    have c0 := ((unhide Hb).cell (p := ⟨c, 0, none⟩) hcl).trans (unhide HC)
    have hwr := (unhide HT).2.size
    by_cases hlt : k < s.l.length
    · obtain ⟨ga, o, rfl, s6⟩ := unhide HSl k hlt
      obtain ⟨y, hy⟩ : ∃ y, y = rc s.l k := ⟨_, rfl⟩
      have s7 := s6.below (unhide Hb) s6.lt
      have hft := filter_take (p := fun x => !goneB r x) hlt
      have hm := unhide HM (rc s.l k) (by rw [rc_get hlt]; exact List.getElem_mem hlt)
      rw [← hy] at s7 hft hm
      obtain ⟨_, y0, y1, y2, y3, y4, y5⟩ := s7
      have hlen : ((s.l.take k).filter (fun x => !goneB r x)).length ≤ 200 := by
        refine Nat.le_trans (List.length_filter_le _ _) ?_
        rw [List.length_take]; omega
      have RX := hide (RB.new wr y.k y.q y.t y.s y.h y.d 43)
      have RB0 := hide (((unhide R1).below (unhide HT).2 (show w.heap.size < w1.heap.size by omega)).alloc (recO3 y))
      have hbx : Below wr.heap.size wr (wr.alloc (recO3 y)) := (Below.refl _ _).alloc (Nat.le_refl _) _
      have HG : Hid (goneB r y = true → ∀ w3, Below wr.heap.size wr w3 → ArrR w3 w1.heap.size u6 ((s.l.take (k + 1)).filter (fun x => !goneB r x)) ∧ Below w1.heap.size w1 w3) := hide (fun hg w3 hb3 => by
        rw [hft, hg]
        simp only [Bool.not_true, Bool.false_eq_true, if_false, List.append_nil]
        exact ⟨(unhide HT).1.below hb3, (unhide HT).2.trans (hb3.mono hwr)⟩)
      have HN : Hid (goneB r y = false → ∀ w3, Below wr.heap.size wr w3 → ∃ v8 w8, (Builtin.append_ #[36, 36] 36 #[u6, .slice (some ⟨w3.heap.size, 0, none⟩) 1 1]).run Tryz.prog (w3.alloc (recO3 y)) = .ok v8 w8 ∧ ArrR w8 w1.heap.size v8 ((s.l.take (k + 1)).filter (fun x => !goneB r x)) ∧ Below w1.heap.size w1 w8) := hide (fun hg w3 hb3 => by
        rw [hft, hg]
        simp only [Bool.not_false, if_true]
        exact arr_snoc ((unhide HT).1.below hb3) ((unhide HT).2.trans (hb3.mono hwr)) y (by omega) (Nat.le_trans hwr hb3.size))
      have Hx := hide hbx
      unfold recO3 at RB0 Hx HN
      have Hgo : Hid (goneB r y = ((decide (r.k = 2) && decide (y.q = r.q)) || (decide (r.k = 3) && (decide (y.q < r.q) && tkB r.s y.s)))) := hide rfl
      clear s6 hy hft hbx HT Hb
      rcases unhide HK with hk2 | hk3
      · have e2 : (r.k == 2) = true := by simpa using hk2
        have e3 : (r.k == 3) = false := by simp [hk2]
        by_cases hq : y.q = r.q
        · have eq1 : (y.q == r.q) = true := by simpa using hq
          have G1 := hide (unhide HG (by rw [unhide Hgo, decide_eq_true hk2, decide_eq_true hq]; rfl) _ (unhide Hx))
          obtain ⟨_, q0, q1, q2, q3, q4, q5, _⟩ := unhide RB0
          obtain ⟨_, p0, p1, p2, p3, p4, p5, _⟩ := unhide RX
          clear hk2 hq HG HN Hgo RB0 RX
          go_wp2_with fail
          refine ⟨⟨k + 1, by go_num, by omega, G1⟩, ?_⟩
          simp [intOf]; omega
        · have eq1 : (y.q == r.q) = false := by simpa using hq
          obtain ⟨v8, w8, hrun, n8⟩ := unhide HN (by rw [unhide Hgo, decide_eq_true hk2, decide_eq_false hq, decide_eq_false (show ¬ r.k = 3 by omega)]; rfl) _ (unhide Hx)
          have N8 := hide n8
          rw [World.size_alloc] at hrun
          have HRun := hide hrun
          obtain ⟨_, q0, q1, q2, q3, q4, q5, _⟩ := unhide RB0
          obtain ⟨_, p0, p1, p2, p3, p4, p5, _⟩ := unhide RX
          clear hk2 hq HG HN Hgo hrun n8 RB0 RX
          go_wp2_with (at_builtin; refine Lib.wpList_append_run _ rfl _ _ _ _ rfl _ _ rfl rfl _ _ (unhide HRun) ?_)
          refine ⟨⟨k + 1, by go_num, by omega, N8⟩, ?_⟩
          simp [intOf]; omega
      · have e2 : (r.k == 2) = false := by simp [hk3]
        have e3 : (r.k == 3) = true := by simpa using hk3
        have hne2 : ¬ r.k = 2 := by omega
        by_cases hq : y.q < r.q
        · have eq1 : decide (y.q < r.q) = true := decide_eq_true hq
          have hpur := chk_pur (unhide HCk) hk3
          have PK := hide (rTakes_any r.s y.s (wr.alloc (recO3 y)) hrs hm.2 (few_toks hpur) (few_toks hm.1))
          rw [takes_tk hm.1] at PK
          have Hgo2 : Hid (goneB r y = tkB r.s y.s) := hide (by rw [unhide Hgo, decide_eq_false hne2, decide_eq_true hk3, decide_eq_true hq]; simp)
          unfold recO3 at PK
          obtain ⟨_, q0, q1, q2, q3, q4, q5, _⟩ := unhide RB0
          obtain ⟨_, p0, p1, p2, p3, p4, p5, _⟩ := unhide RX
          clear hk3 hq Hgo hne2 hpur
          go_wp2_with fail
          refine (unhide PK).mono ?_
          rintro e w3 ⟨rfl, b3⟩
          obtain ⟨_, p0, p1, p2, p3, p4, p5, _⟩ := (unhide RX).next b3
          have B3 := hide (bstep (unhide Hx) b3)
          clear b3 PK RB0 RX q0 q1 q2 q3 q4 q5
          cases htk : tkB r.s y.s with
          | true =>
            have G1 := hide (unhide HG (by rw [unhide Hgo2, htk]) _ (unhide B3))
            clear HG HN Hgo2 htk
            go_wp2_with fail
            refine ⟨⟨k + 1, by go_num, by omega, G1⟩, ?_⟩
            simp [intOf]; omega
          | false =>
            obtain ⟨v8, w8, hrun, n8⟩ := unhide HN (by rw [unhide Hgo2, htk]) _ (unhide B3)
            have N8 := hide n8
            have HRun := hide hrun
            clear HG HN Hgo2 htk hrun n8
            go_wp2_with (at_builtin; refine Lib.wpList_append_run _ rfl _ _ _ _ rfl _ _ rfl rfl _ _ (unhide HRun) ?_)
            refine ⟨⟨k + 1, by go_num, by omega, N8⟩, ?_⟩
            simp [intOf]; omega
        · have eq1 : decide (y.q < r.q) = false := decide_eq_false hq
          obtain ⟨v8, w8, hrun, n8⟩ := unhide HN (by rw [unhide Hgo, decide_eq_false hne2, decide_eq_true hk3, decide_eq_false hq]; rfl) _ (unhide Hx)
          have N8 := hide n8
          rw [World.size_alloc] at hrun
          have HRun := hide hrun
          obtain ⟨_, q0, q1, q2, q3, q4, q5, _⟩ := unhide RB0
          obtain ⟨_, p0, p1, p2, p3, p4, p5, _⟩ := unhide RX
          clear hk3 hq HG HN Hgo hrun n8 hne2 RB0 RX
          go_wp2_with (at_builtin; refine Lib.wpList_append_run _ rfl _ _ _ _ rfl _ _ rfl rfl _ _ (unhide HRun) ?_)
          refine ⟨⟨k + 1, by go_num, by omega, N8⟩, ?_⟩
          simp [intOf]; omega
    · obtain rfl : k = s.l.length := by omega
      have h3 := unhide HT
      rw [List.take_length] at h3
      have h4 : ArrR wr w.heap.size u6 (s.l.filter (fun x => !goneB r x)) := by
        refine ⟨h3.1.1, ?_⟩
        rcases h3.1.2 with q | ⟨g, cap, cur, x1, x2, x3⟩
        · exact .inl q
        · exact .inr ⟨g, cap, cur, x1, Nat.le_trans (by omega) x2, x3⟩
      obtain ⟨a', n', cp', rfl, f0, d0⟩ := che_left (unhide HH) (unhide Hb) h4 hB
      have D0 := hide d0
      clear h3 h4 d0 HT
      go_wp2_with fail
      go_ret
      exact ⟨rfl, unhide D0⟩
end Go.Proofs.YtphhebdmfdjfeabGreatDoor.Dk
