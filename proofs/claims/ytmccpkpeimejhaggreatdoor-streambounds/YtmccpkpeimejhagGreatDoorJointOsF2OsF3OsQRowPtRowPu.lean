/-
  The program's stream: isFull, the second way.
  The program's stream: isFull, all ways.
  The program's stream: Publish.
  Texts that lie in a row of one's own; a cell that is written elsewhere. No walk.
  Texts in a row of one's own: what is kept, what is appended. No walk.
-/
import Derived.Test.YtmccpkpeimejhagGreatDoorJointOsM2OsBOsFOsGOsF1
import Derived.Deep.RegionHeldLaw
import Derived.Test.YtmccpkpeimejhagGreatDoorJointPapPbPapPnPapDRowPlRowPs
namespace Go.Proofs.YtmccpkpeimejhagGreatDoor.Dk
open Go.RowKit

section
variable {Has : World → Nat → Nat → (Nat → Prop) → Int → List Pap → Prop} {SH : World → Nat → Nat → (Nat → Prop) → Sto → Prop} {F0 Cs : Nat → Prop} {w wr : World} {B x : Nat} {a : Option Addr} {c : Nat} {mb : Option Nat} {P : Pn.Pln} {m size : Int} {st : Str}

set_option maxRecDepth 100000 in
set_option maxHeartbeats 4000000 in
theorem isfull_nn (U : Und Has SH) (h : Rst Has SH F0 Cs w wr B x a c mb P m size st) (hf : Fit P m size st) (hB : B ≤ w.heap.size) (y : Po) (hy : SmallO y) (hA : ¬ (nth P.v 0 ≠ 0 ∧ nth P.v 0 ≤ (st.s.l.length : Int))) (hM0 : nth P.v 0 ≠ 0) (hM1 : nth P.v 1 ≠ 0) :
    Calls Tryz.prog 68 #[.pointer (some ⟨x, 0, none⟩), poV y] wr fun e w' => e = .returned (.bool (fullB P st.s.l y)) ∧ Below wr.heap.size wr w' := by
  have b0 : Below wr.heap.size wr (wr.alloc (poO y)) := (Below.refl _ _).alloc (Nat.le_refl _) _
  have r1 := h.below U.H U.S b0
  have p1 := PoB.new wr y
  have hk := hf.vok.ok
  have P1 := hide (tstore_any r1)
  have P2 := hide (fun (W : World) (q : Nat) (G : Nat → Prop) (hS : SH W B q G st.s) (hW : B ≤ W.heap.size) => U.S.sees.sums hS hk hW)
  have hBr := Nat.le_trans hB r1.room
  have HW := hide (fun (W : World) (hW : Below (wr.alloc (poO y)).heap.size (wr.alloc (poO y)) W) => show PBx W x P a c ∧ PoB W wr.heap.size y ∧ Below wr.heap.size wr W from ⟨(r1.below U.H U.S hW).plan, p1.below hW, bstep b0 hW⟩)
  have hbytes := hk.bytes
  have PZ := hide (fun W => sizeof_any y hy W)
  have hz : szP y ≤ 422212465065984 := by
    have h1 := hy.s
    have h2 := hy.h
    have h3 := hy.d
    unfold szP
    omega
  have hfew := hk.few
  have HFu : Hid (fullB P st.s.l y = ((decide (nth P.v 0 ≠ 0) && decide (nth P.v 0 ≤ (st.s.l.length : Int))) || (decide (nth P.v 1 ≠ 0) && decide (nth P.v 1 < (byteN st.s.l : Int) + (szP y : Int))))) := hide (by unfold fullB pv; rw [Int.natCast_add])
  obtain ⟨L, hL⟩ : ∃ L, st.s.l.length = L := ⟨_, rfl⟩
  obtain ⟨K, hK⟩ : ∃ K, byteN st.s.l = K := ⟨_, rfl⟩
  obtain ⟨Z, hZ⟩ : ∃ Z, szP y = Z := ⟨_, rfl⟩
  rw [hL, hK] at P2
  rw [hL, hK, hZ] at HFu
  rw [hZ] at PZ hz
  rw [hL] at hfew
  rw [hL] at hA
  rw [hK] at hbytes
  generalize firstQ st.s.l = fq at *
  have hwz : IntKind.i64.wrap ((K : Int) + (Z : Int)) = (K : Int) + (Z : Int) := by rw [IntKind.wrap_i64]; omega
  clear h hf hk r1 p1 b0 hy hL hK hZ
  go_enter Tryz.func68, Tryz.ntmps68
  go_wp2_with fail
  refine (unhide P1).mono ?_
  rintro e w1 ⟨q, G, rfl, h1, b1⟩
  have P3 := hide (unhide P2 w1 q G h1 (Nat.le_trans hBr b1.size))
  have B1 := hide b1
  clear P1 P2 h1 b1
  go_wp2_with fail
  refine (unhide P3).mono ?_
  rintro e w2 ⟨rfl, b2⟩
  have B2 := hide (bstep (unhide B1) b2)
  clear P3 b2 B1
  obtain ⟨hp2, hy2, hb2⟩ := unhide HW w2 (unhide B2)
  have HB2 := hide hb2
  have hx2 := hp2.lt
  have c2 := hp2.c2
  have c3 := hp2.c3
  have hby := hy2.lt
  have bA : Below w2.heap.size w2 (w2.alloc (.cells #[.int .i64 (L : Int), .int .i64 (K : Int), .int .i64 fq, .int .i64 st.s.last] 37)) := (Below.refl _ _).alloc (Nat.le_refl _) _
  have HB3 := hide (fun n => below_drewN (bstep hb2 bA) n)
  have k0 : AtF x (nth P.v 0) (nth P.v 1) wr.heap.size y w2.heap.size (L : Int) (K : Int) (w2.alloc (.cells #[.int .i64 (L : Int), .int .i64 (K : Int), .int .i64 fq, .int .i64 st.s.last] 37)).drew := by
    have hy3 := (hy2.below bA).below (Below.refl _ _).drew
    have hp3 := (hp2.next bA).next (Below.refl _ _).drew
    exact ⟨hp3.c2, hp3.c3, hy3.c0, hy3.c1, hy3.c2, hy3.c3, hy3.c4, hy3.c5, by simp, by simp⟩
  have HK := hide (fun (W : World) (hW : Below (w2.alloc (.cells #[.int .i64 (L : Int), .int .i64 (K : Int), .int .i64 fq, .int .i64 st.s.last] 37)).drew.heap.size (w2.alloc (.cells #[.int .i64 (L : Int), .int .i64 (K : Int), .int .i64 fq, .int .i64 st.s.last] 37)).drew W) => show AtF x (nth P.v 0) (nth P.v 1) wr.heap.size y w2.heap.size (L : Int) (K : Int) W ∧ Below wr.heap.size wr W from by
    have hy3 := ((hy2.below bA).below (Below.refl _ _).drew).below hW
    have hp3 := ((hp2.next bA).next (Below.refl _ _).drew).next hW
    exact ⟨⟨hp3.c2, hp3.c3, hy3.c0, hy3.c1, hy3.c2, hy3.c3, hy3.c4, hy3.c5, (hW.cell (p := ⟨w2.heap.size, 0, none⟩) (by simp)).trans k0.2.2.2.2.2.2.2.2.1, (hW.cell (p := ⟨w2.heap.size, 1, none⟩) (by simp)).trans k0.2.2.2.2.2.2.2.2.2⟩, bstep (bstep hb2 bA).drew hW⟩)
  generalize nth P.v 0 = M0 at *
  generalize nth P.v 1 = M1 at *
  have hyc := hy2
  obtain ⟨_, y0, y1, y2, y3, y4, y5⟩ := hyc
  clear hp2 hy2 hb2 bA HW B2 HB2
  have e0 : (M0 != 0) = true := by simpa using hM0
  have e4 : decide (M0 ≤ (L : Int)) = false := decide_eq_false (fun z => hA ⟨hM0, z⟩)
  have e1 : (M1 != 0) = true := by simpa using hM1
  have e3 : fullB P st.s.l y = decide (M1 < (K : Int) + (Z : Int)) := by rw [unhide HFu, e4, decide_eq_true hM1]; simp
  have E3 := hide e3
  clear hA e3 HFu
  go_wp2_with fail
  first | (go_region_held_law (AtF x M0 M1 wr.heap.size y w2.heap.size (L : Int) (K : Int)) (first | with_reducible assumption | go_keep)
    (first
      | (go_at_call 66; refine (unhide PZ _).mono ?_; rintro e w3 ⟨rfl, b3⟩; obtain ⟨k3, B3⟩ := unhide HK w3 b3))) | fail
  all_goals (
    go_wp2_with fail
    go_ret
    exact ⟨by rw [unhide E3]; rfl, B3⟩)
end
end Go.Proofs.YtmccpkpeimejhagGreatDoor.Dk

namespace Go.Proofs.YtmccpkpeimejhagGreatDoor.Dk
open Go.RowKit

theorem isfull_any {Has : World → Nat → Nat → (Nat → Prop) → Int → List Pap → Prop} {SH : World → Nat → Nat → (Nat → Prop) → Sto → Prop} {F0 Cs : Nat → Prop} {w wr : World} {B x : Nat} {a : Option Addr} {c : Nat} {mb : Option Nat} {P : Pn.Pln} {m size : Int} {st : Str} (U : Und Has SH) (h : Rst Has SH F0 Cs w wr B x a c mb P m size st) (hf : Fit P m size st) (hB : B ≤ w.heap.size) (y : Po) (hy : SmallO y) :
    Calls Tryz.prog 68 #[.pointer (some ⟨x, 0, none⟩), poV y] wr fun e w' => e = .returned (.bool (fullB P st.s.l y)) ∧ Below wr.heap.size wr w' := by
  by_cases hA : nth P.v 0 ≠ 0 ∧ nth P.v 0 ≤ (st.s.l.length : Int)
  · exact isfull_t U h hf hB y hy hA
  · by_cases h0 : nth P.v 0 = 0
    · by_cases h1 : nth P.v 1 = 0
      · exact isfull_zz U h hf hB y hy h0 h1
      · exact isfull_zn U h hf hB y hy h0 h1
    · by_cases h1 : nth P.v 1 = 0
      · exact isfull_nz U h hf hB y hy hA h0 h1
      · exact isfull_nn U h hf hB y hy hA h0 h1
end Go.Proofs.YtmccpkpeimejhagGreatDoor.Dk

namespace Go.Proofs.YtmccpkpeimejhagGreatDoor.Dk
open Go.RowKit

section
variable {Has : World → Nat → Nat → (Nat → Prop) → Int → List Pap → Prop} {SH : World → Nat → Nat → (Nat → Prop) → Sto → Prop} {F0 Cs : Nat → Prop} {w wr w' : World} {B x : Nat} {a : Option Addr} {c : Nat} {mb : Option Nat} {P : Pn.Pln} {m size : Int} {st : Str}
theorem pub_pre {now : Int} {y : Po} (h : preE P now y ≠ 0) : pubP P m size now y st = ((0, false, preE P now y), st) := by unfold pubP; rw [if_pos h]
theorem pub_again {now : Int} {y : Po} (h : preE P now y = 0) (h1 : againB P now y st.ids = true) : pubP P m size now y st = ((seenQ st.ids y.i (now - pv P 7), true, 0), st) := by unfold pubP; rw [if_neg (by rw [h]; simp), if_pos h1]
theorem pub_chk {now : Int} {y : Po} (h : preE P now y = 0) (h1 : againB P now y st.ids = false) (h2 : chkS P st.s y ≠ 0) : pubP P m size now y st = ((0, false, chkS P st.s y), st) := by
  unfold pubP
  rw [if_neg (by rw [h]; simp), if_neg (by rw [h1]; simp)]
  unfold chkS chkF at h2 ⊢
  by_cases c1 : y.x ≠ -1 ∧ y.x ≠ st.s.last
  · rw [if_pos c1, if_pos c1]
  · rw [if_neg c1] at h2 ⊢
    rw [if_neg c1]
    have hr : roomE P m size now y st.es st.s = (8, st.es, st.s) := by
      unfold roomE
      by_cases c2 : pv P 1 ≠ 0 ∧ pv P 1 < (szP y : Int)
      · rw [if_pos c2]
      · rw [if_neg c2] at h2 ⊢
        by_cases c3 : pv P 5 = 1 ∧ (crowdB P st.s.l y || fullB P st.s.l y) = true
        · exact room_new (by rw [c3.2]; simp) c3.1
        · rw [if_neg c3] at h2
          exact absurd rfl h2
    have h8 : (if pv P 1 ≠ 0 ∧ pv P 1 < (szP y : Int) then (8 : Int) else if pv P 5 = 1 ∧ (crowdB P st.s.l y || fullB P st.s.l y) = true then 8 else 0) = 8 := by
      by_cases c2 : pv P 1 ≠ 0 ∧ pv P 1 < (szP y : Int)
      · rw [if_pos c2]
      · rw [if_neg c2] at h2 ⊢
        by_cases c3 : pv P 5 = 1 ∧ (crowdB P st.s.l y || fullB P st.s.l y) = true
        · rw [if_pos c3]
        · rw [if_neg c3] at h2
          exact absurd rfl h2
    rw [hr, h8]
    rfl
theorem chk_ok {y : Po} (h : chkS P st.s y = 0) : ¬ (y.x ≠ -1 ∧ y.x ≠ st.s.last) ∧ ¬ (pv P 1 ≠ 0 ∧ pv P 1 < (szP y : Int)) ∧ (pv P 5 = 1 → (crowdB P st.s.l y || fullB P st.s.l y) = false) := by
  unfold chkS chkF at h
  by_cases c1 : y.x ≠ -1 ∧ y.x ≠ st.s.last
  · rw [if_pos c1] at h; exact absurd h (by decide)
  · rw [if_neg c1] at h
    by_cases c2 : pv P 1 ≠ 0 ∧ pv P 1 < (szP y : Int)
    · rw [if_pos c2] at h; exact absurd h (by decide)
    · rw [if_neg c2] at h
      refine ⟨c1, c2, fun z => ?_⟩
      cases hc : (crowdB P st.s.l y || fullB P st.s.l y) with
      | false => rfl
      | true => rw [if_pos ⟨z, hc⟩] at h; exact absurd h (by decide)
theorem pub_go {now : Int} {y : Po} (h : preE P now y = 0) (h1 : againB P now y st.ids = false) (h2 : chkS P st.s y = 0) : pubP P m size now y st = if (roomR P m size now y st.es st.s).1 ≠ 0 then ((0, false, (roomR P m size now y st.es st.s).1), ⟨(roomR P m size now y st.es st.s).2.1, (roomR P m size now y st.es st.s).2.2, st.ids⟩) else putP m size now y st.ids (roomR P m size now y st.es st.s).2.1 (roomR P m size now y st.es st.s).2.2 := by
  obtain ⟨c1, c2, _⟩ := chk_ok h2
  have hr : roomE P m size now y st.es st.s = roomR P m size now y st.es st.s := by unfold roomE roomR; rw [if_neg c2]
  unfold pubP
  rw [if_neg (by rw [h]; simp), if_neg (by rw [h1]; simp), if_neg c1, hr]
theorem pre_ok {now : Int} {y : Po} (h : preE P now y = 0) : (0 ≤ now ∧ now ≤ 1099511627776) ∧ (0 ≤ y.ro ∧ y.ro ≤ 2) ∧ errS false y.s = 0 := by
  by_cases hg : inI now 0 1099511627776 = true ∧ -1 ≤ y.x ∧ 0 ≤ y.ro ∧ y.ro ≤ 2
  · refine ⟨by simpa [inI] using hg.1, ⟨hg.2.2.1, hg.2.2.2⟩, ?_⟩
    rw [pre_good hg] at h
    by_cases c1 : errS false y.s = 0
    · exact c1
    · rw [if_pos c1] at h; exact absurd h c1
  · rw [pre_bad hg] at h; exact absurd h (by decide)
theorem Rst.sees (h : Rst Has SH F0 Cs w wr B x a c mb P m size st) : PBx wr x P a c ∧ SlS wr a P.f ∧ SmallP P := by
  obtain ⟨FV, h1, _⟩ := h
  exact ⟨h1.plan, h1.row, h1.small⟩
theorem Fit.room' {now : Int} {y : Po} (h : Fit P m size st) : Fit P m size ⟨(roomR P m size now y st.es st.s).2.1, (roomR P m size now y st.es st.s).2.2, st.ids⟩ := ⟨h.plan, VOk.room _ h.vok, h.room, h.size, h.seqs⟩

set_option maxRecDepth 100000 in
set_option maxHeartbeats 4000000 in
theorem publish_any (U : Und Has SH) (T : STells SH) (V : SWorks SH) (h : Rst Has SH F0 Cs w wr B x a c mb P m size st) (hf : Fit P m size st) (hB : B ≤ w.heap.size) (now : Int) (y : Po) (hy : SmallO y) :
    Calls Tryz.prog 18 #[.pointer (some ⟨x, 0, none⟩), .int .i64 now, poV y] wr fun e w' => e = .returned (.tuple #[.int .i64 (pubP P m size now y st).1.1, .bool (pubP P m size now y st).1.2.1, .int .i64 (pubP P m size now y st).1.2.2]) ∧ (∃ mb', Rst Has SH F0 Cs w w' B x a c mb' P m size (pubP P m size now y st).2) ∧ Stay Cs wr w' := by
  have b0 : Below wr.heap.size wr (wr.alloc (poO y)) := (Below.refl _ _).alloc (Nat.le_refl _) _
  have r0 := h.mine U.H U.S (Cs' := fun k => Cs k ∨ k = wr.heap.size) b0 (fun k hk => by
    rcases hk with z | z
    · exact .inl z
    · exact .inr ⟨by omega, by subst z; simp⟩)
  have p0 := PoB.new wr y
  have s0 := h.stay b0
  have hse := r0.sees
  have P1 := hide (checkpost_any hf.plan hse.2.2 hse.1 hse.2.1 now y hy)
  have HW := hide (fun (W : World) (hW : Below (wr.alloc (poO y)).heap.size (wr.alloc (poO y)) W) => show Rst Has SH F0 (fun k => Cs k ∨ k = wr.heap.size) w W B x a c mb P m size st ∧ PoB W wr.heap.size y ∧ Stay Cs wr W from ⟨r0.below U.H U.S hW, p0.below hW, s0.trans ⟨hW.size, fun k hk => (r0.stay hW).2 k (.inl hk)⟩⟩)
  have HEnd := hide (fun (W : World) (hW : Below (wr.alloc (poO y)).heap.size (wr.alloc (poO y)) W) => show (∃ mb', Rst Has SH F0 Cs w W B x a c mb' P m size st) ∧ Stay Cs wr W from ⟨⟨mb, (r0.below U.H U.S hW).fewer U (fun k hk => .inl hk)⟩, s0.trans ⟨hW.size, fun k hk => (r0.stay hW).2 k (.inl hk)⟩⟩)
  have hx0 := r0.lt
  obtain ⟨_, y0, y1, y2, y3, y4, y5⟩ := p0
  obtain ⟨E, hE⟩ : ∃ E, preE P now y = E := ⟨_, rfl⟩
  rw [hE] at P1
  have HE := hide hE
  have HF := hide hf
  have HY := hide hy
  clear h hf hy r0 b0 s0 hse hE
  go_enter Tryz.func18, Tryz.ntmps18
  go_wp2_with fail
  refine (unhide P1).mono ?_
  rintro e w1 ⟨rfl, b1⟩
  have B1 := hide b1
  clear P1 b1 y0 y1 y2 y3 y4 y5
  by_cases h0 : E = 0
  · have hpre := (unhide HE).trans h0
    obtain ⟨hn, hro, hok⟩ := pre_ok hpre
    have HPre := hide hpre
    have HRo := hide hro
    have HOk := hide hok
    have q1 := unhide HW w1 (unhide B1)
    have P2 := hide (isknown_any q1.1 (unhide HF) now hn y.i (unhide HY).i)
    obtain ⟨ha, hb⟩ := again_kn (now := now) (y := y) q1.1.map.2 (unhide HF).seqs
    rw [← ha] at P2
    have HA := hide hb
    have z1 := q1.2.1.c1
    subst h0
    clear hpre hn hro hok q1 HE ha hb
    obtain ⟨K, hK⟩ : ∃ K, knQ (lastK (mids P st.ids) y.i) (now - pv P 7) = K := ⟨_, rfl⟩
    rw [hK] at P2 HA
    obtain ⟨A, hA⟩ : ∃ A, againB P now y st.ids = A := ⟨_, rfl⟩
    rw [hA] at P2 HA
    have HAA := hide hA
    clear hK hA
    go_wp2_with fail
    refine (unhide P2).mono ?_
    rintro e w2 ⟨rfl, b2⟩
    have B2 := hide (bstep (unhide B1) b2)
    clear P2 b2 z1
    cases A with
    | true =>
      have HQ := hide (pub_again (m := m) (size := size) (unhide HPre) (unhide HAA))
      have HS := hide (unhide HA rfl)
      have HZ := hide (unhide HEnd w2 (unhide B2))
      clear HA HEnd HW
      go_wp2_with fail
      go_ret3
      rw [unhide HQ]
      exact ⟨by rw [unhide HS]; rfl, unhide HZ⟩
    | false =>
      have q2 := unhide HW w2 (unhide B2)
      have P3 := hide (checkstate_any U T q2.1 (unhide HF) hB y (unhide HY) (unhide HOk) (fun W hW => isfull_any U hW (unhide HF) hB y (unhide HY)))
      obtain ⟨_, y0, y1, y2, y3, y4, y5⟩ := q2.2.1
      obtain ⟨E2, hE2⟩ : ∃ E, chkS P st.s y = E := ⟨_, rfl⟩
      rw [hE2] at P3
      have HE2 := hide hE2
      clear q2 hE2 HA
      go_wp2_with fail
      refine (unhide P3).mono ?_
      rintro e w3 ⟨rfl, b3⟩
      have B3 := hide (bstep (unhide B2) b3)
      clear P3 b3 y0 y1 y2 y3 y4 y5
      by_cases h2 : E2 = 0
      · have hc := (unhide HE2).trans h2
        obtain ⟨_, hc2, hc3⟩ := chk_ok hc
        have HG := hide (pub_go (m := m) (size := size) (unhide HPre) (unhide HAA) hc)
        have q3 := unhide HW w3 (unhide B3)
        have P4 := hide (makeroom_any (now := now) U T V q3.1 (unhide HF) hB y (unhide HY) (unhide HOk) hc2 hc3 (fun Cs' W s' hW hf' => isfull_any U hW hf' hB y (unhide HY)))
        have F4 := hide ((unhide HF).room' (now := now) (y := y))
        obtain ⟨es4, he4⟩ : ∃ z, (roomR P m size now y st.es st.s).2.1 = z := ⟨_, rfl⟩
        obtain ⟨s4, hs4⟩ : ∃ z, (roomR P m size now y st.es st.s).2.2 = z := ⟨_, rfl⟩
        obtain ⟨D, hD⟩ : ∃ z, (roomR P m size now y st.es st.s).1 = z := ⟨_, rfl⟩
        rw [he4, hs4, hD] at P4 HG
        rw [he4, hs4] at F4
        have S3 := hide q3.2.2
        have PO3 := hide q3.2.1
        obtain ⟨_, y0, y1, y2, y3, y4, y5⟩ := q3.2.1
        subst h2
        clear hc hc2 hc3 q3 he4 hs4 hD HE2 HEnd HW
        go_wp2_with fail
        refine (unhide P4).mono ?_
        rintro e w4 ⟨rfl, r4, t4⟩
        have R4 := hide r4
        have S4 := hide ((unhide S3).trans (t4.fewer (fun k hk => .inl hk)))
        have PO4 := hide ((unhide PO3).stay t4 (.inr rfl))
        clear P4 r4 t4 y0 y1 y2 y3 y4 y5
        by_cases h4 : D = 0
        · have HG2 := unhide HG
          rw [if_neg (by rw [h4]; simp)] at HG2
          have HG3 := hide HG2
          have P5 := hide (add_any U (unhide R4) (unhide F4) hB now y (unhide HY) (unhide HRo) (fun u v z => by
            have hz := unhide HAA
            unfold againB at hz
            have z' : 0 < seenQ st.ids y.i (now - pv P 7) := z
            rw [decide_eq_true u, decide_eq_true v, decide_eq_true z'] at hz
            cases hz))
          obtain ⟨_, y0, y1, y2, y3, y4, y5⟩ := unhide PO4
          rw [← HG2] at P5
          subst h4
          clear HG2 HG R4
          go_wp2_with fail
          refine (unhide P5).mono ?_
          rintro e w5 ⟨rfl, ⟨mb5, r5⟩, t5⟩
          have HZ := hide (show (∃ mb', Rst Has SH F0 Cs w w5 B x a c mb' P m size (pubP P m size now y st).2) ∧ Stay Cs wr w5 from ⟨⟨mb5, r5.fewer U (fun k hk => .inl hk)⟩, (unhide S4).trans (t5.fewer (fun k hk => .inl hk))⟩)
          have HB := hide (show (pubP P m size now y st).1.2.1 = false from by
            rw [unhide HG3]
            unfold putP
            split
            · rfl
            · split
              · rfl
              · split
                · rfl
                · rfl)
          clear P5 r5 t5 HG3
          go_wp2_with fail
          go_ret3
          rw [unhide HB]
          exact ⟨rfl, unhide HZ⟩
        · have HG2 := unhide HG
          rw [if_pos h4] at HG2
          have HG3 := hide HG2
          have e5 : (D != 0) = true := by simpa using h4
          have HZ := hide (show (∃ mb', Rst Has SH F0 Cs w w4 B x a c mb' P m size ⟨es4, s4, st.ids⟩) ∧ Stay Cs wr w4 from ⟨⟨mb, (unhide R4).fewer U (fun k hk => .inl hk)⟩, unhide S4⟩)
          clear HG2 HG R4
          go_wp2_with fail
          go_ret3
          rw [unhide HG3]
          exact ⟨rfl, unhide HZ⟩
      · have HQ := hide (pub_chk (m := m) (size := size) (unhide HPre) (unhide HAA) (by rw [unhide HE2]; exact h2))
        rw [unhide HE2] at HQ
        have e5 : (E2 != 0) = true := by simpa using h2
        have HZ := hide (unhide HEnd w3 (unhide B3))
        clear HEnd HW HE2
        go_wp2_with fail
        go_ret3
        rw [unhide HQ]
        exact ⟨rfl, unhide HZ⟩
  · have HQ := hide (pub_pre (m := m) (size := size) (st := st) (by rw [unhide HE]; exact h0 : preE P now y ≠ 0))
    rw [unhide HE] at HQ
    have e5 : (E != 0) = true := by simpa using h0
    have HZ := hide (unhide HEnd w1 (unhide B1))
    clear HE HEnd HW
    go_wp2_with fail
    go_ret3
    rw [unhide HQ]
    exact ⟨rfl, unhide HZ⟩
end
end Go.Proofs.YtmccpkpeimejhagGreatDoor.Dk

namespace Go.Proofs.YtmccpkpeimejhagGreatDoor
open Go.RowKit

theorem own_txts {w : World} {B g cap : Nat} {l : List ByteArray} (h : Own w B g cap l) : SlS w (some ⟨g, 0, none⟩) l := fun k hk => by
  have hr := World.ownsRow.cellAt h k (by simpa using hk)
  refine ⟨g, 0, rfl, (own_base h).2, ?_⟩
  rw [Nat.zero_add, hr, List.getElem?_map]
  unfold tk
  rw [List.getElem?_eq_getElem hk]
  rfl

theorem set_far {W : World} {b k j i : Nat} {x : Value} (h : k ≠ b) : (W.setCell ⟨b, i, none⟩ x).cell? ⟨k, j, none⟩ = W.cell? ⟨k, j, none⟩ := World.cell?_setCell_other _ _ _ _ (by intro e; injection e; omega)
theorem SlS.far {W : World} {a : Option Addr} {l : List ByteArray} {b i : Nat} {x : Value} (h : SlS W a l) (hn : ∀ z, a = some z → z.block ≠ b) : SlS (W.setCell ⟨b, i, none⟩ x) a l := fun k hk => by
  obtain ⟨b', o, h1, h2, h3⟩ := h k hk
  exact ⟨b', o, h1, by simpa [World.setCell] using h2, by rw [set_far (hn _ h1)]; exact h3⟩
end Go.Proofs.YtmccpkpeimejhagGreatDoor

namespace Go.Proofs.YtmccpkpeimejhagGreatDoor
open Go.RowKit

/-- texts in a row of one's own -/
def Txts (w : World) (B : Nat) (v : Value) (l : List ByteArray) : Prop := w.ownsRow B 9 1 v l.length (l.map Value.string)
theorem Txts.lit (w : World) (x y : ByteArray) : Txts (w.alloc (.cells #[.string x, .string y] 9)) w.heap.size (.slice (some ⟨w.heap.size, 0, none⟩) 2 2) [x, y] := World.ownsRow_lit (base := w.heap.size) (e := 9) (size := 1) w #[.string x, .string y] 2 (Nat.le_refl _) (by unfold maxLen; omega) (by simp)
theorem Txts.below {w w' : World} {B : Nat} {v : Value} {l : List ByteArray} (h : Txts w B v l) (hb : Below w.heap.size w w') : Txts w' B v l := by
  refine ⟨h.1, ?_⟩
  rcases h.2 with q | ⟨g, cap, cur, h1, h2, h3, r⟩
  · exact .inl q
  · refine .inr ⟨g, cap, cur, h1, h2, ?_, r⟩
    rw [hb.block g (World.ownsRow.lt h g (by rw [h1]; rfl)).2]
    exact h3
theorem txt_more {w wr : World} {B : Nat} {v : Value} {l : List ByteArray} (h : Txts wr B v l) (hb : Below B w wr) (t : ByteArray) (hl : l.length ≤ 200000) (hB : B ≤ wr.heap.size) :
    ∃ v8 w8, (Builtin.append_ #[41, 41] 41 #[v, .slice (some ⟨wr.heap.size, 0, none⟩) 1 1]).run Tryz.prog (wr.alloc (.cells #[.string t] 9)) = .ok v8 w8 ∧ Txts w8 B v8 (l ++ [t]) ∧ Below B w w8 := by
  have hb7 : Below wr.heap.size wr (wr.alloc (.cells #[.string t] 9)) := (Below.refl _ _).alloc (Nat.le_refl _) _
  have h7 := h.below hb7
  obtain ⟨i0, hi, hz0, hz1, hz2⟩ := info_parts info9
  obtain ⟨v', w', hr, h2, h3, h4⟩ := run_append_own (P := Tryz.prog) (wr.alloc (.cells #[.string t] 9)) B 41 41 9 i0 (.string ByteArray.empty) 1 16 Tryz.underlying41 hi hz0 hz1 hz2 rfl (by omega) v l.length (l.map Value.string) h7 ⟨wr.heap.size, 0, none⟩ 1 1 [.string t] rfl (one_new _ _ _) (one_cell _) (by unfold maxLen; omega) (by omega) (Nat.le_trans hB hb7.size)
  refine ⟨v', w', hr, ?_, ?_⟩
  · unfold Txts
    rw [List.length_append, List.map_append]
    exact h2
  · refine (hb.trans (hb7.mono hB)).grown h3 (Nat.le_trans hB hb7.size) ?_
    intro j hj
    exact (World.ownsRow.lt h j hj).1
theorem Txts.sl {w : World} {B : Nat} {v : Value} {l : List ByteArray} (h : Txts w B v l) (h0 : 0 < l.length) : ∃ g cap, v = .slice (some ⟨g, 0, none⟩) l.length cap ∧ l.length ≤ cap ∧ SlS w (some ⟨g, 0, none⟩) l := by
  obtain ⟨n, hn⟩ : ∃ n, l.length = n + 1 := ⟨l.length - 1, by omega⟩
  have h' := h
  unfold Txts at h'
  rw [hn] at h'
  obtain ⟨g, cap, rfl⟩ := own_some h'
  refine ⟨g, cap, by rw [hn], ?_, fun k hk => ⟨g, 0, rfl, (World.ownsRow.lt h' g rfl).2, ?_⟩⟩
  · rcases h'.2 with ⟨e, _⟩ | ⟨g', cap', cur, e, _, _, hn', _⟩
    · simp at e
    · simp only [Value.slice.injEq] at e
      omega
  · rw [Nat.zero_add, World.ownsRow.cellAt h' k (by omega), List.getElem?_map, List.getElem?_eq_getElem hk]
    unfold tk
    rw [List.getElem?_eq_getElem hk]
    rfl
theorem Txts.chg {A : Nat → Prop} {w w' : World} {B : Nat} {v : Value} {l : List ByteArray} (h : Txts w B v l) (hc : Dk.Chg A w w') (hn : ∀ g, B ≤ g → ¬ A g) : Txts w' B v l := by
  refine ⟨h.1, ?_⟩
  rcases h.2 with q | ⟨g, cap, cur, h1, h2, h3, r⟩
  · exact .inl q
  · refine .inr ⟨g, cap, cur, h1, h2, ?_, r⟩
    have hg := World.ownsRow.lt h g (by rw [h1]; rfl)
    rw [hc.block g hg.2 (hn g hg.1)]
    exact h3
/-- no text yet -/
theorem Txts.nil (w : World) (B : Nat) : Txts w B (.slice none 0 0) [] := ⟨by simp, .inl ⟨rfl, rfl⟩⟩
theorem Txts.shape {w : World} {B : Nat} {v : Value} {l : List ByteArray} (h : Txts w B v l) : ∃ a c, v = .slice a l.length c ∧ l.length ≤ c ∧ SlS w a l := by
  by_cases h0 : 0 < l.length
  · obtain ⟨g, cap, e, hc, hs⟩ := h.sl h0
    exact ⟨_, cap, e, hc, hs⟩
  · have hl : l = [] := List.length_eq_zero_iff.1 (by omega)
    subst hl
    rcases h.2 with ⟨e, _⟩ | ⟨g, cap, cur, h1, h2, h3, r⟩
    · exact ⟨none, 0, e, Nat.le_refl _, fun k hk => by simp at hk⟩
    · exact ⟨_, cap, h1, by simp, fun k hk => by simp at hk⟩
end Go.Proofs.YtmccpkpeimejhagGreatDoor
