/-
  The program's stream: Publish.
  Texts that lie in a row of one's own; a cell that is written elsewhere. No walk.
  Texts in a row of one's own: what is kept, what is appended. No walk.
  The program's stream: copyOf (a plan with texts of its own).
-/
import Derived.Test.YtmccpkpeimejhahGreatDoorJointOsLOsM2OsBOsF
import Derived.Test.YtmccpkpeimejhahGreatDoorJointOsGOsF1OsF2OsF3
import Derived.Test.YtmccpkpeimejhahGreatDoorJointRowPlRowPsPapPcPapPe
import Derived.Test.YtmccpkpeimejhahGreatDoorJointPlainKPapPbPapPnPapD
import Derived.Test.YtmccpkpeimejhahGreatDoorJointRowPvWorksROsROsP
import Derived.Test.YtmccpkpeimejhahGreatDoorJointRowZRowPrWalkY3PapPd
import Derived.Test.YtmccpkpeimejhahGreatDoorJointWalkClWalkN4WalkC5WalkC6
namespace Go.Proofs.YtmccpkpeimejhahGreatDoor.Dk
open Go.RowKit

section
variable {Has : World → Nat → Nat → (Nat → Prop) → Int → List Pap → Prop} {SH : World → Nat → Nat → (Nat → Prop) → Sto → Prop} {F0 Cs : Nat → Prop} {w wr w' : World} {B x : Nat} {a : Option Addr} {c : Nat} {mb : Option Nat} {P : Pn.Pln} {m size : Int} {st : Str}
theorem pub_pre {now : Int} {y : Po} (h : preE P now y ≠ 0) : pubP P m size now y st = ((0, false, preE P now y), st) := by unfold pubP; rw [if_pos h]
theorem pub_again {now : Int} {y : Po} (h : preE P now y = 0) (h1 : againB P now y st.ids = true) : pubP P m size now y st = ((seenQ st.ids y.i (now - pv P 7), true, 0), st) := by unfold pubP; rw [if_neg (by rw [h]; simp), if_pos h1]
theorem pub_chk {now : Int} {y : Po} (h : preE P now y = 0) (h1 : againB P now y st.ids = false) (h2 : chkS P st.s y ≠ 0) : pubP P m size now y st = ((0, false, chkS P st.s y), st) := by
  unfold pubP
  rw [if_neg (by rw [h]; simp), if_neg (by rw [h1]; simp)]
  unfold chkS chkF at h2 ⊢
  by_cases c1 : y.x ≠ -1 ∧ y.x ≠ st.s.last
  · rw [if_pos c1, if_pos c1]
  · rw [if_neg c1] at h2 ⊢
    rw [if_neg c1]
    have hr : roomE P m size now y st.es st.s = (8, st.es, st.s) := by
      unfold roomE
      by_cases c2 : pv P 1 ≠ 0 ∧ pv P 1 < (szP y : Int)
      · rw [if_pos c2]
      · rw [if_neg c2] at h2 ⊢
        by_cases c3 : pv P 5 = 1 ∧ (crowdB P st.s.l y || fullB P st.s.l y) = true
        · exact room_new (by rw [c3.2]; simp) c3.1
        · rw [if_neg c3] at h2
          exact absurd rfl h2
    have h8 : (if pv P 1 ≠ 0 ∧ pv P 1 < (szP y : Int) then (8 : Int) else if pv P 5 = 1 ∧ (crowdB P st.s.l y || fullB P st.s.l y) = true then 8 else 0) = 8 := by
      by_cases c2 : pv P 1 ≠ 0 ∧ pv P 1 < (szP y : Int)
      · rw [if_pos c2]
      · rw [if_neg c2] at h2 ⊢
        by_cases c3 : pv P 5 = 1 ∧ (crowdB P st.s.l y || fullB P st.s.l y) = true
        · rw [if_pos c3]
        · rw [if_neg c3] at h2
          exact absurd rfl h2
    rw [hr, h8]
    rfl
theorem chk_ok {y : Po} (h : chkS P st.s y = 0) : ¬ (y.x ≠ -1 ∧ y.x ≠ st.s.last) ∧ ¬ (pv P 1 ≠ 0 ∧ pv P 1 < (szP y : Int)) ∧ (pv P 5 = 1 → (crowdB P st.s.l y || fullB P st.s.l y) = false) := by
  unfold chkS chkF at h
  by_cases c1 : y.x ≠ -1 ∧ y.x ≠ st.s.last
  · rw [if_pos c1] at h; exact absurd h (by decide)
  · rw [if_neg c1] at h
    by_cases c2 : pv P 1 ≠ 0 ∧ pv P 1 < (szP y : Int)
    · rw [if_pos c2] at h; exact absurd h (by decide)
    · rw [if_neg c2] at h
      refine ⟨c1, c2, fun z => ?_⟩
      cases hc : (crowdB P st.s.l y || fullB P st.s.l y) with
      | false => rfl
      | true => rw [if_pos ⟨z, hc⟩] at h; exact absurd h (by decide)
theorem pub_go {now : Int} {y : Po} (h : preE P now y = 0) (h1 : againB P now y st.ids = false) (h2 : chkS P st.s y = 0) : pubP P m size now y st = if (roomR P m size now y st.es st.s).1 ≠ 0 then ((0, false, (roomR P m size now y st.es st.s).1), ⟨(roomR P m size now y st.es st.s).2.1, (roomR P m size now y st.es st.s).2.2, st.ids⟩) else putP m size now y st.ids (roomR P m size now y st.es st.s).2.1 (roomR P m size now y st.es st.s).2.2 := by
  obtain ⟨c1, c2, _⟩ := chk_ok h2
  have hr : roomE P m size now y st.es st.s = roomR P m size now y st.es st.s := by unfold roomE roomR; rw [if_neg c2]
  unfold pubP
  rw [if_neg (by rw [h]; simp), if_neg (by rw [h1]; simp), if_neg c1, hr]
theorem pre_ok {now : Int} {y : Po} (h : preE P now y = 0) : (0 ≤ now ∧ now ≤ 1099511627776) ∧ (0 ≤ y.ro ∧ y.ro ≤ 2) ∧ errS false y.s = 0 := by
  by_cases hg : inI now 0 1099511627776 = true ∧ -1 ≤ y.x ∧ 0 ≤ y.ro ∧ y.ro ≤ 2
  · refine ⟨by simpa [inI] using hg.1, ⟨hg.2.2.1, hg.2.2.2⟩, ?_⟩
    rw [pre_good hg] at h
    by_cases c1 : errS false y.s = 0
    · exact c1
    · rw [if_pos c1] at h; exact absurd h c1
  · rw [pre_bad hg] at h; exact absurd h (by decide)
theorem Rst.sees (h : Rst Has SH F0 Cs w wr B x a c mb P m size st) : PBx wr x P a c ∧ SlS wr a P.f ∧ SmallP P := by
  obtain ⟨FV, h1, _⟩ := h
  exact ⟨h1.plan, h1.row, h1.small⟩
theorem Fit.room' {now : Int} {y : Po} (h : Fit P m size st) : Fit P m size ⟨(roomR P m size now y st.es st.s).2.1, (roomR P m size now y st.es st.s).2.2, st.ids⟩ := ⟨h.plan, VOk.room _ h.vok, h.room, h.size, h.seqs⟩

set_option maxRecDepth 100000 in
set_option maxHeartbeats 4000000 in
theorem publish_any (U : Und Has SH) (T : STells SH) (V : SWorks SH) (h : Rst Has SH F0 Cs w wr B x a c mb P m size st) (hf : Fit P m size st) (hB : B ≤ w.heap.size) (now : Int) (y : Po) (hy : SmallO y) :
    Calls Tryz.prog 8 #[.pointer (some ⟨x, 0, none⟩), .int .i64 now, poV y] wr fun e w' => e = .returned (.tuple #[.int .i64 (pubP P m size now y st).1.1, .bool (pubP P m size now y st).1.2.1, .int .i64 (pubP P m size now y st).1.2.2]) ∧ (∃ mb', Rst Has SH F0 Cs w w' B x a c mb' P m size (pubP P m size now y st).2) ∧ Stay Cs wr w' := by
  have b0 : Below wr.heap.size wr (wr.alloc (poO y)) := (Below.refl _ _).alloc (Nat.le_refl _) _
  have r0 := h.mine U.H U.S (Cs' := fun k => Cs k ∨ k = wr.heap.size) b0 (fun k hk => by
    rcases hk with z | z
    · exact .inl z
    · exact .inr ⟨by omega, by subst z; simp⟩)
  have p0 := PoB.new wr y
  have s0 := h.stay b0
  have hse := r0.sees
  have P1 := hide (checkpost_any hf.plan hse.2.2 hse.1 hse.2.1 now y hy)
  have HW := hide (fun (W : World) (hW : Below (wr.alloc (poO y)).heap.size (wr.alloc (poO y)) W) => show Rst Has SH F0 (fun k => Cs k ∨ k = wr.heap.size) w W B x a c mb P m size st ∧ PoB W wr.heap.size y ∧ Stay Cs wr W from ⟨r0.below U.H U.S hW, p0.below hW, s0.trans ⟨hW.size, fun k hk => (r0.stay hW).2 k (.inl hk)⟩⟩)
  have HEnd := hide (fun (W : World) (hW : Below (wr.alloc (poO y)).heap.size (wr.alloc (poO y)) W) => show (∃ mb', Rst Has SH F0 Cs w W B x a c mb' P m size st) ∧ Stay Cs wr W from ⟨⟨mb, (r0.below U.H U.S hW).fewer U (fun k hk => .inl hk)⟩, s0.trans ⟨hW.size, fun k hk => (r0.stay hW).2 k (.inl hk)⟩⟩)
  have hx0 := r0.lt
  obtain ⟨_, y0, y1, y2, y3, y4, y5⟩ := p0
  obtain ⟨E, hE⟩ : ∃ E, preE P now y = E := ⟨_, rfl⟩
  rw [hE] at P1
  have HE := hide hE
  have HF := hide hf
  have HY := hide hy
  clear h hf hy r0 b0 s0 hse hE
  go_enter Tryz.func8, Tryz.ntmps8
  go_wp2_with fail
  refine (unhide P1).mono ?_
  rintro e w1 ⟨rfl, b1⟩
  have B1 := hide b1
  clear P1 b1 y0 y1 y2 y3 y4 y5
  by_cases h0 : E = 0
  · have hpre := (unhide HE).trans h0
    obtain ⟨hn, hro, hok⟩ := pre_ok hpre
    have HPre := hide hpre
    have HRo := hide hro
    have HOk := hide hok
    have q1 := unhide HW w1 (unhide B1)
    have P2 := hide (isknown_any q1.1 (unhide HF) now hn y.i (unhide HY).i)
    obtain ⟨ha, hb⟩ := again_kn (now := now) (y := y) q1.1.map.2 (unhide HF).seqs
    rw [← ha] at P2
    have HA := hide hb
    have z1 := q1.2.1.c1
    subst h0
    clear hpre hn hro hok q1 HE ha hb
    obtain ⟨K, hK⟩ : ∃ K, knQ (lastK (mids P st.ids) y.i) (now - pv P 7) = K := ⟨_, rfl⟩
    rw [hK] at P2 HA
    obtain ⟨A, hA⟩ : ∃ A, againB P now y st.ids = A := ⟨_, rfl⟩
    rw [hA] at P2 HA
    have HAA := hide hA
    clear hK hA
    go_wp2_with fail
    refine (unhide P2).mono ?_
    rintro e w2 ⟨rfl, b2⟩
    have B2 := hide (bstep (unhide B1) b2)
    clear P2 b2 z1
    cases A with
    | true =>
      have HQ := hide (pub_again (m := m) (size := size) (unhide HPre) (unhide HAA))
      have HS := hide (unhide HA rfl)
      have HZ := hide (unhide HEnd w2 (unhide B2))
      clear HA HEnd HW
      go_wp2_with fail
      go_ret3
      rw [unhide HQ]
      exact ⟨by rw [unhide HS]; rfl, unhide HZ⟩
    | false =>
      have q2 := unhide HW w2 (unhide B2)
      have P3 := hide (checkstate_any U T q2.1 (unhide HF) hB y (unhide HY) (unhide HOk) (fun W hW => isfull_any U hW (unhide HF) hB y (unhide HY)))
      obtain ⟨_, y0, y1, y2, y3, y4, y5⟩ := q2.2.1
      obtain ⟨E2, hE2⟩ : ∃ E, chkS P st.s y = E := ⟨_, rfl⟩
      rw [hE2] at P3
      have HE2 := hide hE2
      clear q2 hE2 HA
      go_wp2_with fail
      refine (unhide P3).mono ?_
      rintro e w3 ⟨rfl, b3⟩
      have B3 := hide (bstep (unhide B2) b3)
      clear P3 b3 y0 y1 y2 y3 y4 y5
      by_cases h2 : E2 = 0
      · have hc := (unhide HE2).trans h2
        obtain ⟨_, hc2, hc3⟩ := chk_ok hc
        have HG := hide (pub_go (m := m) (size := size) (unhide HPre) (unhide HAA) hc)
        have q3 := unhide HW w3 (unhide B3)
        have P4 := hide (makeroom_any (now := now) U T V q3.1 (unhide HF) hB y (unhide HY) (unhide HOk) hc2 hc3 (fun Cs' W s' hW hf' => isfull_any U hW hf' hB y (unhide HY)))
        have F4 := hide ((unhide HF).room' (now := now) (y := y))
        obtain ⟨es4, he4⟩ : ∃ z, (roomR P m size now y st.es st.s).2.1 = z := ⟨_, rfl⟩
        obtain ⟨s4, hs4⟩ : ∃ z, (roomR P m size now y st.es st.s).2.2 = z := ⟨_, rfl⟩
        obtain ⟨D, hD⟩ : ∃ z, (roomR P m size now y st.es st.s).1 = z := ⟨_, rfl⟩
        rw [he4, hs4, hD] at P4 HG
        rw [he4, hs4] at F4
        have S3 := hide q3.2.2
        have PO3 := hide q3.2.1
        obtain ⟨_, y0, y1, y2, y3, y4, y5⟩ := q3.2.1
        subst h2
        clear hc hc2 hc3 q3 he4 hs4 hD HE2 HEnd HW
        go_wp2_with fail
        refine (unhide P4).mono ?_
        rintro e w4 ⟨rfl, r4, t4⟩
        have R4 := hide r4
        have S4 := hide ((unhide S3).trans (t4.fewer (fun k hk => .inl hk)))
        have PO4 := hide ((unhide PO3).stay t4 (.inr rfl))
        clear P4 r4 t4 y0 y1 y2 y3 y4 y5
        by_cases h4 : D = 0
        · have HG2 := unhide HG
          rw [if_neg (by rw [h4]; simp)] at HG2
          have HG3 := hide HG2
          have P5 := hide (add_any U (unhide R4) (unhide F4) hB now y (unhide HY) (unhide HRo) (fun u v z => by
            have hz := unhide HAA
            unfold againB at hz
            have z' : 0 < seenQ st.ids y.i (now - pv P 7) := z
            rw [decide_eq_true u, decide_eq_true v, decide_eq_true z'] at hz
            cases hz))
          obtain ⟨_, y0, y1, y2, y3, y4, y5⟩ := unhide PO4
          rw [← HG2] at P5
          subst h4
          clear HG2 HG R4
          go_wp2_with fail
          refine (unhide P5).mono ?_
          rintro e w5 ⟨rfl, ⟨mb5, r5⟩, t5⟩
          have HZ := hide (show (∃ mb', Rst Has SH F0 Cs w w5 B x a c mb' P m size (pubP P m size now y st).2) ∧ Stay Cs wr w5 from ⟨⟨mb5, r5.fewer U (fun k hk => .inl hk)⟩, (unhide S4).trans (t5.fewer (fun k hk => .inl hk))⟩)
          have HB := hide (show (pubP P m size now y st).1.2.1 = false from by
            rw [unhide HG3]
            unfold putP
            split
            · rfl
            · split
              · rfl
              · split
                · rfl
                · rfl)
          clear P5 r5 t5 HG3
          go_wp2_with fail
          go_ret3
          rw [unhide HB]
          exact ⟨rfl, unhide HZ⟩
        · have HG2 := unhide HG
          rw [if_pos h4] at HG2
          have HG3 := hide HG2
          have e5 : (D != 0) = true := by simpa using h4
          have HZ := hide (show (∃ mb', Rst Has SH F0 Cs w w4 B x a c mb' P m size ⟨es4, s4, st.ids⟩) ∧ Stay Cs wr w4 from ⟨⟨mb, (unhide R4).fewer U (fun k hk => .inl hk)⟩, unhide S4⟩)
          clear HG2 HG R4
          go_wp2_with fail
          go_ret3
          rw [unhide HG3]
          exact ⟨rfl, unhide HZ⟩
      · have HQ := hide (pub_chk (m := m) (size := size) (unhide HPre) (unhide HAA) (by rw [unhide HE2]; exact h2))
        rw [unhide HE2] at HQ
        have e5 : (E2 != 0) = true := by simpa using h2
        have HZ := hide (unhide HEnd w3 (unhide B3))
        clear HEnd HW HE2
        go_wp2_with fail
        go_ret3
        rw [unhide HQ]
        exact ⟨rfl, unhide HZ⟩
  · have HQ := hide (pub_pre (m := m) (size := size) (st := st) (by rw [unhide HE]; exact h0 : preE P now y ≠ 0))
    rw [unhide HE] at HQ
    have e5 : (E != 0) = true := by simpa using h0
    have HZ := hide (unhide HEnd w1 (unhide B1))
    clear HE HEnd HW
    go_wp2_with fail
    go_ret3
    rw [unhide HQ]
    exact ⟨rfl, unhide HZ⟩
end
end Go.Proofs.YtmccpkpeimejhahGreatDoor.Dk

namespace Go.Proofs.YtmccpkpeimejhahGreatDoor
open Go.RowKit

theorem own_txts {w : World} {B g cap : Nat} {l : List ByteArray} (h : Own w B g cap l) : SlS w (some ⟨g, 0, none⟩) l := fun k hk => by
  have hr := World.ownsRow.cellAt h k (by simpa using hk)
  refine ⟨g, 0, rfl, (own_base h).2, ?_⟩
  rw [Nat.zero_add, hr, List.getElem?_map]
  unfold tk
  rw [List.getElem?_eq_getElem hk]
  rfl

theorem set_far {W : World} {b k j i : Nat} {x : Value} (h : k ≠ b) : (W.setCell ⟨b, i, none⟩ x).cell? ⟨k, j, none⟩ = W.cell? ⟨k, j, none⟩ := World.cell?_setCell_other _ _ _ _ (by intro e; injection e; omega)
theorem SlS.far {W : World} {a : Option Addr} {l : List ByteArray} {b i : Nat} {x : Value} (h : SlS W a l) (hn : ∀ z, a = some z → z.block ≠ b) : SlS (W.setCell ⟨b, i, none⟩ x) a l := fun k hk => by
  obtain ⟨b', o, h1, h2, h3⟩ := h k hk
  exact ⟨b', o, h1, by simpa [World.setCell] using h2, by rw [set_far (hn _ h1)]; exact h3⟩
end Go.Proofs.YtmccpkpeimejhahGreatDoor

namespace Go.Proofs.YtmccpkpeimejhahGreatDoor
open Go.RowKit

/-- texts in a row of one's own -/
def Txts (w : World) (B : Nat) (v : Value) (l : List ByteArray) : Prop := w.ownsRow B 9 1 v l.length (l.map Value.string)
theorem Txts.lit (w : World) (x y : ByteArray) : Txts (w.alloc (.cells #[.string x, .string y] 9)) w.heap.size (.slice (some ⟨w.heap.size, 0, none⟩) 2 2) [x, y] := World.ownsRow_lit (base := w.heap.size) (e := 9) (size := 1) w #[.string x, .string y] 2 (Nat.le_refl _) (by unfold maxLen; omega) (by simp)
theorem Txts.below {w w' : World} {B : Nat} {v : Value} {l : List ByteArray} (h : Txts w B v l) (hb : Below w.heap.size w w') : Txts w' B v l := by
  refine ⟨h.1, ?_⟩
  rcases h.2 with q | ⟨g, cap, cur, h1, h2, h3, r⟩
  · exact .inl q
  · refine .inr ⟨g, cap, cur, h1, h2, ?_, r⟩
    rw [hb.block g (World.ownsRow.lt h g (by rw [h1]; rfl)).2]
    exact h3
theorem txt_more {w wr : World} {B : Nat} {v : Value} {l : List ByteArray} (h : Txts wr B v l) (hb : Below B w wr) (t : ByteArray) (hl : l.length ≤ 200000) (hB : B ≤ wr.heap.size) :
    ∃ v8 w8, (Builtin.append_ #[22, 22] 22 #[v, .slice (some ⟨wr.heap.size, 0, none⟩) 1 1]).run Tryz.prog (wr.alloc (.cells #[.string t] 9)) = .ok v8 w8 ∧ Txts w8 B v8 (l ++ [t]) ∧ Below B w w8 := by
  have hb7 : Below wr.heap.size wr (wr.alloc (.cells #[.string t] 9)) := (Below.refl _ _).alloc (Nat.le_refl _) _
  have h7 := h.below hb7
  obtain ⟨i0, hi, hz0, hz1, hz2⟩ := info_parts info9
  obtain ⟨v', w', hr, h2, h3, h4⟩ := run_append_own (P := Tryz.prog) (wr.alloc (.cells #[.string t] 9)) B 22 22 9 i0 (.string ByteArray.empty) 1 16 Tryz.underlying22 hi hz0 hz1 hz2 rfl (by omega) v l.length (l.map Value.string) h7 ⟨wr.heap.size, 0, none⟩ 1 1 [.string t] rfl (one_new _ _ _) (one_cell _) (by unfold maxLen; omega) (by omega) (Nat.le_trans hB hb7.size)
  refine ⟨v', w', hr, ?_, ?_⟩
  · unfold Txts
    rw [List.length_append, List.map_append]
    exact h2
  · refine (hb.trans (hb7.mono hB)).grown h3 (Nat.le_trans hB hb7.size) ?_
    intro j hj
    exact (World.ownsRow.lt h j hj).1
theorem Txts.sl {w : World} {B : Nat} {v : Value} {l : List ByteArray} (h : Txts w B v l) (h0 : 0 < l.length) : ∃ g cap, v = .slice (some ⟨g, 0, none⟩) l.length cap ∧ l.length ≤ cap ∧ SlS w (some ⟨g, 0, none⟩) l := by
  obtain ⟨n, hn⟩ : ∃ n, l.length = n + 1 := ⟨l.length - 1, by omega⟩
  have h' := h
  unfold Txts at h'
  rw [hn] at h'
  obtain ⟨g, cap, rfl⟩ := own_some h'
  refine ⟨g, cap, by rw [hn], ?_, fun k hk => ⟨g, 0, rfl, (World.ownsRow.lt h' g rfl).2, ?_⟩⟩
  · rcases h'.2 with ⟨e, _⟩ | ⟨g', cap', cur, e, _, _, hn', _⟩
    · simp at e
    · simp only [Value.slice.injEq] at e
      omega
  · rw [Nat.zero_add, World.ownsRow.cellAt h' k (by omega), List.getElem?_map, List.getElem?_eq_getElem hk]
    unfold tk
    rw [List.getElem?_eq_getElem hk]
    rfl
theorem Txts.chg {A : Nat → Prop} {w w' : World} {B : Nat} {v : Value} {l : List ByteArray} (h : Txts w B v l) (hc : Dk.Chg A w w') (hn : ∀ g, B ≤ g → ¬ A g) : Txts w' B v l := by
  refine ⟨h.1, ?_⟩
  rcases h.2 with q | ⟨g, cap, cur, h1, h2, h3, r⟩
  · exact .inl q
  · refine .inr ⟨g, cap, cur, h1, h2, ?_, r⟩
    have hg := World.ownsRow.lt h g (by rw [h1]; rfl)
    rw [hc.block g hg.2 (hn g hg.1)]
    exact h3
/-- no text yet -/
theorem Txts.nil (w : World) (B : Nat) : Txts w B (.slice none 0 0) [] := ⟨by simp, .inl ⟨rfl, rfl⟩⟩
theorem Txts.shape {w : World} {B : Nat} {v : Value} {l : List ByteArray} (h : Txts w B v l) : ∃ a c, v = .slice a l.length c ∧ l.length ≤ c ∧ SlS w a l := by
  by_cases h0 : 0 < l.length
  · obtain ⟨g, cap, e, hc, hs⟩ := h.sl h0
    exact ⟨_, cap, e, hc, hs⟩
  · have hl : l = [] := List.length_eq_zero_iff.1 (by omega)
    subst hl
    rcases h.2 with ⟨e, _⟩ | ⟨g, cap, cur, h1, h2, h3, r⟩
    · exact ⟨none, 0, e, Nat.le_refl _, fun k hk => by simp at hk⟩
    · exact ⟨_, cap, h1, by simp, fun k hk => by simp at hk⟩
end Go.Proofs.YtmccpkpeimejhahGreatDoor

namespace Go.Proofs.YtmccpkpeimejhahGreatDoor
open Go.RowKit

theorem results_plan1 {fn : Func} {t : Tmp} {tmps : Array Value} {w : World} {b : Nat} {n : ByteArray} {a : Option Addr} {l c : Nat} {x0 x1 x2 x3 x4 x5 x6 x7 : Int} (hf : fn.results = #[.cell t 24]) (ha : tmps.getD t undef = .pointer (some ⟨b, 0, none⟩)) (r : PB w b n a l c x0 x1 x2 x3 x4 x5 x6 x7) :
    (results fn tmps).run Tryz.prog w = .ok (.agg #[.string n, .slice a l c, .int .i64 x0, .int .i64 x1, .int .i64 x2, .int .i64 x3, .int .i64 x4, .int .i64 x5, .int .i64 x6, .int .i64 x7]) w := by
  have ha' : tmps[t]?.getD undef = .pointer (some ⟨b, 0, none⟩) := by simpa using ha
  simp [results, hf, ha', asAddr, load_plan r]
theorem puts_chg {A : Nat → Prop} {b : Nat} (hA : A b) {w : World} : ∀ (vs : List Value) (W : World) (o : Nat), Dk.Chg A w W → Dk.Chg A w (puts W b o vs)
  | [], _, _, h => h
  | v :: vs, _, o, h => puts_chg hA vs _ (o + 1) (h.setCell (p := ⟨b, o, none⟩) (.inl hA) v)
theorem txts_low {w : World} {B B' : Nat} {v : Value} {l : List ByteArray} (h : Txts w B v l) (hB : B' ≤ B) : Txts w B' v l := by
  refine ⟨h.1, ?_⟩
  rcases h.2 with q | ⟨g, cap, cur, h1, h2, r⟩
  · exact .inl q
  · exact .inr ⟨g, cap, cur, h1, Nat.le_trans hB h2, r⟩
theorem take_tk {l : List ByteArray} {k : Nat} (h : k < l.length) : l.take (k + 1) = l.take k ++ [tk l k] := by
  rw [List.take_succ_eq_append_getElem h]
  unfold tk
  rw [List.getElem?_eq_getElem h]
  rfl
theorem PB.side {w : World} {b k j : Nat} {n : ByteArray} {a : Option Addr} {l c : Nat} {x0 x1 x2 x3 x4 x5 x6 x7 : Int} (h : PB w b n a l c x0 x1 x2 x3 x4 x5 x6 x7) (hk : k ≠ b) (v : Value) : PB (w.setCell ⟨k, j, none⟩ v) b n a l c x0 x1 x2 x3 x4 x5 x6 x7 := by
  have e : ∀ i, (w.setCell ⟨k, j, none⟩ v).cell? ⟨b, i, none⟩ = w.cell? ⟨b, i, none⟩ := fun i => World.cell?_setCell_other _ _ _ _ (by intro z; injection z; omega)
  exact ⟨by have := h.lt; simpa [World.setCell] using this, (e 0).trans h.c0, (e 1).trans h.c1, (e 2).trans h.c2, (e 3).trans h.c3, (e 4).trans h.c4, (e 5).trans h.c5, (e 6).trans h.c6, (e 7).trans h.c7, (e 8).trans h.c8, (e 9).trans h.c9⟩

set_option maxRecDepth 100000 in
set_option maxHeartbeats 4000000 in
theorem pcopy_any (n : ByteArray) (a : Option Addr) (l : List ByteArray) (c : Nat) (x0 x1 x2 x3 x4 x5 x6 x7 : Int) (w : World) (hn : n.size ≤ 140737488355328) (hsl : SlS w a l) (hz : ∀ k, k < l.length → (tk l k).size ≤ 140737488355328) (hl : l.length ≤ 100) :
    Calls Tryz.prog 18 #[planV n a l.length c x0 x1 x2 x3 x4 x5 x6 x7] w fun e w' => ∃ a' c', e = .returned (planV n a' l.length c' x0 x1 x2 x3 x4 x5 x6 x7) ∧ Txts w' w.heap.size (.slice a' l.length c') l ∧ Below w.heap.size w w' := by
  obtain ⟨W, hW⟩ : ∃ W, W = (w.alloc (.cells #[.string n, .slice a l.length c, .int .i64 x0, .int .i64 x1, .int .i64 x2, .int .i64 x3, .int .i64 x4, .int .i64 x5, .int .i64 x6, .int .i64 x7] 24)).alloc (.cells #[.string ⟨#[]⟩, .slice none 0 0, .int .i64 0, .int .i64 0, .int .i64 0, .int .i64 0, .int .i64 0, .int .i64 0, .int .i64 0, .int .i64 0] 24) := ⟨_, rfl⟩
  have hs1 : (w.alloc (.cells #[.string n, .slice a l.length c, .int .i64 x0, .int .i64 x1, .int .i64 x2, .int .i64 x3, .int .i64 x4, .int .i64 x5, .int .i64 x6, .int .i64 x7] 24)).heap.size = w.heap.size + 1 := by simp
  have hsz : W.heap.size = w.heap.size + 2 := by rw [hW]; simp
  have hb : Below w.heap.size w W := by rw [hW]; exact ((Below.refl _ _).alloc (Nat.le_refl _) _).alloc (by simp) _
  have hb1 : Below (w.alloc (.cells #[.string n, .slice a l.length c, .int .i64 x0, .int .i64 x1, .int .i64 x2, .int .i64 x3, .int .i64 x4, .int .i64 x5, .int .i64 x6, .int .i64 x7] 24)).heap.size (w.alloc (.cells #[.string n, .slice a l.length c, .int .i64 x0, .int .i64 x1, .int .i64 x2, .int .i64 x3, .int .i64 x4, .int .i64 x5, .int .i64 x6, .int .i64 x7] 24)) W := by rw [hW]; exact (Below.refl _ _).alloc (Nat.le_refl _) _
  have p0 := (PB.new w n a l.length c x0 x1 x2 x3 x4 x5 x6 x7 24).next hb1
  have p1 : PB W (w.heap.size + 1) ⟨#[]⟩ none 0 0 0 0 0 0 0 0 0 0 := by
    have := PB.new (w.alloc (.cells #[.string n, .slice a l.length c, .int .i64 x0, .int .i64 x1, .int .i64 x2, .int .i64 x3, .int .i64 x4, .int .i64 x5, .int .i64 x6, .int .i64 x7] 24)) ⟨#[]⟩ none 0 0 0 0 0 0 0 0 0 0 24
    rw [← hW, hs1] at this
    exact this
  have f0 : ∀ j, W.frozen? ⟨w.heap.size, j, none⟩ = false := fun j => by
    rw [hb1.frozen (p := ⟨w.heap.size, j, none⟩) (by simp)]
    exact World.frozen?_alloc_new _ _ _ j
  have f1 : ∀ j, W.frozen? ⟨w.heap.size + 1, j, none⟩ = false := fun j => by
    rw [hW, ← hs1]
    exact World.frozen?_alloc_new _ _ _ j
  have HP : Hid (∀ W2, Below W.heap.size W W2 → PB W2 w.heap.size n a l.length c x0 x1 x2 x3 x4 x5 x6 x7 ∧ PB W2 (w.heap.size + 1) ⟨#[]⟩ none 0 0 0 0 0 0 0 0 0 0 ∧ (∀ j, W2.frozen? ⟨w.heap.size, j, none⟩ = false) ∧ (∀ j, W2.frozen? ⟨w.heap.size + 1, j, none⟩ = false) ∧ SlS W2 a l ∧ Below w.heap.size w W2) := hide (fun W2 h2 => ⟨p0.next h2, p1.next h2, fun j => (h2.frozen (p := ⟨w.heap.size, j, none⟩) p0.lt).trans (f0 j), fun j => (h2.frozen (p := ⟨w.heap.size + 1, j, none⟩) p1.lt).trans (f1 j), (hsl.next hb).next h2, bstep hb h2⟩)
  have d1 := p0.c1
  have HZ := hide hz
  have hWle : W.heap.size ≤ W.heap.size := Nat.le_refl _
  have X0 : Hid (Txts W W.heap.size (.slice none 0 0) (l.take 0) ∧ Below W.heap.size W W) := hide ⟨Txts.nil W _, Below.refl _ _⟩
  have PCl : Hid (∀ (t : ByteArray) (X : World), t.size ≤ 140737488355328 → Calls Tryz.prog 32 #[.string t] X fun e w' => e = .returned (.string t) ∧ Below X.heap.size X w') := hide (fun t X ht => clone_any t X (by omega))
  clear hsl hz p0 p1 f0 f1 hb hb1 hs1
  go_enter Tryz.func18, Tryz.ntmps18
  go_wp2_with fail
  rw [← hW]
  clear hW
  go_loopw [3, 9] (fun sv iv wr => ∃ (k : Nat), iv = .int .i64 k ∧ k ≤ l.length ∧ Hid (Txts wr W.heap.size sv (l.take k) ∧ Below W.heap.size W wr)) (fun _ iv _ => l.length - (intOf iv).toNat)
  case atStart => exact ⟨0, rfl, Nat.zero_le _, X0⟩
  case round =>
    clear X0
    obtain ⟨k, rfl, hk, X⟩ := hrel
    by_cases hlt : k < l.length
    · obtain ⟨_, _, _, _, q4, _⟩ := unhide HP wr (unhide X).2
      obtain ⟨ba, o, rfl, hba, hcell⟩ := q4 k hlt
      obtain ⟨av, cv, hv, hcv, _⟩ := (unhide X).1.shape
      rw [List.length_take, Nat.min_eq_left hk] at hv hcv
      have ht := take_tk hlt
      have PC := hide (unhide PCl (tk l k) wr (unhide HZ k hlt))
      generalize tk l k = t at *
      have HT := hide ht
      subst hv
      clear q4 ht
      go_wp2_with fail
      refine (unhide PC).mono ?_
      rintro e w1 ⟨rfl, b1⟩
      have X1 : Hid (Txts w1 W.heap.size (.slice av k cv) (l.take k) ∧ Below W.heap.size W w1) := hide ⟨(unhide X).1.below b1, (unhide X).2.trans (b1.mono (unhide X).2.size)⟩
      obtain ⟨v8, w8, hrun, T8, B8⟩ := txt_more (unhide X1).1 (unhide X1).2 t (by rw [List.length_take]; omega) (unhide X1).2.size
      have HRun := hide hrun
      have X8 : Hid (Txts w8 W.heap.size v8 (l.take (k + 1)) ∧ Below W.heap.size W w8) := hide ⟨by rw [unhide HT]; exact T8, B8⟩
      clear PC b1 X X1 hrun T8 B8 HT hcell
      go_wp2_with (at_builtin; refine Lib.wpList_append_run _ rfl _ _ _ _ rfl _ _ rfl rfl _ _ (unhide HRun) ?_)
      refine ⟨⟨k + 1, by go_num, by omega, X8⟩, ?_⟩
      simp [intOf]; omega
    · obtain rfl : k = l.length := by omega
      have X2 : Hid (Txts wr W.heap.size u3 l ∧ Below W.heap.size W wr) := hide (by have := unhide X; rwa [List.take_length] at this)
      obtain ⟨av, cv, hv, hcv, _⟩ := (unhide X2).1.shape
      have n0 := (unhide HP wr (unhide X2).2).1.c0
      have PC := hide (unhide PCl n wr hn)
      subst hv
      clear X hlt
      go_wp2_with fail
      refine (unhide PC).mono ?_
      rintro e w1 ⟨rfl, b1⟩
      have X3 : Hid (Txts w1 W.heap.size (.slice av l.length cv) l ∧ Below W.heap.size W w1) := hide ⟨(unhide X2).1.below b1, (unhide X2).2.trans (b1.mono (unhide X2).2.size)⟩
      obtain ⟨pa, pb, g0, g1, _, bw⟩ := unhide HP w1 (unhide X3).2
      have PA := hide pa
      have PB' := hide pb
      have BW := hide bw
      have G0 := hide g0
      have G1 := hide g1
      obtain ⟨la, a0, a1, a2, a3, a4, a5, a6, a7, a8, a9⟩ := pa
      obtain ⟨lb, c0, c1, c2, c3, c4, c5, c6, c7, c8, c9⟩ := pb
      have s0 := g0 0
      have s1 := g0 1
      have t0 := g1 0
      have t1 := g1 1
      have t2 := g1 2
      have t3 := g1 3
      have t4 := g1 4
      have t5 := g1 5
      have t6 := g1 6
      have t7 := g1 7
      have t8 := g1 8
      have t9 := g1 9
      have hne : w.heap.size ≠ w.heap.size + 1 := by omega
      clear PC b1 X2 n0 g0 g1 bw
      go_wp2_with fail
      have hfin := (((unhide PB').side (k := w.heap.size) (j := 0) (by omega) (.string n)).side (k := w.heap.size) (j := 1) (by omega) (.slice av l.length cv)).puts n av l.length cv x0 x1 x2 x3 x4 x5 x6 x7
      (try simp only [Exit.inBlock, Exit.then])
      refine bodyPost_ret (results_plan1 (b := w.heap.size + 1) rfl rfl hfin) rfl ?_
      refine ⟨av, cv, rfl, ?_, ?_⟩
      · refine txts_low (Txts.chg (A := fun k => k = w.heap.size ∨ k = w.heap.size + 1) (unhide X3).1 (puts_chg (b := w.heap.size + 1) (.inr rfl) [.string n, .slice av l.length cv, .int .i64 x0, .int .i64 x1, .int .i64 x2, .int .i64 x3, .int .i64 x4, .int .i64 x5, .int .i64 x6, .int .i64 x7] _ 0 (((Dk.Chg.refl _ _).setCell (p := ⟨w.heap.size, 0, none⟩) (.inl (.inl rfl)) _).setCell (p := ⟨w.heap.size, 1, none⟩) (.inl (.inl rfl)) _)) (fun g hg z => by omega)) (by omega)
      · exact puts_below (b := w.heap.size + 1) (by omega) [.string n, .slice av l.length cv, .int .i64 x0, .int .i64 x1, .int .i64 x2, .int .i64 x3, .int .i64 x4, .int .i64 x5, .int .i64 x6, .int .i64 x7] _ 0 (((unhide BW).setCell (p := ⟨w.heap.size, 0, none⟩) (Nat.le_refl _) _).setCell (p := ⟨w.heap.size, 1, none⟩) (Nat.le_refl _) _)
end Go.Proofs.YtmccpkpeimejhahGreatDoor
