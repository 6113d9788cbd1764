/-
  Contract of the landed plan.read.
-/
import Derived.Test.YtohjipnkoiifhagDoorWalkY9
namespace Go.Proofs.YtohjipnkoiifhagDoor
open Go.RowKit

set_option maxRecDepth 100000 in
set_option maxHeartbeats 4000000 in
theorem read_any (s : ByteArray) (w : World) (hs : s.size ≤ 1024) (hG : BndIs w) :
    Calls Tryd.prog 17 #[.string s] w fun e w' => ReadsIs s w e w' := by
  have r0 := PB.new w ⟨#[]⟩ none 0 0 0 0 0 0 0 0 0 0 24
  have b0 : Below w.heap.size w (w.alloc (.cells #[.string ⟨#[]⟩, .slice none 0 0, .int .i64 0, .int .i64 0, .int .i64 0, .int .i64 0, .int .i64 0, .int .i64 0, .int .i64 0, .int .i64 0] 24)) := (Below.refl _ _).alloc (Nat.le_refl _) _
  have rf0 : ∀ j, (w.alloc (.cells #[.string ⟨#[]⟩, .slice none 0 0, .int .i64 0, .int .i64 0, .int .i64 0, .int .i64 0, .int .i64 0, .int .i64 0, .int .i64 0, .int .i64 0] 24)).frozen? ⟨w.heap.size, j, none⟩ = false := fun j => World.frozen?_alloc_new _ _ _ j
  obtain ⟨W, hW⟩ : ∃ W, W = w.alloc (.cells #[.string ⟨#[]⟩, .slice none 0 0, .int .i64 0, .int .i64 0, .int .i64 0, .int .i64 0, .int .i64 0, .int .i64 0, .int .i64 0, .int .i64 0] 24) := ⟨_, rfl⟩
  rw [← hW] at r0 b0 rf0
  have hf := cutT_few 32 s hs
  have PP := hide (split_at 32 s W (by omega) (by omega))
  have HS2 : Hid ((cutT 32 s).length < 2 → Pn.readP s = (Pn.zeroP, 3)) := hide (read_short (ws := cutT 32 s) (by omega) (cutT_data 32 s))
  have HS3 : Hid (¬ (cutT 32 s).length < 2 → _) := hide (fun h => read_cut (s := s) (by omega) h)
  have HSz : Hid (∀ k, k < (cutT 32 s).length → (tk (cutT 32 s) k).size ≤ 1024) := hide (fun k hk => Nat.le_trans (cutT_size 32 s hk) hs)
  obtain ⟨ws, hws⟩ : ∃ ws, cutT 32 s = ws := ⟨_, rfl⟩
  rw [hws] at PP HS2 HS3 HSz hf
  have hWl : w.heap.size < W.heap.size := r0.lt
  have H0 := hide (And.intro r0 rf0)
  have HB := hide (And.intro b0 (hG.next b0))
  clear hws r0 rf0 b0
  go_enter Tryd.func17, Tryd.ntmps17
  go_wp2_with fail
  rw [← hW]
  obtain ⟨rb, hrb⟩ : ∃ rb, rb = w.heap.size := ⟨_, rfl⟩
  rw [← hrb] at H0 ⊢
  have hrw : w.heap.size ≤ rb := by omega
  rw [← hrb] at hWl
  clear hW hrb
  refine (unhide PP).mono ?_
  rintro e w1 ⟨g, rfl, o1, b1⟩
  have H1 : Hid (PB w1 rb ⟨#[]⟩ none 0 0 0 0 0 0 0 0 0 0 ∧ (∀ j, w1.frozen? ⟨rb, j, none⟩ = false) ∧ Below w.heap.size w w1 ∧ BndIs w1 ∧ SlS w1 (some ⟨g, 0, none⟩) ws) := hide ⟨(unhide H0).1.next b1, fun j => by rw [b1.frozen (p := ⟨rb, j, none⟩) hWl]; exact (unhide H0).2 j, bstep (unhide HB).1 b1, (unhide HB).2.next b1, own_txts o1⟩
  have hg1 := (own_base o1).2
  have hgr : rb ≠ g := by have := (own_base o1).1; omega
  clear PP o1 b1 H0 HB
  by_cases h2 : ws.length < 2
  · have g2 : decide ((ws.length : Int) < 2) = true := decide_eq_true (by omega)
    have HR := hide (unhide HS2 h2)
    obtain ⟨_, y0, y1, y2, y3, y4, y5, y6, y7, y8, y9⟩ := (unhide H1).1
    have fz := (unhide H1).2.1
    clear HS2 HS3 HSz
    go_wp2_with fail
    refine bodyPost_ret (results_plan2 rfl rfl ((unhide H1).1.puts _ _ _ _ _ _ _ _ _ _ _ _)) rfl ?_
    exact ReadsIs.short (unhide HR) (puts_below hrw [_, _, _, _, _, _, _, _, _, _] w1 0 (unhide H1).2.2.1) rfl
  · have g2 : decide ((ws.length : Int) < 2) = false := decide_eq_false (by omega)
    have HR := hide (unhide HS3 h2)
    obtain ⟨_, _, e0, _, c0⟩ := (unhide H1).2.2.2.2 0 (by omega)
    cases e0
    rw [Nat.zero_add] at c0
    have hXz := unhide HSz 0 (by omega)
    have hYz := unhide HSz 1 (by omega)
    obtain ⟨X, hX⟩ : ∃ X, tk ws 0 = X := ⟨_, rfl⟩
    obtain ⟨Y, hY⟩ : ∃ Y, tk ws 1 = Y := ⟨_, rfl⟩
    rw [hX] at c0 hXz HR
    rw [hY] at hYz HR
    have PC := hide (clone_any X w1 (by omega))
    have HX := hide hX
    have HY := hide hY
    have hl2 : ¬ ws.length < 2 := h2
    have hj0 : (0 : Int) < (ws.length : Int) := by omega
    have hj1 : (1 : Int) < (ws.length : Int) := by omega
    clear hX hY HS2 HS3
    go_wp2_with fail
    refine (unhide PC).mono ?_
    rintro e w2 ⟨rfl, b2⟩
    have k3 : Below w2.heap.size w2 (w2.alloc (.cells #[.string X, .slice none 0 0, .int .i64 0, .int .i64 0, .int .i64 0, .int .i64 0, .int .i64 0, .int .i64 0, .int .i64 0, .int .i64 0] 24)) := (Below.refl _ _).alloc (Nat.le_refl _) _
    have p3 := PB.new w2 X none 0 0 0 0 0 0 0 0 0 0 24
    have f3 : ∀ j, (w2.alloc (.cells #[.string X, .slice none 0 0, .int .i64 0, .int .i64 0, .int .i64 0, .int .i64 0, .int .i64 0, .int .i64 0, .int .i64 0, .int .i64 0] 24)).frozen? ⟨w2.heap.size, j, none⟩ = false := fun j => World.frozen?_alloc_new _ _ _ j
    obtain ⟨W3, hW3⟩ : ∃ W3, W3 = w2.alloc (.cells #[.string X, .slice none 0 0, .int .i64 0, .int .i64 0, .int .i64 0, .int .i64 0, .int .i64 0, .int .i64 0, .int .i64 0, .int .i64 0] 24) := ⟨_, rfl⟩
    obtain ⟨b, hb⟩ : ∃ b, b = w2.heap.size := ⟨_, rfl⟩
    rw [← hW3] at k3 p3 f3
    rw [← hb] at p3 f3
    have b13 : Below w1.heap.size w1 W3 := bstep b2 k3
    have H3 : Hid (PB W3 rb ⟨#[]⟩ none 0 0 0 0 0 0 0 0 0 0 ∧ (∀ j, W3.frozen? ⟨rb, j, none⟩ = false) ∧ Below w.heap.size w W3 ∧ BndIs W3 ∧ SlS W3 (some ⟨g, 0, none⟩) ws) := hide ⟨(unhide H1).1.next b13, fun j => by rw [b13.frozen (p := ⟨rb, j, none⟩) (unhide H1).1.lt]; exact (unhide H1).2.1 j, bstep (unhide H1).2.2.1 b13, (unhide H1).2.2.2.1.next b13, (unhide H1).2.2.2.2.next b13⟩
    have hw1b : w1.heap.size ≤ b := by rw [hb]; exact b2.size
    have hrb1 : rb < w1.heap.size := (unhide H1).1.lt
    have hGw : 0 < w1.heap.size := (unhide H1).2.2.2.1.1
    have HP3 := hide (And.intro p3 f3)
    have hff := cutT_few 44 Y hYz
    have P4 := hide (split_at 44 Y W3 (by omega) (by omega))
    have HLz : Hid (∀ k, k < (cutT 44 Y).length → (tk (cutT 44 Y) k).size ≤ 1024) := hide (fun k hk => Nat.le_trans (cutT_size 44 Y hk) hYz)
    obtain ⟨_, _, e0, _, c1⟩ := (unhide H3).2.2.2.2 1 (by omega)
    cases e0
    rw [Nat.zero_add, unhide HY] at c1
    obtain ⟨lf, hlf⟩ : ∃ lf, cutT 44 Y = lf := ⟨_, rfl⟩
    rw [hlf] at P4 HLz HR hff
    rw [hW3] at c1
    clear hlf PC c0 b2 k3 p3 f3 H1 b13
    go_wp2_with fail
    rw [← hW3, ← hb]
    clear hW3 hb c1
    refine (unhide P4).mono ?_
    rintro e w4 ⟨gf, rfl, o4, b4⟩
    have hgf := own_base o4
    have hb3 : b < W3.heap.size := (unhide HP3).1.lt
    have hgW : g < W3.heap.size := by
      obtain ⟨_, _, e0, h, _⟩ := (unhide H3).2.2.2.2 0 (by omega)
      cases e0
      exact h
    have H4 : Hid (PB w4 rb ⟨#[]⟩ none 0 0 0 0 0 0 0 0 0 0 ∧ (∀ j, w4.frozen? ⟨rb, j, none⟩ = false) ∧ Below w.heap.size w w4 ∧ BndIs w4 ∧ SlS w4 (some ⟨g, 0, none⟩) ws ∧ SlS w4 (some ⟨gf, 0, none⟩) lf) := hide ⟨(unhide H3).1.next b4, fun j => by rw [b4.frozen (p := ⟨rb, j, none⟩) (unhide H3).1.lt]; exact (unhide H3).2.1 j, bstep (unhide H3).2.2.1 b4, (unhide H3).2.2.2.1.next b4, (unhide H3).2.2.2.2.next b4, own_txts o4⟩
    have F4 : Hid (Fl w4 w4 b X lf 0 none 0) := hide ⟨Nst.next ⟨(unhide HP3).1.lt, (unhide HP3).1.c0, (unhide HP3).1.c1, (unhide HP3).1.num, (unhide HP3).2⟩ b4, by rw [List.take_zero]; exact Txts.nil _ _, Dk.Chg.refl _ _, Nat.lt_of_lt_of_le hb3 b4.size⟩
    have hgfb : gf ≠ b := by omega
    have hgb : g ≠ b := by omega
    have hgfl : gf < w4.heap.size := hgf.2
    have hgl4 : g < w4.heap.size := Nat.lt_of_lt_of_le hgW b4.size
    have hrl4 : rb < w4.heap.size := (unhide H4).1.lt
    have hrbb : rb ≠ b := by omega
    have hGb : 0 ≠ b := by omega
    have hlf1 : lf.length ≤ 100000 := by omega
    clear o4 b4 HP3 H3 P4 hgf HY hYz hgW
    go_wp2_with fail
    go_loopw [25] (fun iv wr => ∃ (k : Nat) (a : Option Addr) (c : Nat), iv = .int .i64 k ∧ k ≤ lf.length ∧ Hid (Fl w4 wr b X lf k a c)) (fun iv _ => lf.length - (intOf iv).toNat)
    case atStart => exact ⟨0, none, 0, rfl, Nat.zero_le _, F4⟩
    case round =>
      clear F4
      obtain ⟨k, a, c, rfl, hk, F5⟩ := hrel
      by_cases hlt : k < lf.length
      · have e1 : wr.cell? ⟨gf, k, none⟩ = some (.string (tk lf k)) := by
          obtain ⟨_, _, e0, _, e1⟩ := (unhide H4).2.2.2.2.2 k hlt
          cases e0
          rw [Nat.zero_add] at e1
          rw [(unhide F5).chg.cell (p := ⟨gf, k, none⟩) hgfl hgfb]
          exact e1
        have c1 := (unhide F5).st.c1
        have hbl := (unhide F5).st.lt
        have PC := hide (fun (W : World) => clone_any (tk lf k) W (by have := unhide HLz k hlt; omega))
        have PA := hide (fun (W : World) (h : Below wr.heap.size wr W) => (unhide F5).more hlt hlf1 h)
        obtain ⟨t, ht⟩ : ∃ t, tk lf k = t := ⟨_, rfl⟩
        rw [ht] at e1 PC PA
        clear ht
        go_wp2_with fail
        go_region_law (first
          | (refine step_appendX rfl _ _ 22 22 rfl (.slice a k c) _ (by first | (simp [Act.eval]; done) | (simp [Act.eval, Act.put]; done)) (by first | (simp [Act.eval]; done) | (simp [Act.eval, Act.put]; done)) hrun ?_)
          | (go_simp; go_at_call 34; refine (unhide PC _).mono ?_; rintro e w6 ⟨rfl, b6⟩; have d2 := (b6.cell (p := ⟨b, 1, none⟩) hbl).trans c1; have hp6 := Nat.lt_of_lt_of_le hbl b6.size; obtain ⟨a', c', w8, hrun, e8, f8, F8⟩ := unhide PA w6 (((Below.refl wr.heap.size wr).drew).trans b6); dsimp only))
        all_goals
          have F9 := hide F8
          clear F8 e8 f8 hrun d2 hp6 b6 PC PA e1 c1 hbl F5
          go_wp2_with fail
          refine ⟨⟨k + 1, a', c', by go_num, by omega, F9⟩, ?_⟩
          simp [intOf]; omega
      · obtain rfl : k = lf.length := by omega
        obtain ⟨hcc, hsl, hbk⟩ := (unhide F5).fin
        have ch := (unhide F5).chg
        have hb4 := (unhide F5).blt
        have hrow : SlS wr (some ⟨g, 0, none⟩) ws := (unhide H4).2.2.2.2.1.chg ch (fun z hz => by cases hz; exact hgb)
        have hNm : Nm wr wr b X a lf.length c (if ws.length = 2 then some ⟨g, 0, none⟩ else some ⟨g, 2, none⟩) (ws.drop 2) [0, 0, 0, 0, 0, 0, 0, 0] := ⟨(unhide F5).st, hrow.two, (unhide H4).2.2.2.1.chg ch hGb, Dk.Chg.refl _ _, fun z hz => by
          split at hz
          · cases hz; exact hgb
          · cases hz; exact hgb, hGb⟩
        have PR := hide (readNumbers_any (if ws.length = 2 then some ⟨g, 0, none⟩ else some ⟨g, 2, none⟩) (ws.drop 2) (ws.length - 2) b X a lf.length c wr hNm (by rw [List.length_drop]; omega) (by rw [List.length_drop]; omega) (fun k hk => by
          rw [List.length_drop] at hk
          have := unhide HSz (k + 2) (by omega)
          unfold tk at this ⊢
          rw [List.getElem?_drop, Nat.add_comm 2 k]
          exact this))
        rw [List.length_drop] at PR
        have HF : Hid (SlS wr a lf ∧ (∀ z, a = some z → w4.heap.size ≤ z.block) ∧ Dk.Chg (fun q => q = b) w4 wr) := hide ⟨hsl, hbk, ch⟩
        clear F5 hsl hbk hrow hNm ch
        by_cases h22 : ws.length = 2
        all_goals
          first
            | (rw [if_pos h22, show ws.length - 2 = 0 by omega] at PR)
            | (rw [if_neg h22] at PR)
          go_wp2_with fail
          refine (unhide PR).mono ?_
          rintro e w9 ⟨r, v, rfl, hr1, hr2, h8, st9, ch9⟩
          obtain ⟨x0, x1, x2, x3, x4, x5, x6, x7, rfl⟩ := eight h8
          have hnb : ∀ z, a = some z → z.block ≠ b := fun z hz e => by
            have := (unhide HF).2.1 z hz
            omega
          have hnr : ∀ z, a = some z → z.block ≠ rb := fun z hz e => by
            have := (unhide HF).2.1 z hz
            omega
          have sl9 := (unhide HF).1.chg ch9 hnb
          have r9 := ((unhide H4).1.chg (unhide HF).2.2 hrbb).chg ch9 hrbb
          have c9 : Below w.heap.size w w9 := (unhide H4).2.2.1.trans (((unhide HF).2.2.below (B := w.heap.size) (by omega) (fun q hq e => by omega)).trans (ch9.below (by have := (unhide HF).2.2.size; omega) (fun q hq e => by omega)))
          have fz : ∀ j, w9.frozen? ⟨rb, j, none⟩ = false := fun j => by
            rw [ch9.frozen (p := ⟨rb, j, none⟩) (Nat.lt_of_lt_of_le hrl4 (unhide HF).2.2.size) hrbb, (unhide HF).2.2.frozen (p := ⟨rb, j, none⟩) hrl4 hrbb]
            exact (unhide H4).2.1 j
          have pb9 := st9.pb
          have HQ : Hid ((r = false → Pn.readP s = (Pn.zeroP, 3)) ∧ (r = true → Pn.readP s = if Pn.planE ⟨X, lf, [x0, x1, x2, x3, x4, x5, x6, x7]⟩ = 0 then (⟨X, lf, [x0, x1, x2, x3, x4, x5, x6, x7]⟩, 0) else (Pn.zeroP, Pn.planE ⟨X, lf, [x0, x1, x2, x3, x4, x5, x6, x7]⟩))) := hide ⟨fun h => by rw [unhide HR, hr2 h], fun h => by rw [unhide HR, hr1 h]⟩
          have H9 := hide (And.intro r9 (And.intro c9 sl9))
          obtain ⟨_, y0, y1, y2, y3, y4, y5, y6, y7, y8, y9⟩ := r9
          obtain ⟨_, z0, z1, z2, z3, z4, z5, z6, z7, z8, z9⟩ := pb9
          have HN := hide hnr
          have HNw : Hid (∀ z, a = some z → w.heap.size ≤ z.block) := hide (fun z hz => Nat.le_trans (unhide H4).2.2.1.size ((unhide HF).2.1 z hz))
          clear PR HF H4 HR hr1 hr2 st9 ch9 sl9 c9 h8 hnb hnr HX
          go_wp2_with fail
          refine bodyPost_ret (results_plan2 rfl rfl ((unhide H9).1.puts _ _ _ _ _ _ _ _ _ _ _ _)) rfl ?_
          exact ⟨r, X, a, lf, c, x0, x1, x2, x3, x4, x5, x6, x7, rfl, SlS.puts (unhide HN) [_, _, _, _, _, _, _, _, _, _] _ 0 (unhide H9).2.2, hcc, puts_below hrw [_, _, _, _, _, _, _, _, _, _] _ 0 (unhide H9).2.1, (unhide HQ).1, (unhide HQ).2, hXz, unhide HLz, hff, unhide HNw⟩
end Go.Proofs.YtohjipnkoiifhagDoor
