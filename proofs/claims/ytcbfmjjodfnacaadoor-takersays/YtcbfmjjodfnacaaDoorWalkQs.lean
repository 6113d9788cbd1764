/-
  The walk of the law TakerSays.
-/
import Derived.Test.YtcbfmjjodfnacaaDoorWalkQh
import Derived.Test.YtcbfmjjodfnacaaDoorWalkQj
import Derived.Test.YtcbfmjjodfnacaaDoorWalkQc
import Derived.Test.YtcbfmjjodfnacaaDoorWalkQi
import Derived.Test.YtcbfmjjodfnacaaDoorWalkQw
namespace Go.Proofs.YtcbfmjjodfnacaaDoor
open Go.RowKit

/-- a consumer's plan that stands in memory -/
abbrev AtT (b : Nat) (t : Tk.Tkr) (a : Option Addr) (c : Nat) (w : World) : Prop := w.cell? ⟨b, 0, none⟩ = some (.string t.n) ∧ w.cell? ⟨b, 1, none⟩ = some (.string t.f) ∧ w.cell? ⟨b, 2, none⟩ = some (.int .i64 t.fr) ∧ w.cell? ⟨b, 3, none⟩ = some (.int .i64 t.st) ∧ w.cell? ⟨b, 4, none⟩ = some (.int .i64 t.ack) ∧ w.cell? ⟨b, 5, none⟩ = some (.int .i64 t.wait) ∧ w.cell? ⟨b, 6, none⟩ = some (.slice a t.bo.length c) ∧ w.cell? ⟨b, 7, none⟩ = some (.int .i64 t.mo) ∧ w.cell? ⟨b, 8, none⟩ = some (.int .i64 t.pe) ∧ w.cell? ⟨b, 9, none⟩ = some (.bool t.pu)
theorem TB.at {w : World} {b : Nat} {t : Tk.Tkr} {a : Option Addr} {c : Nat} (h : TB w b t a c) : AtT b t a c w := ⟨h.c0, h.c1, h.c2, h.c3, h.c4, h.c5, h.c6, h.c7, h.c8, h.c9⟩
/-- a consumer's plan in a block of its own, and what the tables say -/
abbrev Tst (w0 w : World) (b : Nat) (t : Tk.Tkr) (a : Option Addr) (c : Nat) : Prop := TB w b t a c ∧ Dk.SlI w a t.bo ∧ TG w ∧ Below w0.heap.size w0 w
theorem Tst.next {w0 w w' : World} {b : Nat} {t : Tk.Tkr} {a : Option Addr} {c : Nat} (h : Tst w0 w b t a c) (hb : Below w.heap.size w w') : Tst w0 w' b t a c := ⟨h.1.next hb, nums_on h.2.1 hb, h.2.2.1.next hb, bstep h.2.2.2 hb⟩
theorem Tk.tak_small {t : Tk.Tkr} (h : Tk.takE t = 0) : t.n.size ≤ 1024 ∧ t.f.size ≤ 1024 := by
  have hx := (Tk.text_ok h).2
  rw [Tk.takT_tl, Pn.bs_size] at hx
  simp only [List.length_append, List.length_cons] at hx
  have e1 : t.n.data.toList.length = t.n.size := Array.length_toList
  have e2 : t.f.data.toList.length = t.f.size := Array.length_toList
  omega
/-- the text that is asked for -/
def wantT (t : Tk.Tkr) : ByteArray := if Tk.takE t = 0 then Tk.takT t else ⟨#[]⟩
theorem want_print (t : Tk.Tkr) : tprintV t = .tuple #[.string (wantT t), .int .i64 (Tk.takE t)] := by
  unfold tprintV wantT
  by_cases h : Tk.takE t = 0
  · rw [if_neg (by simp [h]), if_pos h, h]
  · rw [if_pos h, if_neg h]
set_option maxRecDepth 100000 in
set_option maxHeartbeats 4000000 in
theorem taker_says (t : Tk.Tkr) (a : Option Addr) (c : Nat) (n : Int) (w : World) (hs : SmallQ t) (hsl : Dk.SlI w a t.bo) (hG : TG w) :
    Calls Tryd.prog 3 #[tkV t a c, .int .i64 n] w fun e w' => e = .returned (.bool true) ∧ Below w.heap.size w w' := by
  have b0 : Below w.heap.size w (w.alloc (tkO t a c)) := (Below.refl _ _).alloc (Nat.le_refl _) _
  have Q0 : Hid (Tst w (w.alloc (tkO t a c)) w.heap.size t a c) := hide ⟨TB.new w t a c, nums_on hsl b0, hG.next b0, b0⟩
  obtain ⟨W, hW⟩ : ∃ W, W = w.alloc (tkO t a c) := ⟨_, rfl⟩
  have P1 := hide (fun (W : World) (h : Tst w W w.heap.size t a c) => rtaker_any t a c W hs h.2.1)
  have P2 := hide (fun (hk : Tk.takE t = 0) (W : World) (h : Tst w W w.heap.size t a c) => rtext_any t a c W hk (Tk.tak_small hk) h.2.1 h.2.2.1.2)
  have P3 := hide (fun (W : World) (h : Tst w W w.heap.size t a c) => tprint_any t a c W hs h.2.1 h.2.2.1)
  have P4 := hide (fun (W : World) (h : Tst w W w.heap.size t a c) => tcheck_any t a c W hs h.2.1)
  have P5 := hide (fun (W : World) (h : Tst w W w.heap.size t a c) => wait_any t a c n W h.2.1 hs.many)
  have P6 := hide (fun (hn : n ≤ 100) (W : World) (h : Tst w W w.heap.size t a c) => rwait_any t a c n W h.2.1 hs.many hn)
  rw [← hW] at Q0
  clear b0 hsl hG hs
  go_enter Tryd.func3, Tryd.ntmps3
  go_upto_region 1 with fail
  rw [← hW]
  obtain ⟨b, hb⟩ : ∃ b, b = w.heap.size := ⟨_, rfl⟩
  rw [← hb] at Q0 P1 P2 P3 P4 P5 P6 ⊢
  have HB := hide hb
  clear hW hb
  obtain ⟨hbl, y0, y1, y2, y3, y4, y5, y6, y7, y8, y9⟩ := (unhide Q0).1
  go_wp2_with fail
  refine (unhide P1 W (unhide Q0)).mono ?_
  rintro e w1 ⟨rfl, b1⟩
  have Q1 := hide ((unhide Q0).next b1)
  clear b1 Q0 P1 hbl y0 y1 y2 y3 y4 y5 y6 y7 y8 y9
  obtain ⟨E, hE⟩ : ∃ E, E = Tk.takE t := ⟨_, rfl⟩
  obtain ⟨X, hX⟩ : ∃ X, X = wantT t := ⟨_, rfl⟩
  have PP : Hid (∀ (W : World), Tst w W b t a c → Calls Tryd.prog 8 #[tkV t a c] W fun e w' => e = .returned (.tuple #[.string X, .int .i64 E]) ∧ Below W.heap.size W w') := hide (fun W h => by have := unhide P3 W h; rw [want_print, ← hX, ← hE] at this; exact this)
  rw [← hE] at P4 ⊢
  have HX0 : Hid (E = 0 → X = Tk.takT t) := hide (fun h => by rw [hX]; unfold wantT; rw [if_pos (by rw [← hE]; exact h)])
  have HX1 : Hid (E ≠ 0 → X = ⟨#[]⟩) := hide (fun h => by rw [hX]; unfold wantT; rw [if_neg (by rw [← hE]; exact h)])
  have HE := hide hE
  clear hE hX P3
  go_upto_if 12 with fail
  go_cut [6] (fun v wx => v = .string X ∧ Tst w wx b t a c)
  case first =>
    by_cases h0 : E = 0
    · have e0 : (E == 0) = true := by rw [h0]; rfl
      have PT := hide (unhide P2 ((unhide HE).symm.trans h0) w1 (unhide Q1))
      have hx := unhide HX0 h0
      rw [← hx] at PT
      obtain ⟨hbl, y0, y1, y2, y3, y4, y5, y6, y7, y8, y9⟩ := (unhide Q1).1
      clear h0 hx
      go_wp2_with fail
      refine (unhide PT).mono ?_
      rintro e w2 ⟨rfl, b2⟩
      have Q2 := hide ((unhide Q1).next b2)
      clear b2 PT y0 y1 y2 y3 y4 y5 y6 y7 y8 y9
      go_wp2_with fail
      go_meet
      exact ⟨rfl, unhide Q2⟩
    · have e0 : (E == 0) = false := by rw [beq_eq_false_iff_ne]; exact h0
      have hx := unhide HX1 h0
      clear h0
      go_wp2_with fail
      go_meet
      exact ⟨by rw [hx], unhide Q1⟩
  case rest =>
    clear Q1 P2 HX0 HX1
    obtain ⟨rfl, q2⟩ := hcut
    have Q2 := hide q2
    obtain ⟨hbl, y0, y1, y2, y3, y4, y5, y6, y7, y8, y9⟩ := q2.1
    clear q2
    go_wp2_with fail
    refine (unhide PP wc (unhide Q2)).mono ?_
    rintro e w3 ⟨rfl, b3⟩
    have Q3 := hide ((unhide Q2).next b3)
    clear b3 PP Q2 hbl y0 y1 y2 y3 y4 y5 y6 y7 y8 y9
    have HK := hide (fun (w4 : World) (b4 : Below w3.heap.size w3 w4) => (unhide Q3).next b4)
    have k0 : AtT b t a c w3.drew := (unhide Q3).1.at
    have hdr : Hid (Tst w w3.drew b t a c) := hide ((unhide Q3).next (Below.refl _ _).drew)
    go_wp2_with fail
    by_cases hn : n ≤ 100
    · have en : decide (100 < n) = false := by simp; omega
      refine wp_region_held_drew (S := AtT b t a c) (by kernel_rfl) k0 (fun hHeld => ?_)
      refine wpAnyH_take (i := 0) (v := ?_) rfl (by kernel_rfl) (by kernel_rfl) (by kernel_rfl) (fun _ _ _ h => h) (Or.inl ⟨by rfl, ?_⟩) (by assumption) (show wpAnyH _ _ _ _ _ _ _ (Act.put _ (some 20) _) _ from ?_)
      rotate_left
      · (intro w hSw; (try dsimp only at hSw); go_simp; try with_reducible rfl)
      simp only [Act.put, List.setIfInBounds_toArray, List.set_cons_zero, List.set_cons_succ]
      refine wpAnyH_take (i := 2) (v := ?_) rfl (by kernel_rfl) (by kernel_rfl) (by kernel_rfl) (fun _ _ _ h => h) (Or.inl ⟨by rfl, ?_⟩) (by assumption) (show wpAnyH _ _ _ _ _ _ _ (Act.put _ (some 22) _) _ from ?_)
      rotate_left
      · (intro w hSw; (try dsimp only at hSw); go_simp; try with_reducible rfl)
      simp only [Act.put, List.setIfInBounds_toArray, List.set_cons_zero, List.set_cons_succ]
      refine wpAnyH_ready (rs := [1]) (by kernel_rfl) (by simp) ?_
      refine AllReadyH.cons rfl (fun K hK => ?_) AllReadyH.nil
      go_simp
      go_wp2_with (first | (go_at_call 9; refine (unhide P4 w3.drew (unhide hdr)).mono ?_; rintro e w4 ⟨rfl, b4⟩; have q4 := (unhide hdr).next b4; have k4 : AtT b t a c w4 := q4.1.at; have Q4 := hide q4; clear q4))
      refine hK.out _ _ k4 (fun hHeld2 => ?_)
      clear hK K
      refine wpAnyH_take (i := 3) (v := ?_) rfl (by kernel_rfl) (by kernel_rfl) (by kernel_rfl) (fun _ _ _ h => h) (Or.inl ⟨by rfl, ?_⟩) (by assumption) (show wpAnyH _ _ _ _ _ _ _ (Act.put _ (some 23) _) _ from ?_)
      rotate_left
      · (intro w hSw; (try dsimp only at hSw); go_simp; try with_reducible rfl)
      simp only [Act.put, List.setIfInBounds_toArray, List.set_cons_zero, List.set_cons_succ]
      refine wpAnyH_take (i := 4) (v := ?_) rfl (by kernel_rfl) (by kernel_rfl) (by kernel_rfl) (fun _ _ _ h => h) (Or.inl ⟨by rfl, ?_⟩) (by assumption) (show wpAnyH _ _ _ _ _ _ _ (Act.put _ (some 24) _) _ from ?_)
      rotate_left
      · (intro w hSw; (try dsimp only at hSw); go_simp; try with_reducible rfl)
      simp only [Act.put, List.setIfInBounds_toArray, List.set_cons_zero, List.set_cons_succ]
      refine wpAnyH_take (i := 5) (v := ?_) rfl (by kernel_rfl) (by kernel_rfl) (by kernel_rfl) (fun _ _ _ h => h) (Or.inl ⟨by rfl, ?_⟩) (by assumption) (show wpAnyH _ _ _ _ _ _ _ (Act.put _ (some 25) _) _ from ?_)
      rotate_left
      · (intro w hSw; (try dsimp only at hSw); go_simp; try with_reducible rfl)
      simp only [Act.put, List.setIfInBounds_toArray, List.set_cons_zero, List.set_cons_succ]
      refine wpAnyH_take (i := 6) (v := ?_) rfl (by kernel_rfl) (by kernel_rfl) (by kernel_rfl) (fun _ _ _ h => h) (Or.inl ⟨by rfl, ?_⟩) (by assumption) (show wpAnyH _ _ _ _ _ _ _ (Act.put _ (some 26) _) _ from ?_)
      rotate_left
      · (intro w hSw; (try dsimp only at hSw); go_simp; try with_reducible rfl)
      simp only [Act.put, List.setIfInBounds_toArray, List.set_cons_zero, List.set_cons_succ]
      refine wpAnyH_take (i := 7) (v := ?_) rfl (by kernel_rfl) (by kernel_rfl) (by kernel_rfl) (fun _ _ _ h => h) (Or.inl ⟨by rfl, ?_⟩) (by assumption) (show wpAnyH _ _ _ _ _ _ _ (Act.put _ (some 27) _) _ from ?_)
      rotate_left
      · (intro w hSw; (try dsimp only at hSw); go_simp; try with_reducible rfl)
      simp only [Act.put, List.setIfInBounds_toArray, List.set_cons_zero, List.set_cons_succ]
      refine wpAnyH_take (i := 8) (v := ?_) rfl (by kernel_rfl) (by kernel_rfl) (by kernel_rfl) (fun _ _ _ h => h) (Or.inl ⟨by rfl, ?_⟩) (by assumption) (show wpAnyH _ _ _ _ _ _ _ (Act.put _ (some 28) _) _ from ?_)
      rotate_left
      · (intro w hSw; (try dsimp only at hSw); go_simp; try with_reducible rfl)
      simp only [Act.put, List.setIfInBounds_toArray, List.set_cons_zero, List.set_cons_succ]
      refine wpAnyH_take (i := 9) (v := ?_) rfl (by kernel_rfl) (by kernel_rfl) (by kernel_rfl) (fun _ _ _ h => h) (Or.inl ⟨by rfl, ?_⟩) (by assumption) (show wpAnyH _ _ _ _ _ _ _ (Act.put _ (some 29) _) _ from ?_)
      rotate_left
      · (intro w hSw; (try dsimp only at hSw); go_simp; try with_reducible rfl)
      simp only [Act.put, List.setIfInBounds_toArray, List.set_cons_zero, List.set_cons_succ]
      refine wpAnyH_take (i := 10) (v := ?_) rfl (by kernel_rfl) (by kernel_rfl) (by kernel_rfl) (fun _ _ _ h => h) (Or.inl ⟨by rfl, ?_⟩) (by assumption) (show wpAnyH _ _ _ _ _ _ _ (Act.put _ (some 30) _) _ from ?_)
      rotate_left
      · (intro w hSw; (try dsimp only at hSw); go_simp; try with_reducible rfl)
      simp only [Act.put, List.setIfInBounds_toArray, List.set_cons_zero, List.set_cons_succ]
      refine wpAnyH_take (i := 11) (v := ?_) rfl (by kernel_rfl) (by kernel_rfl) (by kernel_rfl) (fun _ _ _ h => h) (Or.inl ⟨by rfl, ?_⟩) (by assumption) (show wpAnyH _ _ _ _ _ _ _ (Act.put _ (some 31) _) _ from ?_)
      rotate_left
      · (intro w hSw; (try dsimp only at hSw); go_simp; try with_reducible rfl)
      simp only [Act.put, List.setIfInBounds_toArray, List.set_cons_zero, List.set_cons_succ]
      refine wpAnyH_take (i := 12) (v := ?_) rfl (by kernel_rfl) (by kernel_rfl) (by kernel_rfl) (fun _ _ _ h => h) (Or.inl ⟨by rfl, ?_⟩) (by assumption) (show wpAnyH _ _ _ _ _ _ _ (Act.put _ (some 32) _) _ from ?_)
      rotate_left
      · (intro w hSw; (try dsimp only at hSw); go_simp; try with_reducible rfl)
      simp only [Act.put, List.setIfInBounds_toArray, List.set_cons_zero, List.set_cons_succ]
      refine wpAnyH_take (i := 13) (v := ?_) rfl (by kernel_rfl) (by kernel_rfl) (by kernel_rfl) (fun _ _ _ h => h) (Or.inl ⟨by rfl, ?_⟩) (by assumption) (show wpAnyH _ _ _ _ _ _ _ (Act.put _ (some 33) _) _ from ?_)
      rotate_left
      · (intro w hSw; (try dsimp only at hSw); go_simp; try with_reducible rfl)
      simp only [Act.put, List.setIfInBounds_toArray, List.set_cons_zero, List.set_cons_succ]
      refine wpAnyH_take (i := 14) (v := ?_) rfl (by kernel_rfl) (by kernel_rfl) (by kernel_rfl) (fun _ _ _ h => h) (Or.inl ⟨by rfl, ?_⟩) (by assumption) (show wpAnyH _ _ _ _ _ _ _ (Act.put _ (some 34) _) _ from ?_)
      rotate_left
      · (intro w hSw; (try dsimp only at hSw); go_simp; try with_reducible rfl)
      simp only [Act.put, List.setIfInBounds_toArray, List.set_cons_zero, List.set_cons_succ]
      refine wpAnyH_take (i := 15) (v := ?_) rfl (by kernel_rfl) (by kernel_rfl) (by kernel_rfl) (fun _ _ _ h => h) (Or.inl ⟨by rfl, ?_⟩) (by assumption) (show wpAnyH _ _ _ _ _ _ _ (Act.put _ (some 35) _) _ from ?_)
      rotate_left
      · (intro w hSw; (try dsimp only at hSw); go_simp; try with_reducible rfl)
      simp only [Act.put, List.setIfInBounds_toArray, List.set_cons_zero, List.set_cons_succ]
      refine wpAnyH_take (i := 16) (v := ?_) rfl (by kernel_rfl) (by kernel_rfl) (by kernel_rfl) (fun _ _ _ h => h) (Or.inl ⟨by rfl, ?_⟩) (by assumption) (show wpAnyH _ _ _ _ _ _ _ (Act.put _ (some 36) _) _ from ?_)
      rotate_left
      · (intro w hSw; (try dsimp only at hSw); go_simp; try with_reducible rfl)
      simp only [Act.put, List.setIfInBounds_toArray, List.set_cons_zero, List.set_cons_succ]
      refine wpAnyH_take (i := 17) (v := ?_) rfl (by kernel_rfl) (by kernel_rfl) (by kernel_rfl) (fun _ _ _ h => h) (Or.inl ⟨by rfl, ?_⟩) (by assumption) (show wpAnyH _ _ _ _ _ _ _ (Act.put _ (some 37) _) _ from ?_)
      rotate_left
      · (intro w hSw; (try dsimp only at hSw); go_simp; try with_reducible rfl)
      simp only [Act.put, List.setIfInBounds_toArray, List.set_cons_zero, List.set_cons_succ]
      refine wpAnyH_take (i := 18) (v := ?_) rfl (by kernel_rfl) (by kernel_rfl) (by kernel_rfl) (fun _ _ _ h => h) (Or.inl ⟨by rfl, ?_⟩) (by assumption) (show wpAnyH _ _ _ _ _ _ _ (Act.put _ (some 38) _) _ from ?_)
      rotate_left
      · (intro w hSw; (try dsimp only at hSw); go_simp; try with_reducible rfl)
      simp only [Act.put, List.setIfInBounds_toArray, List.set_cons_zero, List.set_cons_succ]
      refine wpAnyH_take (i := 19) (v := ?_) rfl (by kernel_rfl) (by kernel_rfl) (by kernel_rfl) (fun _ _ _ h => h) (Or.inl ⟨by rfl, ?_⟩) (by assumption) (show wpAnyH _ _ _ _ _ _ _ (Act.put _ (some 39) _) _ from ?_)
      rotate_left
      · (intro w hSw; (try dsimp only at hSw); go_simp; try with_reducible rfl)
      simp only [Act.put, List.setIfInBounds_toArray, List.set_cons_zero, List.set_cons_succ]
      refine wpAnyH_take (i := 21) (v := ?_) rfl (by kernel_rfl) (by kernel_rfl) (by kernel_rfl) (fun _ _ _ h => h) (Or.inl ⟨by rfl, ?_⟩) (by assumption) (show wpAnyH _ _ _ _ _ _ _ (Act.put _ (some 41) _) _ from ?_)
      rotate_left
      · (intro w hSw; (try dsimp only at hSw); go_simp; try with_reducible rfl)
      simp only [Act.put, List.setIfInBounds_toArray, List.set_cons_zero, List.set_cons_succ]
      refine wpAnyH_take (i := 22) (v := ?_) rfl (by kernel_rfl) (by kernel_rfl) (by kernel_rfl) (fun _ _ _ h => h) (Or.inl ⟨by rfl, ?_⟩) (by assumption) (show wpAnyH _ _ _ _ _ _ _ (Act.put _ (some 42) _) _ from ?_)
      rotate_left
      · (intro w hSw; (try dsimp only at hSw); go_simp; try with_reducible rfl)
      simp only [Act.put, List.setIfInBounds_toArray, List.set_cons_zero, List.set_cons_succ]
      refine wpAnyH_ready (rs := [20]) (by kernel_rfl) (by simp) ?_
      refine AllReadyH.cons rfl (fun K hK => ?_) AllReadyH.nil
      go_simp
      go_wp2_with (first | (go_at_call 10; refine (unhide P5 w4 (unhide Q4)).mono ?_; rintro e w5 ⟨rfl, b5⟩; have q5 := (unhide Q4).next b5; have k5 : AtT b t a c w5 := q5.1.at; have Q5 := hide q5; clear q5))
      refine hK.out _ _ k5 (fun hHeld2 => ?_)
      clear hK K
      refine wpAnyH_ready (rs := [23]) (by kernel_rfl) (by simp) ?_
      refine AllReadyH.cons rfl (fun K hK => ?_) AllReadyH.nil
      go_simp
      go_wp2_with (first | (go_at_call 11; refine (unhide P6 hn w5 (unhide Q5)).mono ?_; rintro e w6 ⟨rfl, b6⟩; have q6 := (unhide Q5).next b6; have k6 : AtT b t a c w6 := q6.1.at; have Q6 := hide q6; clear q6))
      refine hK.out _ _ k6 (fun hHeld2 => ?_)
      clear hK K
      refine wpAnyH_take (i := 24) (v := ?_) rfl (by kernel_rfl) (by kernel_rfl) (by kernel_rfl) (fun _ _ _ h => h) (Or.inl ⟨by rfl, ?_⟩) (by assumption) (show wpAnyH _ _ _ _ _ _ _ (Act.put _ (some 44) _) _ from ?_)
      rotate_left
      · (intro w hSw; (try dsimp only at hSw); go_simp; try with_reducible rfl)
      simp only [Act.put, List.setIfInBounds_toArray, List.set_cons_zero, List.set_cons_succ]
      refine wpAnyH_take (i := 25) (v := ?_) rfl (by kernel_rfl) (by kernel_rfl) (by kernel_rfl) (fun _ _ _ h => h) (Or.inl ⟨by rfl, ?_⟩) (by assumption) (show wpAnyH _ _ _ _ _ _ _ (Act.put _ (some 45) _) _ from ?_)
      rotate_left
      · (intro w hSw; (try dsimp only at hSw); go_simp; try with_reducible rfl)
      simp only [Act.put, List.setIfInBounds_toArray, List.set_cons_zero, List.set_cons_succ]
      refine wpAnyH_take (i := 26) (v := ?_) rfl (by kernel_rfl) (by kernel_rfl) (by kernel_rfl) (fun _ _ _ h => h) (Or.inl ⟨by rfl, ?_⟩) (by assumption) (show wpAnyH _ _ _ _ _ _ _ (Act.put _ (some 46) _) _ from ?_)
      rotate_left
      · (intro w hSw; (try dsimp only at hSw); go_simp; try with_reducible rfl)
      simp only [Act.put, List.setIfInBounds_toArray, List.set_cons_zero, List.set_cons_succ]
      refine wpAnyH_take (i := 27) (v := ?_) rfl (by kernel_rfl) (by kernel_rfl) (by kernel_rfl) (fun _ _ _ h => h) (Or.inl ⟨by rfl, ?_⟩) (by assumption) (show wpAnyH _ _ _ _ _ _ _ (Act.put _ (some 4) _) _ from ?_)
      rotate_left
      · (intro w hSw; (try dsimp only at hSw); go_simp; try with_reducible rfl)
      simp only [Act.put, List.setIfInBounds_toArray, List.set_cons_zero, List.set_cons_succ]
      refine wpAnyH_done (by kernel_rfl) ?_ _
      go_wp2_with fail
      go_ret
      exact ⟨rfl, (unhide Q6).2.2.2⟩
    · have en : decide (100 < n) = true := by simp; omega
      refine wp_region_held_drew (S := AtT b t a c) (by kernel_rfl) k0 (fun hHeld => ?_)
      refine wpAnyH_take (i := 0) (v := ?_) rfl (by kernel_rfl) (by kernel_rfl) (by kernel_rfl) (fun _ _ _ h => h) (Or.inl ⟨by rfl, ?_⟩) (by assumption) (show wpAnyH _ _ _ _ _ _ _ (Act.put _ (some 20) _) _ from ?_)
      rotate_left
      · (intro w hSw; (try dsimp only at hSw); go_simp; try with_reducible rfl)
      simp only [Act.put, List.setIfInBounds_toArray, List.set_cons_zero, List.set_cons_succ]
      refine wpAnyH_take (i := 2) (v := ?_) rfl (by kernel_rfl) (by kernel_rfl) (by kernel_rfl) (fun _ _ _ h => h) (Or.inl ⟨by rfl, ?_⟩) (by assumption) (show wpAnyH _ _ _ _ _ _ _ (Act.put _ (some 22) _) _ from ?_)
      rotate_left
      · (intro w hSw; (try dsimp only at hSw); go_simp; try with_reducible rfl)
      simp only [Act.put, List.setIfInBounds_toArray, List.set_cons_zero, List.set_cons_succ]
      refine wpAnyH_ready (rs := [1]) (by kernel_rfl) (by simp) ?_
      refine AllReadyH.cons rfl (fun K hK => ?_) AllReadyH.nil
      go_simp
      go_wp2_with (first | (go_at_call 9; refine (unhide P4 w3.drew (unhide hdr)).mono ?_; rintro e w4 ⟨rfl, b4⟩; have q4 := (unhide hdr).next b4; have k4 : AtT b t a c w4 := q4.1.at; have Q4 := hide q4; clear q4))
      refine hK.out _ _ k4 (fun hHeld2 => ?_)
      clear hK K
      refine wpAnyH_take (i := 3) (v := ?_) rfl (by kernel_rfl) (by kernel_rfl) (by kernel_rfl) (fun _ _ _ h => h) (Or.inl ⟨by rfl, ?_⟩) (by assumption) (show wpAnyH _ _ _ _ _ _ _ (Act.put _ (some 23) _) _ from ?_)
      rotate_left
      · (intro w hSw; (try dsimp only at hSw); go_simp; try with_reducible rfl)
      simp only [Act.put, List.setIfInBounds_toArray, List.set_cons_zero, List.set_cons_succ]
      refine wpAnyH_take (i := 4) (v := ?_) rfl (by kernel_rfl) (by kernel_rfl) (by kernel_rfl) (fun _ _ _ h => h) (Or.inl ⟨by rfl, ?_⟩) (by assumption) (show wpAnyH _ _ _ _ _ _ _ (Act.put _ (some 24) _) _ from ?_)
      rotate_left
      · (intro w hSw; (try dsimp only at hSw); go_simp; try with_reducible rfl)
      simp only [Act.put, List.setIfInBounds_toArray, List.set_cons_zero, List.set_cons_succ]
      refine wpAnyH_take (i := 5) (v := ?_) rfl (by kernel_rfl) (by kernel_rfl) (by kernel_rfl) (fun _ _ _ h => h) (Or.inl ⟨by rfl, ?_⟩) (by assumption) (show wpAnyH _ _ _ _ _ _ _ (Act.put _ (some 25) _) _ from ?_)
      rotate_left
      · (intro w hSw; (try dsimp only at hSw); go_simp; try with_reducible rfl)
      simp only [Act.put, List.setIfInBounds_toArray, List.set_cons_zero, List.set_cons_succ]
      refine wpAnyH_take (i := 6) (v := ?_) rfl (by kernel_rfl) (by kernel_rfl) (by kernel_rfl) (fun _ _ _ h => h) (Or.inl ⟨by rfl, ?_⟩) (by assumption) (show wpAnyH _ _ _ _ _ _ _ (Act.put _ (some 26) _) _ from ?_)
      rotate_left
      · (intro w hSw; (try dsimp only at hSw); go_simp; try with_reducible rfl)
      simp only [Act.put, List.setIfInBounds_toArray, List.set_cons_zero, List.set_cons_succ]
      refine wpAnyH_take (i := 7) (v := ?_) rfl (by kernel_rfl) (by kernel_rfl) (by kernel_rfl) (fun _ _ _ h => h) (Or.inl ⟨by rfl, ?_⟩) (by assumption) (show wpAnyH _ _ _ _ _ _ _ (Act.put _ (some 27) _) _ from ?_)
      rotate_left
      · (intro w hSw; (try dsimp only at hSw); go_simp; try with_reducible rfl)
      simp only [Act.put, List.setIfInBounds_toArray, List.set_cons_zero, List.set_cons_succ]
      refine wpAnyH_take (i := 8) (v := ?_) rfl (by kernel_rfl) (by kernel_rfl) (by kernel_rfl) (fun _ _ _ h => h) (Or.inl ⟨by rfl, ?_⟩) (by assumption) (show wpAnyH _ _ _ _ _ _ _ (Act.put _ (some 28) _) _ from ?_)
      rotate_left
      · (intro w hSw; (try dsimp only at hSw); go_simp; try with_reducible rfl)
      simp only [Act.put, List.setIfInBounds_toArray, List.set_cons_zero, List.set_cons_succ]
      refine wpAnyH_take (i := 9) (v := ?_) rfl (by kernel_rfl) (by kernel_rfl) (by kernel_rfl) (fun _ _ _ h => h) (Or.inl ⟨by rfl, ?_⟩) (by assumption) (show wpAnyH _ _ _ _ _ _ _ (Act.put _ (some 29) _) _ from ?_)
      rotate_left
      · (intro w hSw; (try dsimp only at hSw); go_simp; try with_reducible rfl)
      simp only [Act.put, List.setIfInBounds_toArray, List.set_cons_zero, List.set_cons_succ]
      refine wpAnyH_take (i := 10) (v := ?_) rfl (by kernel_rfl) (by kernel_rfl) (by kernel_rfl) (fun _ _ _ h => h) (Or.inl ⟨by rfl, ?_⟩) (by assumption) (show wpAnyH _ _ _ _ _ _ _ (Act.put _ (some 30) _) _ from ?_)
      rotate_left
      · (intro w hSw; (try dsimp only at hSw); go_simp; try with_reducible rfl)
      simp only [Act.put, List.setIfInBounds_toArray, List.set_cons_zero, List.set_cons_succ]
      refine wpAnyH_take (i := 11) (v := ?_) rfl (by kernel_rfl) (by kernel_rfl) (by kernel_rfl) (fun _ _ _ h => h) (Or.inl ⟨by rfl, ?_⟩) (by assumption) (show wpAnyH _ _ _ _ _ _ _ (Act.put _ (some 31) _) _ from ?_)
      rotate_left
      · (intro w hSw; (try dsimp only at hSw); go_simp; try with_reducible rfl)
      simp only [Act.put, List.setIfInBounds_toArray, List.set_cons_zero, List.set_cons_succ]
      refine wpAnyH_take (i := 12) (v := ?_) rfl (by kernel_rfl) (by kernel_rfl) (by kernel_rfl) (fun _ _ _ h => h) (Or.inl ⟨by rfl, ?_⟩) (by assumption) (show wpAnyH _ _ _ _ _ _ _ (Act.put _ (some 32) _) _ from ?_)
      rotate_left
      · (intro w hSw; (try dsimp only at hSw); go_simp; try with_reducible rfl)
      simp only [Act.put, List.setIfInBounds_toArray, List.set_cons_zero, List.set_cons_succ]
      refine wpAnyH_take (i := 13) (v := ?_) rfl (by kernel_rfl) (by kernel_rfl) (by kernel_rfl) (fun _ _ _ h => h) (Or.inl ⟨by rfl, ?_⟩) (by assumption) (show wpAnyH _ _ _ _ _ _ _ (Act.put _ (some 33) _) _ from ?_)
      rotate_left
      · (intro w hSw; (try dsimp only at hSw); go_simp; try with_reducible rfl)
      simp only [Act.put, List.setIfInBounds_toArray, List.set_cons_zero, List.set_cons_succ]
      refine wpAnyH_take (i := 14) (v := ?_) rfl (by kernel_rfl) (by kernel_rfl) (by kernel_rfl) (fun _ _ _ h => h) (Or.inl ⟨by rfl, ?_⟩) (by assumption) (show wpAnyH _ _ _ _ _ _ _ (Act.put _ (some 34) _) _ from ?_)
      rotate_left
      · (intro w hSw; (try dsimp only at hSw); go_simp; try with_reducible rfl)
      simp only [Act.put, List.setIfInBounds_toArray, List.set_cons_zero, List.set_cons_succ]
      refine wpAnyH_take (i := 15) (v := ?_) rfl (by kernel_rfl) (by kernel_rfl) (by kernel_rfl) (fun _ _ _ h => h) (Or.inl ⟨by rfl, ?_⟩) (by assumption) (show wpAnyH _ _ _ _ _ _ _ (Act.put _ (some 35) _) _ from ?_)
      rotate_left
      · (intro w hSw; (try dsimp only at hSw); go_simp; try with_reducible rfl)
      simp only [Act.put, List.setIfInBounds_toArray, List.set_cons_zero, List.set_cons_succ]
      refine wpAnyH_take (i := 16) (v := ?_) rfl (by kernel_rfl) (by kernel_rfl) (by kernel_rfl) (fun _ _ _ h => h) (Or.inl ⟨by rfl, ?_⟩) (by assumption) (show wpAnyH _ _ _ _ _ _ _ (Act.put _ (some 36) _) _ from ?_)
      rotate_left
      · (intro w hSw; (try dsimp only at hSw); go_simp; try with_reducible rfl)
      simp only [Act.put, List.setIfInBounds_toArray, List.set_cons_zero, List.set_cons_succ]
      refine wpAnyH_take (i := 17) (v := ?_) rfl (by kernel_rfl) (by kernel_rfl) (by kernel_rfl) (fun _ _ _ h => h) (Or.inl ⟨by rfl, ?_⟩) (by assumption) (show wpAnyH _ _ _ _ _ _ _ (Act.put _ (some 37) _) _ from ?_)
      rotate_left
      · (intro w hSw; (try dsimp only at hSw); go_simp; try with_reducible rfl)
      simp only [Act.put, List.setIfInBounds_toArray, List.set_cons_zero, List.set_cons_succ]
      refine wpAnyH_take (i := 18) (v := undef) rfl (by kernel_rfl) (by kernel_rfl) (by kernel_rfl) (fun _ _ _ h => h) (Or.inr ⟨by kernel_rfl, rfl⟩) (by assumption) (show wpAnyH _ _ _ _ _ _ _ (Act.put _ (some 38) _) _ from ?_)
      simp only [Act.put, List.setIfInBounds_toArray, List.set_cons_zero, List.set_cons_succ]
      refine wpAnyH_take (i := 19) (v := undef) rfl (by kernel_rfl) (by kernel_rfl) (by kernel_rfl) (fun _ _ _ h => h) (Or.inr ⟨by kernel_rfl, rfl⟩) (by assumption) (show wpAnyH _ _ _ _ _ _ _ (Act.put _ (some 39) _) _ from ?_)
      simp only [Act.put, List.setIfInBounds_toArray, List.set_cons_zero, List.set_cons_succ]
      refine wpAnyH_take (i := 20) (v := undef) rfl (by kernel_rfl) (by kernel_rfl) (by kernel_rfl) (fun _ _ _ h => h) (Or.inr ⟨by kernel_rfl, rfl⟩) (by assumption) (show wpAnyH _ _ _ _ _ _ _ (Act.put _ (some 40) _) _ from ?_)
      simp only [Act.put, List.setIfInBounds_toArray, List.set_cons_zero, List.set_cons_succ]
      refine wpAnyH_take (i := 21) (v := undef) rfl (by kernel_rfl) (by kernel_rfl) (by kernel_rfl) (fun _ _ _ h => h) (Or.inr ⟨by kernel_rfl, rfl⟩) (by assumption) (show wpAnyH _ _ _ _ _ _ _ (Act.put _ (some 41) _) _ from ?_)
      simp only [Act.put, List.setIfInBounds_toArray, List.set_cons_zero, List.set_cons_succ]
      refine wpAnyH_take (i := 22) (v := undef) rfl (by kernel_rfl) (by kernel_rfl) (by kernel_rfl) (fun _ _ _ h => h) (Or.inr ⟨by kernel_rfl, rfl⟩) (by assumption) (show wpAnyH _ _ _ _ _ _ _ (Act.put _ (some 42) _) _ from ?_)
      simp only [Act.put, List.setIfInBounds_toArray, List.set_cons_zero, List.set_cons_succ]
      refine wpAnyH_take (i := 23) (v := undef) rfl (by kernel_rfl) (by kernel_rfl) (by kernel_rfl) (fun _ _ _ h => h) (Or.inr ⟨by kernel_rfl, rfl⟩) (by assumption) (show wpAnyH _ _ _ _ _ _ _ (Act.put _ (some 43) _) _ from ?_)
      simp only [Act.put, List.setIfInBounds_toArray, List.set_cons_zero, List.set_cons_succ]
      refine wpAnyH_take (i := 24) (v := undef) rfl (by kernel_rfl) (by kernel_rfl) (by kernel_rfl) (fun _ _ _ h => h) (Or.inr ⟨by kernel_rfl, rfl⟩) (by assumption) (show wpAnyH _ _ _ _ _ _ _ (Act.put _ (some 44) _) _ from ?_)
      simp only [Act.put, List.setIfInBounds_toArray, List.set_cons_zero, List.set_cons_succ]
      refine wpAnyH_take (i := 25) (v := ?_) rfl (by kernel_rfl) (by kernel_rfl) (by kernel_rfl) (fun _ _ _ h => h) (Or.inl ⟨by rfl, ?_⟩) (by assumption) (show wpAnyH _ _ _ _ _ _ _ (Act.put _ (some 45) _) _ from ?_)
      rotate_left
      · (intro w hSw; (try dsimp only at hSw); go_simp; try with_reducible rfl)
      simp only [Act.put, List.setIfInBounds_toArray, List.set_cons_zero, List.set_cons_succ]
      refine wpAnyH_take (i := 26) (v := ?_) rfl (by kernel_rfl) (by kernel_rfl) (by kernel_rfl) (fun _ _ _ h => h) (Or.inl ⟨by rfl, ?_⟩) (by assumption) (show wpAnyH _ _ _ _ _ _ _ (Act.put _ (some 46) _) _ from ?_)
      rotate_left
      · (intro w hSw; (try dsimp only at hSw); go_simp; try with_reducible rfl)
      simp only [Act.put, List.setIfInBounds_toArray, List.set_cons_zero, List.set_cons_succ]
      refine wpAnyH_take (i := 27) (v := ?_) rfl (by kernel_rfl) (by kernel_rfl) (by kernel_rfl) (fun _ _ _ h => h) (Or.inl ⟨by rfl, ?_⟩) (by assumption) (show wpAnyH _ _ _ _ _ _ _ (Act.put _ (some 4) _) _ from ?_)
      rotate_left
      · (intro w hSw; (try dsimp only at hSw); go_simp; try with_reducible rfl)
      simp only [Act.put, List.setIfInBounds_toArray, List.set_cons_zero, List.set_cons_succ]
      refine wpAnyH_done (by kernel_rfl) ?_ _
      go_wp2_with fail
      go_ret
      exact ⟨rfl, (unhide Q4).2.2.2⟩
end Go.Proofs.YtcbfmjjodfnacaaDoor
