/-
  The program's log: its disk, Blocks, the last block, Sync, Append, over what is asked of any disk.
-/
import Derived.Test.YtohjipnkoiifhagGreatDoorJointPlainSPlainR2PapGRowGPapNWorksGPapHWorksFRowBWalkC6RowY
import Derived.Test.YtohjipnkoiifhagGreatDoorJointWalkC3WalkC4
import Derived.StillTailTactics
namespace Go.Proofs.YtohjipnkoiifhagGreatDoor.Dk
open Go.RowKit

section
variable {Has : World → Nat → Nat → (Nat → Prop) → Int → List Pap → Prop} {w : World} {B q g : Nat} {size : Int} {F : Nat → Prop} {m : Int} {es : List Pap}
set_option maxRecDepth 100000 in
set_option maxHeartbeats 1000000 in
theorem lfiles_any (c0 : w.cell? ⟨g, 0, none⟩ = some (.pointer (some ⟨q, 0, none⟩))) :
    Calls Tryz.prog 45 #[.pointer (some ⟨g, 0, none⟩)] w fun e w' => e = .returned (.pointer (some ⟨q, 0, none⟩)) ∧ w = w' := by
  go_enter Tryz.func45, Tryz.ntmps45
  go_wp2_with fail
  go_ret
  exact ⟨rfl, rfl⟩

set_option maxRecDepth 100000 in
set_option maxHeartbeats 1000000 in
theorem lblocks_new (HS : Lists Has) (h : Has w B q F m es) (ht : Tidy m es) (hm : m ≤ 65536) (hB : B ≤ w.heap.size) (c0 : w.cell? ⟨g, 0, none⟩ = some (.pointer (some ⟨q, 0, none⟩))) :
    Calls Tryz.prog 43 #[.pointer (some ⟨g, 0, none⟩)] w fun e w' => ∃ a c, e = .returned (.slice a es.length c) ∧ (es.length ≤ c ∧ c ≤ maxLen) ∧ SlI w' a (numL es) ∧ (∀ z, a = some z → w.heap.size ≤ z.block ∧ z.block < w'.heap.size) ∧ Below w.heap.size w w' := by
  have PL := hide (HS.list h ht hm hB)
  have PF := hide (lfiles_any c0)
  clear h ht
  go_enter Tryz.func43, Tryz.ntmps43
  go_wp2_with fail
  refine (unhide PF).mono ?_
  rintro e w1 ⟨rfl, rfl⟩
  go_wp2_with fail
  refine (unhide PL).mono ?_
  rintro e w2 ⟨a, c, rfl, p2⟩
  have P2 := hide p2
  clear p2 PL PF
  go_wp2_with fail
  go_ret
  exact ⟨a, c, rfl, unhide P2⟩

set_option maxRecDepth 100000 in
set_option maxHeartbeats 1000000 in
theorem llast_any (HS : Lists Has) (h : Has w B q F m es) (ht : Tidy m es) (hm : m ≤ 65536) (hB : B ≤ w.heap.size) (c0 : w.cell? ⟨g, 0, none⟩ = some (.pointer (some ⟨q, 0, none⟩))) :
    Calls Tryz.prog 44 #[.pointer (some ⟨g, 0, none⟩)] w fun e w' => e = .returned (.int .i64 (lastN es)) ∧ Below w.heap.size w w' := by
  have hfew := ht.few
  have PL := hide (lblocks_new (g := g) HS h ht hm hB c0)
  clear h ht
  go_enter Tryz.func44, Tryz.ntmps44
  go_wp2_with fail
  refine (unhide PL).mono ?_
  rintro e w1 ⟨a, c, rfl, _, s1, _, b1⟩
  have B1 := hide b1
  clear PL b1
  by_cases hz : es.length = 0
  · have HN := hide (lastN_none hz)
    obtain rfl : es = [] := List.eq_nil_of_length_eq_zero hz
    clear s1 hz
    go_wp2_with fail
    go_ret
    exact ⟨rfl, unhide B1⟩
  · obtain ⟨k, hk1⟩ : ∃ k, k + 1 = es.length := ⟨es.length - 1, by omega⟩
    have hk2 : k < es.length := by omega
    have HN := hide (lastN_some hk1)
    have hw : IntKind.i64.wrap ((es.length : Int) - 1) = (k : Int) := by rw [IntKind.wrap_i64]; omega
    have hz' : ((es.length : Int) == 0) = false := by rw [beq_eq_false_iff_ne]; omega
    obtain ⟨ba, oa, rfl, hba, n1⟩ := s1.num hk2
    clear hk1 hz s1
    go_wp2_with fail
    go_ret
    rw [unhide HN]
    exact ⟨rfl, unhide B1⟩

set_option maxRecDepth 100000 in
set_option maxHeartbeats 1000000 in
theorem lsync_has (H : More Has) (HS : Lists Has) (h : Has w B q F m es) (ht : Tidy m es) (hm : m ≤ 65536) (hB : B ≤ w.heap.size) (c0 : w.cell? ⟨g, 0, none⟩ = some (.pointer (some ⟨q, 0, none⟩))) (hg : g < w.heap.size ∧ ¬ F g) :
    Calls Tryz.prog 26 #[.pointer (some ⟨g, 0, none⟩)] w fun e w' => e = .returned (.int .i64 0) ∧ Did Has w w' B q F m (lsyncL es) := by
  have R0 := Run.start (Cs := fun k => k = g) h (fun k hk => by subst hk; exact hg)
  have PL := hide (llast_any (g := g) HS h ht hm hB c0)
  have U0 := hide R0
  have HT := hide ht
  clear h ht R0
  go_enter Tryz.func26, Tryz.ntmps26
  go_wp2_with fail
  refine (unhide PL).mono ?_
  rintro e w1 ⟨rfl, b1⟩
  obtain ⟨r1, k1⟩ := (unhide U0).below H.works b1
  have d0 := (k1.cell (C := g) (j := 0) rfl).trans c0
  clear PL b1 k1 c0 U0
  by_cases hz : es.length = 0
  · have E1 : Hid (Did Has w w1 B q F m (lsyncL es)) := hide (by rw [lsync_nil hz]; exact r1.done)
    have hN := lastN_none hz
    clear r1 hz
    rw [hN]
    go_wp2_with fail
    go_ret
    exact ⟨rfl, unhide E1⟩
  · obtain ⟨k, hk1⟩ : ∃ k, k + 1 = es.length := ⟨es.length - 1, by omega⟩
    have hk2 : k < es.length := by omega
    have hN := lastN_some hk1
    have hnl := (unhide HT).each _ (pa_mem hk2)
    have hn1 : 0 ≤ (pa es k).n ∧ (pa es k).n ≤ 1099511627776 := by simpa [inI] using hnl.1
    have hwn := wf_of hnl.1
    have hneg : ¬ (pa es k).n < 0 := by omega
    have PF := hide (lfiles_any d0)
    have PS := hide (r1.did (fun F' hF => H.works.sync (pa es k).n hwn hF (unhide HT) hm (Nat.le_trans hB r1.room)))
    rw [has_pa (unhide HT) hk2, ← lsync_last hk1] at PS
    rw [hN]
    clear hk1 hz r1 hnl hN hwn
    go_wp2_with fail
    refine (unhide PF).mono ?_
    rintro e w2 ⟨rfl, rfl⟩
    go_wp2_with fail
    refine (unhide PS).mono ?_
    rintro e w3 ⟨rfl, r3, _⟩
    have E3 := hide r3.done
    clear r3 PS PF
    go_wp2_with fail
    go_ret
    exact ⟨rfl, unhide E3⟩

theorem fills_pa {k : Nat} (h : k + 1 = es.length) (s : ByteArray) : fills es size s = (decide (0 < (pa es k).text.size) && decide (size < ((pa es k).text.size : Int) + (s.size : Int))) := by unfold fills; rw [pa_last h]

set_option maxRecDepth 100000 in
set_option maxHeartbeats 1000000 in
theorem lfits_any (HS : Lists Has) (s : ByteArray) (hs : s.size ≤ 140737488355328) {k : Nat} (hk1 : k + 1 = es.length) (h : Has w B q F m es) (ht : Tidy m es) (hm : m ≤ 65536) (hB : B ≤ w.heap.size) (c0 : w.cell? ⟨g, 0, none⟩ = some (.pointer (some ⟨q, 0, none⟩))) (c1 : w.cell? ⟨g, 1, none⟩ = some (.int .i64 size)) (hg : g < w.heap.size) :
    Calls Tryz.prog 53 #[.pointer (some ⟨g, 0, none⟩), .int .i64 (pa es k).n, .string s] w fun e w' => e = .returned (.bool (!fills es size s)) ∧ Below w.heap.size w w' := by
  have hk2 : k < es.length := by omega
  have hfit := ht.fits
  have hu := used_mem (pa_mem hk2)
  have hnl := ht.each _ (pa_mem hk2)
  have PF := hide (lfiles_any c0)
  have PR := hide (HS.reads (pa es k).n (wf_of hnl.1) h ht hm hB)
  rw [readV_pa ht hk2] at PR
  have HFl := hide (fills_pa (size := size) hk1 s)
  obtain ⟨n, hn⟩ : ∃ n, n = (pa es k).n := ⟨_, rfl⟩
  obtain ⟨tx, htx⟩ : ∃ tx, tx = (pa es k).text := ⟨_, rfl⟩
  rw [← htx] at PR hu HFl
  rw [← hn] at PR ⊢
  have hw3 : IntKind.i64.wrap ((tx.size : Int) + (s.size : Int)) = (tx.size : Int) + (s.size : Int) := by rw [IntKind.wrap_i64]; omega
  clear h ht hnl hn htx hk1 hk2
  go_enter Tryz.func53, Tryz.ntmps53
  go_wp2_with fail
  refine (unhide PF).mono ?_
  rintro e w1 ⟨rfl, rfl⟩
  go_wp2_with fail
  refine (unhide PR).mono ?_
  rintro e w2 ⟨rfl, b2⟩
  have d1 := (b2.cell (p := ⟨g, 1, none⟩) hg).trans c1
  have B2 := hide b2
  clear b2 PR PF c0 c1
  by_cases hz : 0 < tx.size
  · have hf0 : ¬ tx.toList = [] := by rw [tl_nil]; omega
    have hf1 : (!tx.toList.isEmpty) = true := by rw [tl_emp, decide_eq_false (by omega)]; rfl
    have hf2 : tx.toList.isEmpty = false := by rw [tl_emp, decide_eq_false (by omega)]
    by_cases hl : size < (tx.size : Int) + (s.size : Int)
    · have hd : decide ((tx.size : Int) + (s.size : Int) ≤ size) = false := decide_eq_false (by omega)
      go_wp2_with fail
      go_ret
      rw [unhide HFl, decide_eq_true (p := 0 < tx.size) (by omega), decide_eq_true (p := size < (tx.size : Int) + (s.size : Int)) (by omega)]
      exact ⟨rfl, unhide B2⟩
    · have hd : decide ((tx.size : Int) + (s.size : Int) ≤ size) = true := decide_eq_true (by omega)
      go_wp2_with fail
      go_ret
      rw [unhide HFl, decide_eq_true (p := 0 < tx.size) (by omega), decide_eq_false (p := size < (tx.size : Int) + (s.size : Int)) (by omega)]
      exact ⟨rfl, unhide B2⟩
  · have hf0 : tx.toList = [] := by rw [tl_nil]; omega
    have hf2 : tx.toList.isEmpty = true := by rw [tl_emp, decide_eq_true (by omega)]
    go_wp2_with fail
    go_ret
    rw [unhide HFl, decide_eq_false (p := 0 < tx.size) (by omega)]
    exact ⟨rfl, unhide B2⟩

set_option maxRecDepth 100000 in
set_option maxHeartbeats 1000000 in
theorem lbegin_has (H : More Has) (HS : Lists Has) (s : ByteArray) (hs : s.size ≤ 140737488355328) (h : Has w B q F m es) (ht : Tidy m es) (hm : m ≤ 65536) (hB : B ≤ w.heap.size) (c0 : w.cell? ⟨g, 0, none⟩ = some (.pointer (some ⟨q, 0, none⟩))) (hg : g < w.heap.size ∧ ¬ F g) :
    Calls Tryz.prog 54 #[.pointer (some ⟨g, 0, none⟩), .int .i64 (lastN es), .string s] w fun e w' => e = .returned (.int .i64 (appE es m (nextN es) s)) ∧ Did Has w w' B q F m (begL es m s) := by
  have R0 := Run.start (Cs := fun k => k = g) h (fun k hk => by subst hk; exact hg)
  have hlast : -1 ≤ lastN es ∧ lastN es ≤ 1099511627776 := by
    by_cases hz : es.length = 0
    · rw [lastN_none hz]; omega
    · obtain ⟨k, hk1⟩ : ∃ k, k + 1 = es.length := ⟨es.length - 1, by omega⟩
      rw [lastN_some hk1]
      have hnl := ht.each _ (pa_mem (show k < es.length by omega))
      have hn1 : 0 ≤ (pa es k).n ∧ (pa es k).n ≤ 1099511627776 := by simpa [inI] using hnl.1
      omega
  have HN := hide (next_lastN es)
  obtain ⟨n, hn⟩ : ∃ n, n = lastN es := ⟨_, rfl⟩
  rw [← hn] at hlast HN ⊢
  have hw : IntKind.i64.wrap (n + 1) = n + 1 := by rw [IntKind.wrap_i64]; omega
  have PF := hide (lfiles_any c0)
  have PT := hide (HS.tries (n + 1) s h ht hm hs hB)
  have U0 := hide R0
  have HT := hide ht
  obtain ⟨E, hE⟩ : ∃ E, appE es m (n + 1) s = E := ⟨_, rfl⟩
  rw [hE] at PT
  have HB1 : Hid (E = 0 → begL es m s = appL (lsyncL es) m (n + 1) s ∧ appE (lsyncL es) m (n + 1) s = 0) := hide (fun z => by
    rw [z] at hE
    refine ⟨?_, by rw [appE_lsync]; exact hE⟩
    rw [begL_ok (by rw [unhide HN]; exact hE), unhide HN])
  have HB2 : Hid (E ≠ 0 → begL es m s = es) := hide (fun z => begL_not (by rw [unhide HN, hE]; exact z))
  have HE : Hid (appE es m (nextN es) s = E) := hide (by rw [unhide HN]; exact hE)
  clear h ht R0 hn hE
  go_enter Tryz.func54, Tryz.ntmps54
  go_wp2_with fail
  refine (unhide PF).mono ?_
  rintro e w1 ⟨rfl, rfl⟩
  go_wp2_with fail
  refine (unhide PT).mono ?_
  rintro e w2 ⟨rfl, b2⟩
  obtain ⟨r2, k2⟩ := (unhide U0).below H.works b2
  have d0 := (k2.cell (C := g) (j := 0) rfl).trans c0
  clear PT PF b2 k2 c0 U0
  by_cases h0 : E = 0
  · obtain ⟨e1, e2⟩ := unhide HB1 h0
    subst h0
    have PS := hide (r2.didc (fun F' hF hC => lsync_has (g := g) H HS hF (unhide HT) hm (Nat.le_trans hB r2.room) d0 (hC g rfl)))
    have HT3 := hide (unhide HT).lsync
    have hb2 := r2.room
    clear r2 HB1 HB2
    go_wp2_with fail
    refine (unhide PS).mono ?_
    rintro e w3 ⟨rfl, r3, k3⟩
    have f0 := (k3.cell (C := g) (j := 0) rfl).trans d0
    have PF := hide (lfiles_any f0)
    have PA := hide (r3.did (fun F' hF => H.works.append (n + 1) s hF (unhide HT3) hm hs (Nat.le_trans hB r3.room)))
    rw [e2, ← e1] at PA
    clear r3 k3 PS d0
    go_wp2_with fail
    refine (unhide PF).mono ?_
    rintro e w4 ⟨rfl, rfl⟩
    go_wp2_with fail
    refine (unhide PA).mono ?_
    rintro e w5 ⟨rfl, r5, _⟩
    have E5 := hide r5.done
    clear r5 PA PF
    go_wp2_with fail
    go_ret
    rw [unhide HE]
    exact ⟨rfl, unhide E5⟩
  · have hE' : (E != 0) = true := by simpa using h0
    have E2 : Hid (Did Has w w2 B q F m (begL es m s)) := hide (by rw [unhide HB2 h0]; exact r2.done)
    clear r2 HB1 HB2
    go_wp2_with fail
    go_ret
    rw [unhide HE]
    exact ⟨rfl, unhide E2⟩

theorem enc_bad {r : Rc} {E : Int} (h : chkR r = E) (h0 : E ≠ 0) : encV r.k r.q r.t r.s r.h r.d = .tuple #[.string ⟨#[]⟩, .int .i64 E] := encV_bad h h0
theorem enc_good {r : Rc} (h : chkR r = 0) : encV r.k r.q r.t r.s r.h r.d = .tuple #[.string (codT r), .int .i64 0] := encV_good h

set_option maxRecDepth 100000 in
set_option maxHeartbeats 1000000 in
theorem lappend_has (H : More Has) (HS : Lists Has) (r : Rc) (hs : Small r) (h : Has w B q F m es) (ht : Tidy m es) (hm : m ≤ 65536) (hB : B ≤ w.heap.size) (c0 : w.cell? ⟨g, 0, none⟩ = some (.pointer (some ⟨q, 0, none⟩))) (c1 : w.cell? ⟨g, 1, none⟩ = some (.int .i64 size)) (hg : g < w.heap.size ∧ ¬ F g) :
    Calls Tryz.prog 25 #[.pointer (some ⟨g, 0, none⟩), .agg #[.int .i64 r.k, .int .i64 r.q, .int .i64 r.t, .string r.s, .string r.h, .string r.d]] w fun e w' => e = .returned (.int .i64 (logP es m size r).1) ∧ Did Has w w' B q F m (logP es m size r).2 := by
  have HT := hide ht
  have R0 := hide (RB.new w r.k r.q r.t r.s r.h r.d 30)
  have hb0 : Below w.heap.size w (w.alloc (.cells #[.int .i64 r.k, .int .i64 r.q, .int .i64 r.t, .string r.s, .string r.h, .string r.d] 30)) := (Below.refl _ _).alloc (Nat.le_refl _) _
  obtain ⟨r0, k0⟩ := (Run.start (Cs := fun k => k = g) h (fun k hk => by subst hk; exact hg)).below H.works hb0
  have U0 := hide r0
  have a0 := (k0.cell (C := g) (j := 0) rfl).trans c0
  have a1 := (k0.cell (C := g) (j := 1) rfl).trans c1
  have C1 : Hid (∀ W, Calls Tryz.prog 52 #[.agg #[.int .i64 r.k, .int .i64 r.q, .int .i64 r.t, .string r.s, .string r.h, .string r.d]] W fun e w' => e = .returned (encV r.k r.q r.t r.s r.h r.d) ∧ Below W.heap.size W w') := hide (fun W => encode_any r.k r.q r.t r.s r.h r.d W hs.s hs.h hs.d)
  obtain ⟨E, hE⟩ : ∃ E, chkR r = E := ⟨_, rfl⟩
  clear h ht hb0 r0 k0 c0 c1
  by_cases h0 : E = 0
  · have hc : chkR r = 0 := by rw [hE]; exact h0
    have hsz := codT_size hc
    rw [enc_good hc] at C1
    have HC := hide hc
    clear hE h0 hc
    obtain ⟨_, x0, x1, x2, x3, x4, x5, _⟩ := unhide R0
    go_enter Tryz.func25, Tryz.ntmps25
    go_wp2_with fail
    refine (unhide C1 _).mono ?_
    rintro e w1 ⟨rfl, b1⟩
    obtain ⟨r1, k1⟩ := (unhide U0).below H.works b1
    have d0 := (k1.cell (C := g) (j := 0) rfl).trans a0
    have d1 := (k1.cell (C := g) (j := 1) rfl).trans a1
    have PL := hide (r1.looks H.works (fun F' hF => llast_any (g := g) HS hF (unhide HT) hm (Nat.le_trans hB r1.room) d0))
    clear b1 r1 k1 a0 a1 U0 R0 x0 x1 x2 x3 x4 x5 C1
    go_wp2_with fail
    refine (unhide PL).mono ?_
    rintro e w2 ⟨rfl, r2, k2⟩
    have f0 := (k2.cell (C := g) (j := 0) rfl).trans d0
    have f1 := (k2.cell (C := g) (j := 1) rfl).trans d1
    have PB := hide (r2.didc (fun F' hF hC => lbegin_has (g := g) H HS (codT r) (by omega) hF (unhide HT) hm (Nat.le_trans hB r2.room) f0 (hC g rfl)))
    clear d0 d1 PL k2
    by_cases hz : es.length = 0
    · have HR := hide (logP_begin (m := m) (size := size) (unhide HC) (.inl hz))
      have hN := lastN_none hz
      rw [hN] at PB ⊢
      clear r2 hz hN
      go_wp2_with fail
      refine (unhide PB).mono ?_
      rintro e w3 ⟨rfl, r3, _⟩
      have E3 := hide r3.done
      clear r3 PB
      go_wp2_with fail
      go_ret
      rw [unhide HR]
      exact ⟨rfl, unhide E3⟩
    · obtain ⟨k, hk1⟩ : ∃ k, k + 1 = es.length := ⟨es.length - 1, by omega⟩
      have hk2 : k < es.length := by omega
      have hN := lastN_some hk1
      have hnl := (unhide HT).each _ (pa_mem hk2)
      have hn1 : 0 ≤ (pa es k).n ∧ (pa es k).n ≤ 1099511627776 := by simpa [inI] using hnl.1
      have hneg : ¬ (pa es k).n < 0 := by omega
      have PI := hide (r2.looks H.works (fun F' hF => lfits_any (g := g) (size := size) HS (codT r) (by omega) hk1 hF (unhide HT) hm (Nat.le_trans hB r2.room) f0 f1 (by
        obtain ⟨_, _, _, _, x⟩ := id r2
        exact (x g rfl).1)))
      have HP := hide (pa_last hk1)
      rw [hN] at PB ⊢
      clear hN hnl r2
      cases hfl : fills es size (codT r) with
      | true =>
        have HR := hide (logP_begin (m := m) (unhide HC) (.inr hfl))
        rw [hfl] at PI
        have HL1 := hide (lastN_some hk1)
        clear hfl hz hk1 PB
        go_wp2_with fail
        refine (unhide PI).mono ?_
        rintro e w3 ⟨rfl, r3, k3⟩
        have g0 := (k3.cell (C := g) (j := 0) rfl).trans f0
        have PB := hide (r3.didc (fun F' hF hC => lbegin_has (g := g) H HS (codT r) (by omega) hF (unhide HT) hm (Nat.le_trans hB r3.room) g0 (hC g rfl)))
        rw [unhide HL1] at PB
        clear r3 k3 PI f0 f1
        go_wp2_with fail
        refine (unhide PB).mono ?_
        rintro e w4 ⟨rfl, r4, _⟩
        have E4 := hide r4.done
        clear r4 PB
        go_wp2_with fail
        go_ret
        rw [unhide HR]
        exact ⟨rfl, unhide E4⟩
      | false =>
        have HR := hide (logP_last (m := m) (unhide HC) hz hfl)
        rw [unhide HP] at HR
        rw [hfl] at PI
        clear hfl hz hk1 PB
        go_wp2_with fail
        refine (unhide PI).mono ?_
        rintro e w3 ⟨rfl, r3, k3⟩
        have g0 := (k3.cell (C := g) (j := 0) rfl).trans f0
        have PF := hide (lfiles_any g0)
        have PA := hide (r3.did (fun F' hF => H.works.append (pa es k).n (codT r) hF (unhide HT) hm (by omega) (Nat.le_trans hB r3.room)))
        clear r3 k3 PI f0 f1
        go_wp2_with fail
        refine (unhide PF).mono ?_
        rintro e w4 ⟨rfl, rfl⟩
        go_wp2_with fail
        refine (unhide PA).mono ?_
        rintro e w5 ⟨rfl, r5, _⟩
        have E5 := hide r5.done
        clear r5 PA PF
        go_wp2_with fail
        go_ret
        rw [unhide HR]
        exact ⟨rfl, unhide E5⟩
  · have HR := hide (logP_bad (es := es) (m := m) (size := size) (r := r) (by rw [hE]; exact h0))
    rw [hE] at HR
    rw [enc_bad hE h0] at C1
    have h1 : (E != 0) = true := by simpa using h0
    clear hE
    obtain ⟨_, x0, x1, x2, x3, x4, x5, _⟩ := unhide R0
    go_enter Tryz.func25, Tryz.ntmps25
    go_wp2_with fail
    refine (unhide C1 _).mono ?_
    rintro e w1 ⟨rfl, b1⟩
    have E1 := hide ((unhide U0).below H.works b1).1.done
    clear b1 U0 R0 C1
    go_wp2_with fail
    go_ret
    rw [unhide HR]
    exact ⟨rfl, unhide E1⟩
end
end Go.Proofs.YtohjipnkoiifhagGreatDoor.Dk
