/-
  The program's log: its disk, Blocks, the last block, Sync, Append, over what is asked of any disk.
  The program's log: files that are removed, the last one first, over what is asked of any disk.
-/
import Derived.Test.YtphhebdmfdjfeagGreatDoorJointWorksDWorksEWorksGPapHPapFWorksF
import Derived.Test.YtphhebdmfdjfeagGreatDoorJointWalkC1WalkC2WalkC4
import Derived.StillTailTactics
import Derived.RangeFuncNested
import Derived.RangeFuncBound
import Derived.RangeFuncCalls
import Derived.RangeFuncLeaves
import Derived.Shelf.Abstract
import Derived.Shelf.RegionOpen
import Derived.WalkKit
import Derived.OwnWalkIn
import Derived.TacticsInMore
import Derived.LoopNIn
import Derived.LoopIn
namespace Go.Proofs.YtphhebdmfdjfeagGreatDoor.Dk
open Go.RowKit

section
variable {Has : World → Nat → Nat → (Nat → Prop) → Int → List Pap → Prop} {w : World} {B q g : Nat} {size : Int} {F : Nat → Prop} {m : Int} {es : List Pap}
set_option maxRecDepth 100000 in
set_option maxHeartbeats 1000000 in
theorem lfiles_any (c0 : w.cell? ⟨g, 0, none⟩ = some (.pointer (some ⟨q, 0, none⟩))) :
    Calls Tryz.prog 28 #[.pointer (some ⟨g, 0, none⟩)] w fun e w' => e = .returned (.pointer (some ⟨q, 0, none⟩)) ∧ w = w' := by
  go_enter Tryz.func28, Tryz.ntmps28
  go_wp2_with fail
  go_ret
  exact ⟨rfl, rfl⟩

set_option maxRecDepth 100000 in
set_option maxHeartbeats 1000000 in
theorem lblocks_new (HS : Lists Has) (h : Has w B q F m es) (ht : Tidy m es) (hm : m ≤ 65536) (hB : B ≤ w.heap.size) (c0 : w.cell? ⟨g, 0, none⟩ = some (.pointer (some ⟨q, 0, none⟩))) :
    Calls Tryz.prog 26 #[.pointer (some ⟨g, 0, none⟩)] w fun e w' => ∃ a c, e = .returned (.slice a es.length c) ∧ (es.length ≤ c ∧ c ≤ maxLen) ∧ SlI w' a (numL es) ∧ (∀ z, a = some z → w.heap.size ≤ z.block ∧ z.block < w'.heap.size) ∧ Below w.heap.size w w' := by
  have PL := hide (HS.list h ht hm hB)
  have PF := hide (lfiles_any c0)
  clear h ht
  go_enter Tryz.func26, Tryz.ntmps26
  go_wp2_with fail
  refine (unhide PF).mono ?_
  rintro e w1 ⟨rfl, rfl⟩
  go_wp2_with fail
  refine (unhide PL).mono ?_
  rintro e w2 ⟨a, c, rfl, p2⟩
  have P2 := hide p2
  clear p2 PL PF
  go_wp2_with fail
  go_ret
  exact ⟨a, c, rfl, unhide P2⟩

set_option maxRecDepth 100000 in
set_option maxHeartbeats 1000000 in
theorem llast_any (HS : Lists Has) (h : Has w B q F m es) (ht : Tidy m es) (hm : m ≤ 65536) (hB : B ≤ w.heap.size) (c0 : w.cell? ⟨g, 0, none⟩ = some (.pointer (some ⟨q, 0, none⟩))) :
    Calls Tryz.prog 27 #[.pointer (some ⟨g, 0, none⟩)] w fun e w' => e = .returned (.int .i64 (lastN es)) ∧ Below w.heap.size w w' := by
  have hfew := ht.few
  have PL := hide (lblocks_new (g := g) HS h ht hm hB c0)
  clear h ht
  go_enter Tryz.func27, Tryz.ntmps27
  go_wp2_with fail
  refine (unhide PL).mono ?_
  rintro e w1 ⟨a, c, rfl, _, s1, _, b1⟩
  have B1 := hide b1
  clear PL b1
  by_cases hz : es.length = 0
  · have HN := hide (lastN_none hz)
    obtain rfl : es = [] := List.eq_nil_of_length_eq_zero hz
    clear s1 hz
    go_wp2_with fail
    go_ret
    exact ⟨rfl, unhide B1⟩
  · obtain ⟨k, hk1⟩ : ∃ k, k + 1 = es.length := ⟨es.length - 1, by omega⟩
    have hk2 : k < es.length := by omega
    have HN := hide (lastN_some hk1)
    have hw : IntKind.i64.wrap ((es.length : Int) - 1) = (k : Int) := by rw [IntKind.wrap_i64]; omega
    have hz' : ((es.length : Int) == 0) = false := by rw [beq_eq_false_iff_ne]; omega
    obtain ⟨ba, oa, rfl, hba, n1⟩ := s1.num hk2
    clear hk1 hz s1
    go_wp2_with fail
    go_ret
    rw [unhide HN]
    exact ⟨rfl, unhide B1⟩

set_option maxRecDepth 100000 in
set_option maxHeartbeats 1000000 in
theorem lsync_has (H : More Has) (HS : Lists Has) (h : Has w B q F m es) (ht : Tidy m es) (hm : m ≤ 65536) (hB : B ≤ w.heap.size) (c0 : w.cell? ⟨g, 0, none⟩ = some (.pointer (some ⟨q, 0, none⟩))) (hg : g < w.heap.size ∧ ¬ F g) :
    Calls Tryz.prog 19 #[.pointer (some ⟨g, 0, none⟩)] w fun e w' => e = .returned (.int .i64 0) ∧ Did Has w w' B q F m (lsyncL es) := by
  have R0 := Run.start (Cs := fun k => k = g) h (fun k hk => by subst hk; exact hg)
  have PL := hide (llast_any (g := g) HS h ht hm hB c0)
  have U0 := hide R0
  have HT := hide ht
  clear h ht R0
  go_enter Tryz.func19, Tryz.ntmps19
  go_wp2_with fail
  refine (unhide PL).mono ?_
  rintro e w1 ⟨rfl, b1⟩
  obtain ⟨r1, k1⟩ := (unhide U0).below H.works b1
  have d0 := (k1.cell (C := g) (j := 0) rfl).trans c0
  clear PL b1 k1 c0 U0
  by_cases hz : es.length = 0
  · have E1 : Hid (Did Has w w1 B q F m (lsyncL es)) := hide (by rw [lsync_nil hz]; exact r1.done)
    have hN := lastN_none hz
    clear r1 hz
    rw [hN]
    go_wp2_with fail
    go_ret
    exact ⟨rfl, unhide E1⟩
  · obtain ⟨k, hk1⟩ : ∃ k, k + 1 = es.length := ⟨es.length - 1, by omega⟩
    have hk2 : k < es.length := by omega
    have hN := lastN_some hk1
    have hnl := (unhide HT).each _ (pa_mem hk2)
    have hn1 : 0 ≤ (pa es k).n ∧ (pa es k).n ≤ 1099511627776 := by simpa [inI] using hnl.1
    have hwn := wf_of hnl.1
    have hneg : ¬ (pa es k).n < 0 := by omega
    have PF := hide (lfiles_any d0)
    have PS := hide (r1.did (fun F' hF => H.works.sync (pa es k).n hwn hF (unhide HT) hm (Nat.le_trans hB r1.room)))
    rw [has_pa (unhide HT) hk2, ← lsync_last hk1] at PS
    rw [hN]
    clear hk1 hz r1 hnl hN hwn
    go_wp2_with fail
    refine (unhide PF).mono ?_
    rintro e w2 ⟨rfl, rfl⟩
    go_wp2_with fail
    refine (unhide PS).mono ?_
    rintro e w3 ⟨rfl, r3, _⟩
    have E3 := hide r3.done
    clear r3 PS PF
    go_wp2_with fail
    go_ret
    exact ⟨rfl, unhide E3⟩

theorem fills_pa {k : Nat} (h : k + 1 = es.length) (s : ByteArray) : fills es size s = (decide (0 < (pa es k).text.size) && decide (size < ((pa es k).text.size : Int) + (s.size : Int))) := by unfold fills; rw [pa_last h]

set_option maxRecDepth 100000 in
set_option maxHeartbeats 1000000 in
theorem lfits_any (HS : Lists Has) (s : ByteArray) (hs : s.size ≤ 140737488355328) {k : Nat} (hk1 : k + 1 = es.length) (h : Has w B q F m es) (ht : Tidy m es) (hm : m ≤ 65536) (hB : B ≤ w.heap.size) (c0 : w.cell? ⟨g, 0, none⟩ = some (.pointer (some ⟨q, 0, none⟩))) (c1 : w.cell? ⟨g, 1, none⟩ = some (.int .i64 size)) (hg : g < w.heap.size) :
    Calls Tryz.prog 36 #[.pointer (some ⟨g, 0, none⟩), .int .i64 (pa es k).n, .string s] w fun e w' => e = .returned (.bool (!fills es size s)) ∧ Below w.heap.size w w' := by
  have hk2 : k < es.length := by omega
  have hfit := ht.fits
  have hu := used_mem (pa_mem hk2)
  have hnl := ht.each _ (pa_mem hk2)
  have PF := hide (lfiles_any c0)
  have PR := hide (HS.reads (pa es k).n (wf_of hnl.1) h ht hm hB)
  rw [readV_pa ht hk2] at PR
  have HFl := hide (fills_pa (size := size) hk1 s)
  obtain ⟨n, hn⟩ : ∃ n, n = (pa es k).n := ⟨_, rfl⟩
  obtain ⟨tx, htx⟩ : ∃ tx, tx = (pa es k).text := ⟨_, rfl⟩
  rw [← htx] at PR hu HFl
  rw [← hn] at PR ⊢
  have hw3 : IntKind.i64.wrap ((tx.size : Int) + (s.size : Int)) = (tx.size : Int) + (s.size : Int) := by rw [IntKind.wrap_i64]; omega
  clear h ht hnl hn htx hk1 hk2
  go_enter Tryz.func36, Tryz.ntmps36
  go_wp2_with fail
  refine (unhide PF).mono ?_
  rintro e w1 ⟨rfl, rfl⟩
  go_wp2_with fail
  refine (unhide PR).mono ?_
  rintro e w2 ⟨rfl, b2⟩
  have d1 := (b2.cell (p := ⟨g, 1, none⟩) hg).trans c1
  have B2 := hide b2
  clear b2 PR PF c0 c1
  by_cases hz : 0 < tx.size
  · have hf0 : ¬ tx.toList = [] := by rw [tl_nil]; omega
    have hf1 : (!tx.toList.isEmpty) = true := by rw [tl_emp, decide_eq_false (by omega)]; rfl
    have hf2 : tx.toList.isEmpty = false := by rw [tl_emp, decide_eq_false (by omega)]
    by_cases hl : size < (tx.size : Int) + (s.size : Int)
    · have hd : decide ((tx.size : Int) + (s.size : Int) ≤ size) = false := decide_eq_false (by omega)
      go_wp2_with fail
      go_ret
      rw [unhide HFl, decide_eq_true (p := 0 < tx.size) (by omega), decide_eq_true (p := size < (tx.size : Int) + (s.size : Int)) (by omega)]
      exact ⟨rfl, unhide B2⟩
    · have hd : decide ((tx.size : Int) + (s.size : Int) ≤ size) = true := decide_eq_true (by omega)
      go_wp2_with fail
      go_ret
      rw [unhide HFl, decide_eq_true (p := 0 < tx.size) (by omega), decide_eq_false (p := size < (tx.size : Int) + (s.size : Int)) (by omega)]
      exact ⟨rfl, unhide B2⟩
  · have hf0 : tx.toList = [] := by rw [tl_nil]; omega
    have hf2 : tx.toList.isEmpty = true := by rw [tl_emp, decide_eq_true (by omega)]
    go_wp2_with fail
    go_ret
    rw [unhide HFl, decide_eq_false (p := 0 < tx.size) (by omega)]
    exact ⟨rfl, unhide B2⟩

set_option maxRecDepth 100000 in
set_option maxHeartbeats 1000000 in
theorem lbegin_has (H : More Has) (HS : Lists Has) (s : ByteArray) (hs : s.size ≤ 140737488355328) (h : Has w B q F m es) (ht : Tidy m es) (hm : m ≤ 65536) (hB : B ≤ w.heap.size) (c0 : w.cell? ⟨g, 0, none⟩ = some (.pointer (some ⟨q, 0, none⟩))) (hg : g < w.heap.size ∧ ¬ F g) :
    Calls Tryz.prog 37 #[.pointer (some ⟨g, 0, none⟩), .int .i64 (lastN es), .string s] w fun e w' => e = .returned (.int .i64 (appE es m (nextN es) s)) ∧ Did Has w w' B q F m (begL es m s) := by
  have R0 := Run.start (Cs := fun k => k = g) h (fun k hk => by subst hk; exact hg)
  have hlast : -1 ≤ lastN es ∧ lastN es ≤ 1099511627776 := by
    by_cases hz : es.length = 0
    · rw [lastN_none hz]; omega
    · obtain ⟨k, hk1⟩ : ∃ k, k + 1 = es.length := ⟨es.length - 1, by omega⟩
      rw [lastN_some hk1]
      have hnl := ht.each _ (pa_mem (show k < es.length by omega))
      have hn1 : 0 ≤ (pa es k).n ∧ (pa es k).n ≤ 1099511627776 := by simpa [inI] using hnl.1
      omega
  have HN := hide (next_lastN es)
  obtain ⟨n, hn⟩ : ∃ n, n = lastN es := ⟨_, rfl⟩
  rw [← hn] at hlast HN ⊢
  have hw : IntKind.i64.wrap (n + 1) = n + 1 := by rw [IntKind.wrap_i64]; omega
  have PF := hide (lfiles_any c0)
  have PT := hide (HS.tries (n + 1) s h ht hm hs hB)
  have U0 := hide R0
  have HT := hide ht
  obtain ⟨E, hE⟩ : ∃ E, appE es m (n + 1) s = E := ⟨_, rfl⟩
  rw [hE] at PT
  have HB1 : Hid (E = 0 → begL es m s = appL (lsyncL es) m (n + 1) s ∧ appE (lsyncL es) m (n + 1) s = 0) := hide (fun z => by
    rw [z] at hE
    refine ⟨?_, by rw [appE_lsync]; exact hE⟩
    rw [begL_ok (by rw [unhide HN]; exact hE), unhide HN])
  have HB2 : Hid (E ≠ 0 → begL es m s = es) := hide (fun z => begL_not (by rw [unhide HN, hE]; exact z))
  have HE : Hid (appE es m (nextN es) s = E) := hide (by rw [unhide HN]; exact hE)
  clear h ht R0 hn hE
  go_enter Tryz.func37, Tryz.ntmps37
  go_wp2_with fail
  refine (unhide PF).mono ?_
  rintro e w1 ⟨rfl, rfl⟩
  go_wp2_with fail
  refine (unhide PT).mono ?_
  rintro e w2 ⟨rfl, b2⟩
  obtain ⟨r2, k2⟩ := (unhide U0).below H.works b2
  have d0 := (k2.cell (C := g) (j := 0) rfl).trans c0
  clear PT PF b2 k2 c0 U0
  by_cases h0 : E = 0
  · obtain ⟨e1, e2⟩ := unhide HB1 h0
    subst h0
    have PS := hide (r2.didc (fun F' hF hC => lsync_has (g := g) H HS hF (unhide HT) hm (Nat.le_trans hB r2.room) d0 (hC g rfl)))
    have HT3 := hide (unhide HT).lsync
    have hb2 := r2.room
    clear r2 HB1 HB2
    go_wp2_with fail
    refine (unhide PS).mono ?_
    rintro e w3 ⟨rfl, r3, k3⟩
    have f0 := (k3.cell (C := g) (j := 0) rfl).trans d0
    have PF := hide (lfiles_any f0)
    have PA := hide (r3.did (fun F' hF => H.works.append (n + 1) s hF (unhide HT3) hm hs (Nat.le_trans hB r3.room)))
    rw [e2, ← e1] at PA
    clear r3 k3 PS d0
    go_wp2_with fail
    refine (unhide PF).mono ?_
    rintro e w4 ⟨rfl, rfl⟩
    go_wp2_with fail
    refine (unhide PA).mono ?_
    rintro e w5 ⟨rfl, r5, _⟩
    have E5 := hide r5.done
    clear r5 PA PF
    go_wp2_with fail
    go_ret
    rw [unhide HE]
    exact ⟨rfl, unhide E5⟩
  · have hE' : (E != 0) = true := by simpa using h0
    have E2 : Hid (Did Has w w2 B q F m (begL es m s)) := hide (by rw [unhide HB2 h0]; exact r2.done)
    clear r2 HB1 HB2
    go_wp2_with fail
    go_ret
    rw [unhide HE]
    exact ⟨rfl, unhide E2⟩

theorem enc_bad {r : Rc} {E : Int} (h : chkR r = E) (h0 : E ≠ 0) : encV r.k r.q r.t r.s r.h r.d = .tuple #[.string ⟨#[]⟩, .int .i64 E] := encV_bad h h0
theorem enc_good {r : Rc} (h : chkR r = 0) : encV r.k r.q r.t r.s r.h r.d = .tuple #[.string (codT r), .int .i64 0] := encV_good h

set_option maxRecDepth 100000 in
set_option maxHeartbeats 1000000 in
theorem lappend_has (H : More Has) (HS : Lists Has) (r : Rc) (hs : Small r) (h : Has w B q F m es) (ht : Tidy m es) (hm : m ≤ 65536) (hB : B ≤ w.heap.size) (c0 : w.cell? ⟨g, 0, none⟩ = some (.pointer (some ⟨q, 0, none⟩))) (c1 : w.cell? ⟨g, 1, none⟩ = some (.int .i64 size)) (hg : g < w.heap.size ∧ ¬ F g) :
    Calls Tryz.prog 18 #[.pointer (some ⟨g, 0, none⟩), .agg #[.int .i64 r.k, .int .i64 r.q, .int .i64 r.t, .string r.s, .string r.h, .string r.d]] w fun e w' => e = .returned (.int .i64 (logP es m size r).1) ∧ Did Has w w' B q F m (logP es m size r).2 := by
  have HT := hide ht
  have R0 := hide (RB.new w r.k r.q r.t r.s r.h r.d 30)
  have hb0 : Below w.heap.size w (w.alloc (.cells #[.int .i64 r.k, .int .i64 r.q, .int .i64 r.t, .string r.s, .string r.h, .string r.d] 30)) := (Below.refl _ _).alloc (Nat.le_refl _) _
  obtain ⟨r0, k0⟩ := (Run.start (Cs := fun k => k = g) h (fun k hk => by subst hk; exact hg)).below H.works hb0
  have U0 := hide r0
  have a0 := (k0.cell (C := g) (j := 0) rfl).trans c0
  have a1 := (k0.cell (C := g) (j := 1) rfl).trans c1
  have C1 : Hid (∀ W, Calls Tryz.prog 35 #[.agg #[.int .i64 r.k, .int .i64 r.q, .int .i64 r.t, .string r.s, .string r.h, .string r.d]] W fun e w' => e = .returned (encV r.k r.q r.t r.s r.h r.d) ∧ Below W.heap.size W w') := hide (fun W => encode_any r.k r.q r.t r.s r.h r.d W hs.s hs.h hs.d)
  obtain ⟨E, hE⟩ : ∃ E, chkR r = E := ⟨_, rfl⟩
  clear h ht hb0 r0 k0 c0 c1
  by_cases h0 : E = 0
  · have hc : chkR r = 0 := by rw [hE]; exact h0
    have hsz := codT_size hc
    rw [enc_good hc] at C1
    have HC := hide hc
    clear hE h0 hc
    obtain ⟨_, x0, x1, x2, x3, x4, x5, _⟩ := unhide R0
    go_enter Tryz.func18, Tryz.ntmps18
    go_wp2_with fail
    refine (unhide C1 _).mono ?_
    rintro e w1 ⟨rfl, b1⟩
    obtain ⟨r1, k1⟩ := (unhide U0).below H.works b1
    have d0 := (k1.cell (C := g) (j := 0) rfl).trans a0
    have d1 := (k1.cell (C := g) (j := 1) rfl).trans a1
    have PL := hide (r1.looks H.works (fun F' hF => llast_any (g := g) HS hF (unhide HT) hm (Nat.le_trans hB r1.room) d0))
    clear b1 r1 k1 a0 a1 U0 R0 x0 x1 x2 x3 x4 x5 C1
    go_wp2_with fail
    refine (unhide PL).mono ?_
    rintro e w2 ⟨rfl, r2, k2⟩
    have f0 := (k2.cell (C := g) (j := 0) rfl).trans d0
    have f1 := (k2.cell (C := g) (j := 1) rfl).trans d1
    have PB := hide (r2.didc (fun F' hF hC => lbegin_has (g := g) H HS (codT r) (by omega) hF (unhide HT) hm (Nat.le_trans hB r2.room) f0 (hC g rfl)))
    clear d0 d1 PL k2
    by_cases hz : es.length = 0
    · have HR := hide (logP_begin (m := m) (size := size) (unhide HC) (.inl hz))
      have hN := lastN_none hz
      rw [hN] at PB ⊢
      clear r2 hz hN
      go_wp2_with fail
      refine (unhide PB).mono ?_
      rintro e w3 ⟨rfl, r3, _⟩
      have E3 := hide r3.done
      clear r3 PB
      go_wp2_with fail
      go_ret
      rw [unhide HR]
      exact ⟨rfl, unhide E3⟩
    · obtain ⟨k, hk1⟩ : ∃ k, k + 1 = es.length := ⟨es.length - 1, by omega⟩
      have hk2 : k < es.length := by omega
      have hN := lastN_some hk1
      have hnl := (unhide HT).each _ (pa_mem hk2)
      have hn1 : 0 ≤ (pa es k).n ∧ (pa es k).n ≤ 1099511627776 := by simpa [inI] using hnl.1
      have hneg : ¬ (pa es k).n < 0 := by omega
      have PI := hide (r2.looks H.works (fun F' hF => lfits_any (g := g) (size := size) HS (codT r) (by omega) hk1 hF (unhide HT) hm (Nat.le_trans hB r2.room) f0 f1 (by
        obtain ⟨_, _, _, _, x⟩ := id r2
        exact (x g rfl).1)))
      have HP := hide (pa_last hk1)
      rw [hN] at PB ⊢
      clear hN hnl r2
      cases hfl : fills es size (codT r) with
      | true =>
        have HR := hide (logP_begin (m := m) (unhide HC) (.inr hfl))
        rw [hfl] at PI
        have HL1 := hide (lastN_some hk1)
        clear hfl hz hk1 PB
        go_wp2_with fail
        refine (unhide PI).mono ?_
        rintro e w3 ⟨rfl, r3, k3⟩
        have g0 := (k3.cell (C := g) (j := 0) rfl).trans f0
        have PB := hide (r3.didc (fun F' hF hC => lbegin_has (g := g) H HS (codT r) (by omega) hF (unhide HT) hm (Nat.le_trans hB r3.room) g0 (hC g rfl)))
        rw [unhide HL1] at PB
        clear r3 k3 PI f0 f1
        go_wp2_with fail
        refine (unhide PB).mono ?_
        rintro e w4 ⟨rfl, r4, _⟩
        have E4 := hide r4.done
        clear r4 PB
        go_wp2_with fail
        go_ret
        rw [unhide HR]
        exact ⟨rfl, unhide E4⟩
      | false =>
        have HR := hide (logP_last (m := m) (unhide HC) hz hfl)
        rw [unhide HP] at HR
        rw [hfl] at PI
        clear hfl hz hk1 PB
        go_wp2_with fail
        refine (unhide PI).mono ?_
        rintro e w3 ⟨rfl, r3, k3⟩
        have g0 := (k3.cell (C := g) (j := 0) rfl).trans f0
        have PF := hide (lfiles_any g0)
        have PA := hide (r3.did (fun F' hF => H.works.append (pa es k).n (codT r) hF (unhide HT) hm (by omega) (Nat.le_trans hB r3.room)))
        clear r3 k3 PI f0 f1
        go_wp2_with fail
        refine (unhide PF).mono ?_
        rintro e w4 ⟨rfl, rfl⟩
        go_wp2_with fail
        refine (unhide PA).mono ?_
        rintro e w5 ⟨rfl, r5, _⟩
        have E5 := hide r5.done
        clear r5 PA PF
        go_wp2_with fail
        go_ret
        rw [unhide HR]
        exact ⟨rfl, unhide E5⟩
  · have HR := hide (logP_bad (es := es) (m := m) (size := size) (r := r) (by rw [hE]; exact h0))
    rw [hE] at HR
    rw [enc_bad hE h0] at C1
    have h1 : (E != 0) = true := by simpa using h0
    clear hE
    obtain ⟨_, x0, x1, x2, x3, x4, x5, _⟩ := unhide R0
    go_enter Tryz.func18, Tryz.ntmps18
    go_wp2_with fail
    refine (unhide C1 _).mono ?_
    rintro e w1 ⟨rfl, b1⟩
    have E1 := hide ((unhide U0).below H.works b1).1.done
    clear b1 U0 R0 C1
    go_wp2_with fail
    go_ret
    rw [unhide HR]
    exact ⟨rfl, unhide E1⟩
end
end Go.Proofs.YtphhebdmfdjfeagGreatDoor.Dk

namespace Go.Proofs.YtphhebdmfdjfeagGreatDoor.Dk
open Go.RowKit Go.Shelf
attribute [local go_sem] Oper.semAt_some

/-- a number of 64 bits -/
abbrev Num := { n : Int // wf n }
theorem Kept.refl (Cs : Nat → Prop) (w : World) : Kept Cs w w := ⟨Nat.le_refl _, fun _ _ => rfl⟩
theorem Kept.trans {Cs : Nat → Prop} {a b c : World} (h : Kept Cs a b) (k : Kept Cs b c) : Kept Cs a c := ⟨Nat.le_trans h.1 k.1, fun i hi => (k.2 i hi).trans (h.2 i hi)⟩
theorem Kept.put {Cs : Nat → Prop} {w : World} (hC : ∀ k, Cs k → k < w.heap.size) (W : World) (l : Nat) (o o' : Obj) (hl : w.heap.size ≤ l) (h : W.heap[l]? = some o) : Kept Cs W (W.putObj l o') := by
  have hlt := (Array.getElem?_eq_some_iff.1 h).1
  have hg := grownBy_putObj' W l o'
  exact ⟨hg.size, fun k hk => by
    have := hC k hk
    exact hg.block k (by omega) (fun e => by have := Option.some.inj e; omega)⟩

set_option maxRecDepth 100000 in
set_option maxHeartbeats 2000000 in
theorem back1_in (F : Fence) (n : Nat) (hf : F.fn 71) (hro : F.round = none) (hn : 1 ≤ n) (l Bs : Nat) (Cs : Nat → Prop) (a : Option Addr) (zs : List Int) (cap : Nat) (hz : ∀ k, k < zs.length → wf (nth zs k)) (hlen : zs.length ≤ 1000) (hCB : Cs Bs) (hCa : ∀ z, a = some z → Cs z.block) (J Jx : List (Int × Num) → World → Prop)
    (hY : ∀ pre x W, J pre W → pre.length < zs.length → YieldAt F (n - 1) Tryz.prog l #[.int .i64 x.1, .int .i64 x.2.1] W fun e W' =>
      (e = .returned (.bool true) ∧ J (pre ++ [x]) W' ∧ Kept Cs W W') ∨ (e = .returned (.bool false) ∧ Jx (pre ++ [x]) W'))
    (W : World) (hBs : W.cell? ⟨Bs, 0, none⟩ = some (.slice a zs.length cap)) (hc : SlI W a zs) (h0 : J [] W) :
    CallsIn F n Tryz.prog 71 #[.func (.yield l) #[] #[], .pointer (some ⟨Bs, 0, none⟩)] W fun e W' => (∃ v, e = .returned v) ∧
      ((∃ ys : List (Int × Num), ys.map (fun x => x.2.1) = zs.reverse ∧ J ys W') ∨ (∃ pre : List (Int × Num), True ∧ Jx pre W')) := by
  have HZ := hide hz
  have HY := hide hY
  have HCa := hide hCa
  have HW := hide (And.intro hBs hc)
  clear hz hY hCa hc
  refine callsIn_of_wp Tryz.func71 rfl hf ?_ hro
  simp only [Tryz.ntmps71, List.size_toArray, List.length_cons, List.length_nil, Nat.reduceAdd, Nat.reduceSub, Array.replicate_succ, Array.replicate_zero, List.push_toArray, List.append_toArray, List.nil_append, List.cons_append]
  have hw0 : IntKind.i64.wrap ((zs.length : Int) - 1) = (zs.length : Int) - 1 := by rw [IntKind.wrap_i64]; omega
  gi_wp2
  gi_loopw [3] (fun iv wr => ∃ (k : Nat) (j : Int) (pre : List (Int × Num)), iv = .int .i64 j ∧ Hid (j = (k : Int) - 1) ∧ k ≤ zs.length ∧ Hid (pre.map (fun x => x.2.1) = (zs.drop k).reverse ∧ pre.length + k = zs.length) ∧ Hid (J pre wr) ∧ Hid (Kept Cs W wr)) (fun iv _ => (intOf iv + 1).toNat)
  case atStart => exact ⟨zs.length, _, [], rfl, hide (by first | rfl | exact hw0), Nat.le_refl _, hide ⟨by simp, by simp⟩, hide h0, hide (Kept.refl _ _)⟩
  case round =>
    obtain ⟨k, j, pre, rfl, hj, hk, HP, HJ, HK⟩ := hrel
    have hbs := ((unhide HK).cell (C := Bs) (j := 0) hCB).trans hBs
    by_cases hk0 : 0 < k
    · obtain ⟨i, rfl⟩ : ∃ i, k = i + 1 := ⟨k - 1, by omega⟩
      obtain rfl : j = (i : Int) := by have := unhide hj; omega
      have hi : i < zs.length := by omega
      have hi0 : (0 : Int) ≤ (i : Int) := by omega
      obtain ⟨b, o, rfl, hb, c1⟩ := ((unhide HK).nums (unhide HW).2 (unhide HCa)) i hi
      obtain ⟨fn, tmps, assign, body, hy, hR⟩ := unhide HY pre ((i : Int), ⟨nth zs i, unhide HZ i hi⟩) wr (unhide HJ) (by have := (unhide HP).2; omega)
      dsimp only at hy
      have HP2 : Hid ((pre ++ [((i : Int), (⟨nth zs i, unhide HZ i hi⟩ : Num))]).map (fun x => x.2.1) = (zs.drop i).reverse ∧ (pre ++ [((i : Int), (⟨nth zs i, unhide HZ i hi⟩ : Num))]).length + i = zs.length) := hide ⟨by
        have hnth : nth zs i = zs[i] := by unfold nth; rw [List.getElem?_eq_getElem hi]; rfl
        rw [List.map_append, (unhide HP).1, List.drop_eq_getElem_cons hi, List.reverse_cons]
        show _ ++ [nth zs i] = _
        rw [hnth], by have := (unhide HP).2; simp; omega⟩
      have hw1 : IntKind.i64.wrap ((i : Int) - 1) = (i : Int) - 1 := by rw [IntKind.wrap_i64]; omega
      clear HP HJ hj hk0 hb
      gi_wp2
      refine hR.mono ?_
      rintro e W3 (⟨rfl, hJ3, hk3⟩ | ⟨rfl, hJx3⟩)
      · have J3 := hide hJ3
        have K3 := hide ((unhide HK).trans hk3)
        clear hJ3 hk3 hR hy c1 hbs HK
        gi_wp2
        go_roundw
        case rel => exact ⟨i, _, _, rfl, hide (by first | rfl | exact hw1), by omega, HP2, J3, K3⟩
        case measure => first | (simp [intOf]; done) | (simp [intOf]; omega)
      · have J3 := hide hJx3
        clear hJx3 hR hy c1 hbs HK
        gi_wp2
        refine bodyPost_ret (results_none rfl _ _ _) rfl ?_
        exact ⟨⟨_, rfl⟩, .inr ⟨_, trivial, unhide J3⟩⟩
    · obtain rfl : k = 0 := by omega
      obtain rfl : j = -1 := by have := unhide hj; omega
      gi_wp2
      go_end0
      exact ⟨⟨_, rfl⟩, .inl ⟨_, by rw [(unhide HP).1]; rfl, unhide HJ⟩⟩

set_option maxHeartbeats 1000000 in
theorem back_in (F : Fence) (n : Nat) (hf : F.fn 48) (hro : F.round = none) (a : Option Addr) (len cap : Nat) (w : World) :
    CallsIn F n Tryz.prog 48 #[.slice a len cap] w fun e w' => e = .returned (.func (.func 71) #[] #[.pointer (some ⟨w.heap.size, 0, none⟩)]) ∧ w' = w.alloc (.cells #[.slice a len cap] 63) := by
  refine callsIn_of_wp Tryz.func48 rfl hf ?_ hro
  simp only [Tryz.ntmps48, List.size_toArray, List.length_cons, List.length_nil, Nat.reduceAdd, Nat.reduceSub, Array.replicate_succ, Array.replicate_zero, List.push_toArray, List.append_toArray, List.nil_append, List.cons_append]
  gi_wp2
  go_ret
  exact ⟨rfl, rfl⟩

/-- slices.Backward hands back a function that gives the numbers, the last one first -/
theorem back_stops (F : Fence) (n : Nat) (hf : F.fn 71) (hro : F.round = none) (hn : 1 ≤ n) (Bs : Nat) (Cs : Nat → Prop) (a : Option Addr) (zs : List Int) (cap : Nat) (hz : ∀ k, k < zs.length → wf (nth zs k)) (hlen : zs.length ≤ 1000) (hCB : Cs Bs) (hCa : ∀ z, a = some z → Cs z.block) (w : World) (hC : ∀ k, Cs k → k < w.heap.size)
    (hBs : w.cell? ⟨Bs, 0, none⟩ = some (.slice a zs.length cap)) (hc : SlI w a zs) :
    SeqStopsK F n Tryz.prog 71 #[.pointer (some ⟨Bs, 0, none⟩)] (fun x : Int × Num => #[Value.int .i64 x.1, Value.int .i64 x.2.1]) (Kept Cs) (fun ys => ys.map (fun x => x.2.1) = zs.reverse) (fun _ => True) zs.length w := fun l J Jx W hW _ _ hY h0 => by
  have hk : Kept Cs w W := ⟨hW.size, fun k hk => hW.block k (hC k hk)⟩
  exact back1_in F n hf hro hn l Bs Cs a zs cap hz hlen hCB hCa J Jx hY W ((hk.cell hCB).trans hBs) (hk.nums hc hCa) h0

/-- files that were removed so far -/
def remsL (es : List Pap) (pre : List (Int × Num)) : List Pap := pre.foldl (fun l x => remL l x.2.1) es
theorem remsL_snoc (es : List Pap) (pre : List (Int × Num)) (x : Int × Num) : remsL es (pre ++ [x]) = remL (remsL es pre) x.2.1 := by unfold remsL; rw [List.foldl_append]; rfl
theorem remsL_all (es : List Pap) (pre : List (Int × Num)) : remsL es pre = (pre.map (fun x => x.2.1)).foldl remL es := by unfold remsL; rw [List.foldl_map]
theorem Tidy.remsL {m : Int} {es : List Pap} (h : Tidy m es) (pre : List (Int × Num)) : Tidy m (Dk.remsL es pre) := by rw [remsL_all]; exact Tidy.rems _ h

theorem SlI.below' {w w' : World} {a : Option Addr} {l : List Int} {n : Nat} (h : SlI w a l) (hb : Below n w w') (hn : ∀ z, a = some z → z.block < n) : SlI w' a l := fun k hk => by
  obtain ⟨b, o, h1, h2, h3⟩ := h k hk
  exact ⟨b, o, h1, Nat.lt_of_lt_of_le h2 hb.size, by rw [hb.cell (p := ⟨b, o + k, none⟩) (hn ⟨b, o, none⟩ h1)]; exact h3⟩

set_option maxRecDepth 100000 in
set_option maxHeartbeats 2000000 in
theorem lremove_any {Has : World → Nat → Nat → (Nat → Prop) → Int → List Pap → Prop} {w : World} {B q : Nat} {F : Nat → Prop} {m : Int} {es : List Pap} (H : Works Has) (HS : Lists Has) (a : Option Addr) (zs : List Int) (cap : Nat) (hz : ∀ k, k < zs.length → wf (nth zs k)) (hlen : zs.length ≤ 1000) (hs : SlI w a zs) (ha : ∀ z, a = some z → z.block < w.heap.size ∧ ¬ F z.block) (h : Has w B q F m es) (ht : Tidy m es) (hm : m ≤ 65536) (hB : B ≤ w.heap.size) :
    Calls Tryz.prog 31 #[.pointer (some ⟨q, 0, none⟩), .slice a zs.length cap] w fun e w' => e = .returned (.tuple #[]) ∧ Has w' B q F m (zs.reverse.foldl remL es) ∧ Chg F w w' := by
  refine (callsIn_wide (n := 8)).1 ?_
  have HZ := hide hz
  have HH := hide h
  have HT := hide ht
  have HSl := hide hs
  have HA := hide ha
  clear hz h ht hs ha
  refine callsIn_of_wp_marks Tryz.func31 rfl trivial ?_ rfl
  simp only [Tryz.ntmps31, List.size_toArray, List.length_cons, List.length_nil, Nat.reduceAdd, Nat.reduceSub, Array.replicate_succ, Array.replicate_zero, List.push_toArray, List.append_toArray, List.nil_append, List.cons_append]
  have cB := back_in Fence.wide 7 trivial rfl a zs.length cap (w.alloc (.cells #[.pointer (some ⟨q, 0, none⟩)] 41))
  have hfB : Fence.wide.fn 48 := trivial
  gi_wp2_with (gi_at_call 48; refine cB.mono ?_; rintro e w' ⟨rfl, rfl⟩)
  clear cB
  obtain ⟨W0, hW0⟩ : ∃ W0, W0 = (w.alloc (.cells #[.pointer (some ⟨q, 0, none⟩)] 41)).alloc (.cells #[.slice a zs.length cap] 63) := ⟨_, rfl⟩
  have hs0 : W0.heap.size = w.heap.size + 2 := by rw [hW0]; simp
  have hb0 : Below w.heap.size w W0 := by rw [hW0]; exact ((Below.refl _ _).alloc (Nat.le_refl _) _).alloc (by simp) _
  have hown : ∀ k, F k → k < w.heap.size := fun k hk => (H.own (unhide HH) k hk).2
  have c0 : W0.cell? ⟨w.heap.size, 0, none⟩ = some (.pointer (some ⟨q, 0, none⟩)) := by
    rw [hW0, World.cell?_alloc_lt _ _ _ (by simp), cell_of_row _ w.heap.size 0 _ _ _ (heap_alloc_new w _)]; rfl
  have c1 : W0.cell? ⟨w.heap.size + 1, 0, none⟩ = some (.slice a zs.length cap) := by
    have := cell_of_row ((w.alloc (.cells #[.pointer (some ⟨q, 0, none⟩)] 41)).alloc (.cells #[.slice a zs.length cap] 63)) (w.alloc (.cells #[.pointer (some ⟨q, 0, none⟩)] 41)).heap.size 0 _ _ _ (heap_alloc_new _ _)
    rw [World.size_alloc] at this
    rw [hW0, this]; rfl
  have hst : SeqStopsK Fence.wide 7 Tryz.prog 71 #[.pointer (some ⟨w.heap.size + 1, 0, none⟩)] (fun x : Int × Num => #[Value.int .i64 x.1, Value.int .i64 x.2.1]) (Kept (fun k => k = w.heap.size + 1 ∨ ∃ z, a = some z ∧ z.block = k)) (fun ys => ys.map (fun x => x.2.1) = zs.reverse) (fun _ => True) zs.length W0 :=
    back_stops Fence.wide 7 trivial rfl (by omega) (w.heap.size + 1) _ a zs cap (unhide HZ) hlen (.inl rfl) (fun z hz => .inr ⟨z, hz, rfl⟩) W0 (fun k hk => by
      rcases hk with rfl | ⟨z, hz, rfl⟩
      · omega
      · have := (unhide HA z hz).1; omega) c1 ((unhide HSl).below' hb0 (fun z hz => (unhide HA z hz).1))
  have hI : OwnFrom W0.heap.size (fun (pre : List (Int × Num)) W => Has W B q F m (remsL es pre) ∧ Chg F W0 W) := fun s X Y row hs hg hr => by
    refine ⟨H.chg (A := fun k => row = some k) hs.1 (Chg.of_grown hg) (fun k hk z => ?_), chg_more hs.2 (Chg.of_grown hg) (fun i hi z => ?_)⟩
    · have := (hr k z).1; have := hown k hk; omega
    · have := (hr i z).1; omega
  have hfR : Fence.wide.fn 49 := trivial
  rw [← hW0]
  refine wpIn_rangeFunc_ownG rfl (by omega) (gf := 71) (lb := #[.pointer (some ⟨w.heap.size + 1, 0, none⟩)]) (by rfl) trivial (enters_of Tryz.func71 (by kernel_rfl) rfl)
    hst (fun h k => h.trans k) (fun W l o o' hl h _ _ => Kept.put (fun k hk => by
      rcases hk with rfl | ⟨z, hz, rfl⟩
      · omega
      · have := (unhide HA z hz).1; omega) W l o o' hl h) (Below.refl _ _) (fun _ => rfl)
    (fun pre W => Has W B q F m (remsL es pre) ∧ Chg F W0 W)
    (fun _ _ _ => False)
    hI (fun _ _ _ _ _ hs _ _ => hs)
    ⟨H.chg (A := fun _ => False) (unhide HH) (Chg.of_below hb0) (fun _ _ z => z), Chg.refl _ _⟩
    (fun x => { tmps := #[.pointer (some ⟨q, 0, none⟩), .slice a zs.length cap, .pointer (some ⟨w.heap.size, 0, none⟩), undef, undef, .int .i64 x.2.1, .slice a zs.length cap, .func (.func 71) #[] #[.pointer (some ⟨w.heap.size + 1, 0, none⟩)], .int .i64 x.1, .int .i64 x.2.1, undef, undef, undef], defers := [] }) ?assign ?body ?done ?stop
  case assign =>
    intro l x W K hK
    gi_wp2
    exact hK
  case body =>
    rintro l pre x W ⟨hh, hc⟩ _
    have d0 : W.cell? ⟨w.heap.size, 0, none⟩ = some (.pointer (some ⟨q, 0, none⟩)) := by
      rw [hc.cell (p := ⟨w.heap.size, 0, none⟩) (by simp only; omega) (fun z => by have := hown _ z; simp at this)]; exact c0
    have PR := hide (HS.drops x.2.1 x.2.2 hh ((unhide HT).remsL pre) hm (Nat.le_trans hB (Nat.le_trans hb0.size hc.size)))
    have HCh := hide hc
    clear hh hc
    gi_wp2_with (gi_at_call 49; refine (CallsIn.inRound l (callsIn_wide.2 (unhide PR))).mono ?_; rintro e w2 ⟨rfl, h2, ch2⟩)
    have hsz := (unhide HCh).size
    refine ⟨⟨ch2.size, fun k o hk hko _ => (ch2.block k (Array.getElem?_eq_some_iff.1 hko).1 (fun z => by have := hown k z; omega)).trans hko⟩, ⟨ch2.size, fun k hk => ?_⟩, by rw [remsL_snoc]; exact h2, (unhide HCh).trans ch2⟩
    rcases hk with rfl | ⟨z, hz, rfl⟩
    · exact ch2.block _ (by omega) (fun y => by have := hown _ y; omega)
    · exact ch2.block _ (by have := (unhide HA z hz).1; omega) (unhide HA z hz).2
  case done =>
    rintro D ys W hD hS ⟨hh, hc⟩ hK
    have HF : Hid (Has (W.putObj D (.deferred none)) B q F m (zs.reverse.foldl remL es) ∧ Chg F w (W.putObj D (.deferred none))) := hide (by
      obtain ⟨x1, x2⟩ := hI ys W (W.putObj D (.deferred none)) (some D) ⟨hh, hc⟩ (grownBy_putObj' W D _) (fun r e => by cases e; exact ⟨hD, _, hK, rfl⟩)
      rw [remsL_all, hS] at x1
      exact ⟨x1, (Chg.of_below hb0).trans x2⟩)
    clear hh hc hS
    gi_wp2
    refine ⟨by simp, .inl ⟨_, _, rfl, run_takeDeferred hK, ?_⟩⟩
    exact ⟨_, results_none rfl _ _ _, rfl, unhide HF⟩
  case stop =>
    rintro D c pre W _ _ h _
    exact h.elim
end Go.Proofs.YtphhebdmfdjfeagGreatDoor.Dk
