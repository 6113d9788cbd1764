/-
  The walk of the law LogFront, over what is asked of any disk and of any log.
-/
import Derived.Test.YtbejicpfhnfnfafGreatDoorJointWalkG1rOneL
import Derived.Test.YtbejicpfhnfnfafGreatDoorJointRowRWalkC9
namespace Go.Proofs.YtbejicpfhnfnfafGreatDoor.Dk
open Go.RowKit

/-- the records that are handed in -/
def Recs (w : World) (a : Option Addr) (n : Nat) (C : Nat → Rc) : Prop := ∀ i, i < n → ∃ b o, a = some ⟨b, o, none⟩ ∧ Six w b (o + i * 6) (C i) ∧ Small (C i)
/-- the bit of a number that says whether there is a Sync -/
def bitB (sy : Int) (i : Nat) : Bool := bits BinOp.and IntKind.i64 (sy / 2 ^ (i % 60)) 1 == 1
def r1 : Rc := ⟨1, 1, 0, ⟨#[97, 46, 98]⟩, ⟨#[]⟩, ⟨#[120]⟩⟩
theorem r1_chk : chkR r1 = 0 := note_chk1
theorem stands_of {Has : World → Nat → Nat → (Nat → Prop) → Int → List Pap → Prop} (H : Works Has) : Stands Has := ⟨H.own, H.chg⟩
theorem stands_log {Has : World → Nat → Nat → (Nat → Prop) → Int → List Pap → Prop} {LH : Nat → Int → World → Nat → Nat → (Nat → Prop) → Int → List Pap → Prop} (HL : LWorks Has LH) (g : Nat) (size : Int) : Stands (LH g size) := ⟨(HL.looks g size).own, (HL.looks g size).chg⟩
theorem first_log (size : Int) : logR [] 65536 size r1 = (0, [⟨0, 0, codT r1⟩]) := by
  have hs := codT_size r1_chk
  have hI : inI 0 0 1099511627776 = true := by decide
  have hn : ¬ ix [] 0 < ([] : List Pap).length := by simp
  have hf : full [] 65536 0 (codT r1) = false := by
    unfold full
    rw [decide_eq_false (by simp only [used]; omega)]
    simp
  obtain ⟨e1, e2⟩ := app_new (es := []) (m := 65536) hI hf hn
  unfold logR
  rw [if_neg (by rw [r1_chk]; simp), if_pos (show ([] : List Pap).length = 0 from rfl), e1, e2]
  simp [insL]
theorem first_logp (size : Int) : logP [] 65536 size r1 = (0, [⟨0, 0, codT r1⟩]) := by
  have h := first_log size
  rw [logP_ok (by rw [h]), h]
theorem rew_nil (size : Int) : rewR [⟨0, 0, codT r1⟩] 65536 size [] = (0, [⟨1, 0, ByteArray.empty⟩]) := by
  have hs := codT_size r1_chk
  have hN : nextN [⟨0, 0, codT r1⟩] = 1 := rfl
  have hI : inI 1 0 1099511627776 = true := by decide
  have hn : ¬ ix [⟨0, 0, codT r1⟩] 1 < ([⟨0, 0, codT r1⟩] : List Pap).length := by
    rw [ix_cons, if_neg (by simp)]
    simp
  have hf : full [⟨0, 0, codT r1⟩] 65536 1 ByteArray.empty = false := by
    unfold full
    rw [decide_eq_false (by simp only [used]; simp; omega)]
    simp
  have e1 := (app_new (es := [⟨0, 0, codT r1⟩]) (m := 65536) hI hf hn).1
  unfold rewR
  rw [if_neg (by simp [badOf]), if_neg (by simp), hN]
  have e2 : appE [⟨0, 0, codT r1⟩] 65536 1 (catT []) = 0 := e1
  rw [if_neg (fun h => h e2)]
  simp [catT]
theorem sync_nil : lsyncL [⟨1, 0, ByteArray.empty⟩] = [⟨1, 0, ByteArray.empty⟩] := by
  have h := sync_last (pre := []) (e := ⟨1, 0, ByteArray.empty⟩) (List.pairwise_singleton _ _)
  unfold lsyncL
  rw [if_neg (by simp)]
  exact h
theorem logd_nil : Logd [⟨1, 0, ByteArray.empty⟩] [] 0 := ⟨[], ⟨1, 0, ByteArray.empty⟩, [], [], 0, rfl, rfl, rfl, by simp, rfl, by simp [Good], Nat.le_refl _, by simp [catT], Nat.le_refl _⟩
theorem LO.first {Has : World → Nat → Nat → (Nat → Prop) → Int → List Pap → Prop} {w wr : World} {q : Nat} {m : Int} {F : Nat → Prop} {es : List Pap} (h : Has wr w.heap.size q F m es) (hb : Below w.heap.size w wr) : LO Has (fun _ => False) w wr q m (.slice none 0 0) [] es :=
  ⟨F, h, ArrR.empty _ _, fun k hk => (by cases hk), fun k hk => hk.elim, hb⟩

set_option maxRecDepth 100000 in
set_option maxHeartbeats 2000000 in
theorem front_any {Has : World → Nat → Nat → (Nat → Prop) → Int → List Pap → Prop} {LH : Nat → Int → World → Nat → Nat → (Nat → Prop) → Int → List Pap → Prop} (H : Works Has) (N : News Has) (HL : LWorks Has LH) (size : Int) (a : Option Addr) (l cap : Nat) (C : Nat → Rc) (sy keep : Int) (w : World) (hp : Recs w a l C) :
    Calls Tryz.prog 3 #[.int .i64 size, .slice a l cap, .int .i64 sy, .int .i64 keep] w fun e w' => e = .returned (.bool true) ∧ Below w.heap.size w w' := by
  have Hp := hide hp
  clear hp
  obtain ⟨b, hb⟩ : ∃ b : Nat → Bool, b = bitB sy := ⟨_, rfl⟩
  have Hb : Hid (∀ i, b i = (bits BinOp.and IntKind.i64 (sy / 2 ^ (i % 60)) 1 == 1)) := hide (fun i => by rw [hb]; rfl)
  clear hb
  have T0 : Hid (Tidy 65536 []) := hide (Tidy.nil (by omega))
  cases hZ : inI size 1 4096 with
  | false =>
    go_enter Tryz.func3, Tryz.ntmps3
    go_wp2_with fail
    refine (N.good _ 65536 (by decide)).mono ?_
    rintro e w1 ⟨q, F, rfl, z1, b1⟩
    have PO := hide (HL.bad size hZ z1 (unhide T0) (by omega) b1.size)
    have B1 := hide b1
    clear z1 b1 hZ
    go_wp2_with fail
    refine (unhide PO).mono ?_
    rintro e w2 ⟨⟨a2, c2, rfl⟩, b2⟩
    have B2 := hide ((unhide B1).trans b2)
    clear b2 PO
    go_wp2_with fail
    go_ret
    exact ⟨rfl, unhide B2⟩
  | true =>
    have HZ := hide hZ
    clear hZ
    go_enter Tryz.func3, Tryz.ntmps3
    go_wp2_with fail
    refine (N.good _ 65536 (by decide)).mono ?_
    rintro e w1 ⟨q, F, rfl, z1, b1⟩
    have L1 := hide (LO.first z1 b1)
    have PO := hide ((unhide L1).open (stands_of H) HL (unhide HZ) (unhide T0) (by omega))
    clear z1 b1 L1
    go_wp2_with fail
    refine (unhide PO).mono ?_
    rintro e w2 ⟨g, a2, c2, rfl, _, l2, _, _⟩
    have L2 := hide (show LO (LH g size) (fun _ => False) w w2 q 65536 (.slice none 0 0) [] [] from l2.fewer (fun _ h => h.elim))
    clear l2 PO
    go_wp2_with fail
    refine (note_any 1 w2).mono ?_
    rintro e w3 ⟨rfl, b3⟩
    have L3 := hide ((unhide L2).below (stands_log HL g size) b3).1
    have PA := hide ((unhide L3).did (stands_log HL g size) (Q := fun e _ => e = .returned (.int .i64 (logP [] 65536 size r1).1)) (fun F hk => HL.append r1 (Small.of r1_chk) (unhide HZ) hk (unhide T0) (by omega) (unhide L3).room))
    have T4 := hide ((unhide T0).logp size r1)
    rw [first_logp] at PA T4
    simp only [r1] at PA
    clear b3 L2
    go_wp2_with fail
    refine (unhide PA).mono ?_
    rintro e w4 ⟨rfl, l4, _⟩
    have L4 := hide l4
    clear l4 PA L3
    have PB := hide ((unhide L4).did (stands_log HL g size) (Q := fun e _ => ∃ a c, e = .returned (.slice a 1 c)) (fun F hk => (HL.blocks (unhide HZ) hk (unhide T4) (by omega) (unhide L4).room).mono (fun e w' ⟨a, c, h1, _, h3⟩ => ⟨⟨a, c, h1⟩, h3⟩)))
    go_wp2_with fail
    refine (unhide PB).mono ?_
    rintro e w5 ⟨⟨a5, c5, rfl⟩, l5, _⟩
    have L5 := hide l5
    clear l5 PB L4
    have PR := hide ((unhide L5).did (stands_log HL g size) (Q := fun e _ => e = .returned (.int .i64 (rewR [⟨0, 0, codT r1⟩] 65536 size []).1)) (fun F hk => HL.rewrite [] none 0 (fun k hk => absurd hk (Nat.not_lt_zero k)) (fun k hk => absurd hk (Nat.not_lt_zero k)) (Nat.zero_le _) (fun z hz => by cases hz) (unhide HZ) hk (unhide T4) (by omega) (unhide L5).room))
    have T6 := hide ((unhide T4).rewritten size [])
    rw [rew_nil] at PR T6
    go_wp2_with fail
    refine (unhide PR).mono ?_
    rintro e w6 ⟨rfl, l6, _⟩
    have L6 := hide l6
    clear l6 PR L5
    have PY := hide ((unhide L6).did (stands_log HL g size) (Q := fun e _ => e = .returned (.int .i64 0)) (fun F hk => HL.sync (unhide HZ) hk (unhide T6) (by omega) (unhide L6).room))
    rw [sync_nil] at PY
    go_wp2_with fail
    refine (unhide PY).mono ?_
    rintro e w7 ⟨rfl, l7, _⟩
    have L7 := hide l7
    clear l7 PY L6 T4
    by_cases hl : 60 < l
    · have hl1 : (60 : Int) < (l : Int) := by omega
      go_wp2_with fail
      go_ret
      exact ⟨rfl, (unhide L7).lives⟩
    · have hl1 : ¬ (60 : Int) < (l : Int) := by omega
      go_wp2_with fail
      go_loopw [14, 15, 65] (fun av sv kv wr => ∃ (k n : Nat) (lst : List Rc) (es : List Pap), kv = .int .i64 k ∧ k ≤ l ∧ sv = .int .i64 n ∧ lst.length ≤ k ∧ Hid (Logd es lst n) ∧ Hid (Tidy 65536 es) ∧ Hid (LO (LH g size) (fun _ => False) w wr q 65536 av lst es)) (fun _ _ kv _ => l - (intOf kv).toNat)
      case atStart => exact ⟨0, 0, [], _, rfl, Nat.zero_le _, rfl, Nat.zero_le _, hide logd_nil, T6, L7⟩
      case round =>
        clear L7 T6
        obtain ⟨k, n, lst, es, rfl, hkl, rfl, hll, D2, T2, L2⟩ := hrel
        by_cases hlt : k < l
        · obtain ⟨ba, o, rfl, s6, hsm⟩ := unhide Hp k hlt
          obtain ⟨r, hr⟩ : ∃ r, r = C k := ⟨_, rfl⟩
          rw [← hr] at s6 hsm
          obtain ⟨_, x0, x1, x2, x3, x4, x5⟩ := s6.below (unhide L2).lives s6.lt
          obtain ⟨aa, cc, rfl, hc1, hc2, _⟩ := (unhide L2).arr.shape
          have LM := hide ((unhide L2).mine (stands_log HL g size) ((Below.refl _ _).alloc (Nat.le_refl _) (.cells #[.int .i64 r.k, .int .i64 r.q, .int .i64 r.t, .string r.s, .string r.h, .string r.d] 32)) (by simp))
          have hS := heap_alloc_new wr (.cells #[.int .i64 r.k, .int .i64 r.q, .int .i64 r.t, .string r.s, .string r.h, .string r.d] 32)
          have s0 := (cell_of_row _ wr.heap.size 0 _ _ _ hS).trans (show _ = some (Value.int .i64 r.k) from rfl)
          have s1 := (cell_of_row _ wr.heap.size 1 _ _ _ hS).trans (show _ = some (Value.int .i64 r.q) from rfl)
          have s2 := (cell_of_row _ wr.heap.size 2 _ _ _ hS).trans (show _ = some (Value.int .i64 r.t) from rfl)
          have s3 := (cell_of_row _ wr.heap.size 3 _ _ _ hS).trans (show _ = some (Value.string r.s) from rfl)
          have s4 := (cell_of_row _ wr.heap.size 4 _ _ _ hS).trans (show _ = some (Value.string r.h) from rfl)
          have s5 := (cell_of_row _ wr.heap.size 5 _ _ _ hS).trans (show _ = some (Value.string r.d) from rfl)
          obtain ⟨E, es1, hE⟩ : ∃ E es1, logP es 65536 size r = (E, es1) := ⟨_, _, rfl⟩
          have PA := hide ((unhide LM).did (stands_log HL g size) (Q := fun e _ => e = .returned (.int .i64 (logP es 65536 size r).1)) (fun F hk => HL.append r hsm (unhide HZ) hk (unhide T2) (by omega) (unhide LM).room))
          have T3 := hide ((unhide T2).logp size r)
          have D3 := (unhide D2).appendp (size := size) (unhide T2) r
          rw [hE] at PA T3 D3
          have hll2 : lst.length ≤ 200000 := by omega
          clear hE hr hS L2 s6 D2 T2
          by_cases h0 : E = 0
          · subst h0
            have D4 : Hid (Logd es1 (lst ++ [r]) n) := hide (D3.1 rfl)
            clear D3
            go_wp2_with fail
            refine (unhide PA).mono ?_
            rintro e w4 ⟨rfl, l4, f4⟩
            have t0 := (f4.cell (C := wr.heap.size) (j := 0) rfl).trans s0
            have t1 := (f4.cell (C := wr.heap.size) (j := 1) rfl).trans s1
            have t2 := (f4.cell (C := wr.heap.size) (j := 2) rfl).trans s2
            have t3 := (f4.cell (C := wr.heap.size) (j := 3) rfl).trans s3
            have t4 := (f4.cell (C := wr.heap.size) (j := 4) rfl).trans s4
            have t5 := (f4.cell (C := wr.heap.size) (j := 5) rfl).trans s5
            obtain ⟨v8, w8, hrun, l8⟩ := l4.append (stands_log HL g size) r hll2
            obtain ⟨a8, c8, rfl, _, _, _⟩ := l8.arr.shape
            unfold recO1 at hrun
            have HRun := hide hrun
            have L8 := hide l8
            clear hrun l8 l4 f4 PA LM x0 x1 x2 x3 x4 x5 s0 s1 s2 s3 s4 s5
            cases hbk : b k with
            | true =>
              have hbit := unhide Hb k
              rw [hbk] at hbit
              have hbit2 : (bits BinOp.and IntKind.i64 (sy / 2 ^ (k % 60)) 1 == 1) = true := hbit.symm
              have PY := hide ((unhide L8).did (stands_log HL g size) (Q := fun e _ => e = .returned (.int .i64 0)) (fun F hk => HL.sync (unhide HZ) hk (unhide T3) (by omega) (unhide L8).room))
              have D9 := hide ((unhide D4).sync (unhide T3))
              have T9 := hide (unhide T3).lsync
              clear hbit
              go_wp2_with (at_builtin; refine Lib.wpList_append_run _ rfl _ _ _ _ rfl _ _ rfl rfl _ _ (unhide HRun) ?_)
              refine (unhide PY).mono ?_
              rintro e w9 ⟨rfl, l9, _⟩
              have L9 := hide (l9.fewer (Cs' := fun _ => False) (fun _ h => h.elim))
              clear l9 PY L8
              go_wp2_with fail
              rw [show (lst ++ [r]).length = lst.length + 1 from by simp] at L9
              refine ⟨⟨k + 1, (lst ++ [r]).length, lst ++ [r], _, by go_num, by omega, by simp, by simp; omega, D9, T9, L9⟩, ?_⟩
              simp [intOf]; omega
            | false =>
              have hbit := unhide Hb k
              rw [hbk] at hbit
              have hbit2 : (bits BinOp.and IntKind.i64 (sy / 2 ^ (k % 60)) 1 == 1) = false := hbit.symm
              have L9 := hide ((unhide L8).fewer (Cs' := fun _ => False) (fun _ h => h.elim))
              clear hbit L8
              go_wp2_with (at_builtin; refine Lib.wpList_append_run _ rfl _ _ _ _ rfl _ _ rfl rfl _ _ (unhide HRun) ?_)
              rw [show (lst ++ [r]).length = lst.length + 1 from by simp] at L9
              refine ⟨⟨k + 1, n, lst ++ [r], es1, by go_num, by omega, rfl, by simp; omega, D4, T3, L9⟩, ?_⟩
              simp [intOf]; omega
          · have D4 : Hid (Logd es1 lst n) := hide (D3.2 h0)
            have hE' : (E == 0) = false := by rw [beq_eq_false_iff_ne]; exact h0
            clear D3
            go_wp2_with fail
            refine (unhide PA).mono ?_
            rintro e w4 ⟨rfl, l4, _⟩
            have L8 := hide l4
            clear l4 PA LM x0 x1 x2 x3 x4 x5 s0 s1 s2 s3 s4 s5
            cases hbk : b k with
            | true =>
              have hbit := unhide Hb k
              rw [hbk] at hbit
              have hbit2 : (bits BinOp.and IntKind.i64 (sy / 2 ^ (k % 60)) 1 == 1) = true := hbit.symm
              have PY := hide ((unhide L8).did (stands_log HL g size) (Q := fun e _ => e = .returned (.int .i64 0)) (fun F hk => HL.sync (unhide HZ) hk (unhide T3) (by omega) (unhide L8).room))
              have D9 := hide ((unhide D4).sync (unhide T3))
              have T9 := hide (unhide T3).lsync
              clear hbit
              go_wp2_with fail
              refine (unhide PY).mono ?_
              rintro e w9 ⟨rfl, l9, _⟩
              have L9 := hide (l9.fewer (Cs' := fun _ => False) (fun _ h => h.elim))
              clear l9 PY L8
              go_wp2_with fail
              refine ⟨⟨k + 1, lst.length, lst, _, by go_num, by omega, rfl, by omega, D9, T9, L9⟩, ?_⟩
              simp [intOf]; omega
            | false =>
              have hbit := unhide Hb k
              rw [hbk] at hbit
              have hbit2 : (bits BinOp.and IntKind.i64 (sy / 2 ^ (k % 60)) 1 == 1) = false := hbit.symm
              have L9 := hide ((unhide L8).fewer (Cs' := fun _ => False) (fun _ h => h.elim))
              clear hbit L8
              go_wp2_with fail
              refine ⟨⟨k + 1, n, lst, es1, by go_num, by omega, rfl, by omega, D4, T3, L9⟩, ?_⟩
              simp [intOf]; omega
        · obtain ⟨aa, cc, rfl, hc1, hc2, _⟩ := (unhide L2).arr.shape
          have LD := hide ((unhide L2).down HL)
          have PX := hide ((unhide LD).did (stands_of H) (Q := fun e _ => e = .returned (.tuple #[])) (fun F hk => H.crash keep hk (unhide T2) (by omega) (unhide LD).room))
          have T3 := hide ((unhide T2).stop keep)
          obtain ⟨j, hj1, hj2, hj3, hj4⟩ := (unhide D2).front keep
          have hlj : (lst.take j).length = j := by rw [List.length_take]; omega
          clear D2 L2 LD T2
          go_wp2_with fail
          refine (unhide PX).mono ?_
          rintro e w4 ⟨rfl, l4, _⟩
          have PO := hide (l4.open (stands_of H) HL (unhide HZ) (unhide T3) (by omega))
          have T5 := hide (unhide T3).opened
          rw [hj3] at PO
          clear l4 PX
          go_wp2_with fail
          refine (unhide PO).mono ?_
          rintro e w5 ⟨g1, a1, c1, rfl, S1, l5, _, _⟩
          have PO2 := hide ((l5.down HL).open (stands_of H) HL (unhide HZ) (unhide T5) (by omega))
          rw [hj4] at PO2
          clear l5 PO
          go_wp2_with fail
          refine (unhide PO2).mono ?_
          rintro e w6 ⟨g2, a2, c2, rfl, S2, l6, f6, hs6⟩
          have S3 := hide (S1.left1 f6 hs6 (fun z hz => .inr ⟨z, hz, rfl⟩))
          have S4 := hide S2
          have L6 := hide l6
          clear S1 S2 l6 f6 hs6 PO2
          have A6 := hide (unhide L6).arr
          have SA : Hid (SlR w6 aa (lst.take j)) := hide (by
            obtain ⟨a', c', e, _, _, sl⟩ := (unhide A6).shape
            obtain ⟨rfl, _, _⟩ := Value.slice.inj e
            exact sl.take j)
          have hrs := fun W => run_head aa lst.length j cc (by omega) W ((unhide A6).addr rfl)
          have PE := hide (equal_rec a1 aa c1 cc (lst.take j) w6 (unhide S3) (unhide SA) (by omega))
          have PF : Hid (∀ W, Below w6.heap.size w6 W → Calls Tryz.prog 12 #[.slice a1 (lst.take j).length c1, .slice a2 (lst.take j).length c2] W fun e w' => e = .returned (.bool true) ∧ ∃ q, w' = W.drewN q) := hide (fun W hW => equal_rec a1 a2 c1 c2 (lst.take j) W ((unhide S3).below hW) ((unhide S4).below hW) (by omega))
          rw [hlj] at PE PF ⊢
          have hd1 : (n : Int) ≤ (j : Int) := by omega
          have hd2 : (j : Int) ≤ (lst.length : Int) := by omega
          have hd3 : (j : Int) ≤ (cc : Int) := by omega
          clear hj3 hj4 A6 SA S3 S4 T3 T5
          go_wp2_with fail
          refine (unhide PE).mono ?_
          rintro e w7 ⟨rfl, n7, rfl⟩
          have PG := hide (unhide PF _ (below_drewN (Below.refl _ _) n7))
          have B7 := hide (below_drewN (unhide L6).lives n7)
          clear PE PF
          go_wp2_with fail
          refine (unhide PG).mono ?_
          rintro e w8 ⟨rfl, n8, rfl⟩
          have B8 := hide (below_drewN (unhide B7) n8)
          clear PG
          go_wp2_with fail
          go_ret
          exact ⟨rfl, below_drewN (unhide L6).lives _⟩
end Go.Proofs.YtbejicpfhnfnfafGreatDoor.Dk
