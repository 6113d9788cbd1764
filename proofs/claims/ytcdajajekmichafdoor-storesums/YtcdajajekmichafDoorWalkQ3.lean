/-
  The walk of the law StoreSums, over what is asked of any store.
-/
import Derived.Test.YtcdajajekmichafDoorJointWalkQ1WalkQ2a
import Derived.Test.YtcdajajekmichafDoorJointWorksSWorksT
import Derived.Test.YtcdajajekmichafDoorJointRowGRowBRowSRowURowV
namespace Go.Proofs.YtcdajajekmichafDoor.Dk
open Go.RowKit

def twoS : Sto := fillS [noteR 4, noteR 7]
theorem two_sums : twoS.l.length = 2 ∧ byteN twoS.l = 8 ∧ firstQ twoS.l = 4 ∧ twoS.last = 7 := by decide +kernel
theorem Made.subjects {SH : World → Nat → Nat → (Nat → Prop) → Sto → Prop} {w wr : World} {q : Nat} {s : Sto} (T : STells SH) (h : Made SH w wr q s) (hk : s.Ok) (f : ByteArray) (hf : f.size ≤ 140737488355328) {es : List Ent} (hc : Cnt s.l es) :
    Calls Tryd.prog 10 #[.pointer (some ⟨q, 0, none⟩), .string f] wr fun e w' => ∃ v', e = .returned (.tuple #[v', .int .i64 (errS true f)]) ∧ Arr w' wr.heap.size v' (foundL es f) ∧ Below wr.heap.size wr w' := by
  have hr := h.room
  obtain ⟨F, h1, _⟩ := h
  exact T.subjects f hf h1 hk hr hc
theorem byteN_take {l : List Rc} {k : Nat} (h : k < l.length) : byteN (l.take (k + 1)) = byteN (l.take k) + ((rc l k).s.size + (rc l k).h.size + (rc l k).d.size) := by
  rw [List.take_succ_eq_append_getElem h, byteN_append, rc_get h]
  simp [byteN]
theorem byteN_front (l : List Rc) (k : Nat) : byteN (l.take k) ≤ byteN l := by
  have := byteN_append (l.take k) (l.drop k)
  rw [List.take_append_drop] at this
  omega
theorem Sto.Ok.before {s : Sto} (h : s.Ok) {k : Nat} (hk : k + 1 < s.l.length) : (rc s.l k).q < (rc s.l (k + 1)).q := by
  rw [rc_get hk, rc_get (show k < s.l.length by omega)]
  exact (List.pairwise_iff_getElem.1 h.rise) k (k + 1) (by omega) hk (by omega)

set_option maxRecDepth 100000 in
set_option maxHeartbeats 2000000 in
theorem sums_law {SH : World → Nat → Nat → (Nat → Prop) → Sto → Prop} (H : SWorks SH) (T : STells SH) (l : List Rc) (a : Option Addr) (c : Nat) (w : World) (hsl : SlR w a l) (hsm : ∀ k, k < l.length → Small (rc l k)) :
    Calls Tryd.prog 3 #[.slice a l.length c] w fun e w' => e = .returned (.bool true) ∧ Below w.heap.size w w' := by
  have HSl := hide hsl
  have HM := hide hsm
  have fld0 := sum_msgs
  have fld3 := sum_last
  clear hsl hsm
  go_enter Tryd.func3, Tryd.ntmps3
  go_wp2_with fail
  refine (note_any 4 w).mono ?_
  rintro e w1 ⟨rfl, b1⟩
  have B1 := hide b1
  clear b1
  go_wp2_with fail
  refine (note_any 7 w1).mono ?_
  rintro e w2 ⟨rfl, b2⟩
  have B2 := hide (bstep (unhide B1) b2)
  clear b2 B1
  have S3 := hide (row_recs w2 [noteR 4, noteR 7] 26)
  have B3 := hide (bstep (unhide B2) ((Below.refl _ w2).alloc (Nat.le_refl _) (.cells (celR [noteR 4, noteR 7]).toArray 26)))
  have PF := hide (filled_any H [noteR 4, noteR 7] (some ⟨w2.heap.size, 0, none⟩) 2 _ (unhide S3) (fun k hk => by
    match k, hk with
    | 0, _ => exact ⟨by decide, by decide, by decide⟩
    | 1, _ => exact ⟨by decide, by decide, by decide⟩) (by decide))
  go_wp2_with fail
  refine (unhide PF).mono ?_
  rintro e w4 ⟨q3, rfl, m4⟩
  have B4 : Hid (Below w.heap.size w w4) := hide (by
    obtain ⟨_, _, hb⟩ := m4
    exact (unhide B3).trans (hb.mono (unhide B3).size))
  have PS := hide (m4.sums H (fill_ok _))
  rw [show (fillS [noteR 4, noteR 7]).l.length = 2 from two_sums.1, show byteN (fillS [noteR 4, noteR 7]).l = 8 from two_sums.2.1, show firstQ (fillS [noteR 4, noteR 7]).l = 4 from two_sums.2.2.1, show (fillS [noteR 4, noteR 7]).last = 7 from two_sums.2.2.2] at PS
  clear m4 PF S3 B3 B2
  go_wp2_with fail
  refine (unhide PS).mono ?_
  rintro e w5 ⟨rfl, b5⟩
  have B5 := hide (bstep (unhide B4) b5)
  clear b5 PS B4
  by_cases hl : 250 < l.length
  · have hd : (250 : Int) < (l.length : Int) := by omega
    go_wp2_with fail
    go_ret
    exact ⟨rfl, unhide B5⟩
  · have hd : decide ((250 : Int) < (l.length : Int)) = false := decide_eq_false (by omega)
    have S5 : Hid (SlR w5 a l) := hide (fun k hk => by
      obtain ⟨b, o, h1, h2⟩ := unhide HSl k hk
      exact ⟨b, o, h1, h2.below (unhide B5) h2.lt⟩)
    have PF := hide (filled_any H l a c w5 (unhide S5) (unhide HM) (by omega))
    clear S5 HSl
    go_wp2_with fail
    refine (unhide PF).mono ?_
    rintro e w6 ⟨q, rfl, m6⟩
    have hok := fill_ok l
    obtain ⟨s, hs⟩ : ∃ s, s = fillS l := ⟨_, rfl⟩
    rw [← hs] at m6 hok
    have HOk := hide hok
    have hfew := hok.few
    have PA := hide (m6.all H hok)
    clear m6 PF hs hok
    go_wp2_with fail
    refine (unhide PA).mono ?_
    rintro e w7 ⟨a1, c1, rfl, ⟨hc1, hc2⟩, s7, m7, _⟩
    unfold maxLen at hc2
    have PS := hide (m7.made.sums H (unhide HOk))
    have M7 := hide m7
    have S7 := hide s7
    clear PA m7 s7
    go_wp2_with fail
    refine (unhide PS).mono ?_
    rintro e w8 ⟨rfl, b8⟩
    have M8 := hide ((unhide M7).made.below H b8)
    have S8 := hide ((unhide S7).below b8)
    have B8 : Hid (Below w.heap.size w w8) := hide (by
      obtain ⟨_, _, hb⟩ := unhide M8
      exact (unhide B5).trans (hb.mono (unhide B5).size))
    clear b8 PS M7 S7 B5
    go_wp2_with fail
    go_loopw [7, 34] (fun bv iv wr => ∃ (k : Nat), iv = .int .i64 k ∧ bv = .int .i64 (byteN (s.l.take k) : Int) ∧ k ≤ s.l.length ∧ Hid (SB wr w8.heap.size (s.l.length : Int) (byteN s.l : Int) (firstQ s.l) s.last ∧ Below w8.heap.size w8 wr)) (fun _ iv _ => s.l.length - (intOf iv).toNat)
    case atStart => exact ⟨0, rfl, rfl, Nat.zero_le _, hide ⟨SB.new w8 _ _ _ _ _, (Below.refl _ _).alloc (Nat.le_refl _) _⟩⟩
    case round =>
      obtain ⟨k, rfl, rfl, hk, HT⟩ := hrel
      have hwr := (unhide HT).2.size
      by_cases hlt : k < s.l.length
      · obtain ⟨ga, o, rfl, s6⟩ := unhide S8 k hlt
        have hbt := byteN_take hlt
        have hbf := byteN_front s.l k
        have hbb := (unhide HOk).bytes
        have hmem : rc s.l k ∈ s.l := by rw [rc_get hlt]; exact List.getElem_mem hlt
        have hsz := (unhide HOk).small hmem
        have hsq := (unhide HOk).seq hmem
        have hk1 := ((unhide HOk).msg _ hmem).1
        have hlow := (unhide HOk).low _ hmem
        have HB : Hid (∀ j, k = j + 1 → (rc s.l j).q < (rc s.l k).q) := hide (fun j hj => by subst hj; exact (unhide HOk).before hlt)
        obtain ⟨y, hy⟩ : ∃ y, y = rc s.l k := ⟨_, rfl⟩
        have s7 := s6.below (unhide HT).2 s6.lt
        rw [← hy] at s7 hbt hsz hsq hk1 hlow HB
        obtain ⟨_, y0, y1, y2, y3, y4, y5⟩ := s7
        have RX := hide (RB.new wr y.k y.q y.t y.s y.h y.d 26)
        have Hx : Hid (Below wr.heap.size wr (wr.alloc (.cells #[.int .i64 y.k, .int .i64 y.q, .int .i64 y.t, .string y.s, .string y.h, .string y.d] 26))) := hide ((Below.refl _ _).alloc (Nat.le_refl _) _)
        have HT2 := hide (And.intro ((unhide HT).1.next (unhide Hx)) ((unhide HT).2.trans ((unhide Hx).mono hwr)))
        obtain ⟨b, hb⟩ : ∃ b, b = byteN (s.l.take k) := ⟨_, rfl⟩
        rw [← hb] at hbt hbf ⊢
        have HE : Hid ((Value.int .i64 ((b : Int) + ((y.s.size : Int) + (y.h.size : Int) + (y.d.size : Int)))) = .int .i64 (byteN (s.l.take (k + 1)) : Int)) := hide (by rw [hbt]; simp [Int.add_assoc])
        have HK := hide hk1
        have hbl : b ≤ 78200 := by omega
        have hlow2 : decide (s.last < y.q) = false := decide_eq_false (by omega)
        have hkb : (y.k != 1) = false := by simp [hk1]
        obtain ⟨_, p0, p1, p2, p3, p4, p5, _⟩ := unhide RX
        obtain ⟨_, d0, d1, d2, d3, _⟩ := (unhide HT2).1
        clear hy hb hbt hbf s6 hmem hk1 hbb
        cases k with
        | zero =>
          rw [Nat.zero_mul, Nat.add_zero] at y0 y1 y2 y3 y4 y5
          go_wp2_with fail
          go_quiet (fail)
          go_wp2_with fail
          refine ⟨⟨1, by go_num, ?_, by omega, hide ⟨(unhide HT2).1.next (below_drewN (Below.refl _ _) _), below_drewN (unhide HT2).2 _⟩⟩, ?_⟩
          · rw [← unhide HE]
          · simp [intOf]; omega
        | succ j =>
          have hbq := unhide HB j rfl
          have s8 : Six wr ga (o + j * 6) (rc s.l j) := by
            obtain ⟨ga2, o2, e2, s8⟩ := unhide S8 j (by omega)
            obtain ⟨rfl, rfl⟩ : ga = ga2 ∧ o = o2 := by
              injection e2 with e2
              injection e2 with e3 e4
              exact ⟨e3, e4⟩
            exact s8.below (unhide HT).2 s8.lt
          have s9 := s8.below (unhide Hx) s8.lt
          obtain ⟨x, hx⟩ : ∃ x, x = rc s.l j := ⟨_, rfl⟩
          rw [← hx] at s9 hbq
          have hge : decide (y.q ≤ x.q) = false := decide_eq_false (by omega)
          obtain ⟨_, z0, z1, z2, z3, z4, z5⟩ := s9
          have hjp : (0 : Int) < ((j + 1 : Nat) : Int) := by omega
          clear hx s8 HB hbq HT
          go_wp2_with fail
          go_quiet (fail)
          go_wp2_with fail
          refine ⟨⟨j + 1 + 1, by go_num, ?_, by omega, hide ⟨(unhide HT2).1.next (below_drewN (Below.refl _ _) _), below_drewN (unhide HT2).2 _⟩⟩, ?_⟩
          · rw [← unhide HE]
          · simp [intOf]; omega
      · obtain rfl : k = s.l.length := by omega
        rw [List.take_length]
        obtain ⟨es, hes⟩ := (unhide HOk).cnt
        have hsum := hes.sum
        have HP := hide hes.pos
        have hlen : es.length ≤ 100 := hes.good.2.1
        have PJ := hide (((unhide M8).below H (unhide HT).2).subjects T (unhide HOk) ⟨#[62]⟩ (by decide) hes)
        rw [hes.found_all, gt_right] at PJ
        have HSum := hide hsum
        clear hes hsum hlt
        go_wp2_with fail
        refine (unhide PJ).mono ?_
        rintro e w10 ⟨v, rfl, a10, b10⟩
        have HT3 := hide (And.intro ((unhide HT).1.next b10) ((unhide HT).2.trans (b10.mono hwr)))
        have A10 := hide a10
        obtain ⟨av, cv, rfl, hcv1, hcv2, _⟩ := a10.shape
        unfold maxLen at hcv2
        clear a10 b10 PJ HT
        go_wp2_with fail
        go_loopw [12, 85] (fun nv iv wr => ∃ (k : Nat), iv = .int .i64 k ∧ nv = .int .i64 (sumE (es.take k)) ∧ k ≤ es.length ∧ Hid (Below w10.heap.size w10 wr)) (fun _ iv _ => es.length - (intOf iv).toNat)
        case atStart => exact ⟨0, rfl, rfl, Nat.zero_le _, hide (Below.refl _ _)⟩
        case round =>
          clear hwr
          obtain ⟨k, rfl, rfl, hk2, HT⟩ := hrel
          by_cases hlt : k < es.length
          · have hst := sumE_take hlt
            have hsf := sumE_front (unhide HP) k
            rw [unhide HSum] at hsf
            have hsg := sumE_front (unhide HP) (k + 1)
            rw [unhide HSum] at hsg
            have A2 := (unhide A10).below (unhide HT)
            obtain ⟨g, cap, e1, _, _, _, _⟩ := A2.there (by omega)
            obtain ⟨rfl, _, rfl⟩ := Value.slice.inj e1
            have y0 := A2.text hlt
            have y1 := A2.num hlt
            obtain ⟨x, hx⟩ : ∃ x, x = en es k := ⟨_, rfl⟩
            obtain ⟨b, hb⟩ : ∃ b, b = sumE (es.take k) := ⟨_, rfl⟩
            rw [← hx] at y0 y1 hst
            rw [← hb] at hst hsf ⊢
            have HB : Hid (Below w10.heap.size w10 (wr.alloc (.cells #[.string x.1, .int .i64 x.2] 37))) := hide ((unhide HT).alloc (unhide HT).size _)
            have hr1 : -9223372036854775808 ≤ b + x.2 := by omega
            have hr2 : b + x.2 ≤ 9223372036854775807 := by omega
            have HE := hide hst
            clear hx hb hst A2 e1 hsg HT
            go_wp2_with fail
            refine ⟨⟨k + 1, by go_num, by rw [unhide HE], by omega, HB⟩, ?_⟩
            simp [intOf]; omega
          · obtain rfl : k = es.length := by omega
            rw [List.take_length, unhide HSum]
            have B3 := hide ((unhide HT3).2.trans ((unhide HT).mono (unhide HT3).2.size))
            have Bw : Hid (Below w.heap.size w wr) := hide ((unhide B8).trans ((unhide B3).mono (unhide B8).size))
            obtain ⟨_, d0, d1, d2, d3, _⟩ := (unhide HT3).1.next (unhide HT)
            clear HT HT3 hlt
            by_cases h0 : s.l.length = 0
            · have hfq : firstQ s.l = 0 := by
                rw [List.length_eq_zero_iff.1 h0]; rfl
              rw [hfq] at d2
              rw [h0] at d0 ⊢
              clear hfq h0
              go_wp2_with fail
              go_quiet (fail)
              go_wp2_with fail
              go_ret
              exact ⟨rfl, below_drewN (unhide Bw) _⟩
            · have hp : 0 < s.l.length := by omega
              have hfq : firstQ s.l = (rc s.l 0).q := by
                cases hc : s.l with
                | nil => rw [hc] at hp; cases hp
                | cons y ys => rfl
              obtain ⟨ga, o, rfl, s6⟩ := unhide S8 0 hp
              obtain ⟨_, _, z1, _⟩ := s6.below (unhide B3) s6.lt
              rw [← hfq, Nat.zero_mul, Nat.add_zero] at z1
              clear hfq s6 h0 S8
              obtain ⟨N, hN⟩ : ∃ N, N = s.l.length := ⟨_, rfl⟩
              rw [← hN] at d0 hp hc1 hfew ⊢
              have e0 : decide ((N : Int) = 0) = false := decide_eq_false (by omega)
              have e2 : ((N : Int) == 0) = false := by rw [beq_eq_false_iff_ne]; omega
              have e1 : (0 : Int) < (N : Int) := by omega
              clear hN
              go_wp2_with fail
              go_quiet (fail)
              go_wp2_with fail
              go_ret
              exact ⟨rfl, below_drewN (unhide Bw) _⟩
end Go.Proofs.YtcdajajekmichafDoor.Dk
