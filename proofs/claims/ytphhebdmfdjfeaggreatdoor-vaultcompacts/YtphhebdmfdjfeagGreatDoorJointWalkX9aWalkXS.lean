/-
  The program's store: New, All.
  The program's store: Sums.
-/
import Derived.Test.YtphhebdmfdjfeagGreatDoorJointWalkX4WalkX5
import Derived.Test.YtphhebdmfdjfeagGreatDoorJointRowGRowBRowSRowURowV
namespace Go.Proofs.YtphhebdmfdjfeagGreatDoor.Dk
open Go.RowKit

set_option maxHeartbeats 400000 in
theorem snew_any (w : World) :
    Calls Tryz.prog 24 #[] w fun e w' => e = .returned (.pointer (some ⟨w.heap.size, 0, none⟩)) ∧ Sho w' w.heap.size w.heap.size (.slice none 0 0) (.slice none 0 0) [] [] 0 ∧ Below w.heap.size w w' := by
  go_enter Tryz.func24, Tryz.ntmps24
  go_wp2_with fail
  go_ret
  refine ⟨rfl, ⟨by simp, by simp, by simp, fun j => by simp, Nat.le_refl _, by simp, ArrR.empty _ _, Arr.empty _ _, by simp [Value.ownBlock], by simp [Value.ownBlock], fun g hg => by simp [Value.ownBlock] at hg⟩, (Below.refl _ _).alloc (Nat.le_refl _) _⟩

/-- one record more in a row of one's own -/
theorem row_more {w wr : World} {sv : Value} {l : List Rc} {k : Nat} (h : ArrR wr w.heap.size sv (l.take k)) (hb : Below w.heap.size w wr) (hk : k < l.length) (h200 : l.length ≤ 200) (w5 : World) (b5 : Below wr.heap.size wr w5) :
    ∃ a' n' c' w', (Builtin.append_ #[22, 22] 22 #[sv, .slice (some ⟨w5.heap.size, 0, none⟩) 1 1]).run Tryz.prog (w5.alloc (.cells #[.int .i64 (rc l k).k, .int .i64 (rc l k).q, .int .i64 (rc l k).t, .string (rc l k).s, .string (rc l k).h, .string (rc l k).d] 30)) = .ok (.slice a' n' c') w' ∧ Hid (ArrR w' w.heap.size (.slice a' n' c') (l.take (k + 1)) ∧ Below w.heap.size w w') := by
  have b4 : Below w5.heap.size w5 (w5.alloc (.cells #[.int .i64 (rc l k).k, .int .i64 (rc l k).q, .int .i64 (rc l k).t, .string (rc l k).s, .string (rc l k).h, .string (rc l k).d] 30)) := (Below.refl _ _).alloc (Nat.le_refl _) _
  have h4 := (h.below b5).below b4
  have hb4 := bstep (bstep hb b5) b4
  obtain ⟨v8, w8, hr, A8, C8, _⟩ := append_rec _ w.heap.size 22 sv _ [rc l k] h4 ⟨w5.heap.size, 0, none⟩ 1 (six_row w5 (rc l k)) (by rw [List.length_take]; simp; omega) hb4.size
  obtain ⟨a', c', rfl, _⟩ := A8.shape
  refine ⟨a', _, c', w8, hr, hide ⟨?_, hb4.trans (C8.below hb4.size (fun g hg z => by have := (h4.lt g z).1; omega))⟩⟩
  rw [List.take_succ_eq_append_getElem hk, ← rc_get hk]
  exact A8

set_option maxRecDepth 100000 in
set_option maxHeartbeats 1000000 in
theorem sall_any {w : World} {B q : Nat} {v u : Value} {l : List Rc} {es : List Ent} {last : Int} (h : Sho w B q v u l es last) (h200 : l.length ≤ 200) (hm : ∀ x ∈ l, Small x) :
    Calls Tryz.prog 10 #[.pointer (some ⟨q, 0, none⟩)] w fun e w' => ∃ v', e = .returned v' ∧ ArrR w' w.heap.size v' l ∧ Below w.heap.size w w' := by
  obtain ⟨a, cap, rfl, c1, c2, hsl⟩ := h.msgs.shape
  have d0 := h.c0
  have HSl := hide hsl
  have HM := hide hm
  clear hsl hm h
  go_enter Tryz.func10, Tryz.ntmps10
  go_wp2_with fail
  go_loopw [3, 11] (fun sv kv wr => ∃ (k : Nat), kv = .int .i64 k ∧ k ≤ l.length ∧ Hid (ArrR wr w.heap.size sv (l.take k) ∧ Below w.heap.size w wr)) (fun _ kv _ => l.length - (intOf kv).toNat)
  case atStart => exact ⟨0, rfl, Nat.zero_le _, hide ⟨ArrR.empty _ _, Below.refl _ _⟩⟩
  case round =>
    clear d0
    obtain ⟨k, rfl, hk, HP⟩ := hrel
    obtain ⟨sa, sc, rfl, _⟩ := (unhide HP).1.shape
    by_cases hlt : k < l.length
    · obtain ⟨b, o, rfl, s6⟩ := unhide HSl k hlt
      have s7 := s6.below (unhide HP).2 s6.lt
      have K2 := hide (row_more (unhide HP).1 (unhide HP).2 hlt h200)
      have T := hide (fun X => copyR_any (rc l k) (unhide HM _ (rc_mem hlt)) X)
      obtain ⟨sn, hsn⟩ : ∃ sn, sn = (l.take k).length := ⟨_, rfl⟩
      rw [← hsn] at K2 ⊢
      clear hsn
      generalize rc l k = y at *
      obtain ⟨_, x0, x1, x2, x3, x4, x5⟩ := s7
      have hb0 : Below wr.heap.size wr (wr.alloc (.cells #[.int .i64 y.k, .int .i64 y.q, .int .i64 y.t, .string y.s, .string y.h, .string y.d] 30)) := (Below.refl _ _).alloc (Nat.le_refl _) _
      have Hb0 := hide hb0
      clear hb0 s6
      go_wp2_with fail
      refine (unhide T _).mono ?_
      rintro e w5 ⟨rfl, b5⟩
      obtain ⟨a', n', c', w6, hrun, P6⟩ := unhide K2 w5 (bstep (unhide Hb0) b5)
      clear x0 x1 x2 x3 x4 x5 b5 T Hb0 K2
      go_wp2_with (at_builtin; refine Lib.wpList_append_run _ rfl _ _ _ _ rfl _ _ rfl rfl _ _ hrun ?_)
      refine ⟨⟨k + 1, by go_num, by omega, P6⟩, ?_⟩
      simp [intOf]; omega
    · obtain rfl : k = l.length := by omega
      rw [List.take_length] at HP ⊢
      go_wp2_with fail
      go_ret
      exact ⟨_, rfl, (unhide HP).1, (unhide HP).2⟩

end Go.Proofs.YtphhebdmfdjfeagGreatDoor.Dk

namespace Go.Proofs.YtphhebdmfdjfeagGreatDoor.Dk
open Go.RowKit

theorem byteN_take {l : List Rc} {k : Nat} (h : k < l.length) : byteN (l.take (k + 1)) = byteN (l.take k) + ((rc l k).s.size + (rc l k).h.size + (rc l k).d.size) := by
  rw [List.take_succ_eq_append_getElem h, ← rc_get h, byteN_append]
  rfl
theorem firstQ_rc {l : List Rc} (h : 0 < l.length) : firstQ l = (rc l 0).q := by
  cases l with
  | nil => cases h
  | cons x l => rfl
theorem byteN_front (l : List Rc) (k : Nat) : byteN (l.take k) ≤ byteN l := by
  have := byteN_append (l.take k) (l.drop k)
  rw [List.take_append_drop] at this
  omega

set_option maxRecDepth 100000 in
set_option maxHeartbeats 1000000 in
theorem ssum_any {w : World} {B q : Nat} {v u : Value} {l : List Rc} {es : List Ent} {last : Int} (h : Sho w B q v u l es last) (h200 : l.length ≤ 200) (hm : ∀ x ∈ l, x.s.size ≤ 135 ∧ x.h.size + x.d.size ≤ 256) :
    Calls Tryz.prog 11 #[.pointer (some ⟨q, 0, none⟩)] w fun e w' => e = .returned (.agg #[.int .i64 (l.length : Int), .int .i64 (byteN l : Int), .int .i64 (firstQ l), .int .i64 last]) ∧ Below w.heap.size w w' := by
  obtain ⟨a, cap, rfl, c1, c2, hsl⟩ := h.msgs.shape
  have hql := h.lt
  have S0 := hide (SB.new w 0 0 0 0 37)
  have B0 := hide ((Below.refl w.heap.size w).alloc (Nat.le_refl _) (.cells #[.int .i64 0, .int .i64 0, .int .i64 0, .int .i64 0] 37))
  have HC := hide (And.intro h.c0 h.c2)
  have d0 : (w.alloc (.cells #[.int .i64 0, .int .i64 0, .int .i64 0, .int .i64 0] 37)).cell? ⟨q, 0, none⟩ = some (.slice a l.length cap) := by rw [(unhide B0).cell (p := ⟨q, 0, none⟩) hql]; exact h.c0
  have d1 : (w.alloc (.cells #[.int .i64 0, .int .i64 0, .int .i64 0, .int .i64 0] 37)).cell? ⟨q, 2, none⟩ = some (.int .i64 last) := by rw [(unhide B0).cell (p := ⟨q, 2, none⟩) hql]; exact h.c2
  have HSl := hide hsl
  have HM := hide hm
  clear h hsl hm
  go_enter Tryz.func11, Tryz.ntmps11
  go_wp2_with fail
  go_region
  have L0 : Hid (SB ((w.alloc (.cells #[.int .i64 0, .int .i64 0, .int .i64 0, .int .i64 0] 37)).alloc (.cells #[.int .i64 (l.length : Int), .int .i64 0, .int .i64 0, .int .i64 last] 37)).drew w.heap.size 0 0 0 0 ∧ SB ((w.alloc (.cells #[.int .i64 0, .int .i64 0, .int .i64 0, .int .i64 0] 37)).alloc (.cells #[.int .i64 (l.length : Int), .int .i64 0, .int .i64 0, .int .i64 last] 37)).drew (w.heap.size + 1) (l.length : Int) 0 0 last ∧ Below w.heap.size w ((w.alloc (.cells #[.int .i64 0, .int .i64 0, .int .i64 0, .int .i64 0] 37)).alloc (.cells #[.int .i64 (l.length : Int), .int .i64 0, .int .i64 0, .int .i64 last] 37)).drew) := hide (by
    have x1 := SB.new (w.alloc (.cells #[.int .i64 0, .int .i64 0, .int .i64 0, .int .i64 0] 37)) (l.length : Int) 0 0 last 37
    rw [World.size_alloc] at x1
    exact ⟨((unhide S0).alloc _).next (Below.refl _ _).drew, x1.next (Below.refl _ _).drew, (bstep (unhide B0) ((Below.refl _ _).alloc (Nat.le_refl _) _)).drew⟩)
  have e0 : ((w.alloc (.cells #[.int .i64 0, .int .i64 0, .int .i64 0, .int .i64 0] 37)).alloc (.cells #[.int .i64 (l.length : Int), .int .i64 0, .int .i64 0, .int .i64 last] 37)).drew.cell? ⟨q, 0, none⟩ = some (.slice a l.length cap) := by rw [(unhide L0).2.2.cell (p := ⟨q, 0, none⟩) hql]; exact (unhide HC).1
  clear S0 B0 d0 d1
  generalize ((w.alloc (.cells #[.int .i64 0, .int .i64 0, .int .i64 0, .int .i64 0] 37)).alloc (.cells #[.int .i64 (l.length : Int), .int .i64 0, .int .i64 0, .int .i64 last] 37)).drew = W0 at *
  have hby : byteN l ≤ 78200 := by
    have := byteN_le (fun r hr => unhide HM r hr)
    omega
  go_wp2_with fail
  go_loopw [21] (fun kv wr => ∃ (k : Nat), kv = .int .i64 k ∧ k ≤ l.length ∧ Hid (SB wr w.heap.size 0 0 0 0 ∧ SB wr (w.heap.size + 1) (l.length : Int) (byteN (l.take k) : Int) 0 last ∧ Below w.heap.size w wr)) (fun kv _ => l.length - (intOf kv).toNat)
  case atStart => exact ⟨0, rfl, Nat.zero_le _, L0⟩
  case round =>
    clear L0 e0
    obtain ⟨k, rfl, hk, HP⟩ := hrel
    have hob := (unhide HP).2.1.lt
    by_cases hlt : k < l.length
    · obtain ⟨b, o, rfl, s6⟩ := unhide HSl k hlt
      have s7 := s6.below (unhide HP).2.2 s6.lt
      have hb1 := byteN_take hlt
      have hb2 := byteN_front l (k + 1)
      generalize rc l k = y at *
      obtain ⟨_, x0, x1, x2, x3, x4, x5⟩ := s7
      obtain ⟨nb, hnb⟩ : ∃ nb, nb = byteN (l.take k) := ⟨_, rfl⟩
      obtain ⟨q0, q1, q2, q3, qf⟩ := And.intro (unhide HP).2.1.c0 (And.intro (unhide HP).2.1.c1 (And.intro (unhide HP).2.1.c2 (And.intro (unhide HP).2.1.c3 ((unhide HP).2.1.fr 1))))
      rw [← hnb] at hb1 q1
      have hne : ¬ w.heap.size + 1 = wr.heap.size := by omega
      have hw1 : IntKind.i64.wrap ((y.s.size : Int) + (y.h.size : Int)) = (y.s.size : Int) + (y.h.size : Int) := by rw [IntKind.wrap_i64]; omega
      have hw2 : IntKind.i64.wrap ((y.s.size : Int) + (y.h.size : Int) + (y.d.size : Int)) = (y.s.size : Int) + (y.h.size : Int) + (y.d.size : Int) := by rw [IntKind.wrap_i64]; omega
      have hw3 : IntKind.i64.wrap ((nb : Int) + ((y.s.size : Int) + (y.h.size : Int) + (y.d.size : Int))) = (nb : Int) + ((y.s.size : Int) + (y.h.size : Int) + (y.d.size : Int)) := by rw [IntKind.wrap_i64]; omega
      have HY : Hid (SB ((wr.setCell ⟨w.heap.size + 1, 1, none⟩ (.int .i64 ((nb : Int) + ((y.s.size : Int) + (y.h.size : Int) + (y.d.size : Int))))).alloc (.cells #[.int .i64 y.k, .int .i64 y.q, .int .i64 y.t, .string y.s, .string y.h, .string y.d] 30)) w.heap.size 0 0 0 0 ∧ SB ((wr.setCell ⟨w.heap.size + 1, 1, none⟩ (.int .i64 ((nb : Int) + ((y.s.size : Int) + (y.h.size : Int) + (y.d.size : Int))))).alloc (.cells #[.int .i64 y.k, .int .i64 y.q, .int .i64 y.t, .string y.s, .string y.h, .string y.d] 30)) (w.heap.size + 1) (l.length : Int) (byteN (l.take (k + 1)) : Int) 0 last ∧ Below w.heap.size w ((wr.setCell ⟨w.heap.size + 1, 1, none⟩ (.int .i64 ((nb : Int) + ((y.s.size : Int) + (y.h.size : Int) + (y.d.size : Int))))).alloc (.cells #[.int .i64 y.k, .int .i64 y.q, .int .i64 y.t, .string y.s, .string y.h, .string y.d] 30))) := hide (by
        have hbs := (unhide HP).2.2.setCell (p := ⟨w.heap.size + 1, 1, none⟩) (Nat.le_succ _) (.int .i64 ((nb : Int) + ((y.s.size : Int) + (y.h.size : Int) + (y.d.size : Int))))
        refine ⟨((unhide HP).1.other (by omega)).alloc _, ?_, hbs.alloc hbs.size _⟩
        have := ((unhide HP).2.1.set1 ((nb : Int) + ((y.s.size : Int) + (y.h.size : Int) + (y.d.size : Int)))).alloc (.cells #[.int .i64 y.k, .int .i64 y.q, .int .i64 y.t, .string y.s, .string y.h, .string y.d] 30)
        rw [hb1, show ((nb + (y.s.size + y.h.size + y.d.size) : Nat) : Int) = (nb : Int) + ((y.s.size : Int) + (y.h.size : Int) + (y.d.size : Int)) by omega]
        exact this)
      clear hb1 hb2 hnb s6 q0 q2 q3
      go_wp2_with fail
      refine ⟨⟨k + 1, by go_num, by omega, HY⟩, ?_⟩
      simp [intOf]; omega
    · obtain rfl : k = l.length := by omega
      rw [List.take_length] at HP
      have d0 := ((unhide HP).2.2.cell (p := ⟨q, 0, none⟩) hql).trans (unhide HC).1
      obtain ⟨_, q0, q1, q2, q3, qf⟩ := (unhide HP).2.1
      obtain ⟨_, x0, x1, x2, x3, fz⟩ := (unhide HP).1
      have f0 := fz 0
      have f1 := fz 1
      have f2 := fz 2
      have f3 := fz 3
      clear fz hlt hk
      obtain ⟨N, hN⟩ : ∃ N, N = l.length := ⟨_, rfl⟩
      by_cases h0 : 0 < l.length
      · obtain ⟨b, o, rfl, s6⟩ := unhide HSl 0 h0
        have s7 := s6.below (unhide HP).2.2 s6.lt
        have z1 : wr.cell? ⟨b, o + 1, none⟩ = some (.int .i64 (firstQ l)) := by rw [firstQ_rc h0]; simpa using s7.c1
        have g2 := qf 2
        clear qf s6 s7
        go_wp2_with fail
        refine bodyPost_ret (results_sum rfl rfl ((((((unhide HP).1.other (c := w.heap.size + 1) (i := 2) (v := .int .i64 (firstQ l)) (by omega)).set0 _).set1 _).set2 _).set3 _)) rfl ?_
        exact ⟨rfl, (((((unhide HP).2.2.setCell (p := ⟨w.heap.size + 1, 2, none⟩) (Nat.le_succ _) _).setCell (p := ⟨w.heap.size, 0, none⟩) (Nat.le_refl _) _).setCell (p := ⟨w.heap.size, 1, none⟩) (Nat.le_refl _) _).setCell (p := ⟨w.heap.size, 2, none⟩) (Nat.le_refl _) _).setCell (p := ⟨w.heap.size, 3, none⟩) (Nat.le_refl _) _⟩
      · have e0 : l = [] := List.length_eq_zero_iff.1 (by omega)
        subst e0
        clear qf
        go_wp2_with fail
        refine bodyPost_ret (results_sum rfl rfl (((((unhide HP).1.set0 _).set1 _).set2 _).set3 _)) rfl ?_
        exact ⟨rfl, ((((unhide HP).2.2.setCell (p := ⟨w.heap.size, 0, none⟩) (Nat.le_refl _) _).setCell (p := ⟨w.heap.size, 1, none⟩) (Nat.le_refl _) _).setCell (p := ⟨w.heap.size, 2, none⟩) (Nat.le_refl _) _).setCell (p := ⟨w.heap.size, 3, none⟩) (Nat.le_refl _) _⟩
end Go.Proofs.YtphhebdmfdjfeagGreatDoor.Dk
