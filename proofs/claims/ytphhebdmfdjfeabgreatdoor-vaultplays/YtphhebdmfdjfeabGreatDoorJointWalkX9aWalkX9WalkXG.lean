/-
  The program's store: New, All.
  The program's store: Subjects.
  The program's store: Get.
-/
import Derived.Test.YtphhebdmfdjfeabGreatDoorJointWalkX4WalkX5
import Derived.Test.YtphhebdmfdjfeabGreatDoorJointRowFWalkF
namespace Go.Proofs.YtphhebdmfdjfeabGreatDoor.Dk
open Go.RowKit

set_option maxHeartbeats 400000 in
theorem snew_any (w : World) :
    Calls Tryz.prog 25 #[] w fun e w' => e = .returned (.pointer (some ⟨w.heap.size, 0, none⟩)) ∧ Sho w' w.heap.size w.heap.size (.slice none 0 0) (.slice none 0 0) [] [] 0 ∧ Below w.heap.size w w' := by
  go_enter Tryz.func25, Tryz.ntmps25
  go_wp2_with fail
  go_ret
  refine ⟨rfl, ⟨by simp, by simp, by simp, fun j => by simp, Nat.le_refl _, by simp, ArrR.empty _ _, Arr.empty _ _, by simp [Value.ownBlock], by simp [Value.ownBlock], fun g hg => by simp [Value.ownBlock] at hg⟩, (Below.refl _ _).alloc (Nat.le_refl _) _⟩

/-- one record more in a row of one's own -/
theorem row_more {w wr : World} {sv : Value} {l : List Rc} {k : Nat} (h : ArrR wr w.heap.size sv (l.take k)) (hb : Below w.heap.size w wr) (hk : k < l.length) (h200 : l.length ≤ 200) (w5 : World) (b5 : Below wr.heap.size wr w5) :
    ∃ a' n' c' w', (Builtin.append_ #[36, 36] 36 #[sv, .slice (some ⟨w5.heap.size, 0, none⟩) 1 1]).run Tryz.prog (w5.alloc (.cells #[.int .i64 (rc l k).k, .int .i64 (rc l k).q, .int .i64 (rc l k).t, .string (rc l k).s, .string (rc l k).h, .string (rc l k).d] 43)) = .ok (.slice a' n' c') w' ∧ Hid (ArrR w' w.heap.size (.slice a' n' c') (l.take (k + 1)) ∧ Below w.heap.size w w') := by
  have b4 : Below w5.heap.size w5 (w5.alloc (.cells #[.int .i64 (rc l k).k, .int .i64 (rc l k).q, .int .i64 (rc l k).t, .string (rc l k).s, .string (rc l k).h, .string (rc l k).d] 43)) := (Below.refl _ _).alloc (Nat.le_refl _) _
  have h4 := (h.below b5).below b4
  have hb4 := bstep (bstep hb b5) b4
  obtain ⟨v8, w8, hr, A8, C8, _⟩ := append_rec _ w.heap.size 36 sv _ [rc l k] h4 ⟨w5.heap.size, 0, none⟩ 1 (six_row w5 (rc l k)) (by rw [List.length_take]; simp; omega) hb4.size
  obtain ⟨a', c', rfl, _⟩ := A8.shape
  refine ⟨a', _, c', w8, hr, hide ⟨?_, hb4.trans (C8.below hb4.size (fun g hg z => by have := (h4.lt g z).1; omega))⟩⟩
  rw [List.take_succ_eq_append_getElem hk, ← rc_get hk]
  exact A8

set_option maxRecDepth 100000 in
set_option maxHeartbeats 1000000 in
theorem sall_any {w : World} {B q : Nat} {v u : Value} {l : List Rc} {es : List Ent} {last : Int} (h : Sho w B q v u l es last) (h200 : l.length ≤ 200) (hm : ∀ x ∈ l, Small x) :
    Calls Tryz.prog 74 #[.pointer (some ⟨q, 0, none⟩)] w fun e w' => ∃ v', e = .returned v' ∧ ArrR w' w.heap.size v' l ∧ Below w.heap.size w w' := by
  obtain ⟨a, cap, rfl, c1, c2, hsl⟩ := h.msgs.shape
  have d0 := h.c0
  have HSl := hide hsl
  have HM := hide hm
  clear hsl hm h
  go_enter Tryz.func74, Tryz.ntmps74
  go_wp2_with fail
  go_loopw [3, 11] (fun sv kv wr => ∃ (k : Nat), kv = .int .i64 k ∧ k ≤ l.length ∧ Hid (ArrR wr w.heap.size sv (l.take k) ∧ Below w.heap.size w wr)) (fun _ kv _ => l.length - (intOf kv).toNat)
  case atStart => exact ⟨0, rfl, Nat.zero_le _, hide ⟨ArrR.empty _ _, Below.refl _ _⟩⟩
  case round =>
    clear d0
    obtain ⟨k, rfl, hk, HP⟩ := hrel
    obtain ⟨sa, sc, rfl, _⟩ := (unhide HP).1.shape
    by_cases hlt : k < l.length
    · obtain ⟨b, o, rfl, s6⟩ := unhide HSl k hlt
      have s7 := s6.below (unhide HP).2 s6.lt
      have K2 := hide (row_more (unhide HP).1 (unhide HP).2 hlt h200)
      have T := hide (fun X => copyR_any (rc l k) (unhide HM _ (rc_mem hlt)) X)
      obtain ⟨sn, hsn⟩ : ∃ sn, sn = (l.take k).length := ⟨_, rfl⟩
      rw [← hsn] at K2 ⊢
      clear hsn
      generalize rc l k = y at *
      obtain ⟨_, x0, x1, x2, x3, x4, x5⟩ := s7
      have hb0 : Below wr.heap.size wr (wr.alloc (.cells #[.int .i64 y.k, .int .i64 y.q, .int .i64 y.t, .string y.s, .string y.h, .string y.d] 43)) := (Below.refl _ _).alloc (Nat.le_refl _) _
      have Hb0 := hide hb0
      clear hb0 s6
      go_wp2_with fail
      refine (unhide T _).mono ?_
      rintro e w5 ⟨rfl, b5⟩
      obtain ⟨a', n', c', w6, hrun, P6⟩ := unhide K2 w5 (bstep (unhide Hb0) b5)
      clear x0 x1 x2 x3 x4 x5 b5 T Hb0 K2
      go_wp2_with (at_builtin; refine Lib.wpList_append_run _ rfl _ _ _ _ rfl _ _ rfl rfl _ _ hrun ?_)
      refine ⟨⟨k + 1, by go_num, by omega, P6⟩, ?_⟩
      simp [intOf]; omega
    · obtain rfl : k = l.length := by omega
      rw [List.take_length] at HP ⊢
      go_wp2_with fail
      go_ret
      exact ⟨_, rfl, (unhide HP).1, (unhide HP).2⟩

end Go.Proofs.YtphhebdmfdjfeabGreatDoor.Dk

namespace Go.Proofs.YtphhebdmfdjfeabGreatDoor.Dk
open Go.RowKit

set_option maxHeartbeats 400000 in
theorem ssub_any {w : World} {B q : Nat} {v u : Value} {l : List Rc} {es : List Ent} {last : Int} (f : ByteArray) (hf : f.size ≤ 140737488355328) (h : Sho w B q v u l es last) (hg : Good es) :
    Calls Tryz.prog 80 #[.pointer (some ⟨q, 0, none⟩), .string f] w fun e w' => ∃ v', e = .returned (.tuple #[v', .int .i64 (errS true f)]) ∧ Arr w' w.heap.size v' (foundL es f) ∧ Below w.heap.size w w' := by
  go_enter Tryz.func80, Tryz.ntmps80
  go_wp2_with fail
  refine (find_any B q u es f _ h.keeps hg hf).mono ?_
  rintro e w1 ⟨v', rfl, a1, b1⟩
  go_wp2_with fail
  go_ret2
  exact ⟨v', rfl, a1, b1⟩
end Go.Proofs.YtphhebdmfdjfeabGreatDoor.Dk

namespace Go.Proofs.YtphhebdmfdjfeabGreatDoor.Dk
open Go.RowKit

set_option maxRecDepth 100000 in
set_option maxHeartbeats 1000000 in
theorem sget_any {w : World} {B q : Nat} {v u : Value} {l : List Rc} {es : List Ent} {last : Int} (n : Int) (h : Sho w B q v u l es last) (hr : RiseQ l) (h200 : l.length ≤ 200) (hm : ∀ x ∈ l, Small x) :
    Calls Tryz.prog 75 #[.pointer (some ⟨q, 0, none⟩), .int .i64 n] w fun e w' => e = .returned (ansV (getO l n)) ∧ Below w.heap.size w w' := by
  have hb0 : Below w.heap.size w (w.alloc (.cells #[.int .i64 0, .int .i64 0, .int .i64 0, .string ⟨#[]⟩, .string ⟨#[]⟩, .string ⟨#[]⟩] 43)) := (Below.refl _ _).alloc (Nat.le_refl _) _
  have h0 := h.below hb0
  have PP := hide (splace_any n h0 hr h200)
  have Z0 := hide (RF.new w zeroR)
  have Hb0 := hide hb0
  cases hs : seqB l n with
  | false =>
    have R := hide (get_none hs)
    rw [hs] at PP
    clear hs h h0 hb0
    go_enter Tryz.func75, Tryz.ntmps75
    go_wp2_with fail
    refine (unhide PP).mono ?_
    rintro e w1 ⟨rfl, b1⟩
    have Z1 := hide ((unhide Z0).next b1)
    obtain ⟨_, y0, y1, y2, y3, y4, y5, g⟩ := (unhide Z1).rb
    have g0 := g 0
    have g1 := g 1
    have g2 := g 2
    have g3 := g 3
    have g4 := g 4
    have g5 := g 5
    have B1 := hide (bstep (unhide Hb0) b1)
    clear g b1 PP Z0 Hb0
    go_wp2_with fail
    refine bodyPost_ret (results_rec2 rfl rfl ((unhide Z1).rb.setAll 0 0 0 ⟨#[]⟩ ⟨#[]⟩ ⟨#[]⟩)) rfl ?_
    exact ⟨by rw [unhide R]; rfl, set6_below (unhide B1) (Nat.le_refl _)⟩
  | true =>
    have R := hide (get_hit hr hs)
    obtain ⟨p1, p2⟩ := seq_hit hr hs
    rw [hs] at PP
    obtain ⟨p, hp⟩ : ∃ p, p = pq l n := ⟨_, rfl⟩
    rw [← hp] at p1 PP R
    have T := hide (fun X => copyR_any (rc l p) (hm _ (rc_mem p1)) X)
    obtain ⟨g, cap, rfl, c1, c2, c3, c4⟩ := h.msgs.there (by omega)
    unfold maxLen at c2
    have H0 := hide h0
    clear hs h h0 hb0 hp p2 hm hr
    go_enter Tryz.func75, Tryz.ntmps75
    go_wp2_with fail
    refine (unhide PP).mono ?_
    rintro e w1 ⟨rfl, b1⟩
    have h1 := (unhide H0).below b1
    have d0 := h1.c0
    have hq1 := h1.lt
    obtain ⟨hg1, x0, x1, x2, x3, x4, x5⟩ := h1.msgs.six p1
    have Z1 := hide ((unhide Z0).next b1)
    have B1 := hide (bstep (unhide Hb0) b1)
    clear b1 PP Z0 Hb0 h1 H0
    generalize rc l p = y at *
    go_wp2_with fail
    refine (unhide T _).mono ?_
    rintro e w2 ⟨rfl, b2⟩
    have Z2 := hide ((unhide Z1).next b2)
    obtain ⟨_, y0, y1, y2, y3, y4, y5, gz⟩ := (unhide Z2).rb
    have g0 := gz 0
    have g1 := gz 1
    have g2 := gz 2
    have g3 := gz 3
    have g4 := gz 4
    have g5 := gz 5
    have B2 := hide (bstep (unhide B1) b2)
    clear gz b2 T Z1 B1 x0 x1 x2 x3 x4 x5 d0
    go_wp2_with fail
    refine bodyPost_ret (results_rec2 rfl rfl ((unhide Z2).rb.setAll y.k y.q y.t y.s y.h y.d)) rfl ?_
    exact ⟨by rw [unhide R]; rfl, set6_below (unhide B2) (Nat.le_refl _)⟩
end Go.Proofs.YtphhebdmfdjfeabGreatDoor.Dk
