/-
  The program's store: New, Subjects, All.
-/
import Derived.Test.YtcdajajekmichafDoorWalkX5
import Derived.Test.YtcdajajekmichafDoorJointRowFWalkF
namespace Go.Proofs.YtcdajajekmichafDoor.Dk
open Go.RowKit

set_option maxHeartbeats 400000 in
theorem snew_any (w : World) :
    Calls Tryd.prog 18 #[] w fun e w' => e = .returned (.pointer (some ⟨w.heap.size, 0, none⟩)) ∧ Sho w' w.heap.size w.heap.size (.slice none 0 0) (.slice none 0 0) [] [] 0 ∧ Below w.heap.size w w' := by
  go_enter Tryd.func18, Tryd.ntmps18
  go_wp2_with fail
  go_ret
  refine ⟨rfl, ⟨by simp, by simp, by simp, fun j => by simp, Nat.le_refl _, by simp, ArrR.empty _ _, Arr.empty _ _, by simp [Value.ownBlock], by simp [Value.ownBlock], fun g hg => by simp [Value.ownBlock] at hg⟩, (Below.refl _ _).alloc (Nat.le_refl _) _⟩

set_option maxHeartbeats 400000 in
theorem ssub_any {w : World} {B q : Nat} {v u : Value} {l : List Rc} {es : List Ent} {last : Int} (f : ByteArray) (hf : f.size ≤ 140737488355328) (h : Sho w B q v u l es last) (hg : Good es) :
    Calls Tryd.prog 10 #[.pointer (some ⟨q, 0, none⟩), .string f] w fun e w' => ∃ v', e = .returned (.tuple #[v', .int .i64 (errS true f)]) ∧ Arr w' w.heap.size v' (foundL es f) ∧ Below w.heap.size w w' := by
  go_enter Tryd.func10, Tryd.ntmps10
  go_wp2_with fail
  refine (find_any B q u es f _ h.keeps hg hf).mono ?_
  rintro e w1 ⟨v', rfl, a1, b1⟩
  go_wp2_with fail
  go_ret2
  exact ⟨v', rfl, a1, b1⟩

/-- one record more in a row of one's own -/
theorem row_more {w wr : World} {sv : Value} {l : List Rc} {k : Nat} (h : ArrR wr w.heap.size sv (l.take k)) (hb : Below w.heap.size w wr) (hk : k < l.length) (h200 : l.length ≤ 200) (w5 : World) (b5 : Below wr.heap.size wr w5) :
    ∃ a' n' c' w', (Builtin.append_ #[22, 22] 22 #[sv, .slice (some ⟨w5.heap.size, 0, none⟩) 1 1]).run Tryd.prog (w5.alloc (.cells #[.int .i64 (rc l k).k, .int .i64 (rc l k).q, .int .i64 (rc l k).t, .string (rc l k).s, .string (rc l k).h, .string (rc l k).d] 26)) = .ok (.slice a' n' c') w' ∧ Hid (ArrR w' w.heap.size (.slice a' n' c') (l.take (k + 1)) ∧ Below w.heap.size w w') := by
  have b4 : Below w5.heap.size w5 (w5.alloc (.cells #[.int .i64 (rc l k).k, .int .i64 (rc l k).q, .int .i64 (rc l k).t, .string (rc l k).s, .string (rc l k).h, .string (rc l k).d] 26)) := (Below.refl _ _).alloc (Nat.le_refl _) _
  have h4 := (h.below b5).below b4
  have hb4 := bstep (bstep hb b5) b4
  obtain ⟨v8, w8, hr, A8, C8, _⟩ := append_rec _ w.heap.size 22 sv _ [rc l k] h4 ⟨w5.heap.size, 0, none⟩ 1 (six_row w5 (rc l k)) (by rw [List.length_take]; simp; omega) hb4.size
  obtain ⟨a', c', rfl, _⟩ := A8.shape
  refine ⟨a', _, c', w8, hr, hide ⟨?_, hb4.trans (C8.below hb4.size (fun g hg z => by have := (h4.lt g z).1; omega))⟩⟩
  rw [List.take_succ_eq_append_getElem hk, ← rc_get hk]
  exact A8

set_option maxRecDepth 100000 in
set_option maxHeartbeats 1000000 in
theorem sall_any {w : World} {B q : Nat} {v u : Value} {l : List Rc} {es : List Ent} {last : Int} (h : Sho w B q v u l es last) (h200 : l.length ≤ 200) (hm : ∀ x ∈ l, Small x) :
    Calls Tryd.prog 9 #[.pointer (some ⟨q, 0, none⟩)] w fun e w' => ∃ v', e = .returned v' ∧ ArrR w' w.heap.size v' l ∧ Below w.heap.size w w' := by
  obtain ⟨a, cap, rfl, c1, c2, hsl⟩ := h.msgs.shape
  have d0 := h.c0
  have HSl := hide hsl
  have HM := hide hm
  clear hsl hm h
  go_enter Tryd.func9, Tryd.ntmps9
  go_wp2_with fail
  go_loopw [3, 11] (fun sv kv wr => ∃ (k : Nat), kv = .int .i64 k ∧ k ≤ l.length ∧ Hid (ArrR wr w.heap.size sv (l.take k) ∧ Below w.heap.size w wr)) (fun _ kv _ => l.length - (intOf kv).toNat)
  case atStart => exact ⟨0, rfl, Nat.zero_le _, hide ⟨ArrR.empty _ _, Below.refl _ _⟩⟩
  case round =>
    clear d0
    obtain ⟨k, rfl, hk, HP⟩ := hrel
    obtain ⟨sa, sc, rfl, _⟩ := (unhide HP).1.shape
    by_cases hlt : k < l.length
    · obtain ⟨b, o, rfl, s6⟩ := unhide HSl k hlt
      have s7 := s6.below (unhide HP).2 s6.lt
      have K2 := hide (row_more (unhide HP).1 (unhide HP).2 hlt h200)
      have T := hide (fun X => copyR_any (rc l k) (unhide HM _ (rc_mem hlt)) X)
      obtain ⟨sn, hsn⟩ : ∃ sn, sn = (l.take k).length := ⟨_, rfl⟩
      rw [← hsn] at K2 ⊢
      clear hsn
      generalize rc l k = y at *
      obtain ⟨_, x0, x1, x2, x3, x4, x5⟩ := s7
      have hb0 : Below wr.heap.size wr (wr.alloc (.cells #[.int .i64 y.k, .int .i64 y.q, .int .i64 y.t, .string y.s, .string y.h, .string y.d] 26)) := (Below.refl _ _).alloc (Nat.le_refl _) _
      have Hb0 := hide hb0
      clear hb0 s6
      go_wp2_with fail
      refine (unhide T _).mono ?_
      rintro e w5 ⟨rfl, b5⟩
      obtain ⟨a', n', c', w6, hrun, P6⟩ := unhide K2 w5 (bstep (unhide Hb0) b5)
      clear x0 x1 x2 x3 x4 x5 b5 T Hb0 K2
      go_wp2_with (at_builtin; refine Lib.wpList_append_run _ rfl _ _ _ _ rfl _ _ rfl rfl _ _ hrun ?_)
      refine ⟨⟨k + 1, by go_num, by omega, P6⟩, ?_⟩
      simp [intOf]; omega
    · obtain rfl : k = l.length := by omega
      rw [List.take_length] at HP ⊢
      go_wp2_with fail
      go_ret
      exact ⟨_, rfl, (unhide HP).1, (unhide HP).2⟩

end Go.Proofs.YtcdajajekmichafDoor.Dk
