/-
  A store with some records applied (rillkeep.filled), over what is asked of any store.
-/
import Derived.Test.YtcdajajekmichaiDoorJointWorksBWorksT
namespace Go.Proofs.YtcdajajekmichaiDoor.Dk
open Go.RowKit

/-- a store on its way, behind w -/
def Made (SH : World → Nat → Nat → (Nat → Prop) → Sto → Prop) (w wr : World) (q : Nat) (s : Sto) : Prop := ∃ F, SH wr w.heap.size q F s ∧ Below w.heap.size w wr
section
variable {SH : World → Nat → Nat → (Nat → Prop) → Sto → Prop} {w wr w' : World} {q : Nat} {s s' : Sto}
theorem Made.room (h : Made SH w wr q s) : w.heap.size ≤ wr.heap.size := by
  obtain ⟨F, _, h2⟩ := h
  exact h2.size
theorem Made.below (H : SBase SH) (h : Made SH w wr q s) (hb : Below wr.heap.size wr w') : Made SH w w' q s := by
  have hr := h.room
  obtain ⟨F, h1, h2⟩ := h
  exact ⟨F, H.chg (A := fun _ => False) h1 (Chg.of_below hb) (fun _ _ z => z), h2.trans (hb.mono hr)⟩
theorem Made.did (H : SBase SH) (h : Made SH w wr q s) {fn : FuncId} {args : Array Value} {Q : Ending → World → Prop}
    (hc : ∀ F, SH wr w.heap.size q F s → Calls Tryd.prog fn args wr fun e w' => Q e w' ∧ DidS SH wr w' w.heap.size q F s') :
    Calls Tryd.prog fn args wr fun e w' => Q e w' ∧ Made SH w w' q s' := by
  have hr := h.room
  obtain ⟨F, h1, h2⟩ := h
  refine (hc F h1).mono ?_
  rintro e w' ⟨hq, F', a1, a2, _⟩
  exact ⟨hq, F', a1, h2.trans (a2.below hr (fun k hk z => by have := (H.own h1 k z).1; omega))⟩
end
def fillS (l : List Rc) : Sto := l.foldl aplS ⟨[], 0⟩
theorem fill_take {l : List Rc} {k : Nat} (h : k < l.length) : fillS (l.take (k + 1)) = aplS (fillS (l.take k)) (rc l k) := by
  unfold fillS
  rw [List.take_succ_eq_append_getElem h, List.foldl_append, rc_get h]
  rfl
theorem fill_snoc (l : List Rc) (r : Rc) : fillS (l ++ [r]) = aplS (fillS l) r := by
  unfold fillS
  rw [List.foldl_append]
  rfl
theorem foldl_ok : ∀ (l : List Rc) {s : Sto}, s.Ok → (l.foldl aplS s).Ok
  | [], _, h => h
  | r :: l, _, h => foldl_ok l (h.apply r)
theorem fill_ok (l : List Rc) : (fillS l).Ok := foldl_ok l Sto.Ok.nil

set_option maxRecDepth 100000 in
set_option maxHeartbeats 1000000 in
theorem filled_any {SH : World → Nat → Nat → (Nat → Prop) → Sto → Prop} (H : SBase SH) (l : List Rc) (a : Option Addr) (c : Nat) (w : World) (hsl : SlR w a l) (hsm : ∀ k, k < l.length → Small (rc l k)) (hl : l.length ≤ 200000) :
    Calls Tryd.prog 9 #[.slice a l.length c] w fun e w' => ∃ q, e = .returned (.pointer (some ⟨q, 0, none⟩)) ∧ Made SH w w' q (fillS l) := by
  have HSl := hide hsl
  have HM := hide hsm
  clear hsl hsm
  go_enter Tryd.func9, Tryd.ntmps9
  go_wp2_with fail
  refine (H.new w).mono ?_
  rintro e w1 ⟨q, F, rfl, h1, b1⟩
  have M1 : Hid (Made SH w w1 q (fillS (l.take 0))) := hide ⟨F, h1, b1⟩
  clear h1 b1
  go_wp2_with fail
  go_loopw [9] (fun iv wr => ∃ (k : Nat), iv = .int .i64 k ∧ k ≤ l.length ∧ Hid (Made SH w wr q (fillS (l.take k)))) (fun iv _ => l.length - (intOf iv).toNat)
  case atStart => exact ⟨0, rfl, Nat.zero_le _, M1⟩
  case round =>
    clear M1
    obtain ⟨k, rfl, hkl, M2⟩ := hrel
    by_cases hlt : k < l.length
    · obtain ⟨ga, o, rfl, s6⟩ := unhide HSl k hlt
      have s7 : Six wr ga (o + k * 6) (rc l k) := by
        obtain ⟨F, _, hb⟩ := unhide M2
        exact s6.below hb s6.lt
      have hsm := unhide HM k hlt
      have hft := fill_take hlt
      obtain ⟨r, hr⟩ : ∃ r, r = rc l k := ⟨_, rfl⟩
      rw [← hr] at s7 hsm hft
      obtain ⟨_, x0, x1, x2, x3, x4, x5⟩ := s7
      have M3 := hide ((unhide M2).below H ((Below.refl _ _).alloc (Nat.le_refl _) (.cells #[.int .i64 r.k, .int .i64 r.q, .int .i64 r.t, .string r.s, .string r.h, .string r.d] 40)))
      have PA := hide ((unhide M3).did H (fun F hF => H.apply r hsm hF (fill_ok _) (unhide M3).room))
      rw [← hft] at PA
      clear hr hft s6 M2 M3
      go_wp2_with fail
      refine (unhide PA).mono ?_
      rintro e w4 ⟨rfl, m4⟩
      have M4 := hide m4
      clear m4 PA x0 x1 x2 x3 x4 x5
      go_wp2_with fail
      refine ⟨⟨k + 1, by go_num, by omega, M4⟩, ?_⟩
      simp [intOf]; omega
    · obtain rfl : k = l.length := by omega
      have M3 : Hid (Made SH w wr q (fillS l)) := by
        have := M2
        rw [List.take_length] at this
        exact this
      clear M2 hlt
      go_wp2_with fail
      go_ret
      exact ⟨q, rfl, unhide M3⟩
end Go.Proofs.YtcdajajekmichaiDoor.Dk
