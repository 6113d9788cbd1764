/-
  A store with some records applied (rillkeep.filled), over what is asked of any store.
  What the walks of a store's laws have in common.
-/
import Derived.Test.YtcdajajekmichafDoorJointWorksSWorksT
import Derived.Test.YtcdajajekmichafDoorJointWalkC6WalkC9a
import Derived.Test.YtcdajajekmichafDoorPlainK
namespace Go.Proofs.YtcdajajekmichafDoor.Dk
open Go.RowKit

/-- a store on its way, behind w -/
def Made (SH : World → Nat → Nat → (Nat → Prop) → Sto → Prop) (w wr : World) (q : Nat) (s : Sto) : Prop := ∃ F, SH wr w.heap.size q F s ∧ Below w.heap.size w wr
section
variable {SH : World → Nat → Nat → (Nat → Prop) → Sto → Prop} {w wr w' : World} {q : Nat} {s s' : Sto}
theorem Made.room (h : Made SH w wr q s) : w.heap.size ≤ wr.heap.size := by
  obtain ⟨F, _, h2⟩ := h
  exact h2.size
theorem Made.below (H : SWorks SH) (h : Made SH w wr q s) (hb : Below wr.heap.size wr w') : Made SH w w' q s := by
  have hr := h.room
  obtain ⟨F, h1, h2⟩ := h
  exact ⟨F, H.chg (A := fun _ => False) h1 (Chg.of_below hb) (fun _ _ z => z), h2.trans (hb.mono hr)⟩
theorem Made.did (H : SWorks SH) (h : Made SH w wr q s) {fn : FuncId} {args : Array Value} {Q : Ending → World → Prop}
    (hc : ∀ F, SH wr w.heap.size q F s → Calls Tryd.prog fn args wr fun e w' => Q e w' ∧ DidS SH wr w' w.heap.size q F s') :
    Calls Tryd.prog fn args wr fun e w' => Q e w' ∧ Made SH w w' q s' := by
  have hr := h.room
  obtain ⟨F, h1, h2⟩ := h
  refine (hc F h1).mono ?_
  rintro e w' ⟨hq, F', a1, a2, _⟩
  exact ⟨hq, F', a1, h2.trans (a2.below hr (fun k hk z => by have := (H.own h1 k z).1; omega))⟩
end
def fillS (l : List Rc) : Sto := l.foldl aplS ⟨[], 0⟩
theorem fill_take {l : List Rc} {k : Nat} (h : k < l.length) : fillS (l.take (k + 1)) = aplS (fillS (l.take k)) (rc l k) := by
  unfold fillS
  rw [List.take_succ_eq_append_getElem h, List.foldl_append, rc_get h]
  rfl
theorem fill_snoc (l : List Rc) (r : Rc) : fillS (l ++ [r]) = aplS (fillS l) r := by
  unfold fillS
  rw [List.foldl_append]
  rfl
theorem foldl_ok : ∀ (l : List Rc) {s : Sto}, s.Ok → (l.foldl aplS s).Ok
  | [], _, h => h
  | r :: l, _, h => foldl_ok l (h.apply r)
theorem fill_ok (l : List Rc) : (fillS l).Ok := foldl_ok l Sto.Ok.nil

set_option maxRecDepth 100000 in
set_option maxHeartbeats 1000000 in
theorem filled_any {SH : World → Nat → Nat → (Nat → Prop) → Sto → Prop} (H : SWorks SH) (l : List Rc) (a : Option Addr) (c : Nat) (w : World) (hsl : SlR w a l) (hsm : ∀ k, k < l.length → Small (rc l k)) (hl : l.length ≤ 200000) :
    Calls Tryd.prog 6 #[.slice a l.length c] w fun e w' => ∃ q, e = .returned (.pointer (some ⟨q, 0, none⟩)) ∧ Made SH w w' q (fillS l) := by
  have HSl := hide hsl
  have HM := hide hsm
  clear hsl hsm
  go_enter Tryd.func6, Tryd.ntmps6
  go_wp2_with fail
  refine (H.new w).mono ?_
  rintro e w1 ⟨q, F, rfl, h1, b1⟩
  have M1 : Hid (Made SH w w1 q (fillS (l.take 0))) := hide ⟨F, h1, b1⟩
  clear h1 b1
  go_wp2_with fail
  go_loopw [9] (fun iv wr => ∃ (k : Nat), iv = .int .i64 k ∧ k ≤ l.length ∧ Hid (Made SH w wr q (fillS (l.take k)))) (fun iv _ => l.length - (intOf iv).toNat)
  case atStart => exact ⟨0, rfl, Nat.zero_le _, M1⟩
  case round =>
    clear M1
    obtain ⟨k, rfl, hkl, M2⟩ := hrel
    by_cases hlt : k < l.length
    · obtain ⟨ga, o, rfl, s6⟩ := unhide HSl k hlt
      have s7 : Six wr ga (o + k * 6) (rc l k) := by
        obtain ⟨F, _, hb⟩ := unhide M2
        exact s6.below hb s6.lt
      have hsm := unhide HM k hlt
      have hft := fill_take hlt
      obtain ⟨r, hr⟩ : ∃ r, r = rc l k := ⟨_, rfl⟩
      rw [← hr] at s7 hsm hft
      obtain ⟨_, x0, x1, x2, x3, x4, x5⟩ := s7
      have M3 := hide ((unhide M2).below H ((Below.refl _ _).alloc (Nat.le_refl _) (.cells #[.int .i64 r.k, .int .i64 r.q, .int .i64 r.t, .string r.s, .string r.h, .string r.d] 26)))
      have PA := hide ((unhide M3).did H (fun F hF => H.apply r hsm hF (fill_ok _) (unhide M3).room))
      rw [← hft] at PA
      clear hr hft s6 M2 M3
      go_wp2_with fail
      refine (unhide PA).mono ?_
      rintro e w4 ⟨rfl, m4⟩
      have M4 := hide m4
      clear m4 PA x0 x1 x2 x3 x4 x5
      go_wp2_with fail
      refine ⟨⟨k + 1, by go_num, by omega, M4⟩, ?_⟩
      simp [intOf]; omega
    · obtain rfl : k = l.length := by omega
      have M3 : Hid (Made SH w wr q (fillS l)) := by
        have := M2
        rw [List.take_length] at this
        exact this
      clear M2 hlt
      go_wp2_with fail
      go_ret
      exact ⟨q, rfl, unhide M3⟩
end Go.Proofs.YtcdajajekmichafDoor.Dk

namespace Go.Proofs.YtcdajajekmichafDoor.Dk
open Go.RowKit

/-- records in a block of their own -/
theorem row_recs (w : World) (l : List Rc) (T : TypeId) : SlR (w.alloc (.cells (celR l).toArray T)) (some ⟨w.heap.size, 0, none⟩) l := fun k hk => by
  refine ⟨w.heap.size, 0, rfl, ?_⟩
  have hat := celR_at l k hk
  refine ⟨by simp, ?_, ?_, ?_, ?_, ?_, ?_⟩
  · rw [cell_of_row _ w.heap.size _ _ _ _ (heap_alloc_new w _), Nat.zero_add]; simpa using hat.1
  · rw [cell_of_row _ w.heap.size _ _ _ _ (heap_alloc_new w _), Nat.zero_add]; simpa using hat.2.1
  · rw [cell_of_row _ w.heap.size _ _ _ _ (heap_alloc_new w _), Nat.zero_add]; simpa using hat.2.2.1
  · rw [cell_of_row _ w.heap.size _ _ _ _ (heap_alloc_new w _), Nat.zero_add]; simpa using hat.2.2.2.1
  · rw [cell_of_row _ w.heap.size _ _ _ _ (heap_alloc_new w _), Nat.zero_add]; simpa using hat.2.2.2.2.1
  · rw [cell_of_row _ w.heap.size _ _ _ _ (heap_alloc_new w _), Nat.zero_add]; simpa using hat.2.2.2.2.2
def noteR (n : Int) : Rc := ⟨1, n, 0, ⟨#[97, 46, 98]⟩, ⟨#[]⟩, ⟨#[120]⟩⟩
def purgeR (n : Int) (f : ByteArray) : Rc := ⟨3, n, 0, f, ⟨#[]⟩, ⟨#[]⟩⟩
theorem three_left : (fillS [noteR 4, noteR 7, purgeR 7 ⟨#[62]⟩]).l.length = 1 := by decide +kernel
/-- what stays, record by record -/
def stayB (E n : Int) (f : ByteArray) (x : Rc) : Bool := (E != 0) || (decide (n ≤ x.q) || !matchB f x.s)
theorem purge_stay {s : Sto} (h : s.Ok) (n : Int) (f : ByteArray) : (aplS s (purgeR n f)).l = s.l.filter (stayB (tryE s (purgeR n f)) n f) ∧ (aplS s (purgeR n f)).last = s.last := by
  by_cases h0 : tryE s (purgeR n f) = 0
  · rw [purge_left h0 rfl, h0]
    refine ⟨?_, rfl⟩
    have hc : chkR (purgeR n f) = 0 := by rw [← purge_try (s := s) (r := purgeR n f) rfl]; exact h0
    have hf : errS true f = 0 := by
      have e := chkV_eq (purgeR n f).k (purgeR n f).q (purgeR n f).t (purgeR n f).s (purgeR n f).h (purgeR n f).d
      have e2 : chkV (purgeR n f).k (purgeR n f).q (purgeR n f).t (purgeR n f).s (purgeR n f).h (purgeR n f).d = 0 := hc
      rw [e2] at e
      by_cases hb : Pk.inB (purgeR n f).k (purgeR n f).q (purgeR n f).t = false
      · rw [if_pos hb] at e; cases e
      · rw [if_neg hb, if_neg (show ¬ (purgeR n f).k = 1 by simp [purgeR]), if_pos (show (purgeR n f).k = 3 from rfl)] at e
        unfold purE at e
        by_cases z : errS true (purgeR n f).s ≠ 0
        · rw [if_pos z] at e; exact e.symm
        · exact Classical.byContradiction z
    show s.l.filter _ = s.l.filter _
    refine List.filter_congr (fun x hx => ?_)
    have hx2 := h.msg x hx
    have hs : errS false x.s = 0 := by
      have e := chkV_eq x.k x.q x.t x.s x.h x.d
      have e2 : chkV x.k x.q x.t x.s x.h x.d = 0 := hx2.2
      rw [e2] at e
      by_cases hb : Pk.inB x.k x.q x.t = false
      · rw [if_pos hb] at e; cases e
      · rw [if_neg hb, if_pos hx2.1] at e
        unfold msgE at e
        by_cases z : errS false x.s ≠ 0
        · rw [if_pos z] at e; exact e.symm
        · exact Classical.byContradiction z
    unfold stayB matchB tkB
    rw [hf, hs]
    show (!(decide (x.q < n) && coverL (Pl.toks f) (Pl.toks x.s))) = _
    by_cases z : x.q < n
    · rw [decide_eq_true z, decide_eq_false (show ¬ n ≤ x.q by omega)]; simp
    · rw [decide_eq_false z, decide_eq_true (show n ≤ x.q by omega)]; simp
  · have e : aplS s (purgeR n f) = s := by unfold aplS; rw [if_pos h0]
    rw [e]
    refine ⟨?_, rfl⟩
    have hb : (tryE s (purgeR n f) != 0) = true := by simpa using h0
    have : ∀ x, stayB (tryE s (purgeR n f)) n f x = true := fun x => by unfold stayB; rw [hb]; rfl
    rw [List.filter_eq_self.2 (fun x _ => this x)]
/-- a store on its way, and blocks that are none of its own -/
def Madk (SH : World → Nat → Nat → (Nat → Prop) → Sto → Prop) (Cs : Nat → Prop) (w wr : World) (q : Nat) (s : Sto) : Prop := ∃ F, SH wr w.heap.size q F s ∧ Below w.heap.size w wr ∧ ∀ k, Cs k → k < wr.heap.size ∧ ¬ F k
section
variable {SH : World → Nat → Nat → (Nat → Prop) → Sto → Prop} {Cs : Nat → Prop} {w wr w' : World} {q : Nat} {s s' : Sto}
theorem Made.all (H : SWorks SH) (h : Made SH w wr q s) (hk : s.Ok) :
    Calls Tryd.prog 9 #[.pointer (some ⟨q, 0, none⟩)] wr fun e w' => ∃ a c, e = .returned (.slice a s.l.length c) ∧ (s.l.length ≤ c ∧ c ≤ maxLen) ∧ SlR w' a s.l ∧ Madk SH (fun k => ∃ z, a = some z ∧ z.block = k) w w' q s ∧ Below wr.heap.size wr w' := by
  have hr := h.room
  obtain ⟨F, h1, h2⟩ := h
  refine (H.all h1 hk hr).mono ?_
  rintro e w' ⟨v, he, hA, hb⟩
  obtain ⟨a, c, rfl, hc1, hc2, hs⟩ := hA.shape
  have ha : ∀ z, a = some z → wr.heap.size ≤ z.block ∧ z.block < w'.heap.size := fun z hz => World.ownsRow.lt hA z.block (by rw [hz]; rfl)
  refine ⟨a, c, he, ⟨hc1, hc2⟩, hs, ⟨F, H.chg (A := fun _ => False) h1 (Chg.of_below hb) (fun _ _ z => z), h2.trans (hb.mono hr), fun k hk => ?_⟩, hb⟩
  obtain ⟨z, hz, rfl⟩ := hk
  exact ⟨(ha z hz).2, fun y => by have := (H.own h1 _ y).2; have := (ha z hz).1; omega⟩
theorem Madk.made (h : Madk SH Cs w wr q s) : Made SH w wr q s := by obtain ⟨F, h1, h2, _⟩ := h; exact ⟨F, h1, h2⟩
theorem Madk.below (H : SWorks SH) (h : Madk SH Cs w wr q s) (hb : Below wr.heap.size wr w') : Madk SH Cs w w' q s := by
  have hr := h.made.room
  obtain ⟨F, h1, h2, h3⟩ := h
  exact ⟨F, H.chg (A := fun _ => False) h1 (Chg.of_below hb) (fun _ _ z => z), h2.trans (hb.mono hr), fun k hk => ⟨Nat.lt_of_lt_of_le (h3 k hk).1 hb.size, (h3 k hk).2⟩⟩
theorem Madk.did (H : SWorks SH) (h : Madk SH Cs w wr q s) {fn : FuncId} {args : Array Value} {Q : Ending → World → Prop}
    (hc : ∀ F, SH wr w.heap.size q F s → Calls Tryd.prog fn args wr fun e w' => Q e w' ∧ DidS SH wr w' w.heap.size q F s') :
    Calls Tryd.prog fn args wr fun e w' => Q e w' ∧ Made SH w w' q s' ∧ ∀ k, Cs k → k < wr.heap.size ∧ w'.heap[k]? = wr.heap[k]? := by
  have hr := h.made.room
  obtain ⟨F, h1, h2, h3⟩ := h
  refine (hc F h1).mono ?_
  rintro e w' ⟨hq, F', a1, a2, _⟩
  exact ⟨hq, ⟨F', a1, h2.trans (a2.below hr (fun k hk z => by have := (H.own h1 k z).1; omega))⟩, fun k hk => ⟨(h3 k hk).1, a2.block k (h3 k hk).1 (h3 k hk).2⟩⟩
theorem Made.sums (H : SWorks SH) (h : Made SH w wr q s) (hk : s.Ok) :
    Calls Tryd.prog 8 #[.pointer (some ⟨q, 0, none⟩)] wr fun e w' => e = .returned (.agg #[.int .i64 (s.l.length : Int), .int .i64 (byteN s.l : Int), .int .i64 (firstQ s.l), .int .i64 s.last]) ∧ Below wr.heap.size wr w' := by
  have hr := h.room
  obtain ⟨F, h1, _⟩ := h
  exact H.sums h1 hk hr
end
/-- one record more, by way of a block of its own -/
theorem arr_more {w wr : World} {B : Nat} {ov : Value} {out : List Rc} (h : ArrR wr B ov out) (hb : Below B w wr) (r : Rc) (hl : out.length ≤ 200000) (hB : B ≤ wr.heap.size) (T : TypeId) (hT : T = 26) :
    ∃ v8 w8, (Builtin.append_ #[22, 22] 22 #[ov, .slice (some ⟨wr.heap.size, 0, none⟩) 1 1]).run Tryd.prog (wr.alloc (.cells #[.int .i64 r.k, .int .i64 r.q, .int .i64 r.t, .string r.s, .string r.h, .string r.d] T)) = .ok v8 w8 ∧ ArrR w8 B v8 (out ++ [r]) ∧ Below B w w8 := by
  subst hT
  have hb7 : Below wr.heap.size wr (wr.alloc (.cells #[.int .i64 r.k, .int .i64 r.q, .int .i64 r.t, .string r.s, .string r.h, .string r.d] 26)) := (Below.refl _ _).alloc (Nat.le_refl _) _
  have h7 := h.below hb7
  obtain ⟨v8, w8, hrun, A8, C8, _⟩ := append_rec _ B 22 ov out [r] h7 ⟨wr.heap.size, 0, none⟩ 1 (six_row wr r) (by simp; omega) (Nat.le_trans hB hb7.size)
  exact ⟨v8, w8, hrun, A8, (hb.trans (hb7.mono hB)).trans (C8.below (Nat.le_trans hB hb7.size) (fun k hk z => by have := (World.ownsRow.lt h7 k z).1; omega))⟩
theorem keep_take {p : Rc → Bool} {l : List Rc} {k : Nat} (h : k < l.length) : (l.take (k + 1)).filter p = (l.take k).filter p ++ (if p (rc l k) then [rc l k] else []) := by
  rw [List.take_succ_eq_append_getElem h, ← rc_get h, List.filter_append]
  simp only [List.filter_cons, List.filter_nil]

theorem sum_msgs (x0 x1 x2 x3 : Value) (W : World) : (Instr.field 29 (.agg #[x0, x1, x2, x3]) 0).run Tryd.prog W = .ok x0 W := by kernel_rfl
theorem sum_last (x0 x1 x2 x3 : Value) (W : World) : (Instr.field 29 (.agg #[x0, x1, x2, x3]) 3).run Tryd.prog W = .ok x3 W := by kernel_rfl
end Go.Proofs.YtcdajajekmichafDoor.Dk
