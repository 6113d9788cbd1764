/-
  rilllaw.StorePlays, over what is asked of any store.
-/
import Derived.Test.YtcdajajekmichabGreatDoorWalkSS
import Derived.Test.YtcdajajekmichabGreatDoorJointWorksSWorksTWorksY
namespace Go.Proofs.YtcdajajekmichabGreatDoor.Dk
open Go.RowKit

/-- both stores on their way, behind w: the program's shows s, the document's s' -/
def Pair (SH : World → Nat → Nat → (Nat → Prop) → Sto → Prop) (w W : World) (q c : Nat) (s s' : Sto) : Prop := ∃ F G, SH W w.heap.size q F s ∧ Che W w.heap.size c G s' ∧ (∀ k, F k → ¬ G k) ∧ Below w.heap.size w W
/-- and a record in a box that is none of theirs -/
def PairB (SH : World → Nat → Nat → (Nat → Prop) → Sto → Prop) (w W : World) (q c : Nat) (s s' : Sto) (b : Nat) (r : Rc) : Prop := ∃ F G, SH W w.heap.size q F s ∧ Che W w.heap.size c G s' ∧ (∀ k, F k → ¬ G k) ∧ Below w.heap.size w W ∧ RB W b r.k r.q r.t r.s r.h r.d ∧ ¬ F b ∧ ¬ G b
theorem rb_keep {w w' : World} {b : Nat} {k q t : Int} {s h d : ByteArray} {A : Nat → Prop} (r : RB w b k q t s h d) (hc : Chg A w w') (hn : ¬ A b) : RB w' b k q t s h d :=
  ⟨Nat.lt_of_lt_of_le r.lt hc.size, by rw [hc.cell (p := ⟨b, 0, none⟩) r.lt hn]; exact r.c0, by rw [hc.cell (p := ⟨b, 1, none⟩) r.lt hn]; exact r.c1, by rw [hc.cell (p := ⟨b, 2, none⟩) r.lt hn]; exact r.c2, by rw [hc.cell (p := ⟨b, 3, none⟩) r.lt hn]; exact r.c3, by rw [hc.cell (p := ⟨b, 4, none⟩) r.lt hn]; exact r.c4, by rw [hc.cell (p := ⟨b, 5, none⟩) r.lt hn]; exact r.c5, fun j => by rw [hc.frozen (p := ⟨b, j, none⟩) r.lt hn]; exact r.fr j⟩
section
variable {SH : World → Nat → Nat → (Nat → Prop) → Sto → Prop} {w W W' : World} {q c b : Nat} {s s' : Sto} {r : Rc}
theorem Pair.box (H : SWorks SH) (h : Pair SH w W q c s s') (r : Rc) : PairB SH w (W.alloc (.cells #[.int .i64 r.k, .int .i64 r.q, .int .i64 r.t, .string r.s, .string r.h, .string r.d] 43)) q c s s' W.heap.size r := by
  obtain ⟨F, G, h1, h2, h3, h4⟩ := h
  have hb : Below W.heap.size W (W.alloc (.cells #[.int .i64 r.k, .int .i64 r.q, .int .i64 r.t, .string r.s, .string r.h, .string r.d] 43)) := (Below.refl _ _).alloc (Nat.le_refl _) _
  exact ⟨F, G, H.chg (A := fun _ => False) h1 (Chg.of_below hb) (fun _ _ z => z), h2.below hb, h3, bstep h4 hb, RB.new W _ _ _ _ _ _ _, fun z => by have := (H.own h1 _ z).2; omega, fun z => by have := (h2.own _ z).2; omega⟩
theorem PairB.next (H : SWorks SH) (h : PairB SH w W q c s s' b r) (hb : Below W.heap.size W W') : PairB SH w W' q c s s' b r := by
  obtain ⟨F, G, h1, h2, h3, h4, h5, h6, h7⟩ := h
  exact ⟨F, G, H.chg (A := fun _ => False) h1 (Chg.of_below hb) (fun _ _ z => z), h2.below hb, h3, bstep h4 hb, h5.next hb, h6, h7⟩
theorem PairB.rb (h : PairB SH w W q c s s' b r) : RB W b r.k r.q r.t r.s r.h r.d := by
  obtain ⟨F, G, h1, h2, h3, h4, h5, h6, h7⟩ := h
  exact h5
theorem PairB.pair (h : PairB SH w W q c s s' b r) : Pair SH w W q c s s' := by
  obtain ⟨F, G, h1, h2, h3, h4, h5, h6, h7⟩ := h
  exact ⟨F, G, h1, h2, h3, h4⟩
theorem PairB.tries (H : SWorks SH) (HY : STrys SH) (h : PairB SH w W q c s s' b r) (hk : s.Ok) (x : Rc) (hx : Small x) :
    Calls Tryz.prog 26 #[.pointer (some ⟨q, 0, none⟩), .agg #[.int .i64 x.k, .int .i64 x.q, .int .i64 x.t, .string x.s, .string x.h, .string x.d]] W fun e w' => e = .returned (.int .i64 (tryE s x)) ∧ PairB SH w w' q c s s' b r := by
  obtain ⟨F, G, h1, h2, h3, h4, h5, h6, h7⟩ := id h
  refine (HY.tries x hx h1 hk h4.size).mono ?_
  rintro e w' ⟨he, hb⟩
  exact ⟨he, h.next H hb⟩
theorem PairB.ctries (H : SWorks SH) (h : PairB SH w W q c s s' b r) (hk : s'.Ok) (x : Rc) (hx : Small x) :
    Calls Tryz.prog 25 #[.pointer (some ⟨c, 0, none⟩), .agg #[.int .i64 x.k, .int .i64 x.q, .int .i64 x.t, .string x.s, .string x.h, .string x.d]] W fun e w' => e = .returned (.int .i64 (tryE s' x)) ∧ PairB SH w w' q c s s' b r := by
  obtain ⟨F, G, h1, h2, h3, h4, h5, h6, h7⟩ := id h
  refine (ctry_any x hx h2 hk).mono ?_
  rintro e w' ⟨he, hb⟩
  exact ⟨he, h.next H hb⟩
theorem PairB.apply (H : SWorks SH) (h : PairB SH w W q c s s' b r) (hk : s.Ok) (x : Rc) (hx : Small x) :
    Calls Tryz.prog 27 #[.pointer (some ⟨q, 0, none⟩), .agg #[.int .i64 x.k, .int .i64 x.q, .int .i64 x.t, .string x.s, .string x.h, .string x.d]] W fun e w' => e = .returned (.int .i64 (tryE s x)) ∧ PairB SH w w' q c (aplS s x) s' b r := by
  obtain ⟨F, G, h1, h2, h3, h4, h5, h6, h7⟩ := h
  refine (H.apply x hx h1 hk h4.size).mono ?_
  rintro e w' ⟨he, F', a1, a2, a3⟩
  refine ⟨he, F', G, a1, h2.chg a2 (fun k hk z => h3 k z hk), fun k hk z => ?_, h4.trans (a2.below h4.size (fun k hk z => by have := (H.own h1 k z).1; omega)), rb_keep h5 a2 h6, fun z => ?_, h7⟩
  · rcases a3 k hk with y | y
    · exact h3 k y z
    · have := (h2.own k z).2; omega
  · rcases a3 b z with y | y
    · exact h6 y
    · have := h5.lt; omega
theorem PairB.capply (H : SWorks SH) (h : PairB SH w W q c s s' b r) (hk : s'.Ok) (x : Rc) (hx : Small x) :
    Calls Tryz.prog 28 #[.pointer (some ⟨c, 0, none⟩), .agg #[.int .i64 x.k, .int .i64 x.q, .int .i64 x.t, .string x.s, .string x.h, .string x.d]] W fun e w' => e = .returned (.int .i64 (tryE s' x)) ∧ PairB SH w w' q c s (aplS s' x) b r := by
  obtain ⟨F, G, h1, h2, h3, h4, h5, h6, h7⟩ := h
  refine (capply_any x hx h2 hk h4.size).mono ?_
  rintro e w' ⟨he, G', a1, a2, a3⟩
  refine ⟨he, F, G', H.chg h1 a2 (fun k hk z => h3 k hk z), a1, fun k hk z => ?_, h4.trans (a2.below h4.size (fun k hk z => by have := (h2.own k z).1; omega)), rb_keep h5 a2 h7, h6, fun z => ?_⟩
  · rcases a3 k z with y | y
    · exact h3 k hk y
    · have := (H.own h1 k hk).2; omega
  · rcases a3 b z with y | y
    · exact h7 y
    · have := h5.lt; omega
end
def fillT (l : List Rc) : Sto := l.foldl aplS ⟨[], 0⟩
theorem fillT_take {l : List Rc} {k : Nat} (h : k < l.length) : fillT (l.take (k + 1)) = aplS (fillT (l.take k)) (rc l k) := by
  unfold fillT
  rw [List.take_succ_eq_append_getElem h, List.foldl_append, rc_get h]
  rfl
theorem foldlT_ok : ∀ (l : List Rc) {s : Sto}, s.Ok → (l.foldl aplS s).Ok
  | [], _, h => h
  | r :: l, _, h => foldlT_ok l (h.apply r)
theorem fillT_ok (l : List Rc) : (fillT l).Ok := foldlT_ok l Sto.Ok.nil

set_option maxRecDepth 100000 in
set_option maxHeartbeats 2000000 in
theorem plays_store {SH : World → Nat → Nat → (Nat → Prop) → Sto → Prop} (H : SWorks SH) (HT : STells SH) (HY : STrys SH) (l : List Rc) (a : Option Addr) (cap : Nat) (f : ByteArray) (n : Int) (w : World) (hsl : SlR w a l) (hsm : ∀ k, k < l.length → Small (rc l k)) (hf : f.size ≤ 140737488355328) :
    Calls Tryz.prog 4 #[.slice a l.length cap, .string f, .int .i64 n] w fun e w' => e = .returned (.bool true) ∧ Below w.heap.size w w' := by
  have HSl := hide hsl
  have HM := hide hsm
  clear hsl hsm
  by_cases h250 : 250 < l.length
  · go_enter Tryz.func4, Tryz.ntmps4
    go_wp2_with fail
    go_ret
    exact ⟨rfl, Below.refl _ _⟩
  · go_enter Tryz.func4, Tryz.ntmps4
    go_wp2_with fail
    refine (H.new w).mono ?_
    rintro e w1 ⟨q, F0, rfl, h1, b1⟩
    have HP : Hid (Pair SH w (w1.alloc (.cells #[.slice none 0 0, .int .i64 0] 65)) q w1.heap.size (fillT (l.take 0)) (fillT (l.take 0))) := hide (by
      have ba : Below w1.heap.size w1 (w1.alloc (.cells #[.slice none 0 0, .int .i64 0] 65)) := (Below.refl _ _).alloc (Nat.le_refl _) _
      refine ⟨F0, fun k => k = w1.heap.size, H.chg (A := fun _ => False) h1 (Chg.of_below ba) (fun _ _ z => z), ⟨.slice none 0 0, ⟨b1.size, by simp⟩, by simp, by simp [fillT], by simp, by simp, ArrR.empty _ _, by simp [Value.ownBlock], fun k => by simp [Value.ownBlock]⟩, fun k hk z => ?_, bstep b1 ba⟩
      have := (H.own h1 k hk).2
      omega)
    obtain ⟨c, hc⟩ : ∃ c, c = w1.heap.size := ⟨_, rfl⟩
    rw [← hc] at HP
    clear h1 b1
    go_wp2_with fail
    rw [← hc]
    clear hc
    go_loopw [20] (fun iv wr => ∃ (k : Nat), iv = .int .i64 k ∧ k ≤ l.length ∧ Hid (Pair SH w wr q c (fillT (l.take k)) (fillT (l.take k)))) (fun iv _ => l.length - (intOf iv).toNat)
    case atStart => exact ⟨0, rfl, Nat.zero_le _, HP⟩
    case round =>
      clear HP
      obtain ⟨k, rfl, hk, HP⟩ := hrel
      by_cases hlt : k < l.length
      · obtain ⟨ba, bo, rfl, s6⟩ := unhide HSl k hlt
        have s7 : Six wr ba (bo + k * 6) (rc l k) := by
          obtain ⟨_, _, _, _, _, hb⟩ := unhide HP
          exact s6.below hb s6.lt
        have hsm := unhide HM k hlt
        have hok := fillT_ok (l.take k)
        have hft := fillT_take hlt
        obtain ⟨s', hs'⟩ : ∃ s', s' = fillT (l.take (k + 1)) := ⟨_, rfl⟩
        rw [← hs'] at hft
        have HS' := hide hs'
        clear hs'
        generalize fillT (l.take k) = s at *
        generalize rc l k = r at *
        obtain ⟨_, x0, x1, x2, x3, x4, x5⟩ := s7
        have B0 := hide ((unhide HP).box H r)
        have P1 := hide ((unhide B0).ctries H hok r hsm)
        clear s6 HP
        go_wp2_with fail
        refine (unhide P1).mono ?_
        rintro e w2 ⟨rfl, p2⟩
        have B2 := hide (p2.next H (Below.refl _ _).drew)
        have P2 := hide ((unhide B2).tries H HY hok r hsm)
        obtain ⟨_, y0, y1, y2, y3, y4, y5, _⟩ := p2.rb
        clear P1 p2 B0 x0 x1 x2 x3 x4 x5
        go_wp2_with fail
        go_region_held3 (fun w' => w'.cell? ⟨wr.heap.size, 0, none⟩ = some (.int .i64 r.k) ∧ w'.cell? ⟨wr.heap.size, 1, none⟩ = some (.int .i64 r.q) ∧ w'.cell? ⟨wr.heap.size, 2, none⟩ = some (.int .i64 r.t) ∧ w'.cell? ⟨wr.heap.size, 3, none⟩ = some (.string r.s) ∧ w'.cell? ⟨wr.heap.size, 4, none⟩ = some (.string r.h) ∧ w'.cell? ⟨wr.heap.size, 5, none⟩ = some (.string r.d)) (first | (refine ⟨?_, ?_, ?_, ?_, ?_, ?_⟩ <;> assumption) | go_keep)
          (first
            | (go_at_call 26; refine (unhide P2).mono ?_; rintro e w3 ⟨rfl, p3⟩; have P3 := hide (p3.apply H hok r hsm); obtain ⟨_, u0, u1, u2, u3, u4, u5, _⟩ := p3.rb; clear p3)
            | (go_at_call 27; refine (unhide P3).mono ?_; rintro e w4 ⟨rfl, p4⟩; have P4 := hide (p4.capply H hok r hsm); obtain ⟨_, v0, v1, v2, v3, v4, v5, _⟩ := p4.rb; clear p4)
            | (go_at_call 28; refine (unhide P4).mono ?_; rintro e w5 ⟨rfl, p5⟩; obtain ⟨_, t0, t1, t2, t3, t4, t5, _⟩ := p5.rb))
        have B5 : Hid (Pair SH w w5 q c s' s') := hide (by rw [hft]; exact p5.pair)
        clear p5 P2 P3 P4 B2 y0 y1 y2 y3 y4 y5 u0 u1 u2 u3 u4 u5 v0 v1 v2 v3 v4 v5 t0 t1 t2 t3 t4 t5 hft
        go_wp2_with fail
        refine ⟨⟨k + 1, by go_num, by omega, by rw [← unhide HS']; exact B5⟩, ?_⟩
        simp [intOf]; omega
      · obtain rfl : k = l.length := by omega
        have P : Hid (Calls Tryz.prog 29 #[.pointer (some ⟨q, 0, none⟩), .pointer (some ⟨c, 0, none⟩), .string f, .int .i64 n] wr fun e w' => e = .returned (.bool true) ∧ Below w.heap.size w w') := hide (by
          obtain ⟨F, G, h1, h2, h3, h4⟩ := unhide HP
          refine (same_store H HT HY f n hf h1 h2 (fillT_ok _) h4.size).mono ?_
          rintro e w' ⟨he, hb⟩
          exact ⟨he, bstep h4 hb⟩)
        clear HP
        go_wp2_with fail
        refine (unhide P).mono ?_
        rintro e w6 ⟨rfl, b6⟩
        go_wp2_with fail
        go_ret
        exact ⟨rfl, b6⟩
end Go.Proofs.YtcdajajekmichabGreatDoor.Dk
