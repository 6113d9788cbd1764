/-
  The law PullsPlay: two queues side by side do alike, wish by wish.
-/
import Derived.Test.YtbflhmkapfodiaaWalkPu9
import Derived.Deep.RegionHeld3
namespace Go.Proofs.Ytbflhmkapfodiaa.Dk
open Go.RowKit

structure St2 (w : World) (B bc q : Nat) (v : Value) (lq : List Pul) (x : Nat) (a : Option Addr) (cap : Nat) (lr : List Pul) : Prop where
  k : KeepU w B q v lq
  r : RwU w B x a cap lr
  ne : ∀ k, footU q v k → ¬ ftR x a k
  bq : ¬ footU q v bc
  br : ¬ ftR x a bc
  lt : bc < w.heap.size
def NowQ (B bc q x : Nat) (lq lr : List Pul) (w : World) : Prop := ∃ v a cap, St2 w B bc q v lq x a cap lr
def GoneQ (B bc : Nat) (w w' : World) : Prop := Below B w w' ∧ w'.heap[bc]? = w.heap[bc]?
theorem GoneQ.cell {B bc : Nat} {w w' : World} (h : GoneQ B bc w w') (j : Nat) : w'.cell? ⟨bc, j, none⟩ = w.cell? ⟨bc, j, none⟩ := World.cell?_of_block (w := w) h.2
theorem KeepU.foot_lt {w : World} {B p : Nat} {v : Value} {l : List Pul} (h : KeepU w B p v l) {k : Nat} (hk : footU p v k) : B ≤ k ∧ k < w.heap.size := by
  rcases hk with q | q
  · subst q; exact ⟨h.base, h.lt⟩
  · exact h.arr.lt k q
theorem RwU.foot_lt {w : World} {B p : Nat} {a : Option Addr} {cap : Nat} {l : List Pul} (h : RwU w B p a cap l) {k : Nat} (hk : ftR p a k) : B ≤ k ∧ k < w.heap.size := by
  rcases hk with q | ⟨z, hz, q⟩
  · subst q; exact ⟨h.base, h.lt⟩
  · subst q; exact (h.own z hz).2
theorem St2.updq {w w' : World} {B bc q x : Nat} {v : Value} {a : Option Addr} {cap : Nat} {lq lr l' : List Pul} (h : St2 w B bc q v lq x a cap lr) (u : UpdU w w' B q v l') : NowQ B bc q x l' lr w' ∧ GoneQ B bc w w' := by
  obtain ⟨v', h1, h2, h3⟩ := u
  have hB : B ≤ w.heap.size := by have := h.k.base; have := h.k.lt; omega
  have f' : ∀ k, footU q v' k → footU q v k ∨ w.heap.size ≤ k := by
    intro k hk
    rcases hk with z | z
    · exact .inl (.inl z)
    · rcases h3 k z with y | y
      · exact .inl (.inr y)
      · exact .inr y
  refine ⟨⟨v', a, cap, h1, h.r.chg h2 (fun k e f => h.ne k f e), fun k e f => ?_, fun e => ?_, h.br, Nat.lt_of_lt_of_le h.lt h2.size⟩, h2.below hB (fun k hk e => by have := (h.k.foot_lt e).1; omega), h2.block bc h.lt h.bq⟩
  · rcases f' k e with z | z
    · exact h.ne k z f
    · have := (h.r.foot_lt f).2; omega
  · rcases f' bc e with z | z
    · exact h.bq z
    · have := h.lt; omega
theorem St2.updr {w w' : World} {B bc q x : Nat} {v : Value} {a : Option Addr} {cap : Nat} {lq lr l' : List Pul} (h : St2 w B bc q v lq x a cap lr) (u : UpdR w w' B x a l') : NowQ B bc q x lq l' w' ∧ GoneQ B bc w w' := by
  obtain ⟨a', cap', h1, h2, h3⟩ := u
  have hB : B ≤ w.heap.size := by have := h.k.base; have := h.k.lt; omega
  have f' : ∀ k, ftR x a' k → ftR x a k ∨ w.heap.size ≤ k := by
    intro k hk
    rcases hk with z | ⟨y, hy, z⟩
    · exact .inl (.inl z)
    · rcases h3 y hy with e | e
      · exact .inl (.inr ⟨y, e, z⟩)
      · exact .inr (by omega)
  refine ⟨⟨v, a', cap', h.k.chg h2 (fun k e f => h.ne k e (.inl f)), h1, fun k e f => ?_, h.bq, fun e => ?_, Nat.lt_of_lt_of_le h.lt h2.size⟩, h2.below hB (fun k hk e => by have := h.r.base; omega), h2.block bc h.lt (fun e => h.br (.inl e))⟩
  · rcases f' k f with z | z
    · exact h.ne k e z
    · have := (h.k.foot_lt e).2; omega
  · rcases f' bc e with z | z
    · exact h.br z
    · have := h.lt; omega
theorem nowq {B bc q x : Nat} {lq lr l' : List Pul} {w : World} {f : Nat} {args : Array Value} {r : Ending} (h : NowQ B bc q x lq lr w) (c : ∀ v, KeepU w B q v lq → Calls Try.prog f args w fun e w' => e = r ∧ UpdU w w' B q v l') :
    Calls Try.prog f args w fun e w' => e = r ∧ NowQ B bc q x l' lr w' ∧ GoneQ B bc w w' := by
  obtain ⟨v, a, cap, h⟩ := h
  refine (c v h.k).mono ?_
  rintro e w' ⟨h1, h2⟩
  exact ⟨h1, h.updq h2⟩
theorem nowr {B bc q x : Nat} {lq lr l' : List Pul} {w : World} {f : Nat} {args : Array Value} {r : Ending} (h : NowQ B bc q x lq lr w) (c : ∀ a cap, RwU w B x a cap lr → Calls Try.prog f args w fun e w' => e = r ∧ UpdR w w' B x a l') :
    Calls Try.prog f args w fun e w' => e = r ∧ NowQ B bc q x lq l' w' ∧ GoneQ B bc w w' := by
  obtain ⟨v, a, cap, h⟩ := h
  refine (c a cap h.r).mono ?_
  rintro e w' ⟨h1, h2⟩
  exact ⟨h1, h.updr h2⟩
theorem NowQ.drew {B bc q x : Nat} {lq lr : List Pul} {w : World} (h : NowQ B bc q x lq lr w) : NowQ B bc q x lq lr w.drew := by
  obtain ⟨v, a, cap, h⟩ := h
  exact ⟨v, a, cap, h.k.below (Below.refl _ _).drew, h.r.below (Below.refl _ _).drew, h.ne, h.bq, h.br, h.lt⟩
def TwoQ (B q x : Nat) (lq lr : List Pul) (w : World) : Prop := ∃ v a cap, KeepU w B q v lq ∧ RwU w B x a cap lr ∧ ∀ k, footU q v k → ¬ ftR x a k
theorem NowQ.two {B bc q x : Nat} {lq lr : List Pul} {w : World} (h : NowQ B bc q x lq lr w) : TwoQ B q x lq lr w := by
  obtain ⟨v, a, cap, h⟩ := h
  exact ⟨v, a, cap, h.k, h.r, h.ne⟩
theorem TwoQ.now {B bd q x : Nat} {lq lr : List Pul} {w w' : World} (h : TwoQ B q x lq lr w) (hb : Below w.heap.size w w') (h1 : w.heap.size ≤ bd) (h2 : bd < w'.heap.size) : NowQ B bd q x lq lr w' := by
  obtain ⟨v, a, cap, k, r, ne⟩ := h
  exact ⟨v, a, cap, k.below hb, r.below hb, ne, fun e => by have := (k.foot_lt e).2; omega, fun e => by have := (r.foot_lt e).2; omega, h2⟩
theorem twoq_new (w w1 : World) (t : TypeId) (h1 : KeepU w1 w.heap.size w.heap.size (.slice none 0 0) []) (h2 : w1.heap.size = w.heap.size + 1) : TwoQ w.heap.size w.heap.size (w.heap.size + 1) [] [] (w1.alloc (.cells #[.slice none 0 0] t)) := by
  refine ⟨.slice none 0 0, none, 0, h1.below ((Below.refl _ _).alloc (Nat.le_refl _) _), ⟨?_, ?_, by omega, by simp; omega, fun k hk => absurd hk (Nat.not_lt_zero k), fun z hz => by cases hz⟩, fun k e f => ?_⟩
  · rw [← h2]; simp
  · rw [← h2]; simp [World.frozen?_alloc_new]
  · rcases e with e | e
    · rcases f with f | ⟨z, hz, _⟩
      · omega
      · cases hz
    · cases e
/-- a wish -/
structure Wsh where
  kd : Int
  now : Int
  p : Pul
abbrev wshO (c : Wsh) : Obj := .cells #[.int .i64 c.kd, .int .i64 c.now, .int .i64 c.p.b, .int .i64 c.p.t, .bool c.p.nw] 32
def Wishes (w : World) (a : Option Addr) (n : Nat) (C : Nat → Wsh) : Prop := ∀ i, i < n → ∃ b o, a = some ⟨b, o, none⟩ ∧ b < w.heap.size ∧ w.cell? ⟨b, o + i * 5, none⟩ = some (.int .i64 (C i).kd) ∧ w.cell? ⟨b, o + i * 5 + 1, none⟩ = some (.int .i64 (C i).now) ∧ w.cell? ⟨b, o + i * 5 + 2, none⟩ = some (.int .i64 (C i).p.b) ∧ w.cell? ⟨b, o + i * 5 + 3, none⟩ = some (.int .i64 (C i).p.t) ∧ w.cell? ⟨b, o + i * 5 + 4, none⟩ = some (.bool (C i).p.nw)
theorem wsh_new (w : World) (c : Wsh) : let W := w.alloc (wshO c)
    W.cell? ⟨w.heap.size, 0, none⟩ = some (.int .i64 c.kd) ∧ W.cell? ⟨w.heap.size, 1, none⟩ = some (.int .i64 c.now) ∧ W.cell? ⟨w.heap.size, 2, none⟩ = some (.int .i64 c.p.b) ∧ W.cell? ⟨w.heap.size, 3, none⟩ = some (.int .i64 c.p.t) ∧ W.cell? ⟨w.heap.size, 4, none⟩ = some (.bool c.p.nw) := by
  refine ⟨?_, ?_, ?_, ?_, ?_⟩ <;> (rw [cell_of_row _ w.heap.size _ _ _ _ (heap_alloc_new w _)]; rfl)
set_option maxHeartbeats 8000000 in
set_option maxRecDepth 100000 in
theorem pplays_any (a : Option Addr) (n cap : Nat) (C : Nat → Wsh) (w : World) (hp : Wishes w a n C) :
    Calls Try.prog 3 #[.slice a n cap] w fun e w' => e = .returned (.bool true) ∧ Below w.heap.size w w' := by
  have Hp := hide hp
  clear hp
  by_cases hn : 100 < n
  · go_enter Try.func3, Try.ntmps3
    go_wp2_with fail
    go_ret
    exact ⟨rfl, Below.refl _ _⟩
  · have hn1 : ¬ (100 : Int) < (n : Int) := by omega
    go_enter Try.func3, Try.ntmps3
    go_wp2_with fail
    refine (qnew_any _).mono ?_
    rintro e w1 ⟨rfl, k1, z1, b1⟩
    have T1 := hide (twoq_new w w1 28 k1 z1)
    have B1 := hide (bstep b1 ((Below.refl _ _).alloc (Nat.le_refl _) (.cells #[.slice none 0 0] 28)))
    clear k1 b1
    go_wp2_with fail
    clear z1
    go_loopw [28] (fun kv wr => ∃ (k : Nat) (l : List Pul), kv = .int .i64 k ∧ k ≤ n ∧ Hid (TwoQ w.heap.size w.heap.size (w.heap.size + 1) l l wr) ∧ Hid (QOk l) ∧ Hid (Below w.heap.size w wr)) (fun kv _ => n - (intOf kv).toNat)
    case atStart => exact ⟨0, [], rfl, Nat.zero_le _, T1, hide QOk.nil, B1⟩
    case round =>
      obtain ⟨k, l, rfl, hk, T2, G2, B2⟩ := hrel
      by_cases hlt : k < n
      · obtain ⟨b, o, rfl, hb, c0, c1, c2, c3, c4⟩ := unhide Hp k hlt
        generalize C k = c at c0 c1 c2 c3 c4
        obtain ⟨kd, now, x⟩ := c
        simp only at c0 c1 c2 c3 c4
        have e0 := ((unhide B2).cell (p := ⟨b, o + k * 5, none⟩) hb).trans c0
        have e1 := ((unhide B2).cell (p := ⟨b, o + k * 5 + 1, none⟩) hb).trans c1
        have e2 := ((unhide B2).cell (p := ⟨b, o + k * 5 + 2, none⟩) hb).trans c2
        have e3 := ((unhide B2).cell (p := ⟨b, o + k * 5 + 3, none⟩) hb).trans c3
        have e4 := ((unhide B2).cell (p := ⟨b, o + k * 5 + 4, none⟩) hb).trans c4
        clear c0 c1 c2 c3 c4
        have hb0 : Below wr.heap.size wr (wr.alloc (wshO ⟨kd, now, x⟩)) := (Below.refl _ _).alloc (Nat.le_refl _) _
        have N0 := hide ((unhide T2).now hb0 (Nat.le_refl _) (by simp))
        have B0 := hide (bstep (unhide B2) hb0)
        have hlq := (unhide G2).few
        have DC : Hid (∀ (W : World) (j : Nat), W.drew.cell? ⟨wr.heap.size, j, none⟩ = W.cell? ⟨wr.heap.size, j, none⟩) := hide (fun _ _ => rfl)
        obtain ⟨s0, s1, s2, s3, s4⟩ := wsh_new wr ⟨kd, now, x⟩
        clear hb0 s0 DC
        simp only at s1 s2 s3 s4
        by_cases q0 : kd = 0
        · subst q0
          have N1 := hide (unhide N0).drew
          have r1 : (wr.alloc (wshO ⟨0, now, x⟩)).drew.cell? ⟨wr.heap.size, 1, none⟩ = some (.int .i64 now) := s1
          have r2 : (wr.alloc (wshO ⟨0, now, x⟩)).drew.cell? ⟨wr.heap.size, 2, none⟩ = some (.int .i64 x.b) := s2
          have r3 : (wr.alloc (wshO ⟨0, now, x⟩)).drew.cell? ⟨wr.heap.size, 3, none⟩ = some (.int .i64 x.t) := s3
          have r4 : (wr.alloc (wshO ⟨0, now, x⟩)).drew.cell? ⟨wr.heap.size, 4, none⟩ = some (.bool x.nw) := s4
          obtain ⟨l1, he1⟩ : ∃ l1, askL now x l = l1 := ⟨_, rfl⟩
          have G9 := hide ((unhide G2).ask now x)
          have PX := hide (nowq (unhide N1) (fun v hk => ask_any hk hlq now x))
          have PY : Hid (∀ W1, NowQ w.heap.size wr.heap.size w.heap.size (w.heap.size + 1) l1 l W1 → _) := hide (fun W1 hN => nowr hN (fun a cap hk => rask_any hk hlq now x))
          rw [he1] at PX PY G9
          clear he1 N1 s1 s2 s3 s4
          go_wp2_with fail
          go_region_held3 (fun w' => w'.cell? ⟨wr.heap.size, 1, none⟩ = some (.int .i64 now) ∧ w'.cell? ⟨wr.heap.size, 2, none⟩ = some (.int .i64 x.b) ∧ w'.cell? ⟨wr.heap.size, 3, none⟩ = some (.int .i64 x.t) ∧ w'.cell? ⟨wr.heap.size, 4, none⟩ = some (.bool x.nw)) (first | (refine ⟨?_, ?_, ?_, ?_⟩ <;> assumption) | go_keep)
            (first
              | (go_at_call 6; refine (unhide PX).mono ?_; rintro e w3 ⟨rfl, N3, g3⟩; have t1 := (g3.cell 1).trans r1; have t2 := (g3.cell 2).trans r2; have t3 := (g3.cell 3).trans r3; have t4 := (g3.cell 4).trans r4)
              | (go_at_call 7; refine (unhide PY _ N3).mono ?_; rintro e w9 ⟨rfl, N9, g9⟩; have u1 := (g9.cell 1).trans t1; have u2 := (g9.cell 2).trans t2; have u3 := (g9.cell 3).trans t3; have u4 := (g9.cell 4).trans t4))
          have B9 := hide (((unhide B0).trans ((Below.refl _ _).drew)).trans (g3.1.trans g9.1))
          have T9 := hide N9.two
          clear g3 g9 t1 t2 t3 t4 u1 u2 u3 u4 r1 r2 r3 r4 N3 N9
          go_wp2_with fail
          exact ⟨⟨k + 1, l1, by go_num, by omega, T9, G9, B9⟩, by simp [intOf]; omega⟩
        · by_cases q1 : kd = 1
          · subst q1
            obtain ⟨l1, he1⟩ : ∃ l1, takL now l = l1 := ⟨_, rfl⟩
            have G9 := hide ((unhide G2).take now)
            have PX := hide (nowq (unhide N0) (fun v hk => take_any hk (unhide G2) now))
            have PY : Hid (∀ W1, NowQ w.heap.size wr.heap.size w.heap.size (w.heap.size + 1) l1 l W1 → _) := hide (fun W1 hN => nowr hN (fun a cap hk => rtake_any hk (unhide G2) now))
            rw [he1] at PX PY G9
            clear he1 s2 s3 s4
            go_wp2_with fail
            refine (unhide PX).mono ?_
            rintro e w3 ⟨rfl, N3, g3⟩
            have t1 := (g3.cell 1).trans s1
            go_wp2_with fail
            refine (unhide PY _ N3).mono ?_
            rintro e w9 ⟨rfl, N9, g9⟩
            have B9 := hide ((unhide B0).trans (g3.1.trans g9.1))
            have T9 := hide N9.two
            clear g3 g9 t1 s1 N3 N9 PX PY
            go_wp2_with fail
            exact ⟨⟨k + 1, l1, by go_num, by omega, T9, G9, B9⟩, by simp [intOf]; omega⟩
          · by_cases q2 : kd = 2
            · subst q2
              obtain ⟨l1, he1⟩ : ∃ l1, idlL now l = l1 := ⟨_, rfl⟩
              have G9 := hide ((unhide G2).idle now)
              have PX := hide (nowq (unhide N0) (fun v hk => idle_any hk hlq now))
              have PY : Hid (∀ W1, NowQ w.heap.size wr.heap.size w.heap.size (w.heap.size + 1) l1 l W1 → _) := hide (fun W1 hN => nowr hN (fun a cap hk => ridle_any hk hlq now))
              rw [he1] at PX PY G9
              clear he1 s2 s3 s4
              go_wp2_with fail
              refine (unhide PX).mono ?_
              rintro e w3 ⟨rfl, N3, g3⟩
              have t1 := (g3.cell 1).trans s1
              go_wp2_with fail
              refine (unhide PY _ N3).mono ?_
              rintro e w9 ⟨rfl, N9, g9⟩
              have B9 := hide ((unhide B0).trans (g3.1.trans g9.1))
              have T9 := hide N9.two
              clear g3 g9 t1 s1 N3 N9 PX PY
              go_wp2_with fail
              exact ⟨⟨k + 1, l1, by go_num, by omega, T9, G9, B9⟩, by simp [intOf]; omega⟩
            · by_cases q3 : kd = 3
              · subst q3
                obtain ⟨l1, he1⟩ : ∃ l1, atL now l = l1 := ⟨_, rfl⟩
                have G9 := hide ((unhide G2).at now)
                have PX := hide (nowq (unhide N0) (fun v hk => waits_any hk hlq now))
                have PY : Hid (∀ W1, NowQ w.heap.size wr.heap.size w.heap.size (w.heap.size + 1) l1 l W1 → _) := hide (fun W1 hN => nowr hN (fun a cap hk => rwaits_any hk hlq now))
                rw [he1] at PX PY G9
                clear he1 s2 s3 s4
                go_wp2_with fail
                refine (unhide PX).mono ?_
                rintro e w3 ⟨rfl, N3, g3⟩
                have t1 := (g3.cell 1).trans s1
                go_wp2_with fail
                refine (unhide PY _ N3).mono ?_
                rintro e w9 ⟨rfl, N9, g9⟩
                have B9 := hide ((unhide B0).trans (g3.1.trans g9.1))
                have T9 := hide N9.two
                clear g3 g9 t1 s1 N3 N9 PX PY
                go_wp2_with fail
                exact ⟨⟨k + 1, l1, by go_num, by omega, T9, G9, B9⟩, by simp [intOf]; omega⟩
              · have f0 : (kd == 0) = false := by rw [beq_eq_false_iff_ne]; exact q0
                have f1 : (kd == 1) = false := by rw [beq_eq_false_iff_ne]; exact q1
                have f2 : (kd == 2) = false := by rw [beq_eq_false_iff_ne]; exact q2
                have f3 : (kd == 3) = false := by rw [beq_eq_false_iff_ne]; exact q3
                have T9 := hide (unhide N0).two
                clear q0 q1 q2 q3 s1 s2 s3 s4
                go_wp2_with fail
                exact ⟨⟨k + 1, l, by go_num, by omega, T9, G2, B0⟩, by simp [intOf]; omega⟩
      · obtain rfl : k = n := by omega
        go_wp2_with fail
        go_ret
        exact ⟨rfl, unhide B2⟩
end Go.Proofs.Ytbflhmkapfodiaa.Dk
