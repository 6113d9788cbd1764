/-
  The law PullsCount: a queue gives as many as were asked for.
-/
import Derived.Test.YtbflhmkapfodiaaPapPuc
import Derived.Test.YtbflhmkapfodiaaWalkPu6
namespace Go.Proofs.Ytbflhmkapfodiaa.Dk
open Go.RowKit

/-- the queue is there -/
def HasQ (B q : Nat) (l : List Pul) (w : World) : Prop := ∃ v, KeepU w B q v l
theorem hasq {B q : Nat} {l l' : List Pul} {w : World} {f : Nat} {args : Array Value} {r : Ending} (h : HasQ B q l w) (c : ∀ v, KeepU w B q v l → Calls Try.prog f args w fun e w' => e = r ∧ UpdU w w' B q v l') :
    Calls Try.prog f args w fun e w' => e = r ∧ HasQ B q l' w' ∧ Below B w w' := by
  obtain ⟨v, h⟩ := h
  refine (c v h).mono ?_
  rintro e w' ⟨h1, v', h2, h3, _⟩
  refine ⟨h1, ⟨v', h2⟩, h3.below (by have := h.base; have := h.lt; omega) (fun k hk z => ?_)⟩
  rcases z with z | z
  · have := h.base; omega
  · have := (h.arr.lt k z).1; omega
set_option maxHeartbeats 1000000 in
theorem full_any {B q : Nat} {l : List Pul} {w : World} (h : HasQ B q l w) (ho : QOk l) (hn : NoEnd l) (now e : Int) (ht : tmB now = true) :
    Calls Try.prog 14 #[.pointer (some ⟨q, 0, none⟩), .int .i64 now, .int .i64 e] w fun r w' => r = .returned (.bool ((e == 8) && ((l.length : Int) == 10))) ∧ HasQ B q l w' ∧ Below B w w' := by
  have P := hide (hasq h (fun v hk => waits_any hk ho.few now))
  have HV : Hid (watN now l = (l.length : Int) ∧ atL now l = l) := hide ⟨by unfold watN; rw [if_pos ht, hn.keep], by unfold atL; rw [if_pos ht, hn.keep]⟩
  rw [(unhide HV).1, (unhide HV).2] at P
  obtain ⟨N, hN⟩ : ∃ N, l.length = N := ⟨_, rfl⟩
  rw [hN] at P
  rw [hN]
  clear h ho hn ht HV hN
  cases g0 : (e == 8) with
  | true =>
    go_enter Try.func14, Try.ntmps14
    go_wp2_with fail
    refine (unhide P).mono ?_
    rintro e w1 ⟨rfl, h1, b1⟩
    have H1 := hide (And.intro h1 b1)
    clear h1 b1
    go_wp2_with fail
    go_ret
    exact ⟨by simp, unhide H1⟩
  | false =>
    go_enter Try.func14, Try.ntmps14
    go_wp2_with fail
    refine (unhide P).mono ?_
    rintro e w1 ⟨rfl, h1, b1⟩
    have H1 := hide (And.intro h1 b1)
    clear h1 b1
    go_wp2_with fail
    go_ret
    exact ⟨by simp, unhide H1⟩
def Ints (w : World) (a : Option Addr) (n : Nat) (C : Nat → Int) : Prop := ∀ i, i < n → ∃ b o, a = some ⟨b, o, none⟩ ∧ b < w.heap.size ∧ w.cell? ⟨b, o + i, none⟩ = some (.int .i64 (C i))
theorem ask_yes {now b : Int} {nb : Bool} {l : List Pul} (ht : tmB now = true) (hb : 1 ≤ b ∧ b ≤ 50) (hn : NoEnd l) (hl : l.length < 10) : askE now ⟨b, 0, nb⟩ l = 0 ∧ askL now ⟨b, 0, nb⟩ l = l ++ [⟨b, 0, nb⟩] := by
  have hp : pulB ⟨b, 0, nb⟩ = true := by unfold pulB; simp [hb.1, hb.2, tmB]
  have hc : tmB now = true ∧ pulB ⟨b, 0, nb⟩ = true := ⟨ht, hp⟩
  unfold askE askL
  rw [if_pos hc, if_pos hc, hn.keep, if_neg (by omega), if_neg (by omega)]
  exact ⟨rfl, rfl⟩
theorem ask_full {now b : Int} {nb : Bool} {l : List Pul} (ht : tmB now = true) (hb : 1 ≤ b ∧ b ≤ 50) (hn : NoEnd l) (hl : 10 ≤ l.length) : askE now ⟨b, 0, nb⟩ l = 8 ∧ askL now ⟨b, 0, nb⟩ l = l := by
  have hp : pulB ⟨b, 0, nb⟩ = true := by unfold pulB; simp [hb.1, hb.2, tmB]
  have hc : tmB now = true ∧ pulB ⟨b, 0, nb⟩ = true := ⟨ht, hp⟩
  unfold askE askL
  rw [if_pos hc, if_pos hc, hn.keep, if_pos hl, if_pos hl]
  exact ⟨rfl, rfl⟩
theorem ask_not {now b : Int} {nb : Bool} {l : List Pul} (hb : ¬ (1 ≤ b ∧ b ≤ 50)) : askE now ⟨b, 0, nb⟩ l = 1 ∧ askL now ⟨b, 0, nb⟩ l = l := by
  have hp : pulB ⟨b, 0, nb⟩ = false := by
    unfold pulB
    by_cases h : 1 ≤ b
    · rw [decide_eq_false (show ¬ b ≤ 50 by omega)]; simp
    · rw [decide_eq_false h]; simp
  unfold askE askL
  rw [if_neg (by simp [hp]), if_neg (by simp [hp])]
  exact ⟨rfl, rfl⟩
theorem take_yes {now : Int} {l : List Pul} (ht : tmB now = true) (hn : NoEnd l) (hl : 0 < l.length) : takB now l = true ∧ atE now = 0 ∧ takL now l = servP l := by
  unfold takB takL atE
  rw [ht, hn.keep, decide_eq_true hl]
  exact ⟨rfl, rfl, rfl⟩
theorem take_not {now : Int} (ht : tmB now = true) : takB now [] = false ∧ atE now = 0 ∧ takL now [] = [] := by
  unfold takB takL atE
  rw [ht]
  exact ⟨rfl, rfl, rfl⟩
set_option maxHeartbeats 8000000 in
set_option maxRecDepth 100000 in
theorem pcount_any (a : Option Addr) (n cap : Nat) (C : Nat → Int) (now : Int) (w : World) (hp : Ints w a n C) :
    Calls Try.prog 4 #[.slice a n cap, .int .i64 now] w fun e w' => e = .returned (.bool true) ∧ Below w.heap.size w w' := by
  have Hp := hide hp
  clear hp
  have P1 : Hid (∀ W, HasQ w.heap.size w.heap.size [] W → Calls Try.prog 6 #[.pointer (some ⟨w.heap.size, 0, none⟩), .int .i64 1, pulV ⟨2, 5, false⟩] W fun e w' => e = .returned (.int .i64 0) ∧ HasQ w.heap.size w.heap.size [⟨2, 5, false⟩] w' ∧ Below w.heap.size W w') := hide (fun W h => hasq h (fun v hk => ask_any hk (by simp) 1 ⟨2, 5, false⟩))
  have P2 : Hid (∀ W, HasQ w.heap.size w.heap.size [⟨2, 5, false⟩] W → Calls Try.prog 8 #[.pointer (some ⟨w.heap.size, 0, none⟩), .int .i64 4] W fun e w' => e = .returned (.tuple #[.bool true, .int .i64 0]) ∧ HasQ w.heap.size w.heap.size [⟨1, 5, false⟩] w' ∧ Below w.heap.size W w') := hide (fun W h => hasq h (fun v hk => take_any hk ⟨by simp, fun p hp => by simp at hp; subst hp; exact ⟨by decide, by decide⟩⟩ 4))
  have P3 : Hid (∀ W, HasQ w.heap.size w.heap.size [⟨1, 5, false⟩] W → Calls Try.prog 12 #[.pointer (some ⟨w.heap.size, 0, none⟩), .int .i64 5] W fun e w' => e = .returned (.tuple #[.int .i64 0, .int .i64 0]) ∧ HasQ w.heap.size w.heap.size [] w' ∧ Below w.heap.size W w') := hide (fun W h => hasq h (fun v hk => waits_any hk (by simp) 5))
  have P0 := hide (qnew_any w)
  go_enter Try.func4, Try.ntmps4
  go_wp2_with fail
  refine (unhide P0).mono ?_
  rintro e w1 ⟨rfl, k1, z1, b1⟩
  have H1 := hide (show HasQ w.heap.size w.heap.size [] w1 from ⟨_, k1⟩)
  have B1 := hide b1
  clear k1 z1 b1 P0
  go_wp2_with fail
  refine (unhide P1 _ (unhide H1)).mono ?_
  rintro e w2 ⟨rfl, h2, b2⟩
  have H2 := hide h2
  have B2 := hide ((unhide B1).trans b2)
  clear h2 b2 P1 B1 H1
  go_wp2_with fail
  refine (unhide P2 _ (unhide H2)).mono ?_
  rintro e w3 ⟨rfl, h3, b3⟩
  have H3 := hide h3
  have B3 := hide ((unhide B2).trans b3)
  clear h3 b3 P2 B2 H2
  go_wp2_with fail
  refine (unhide P3 _ (unhide H3)).mono ?_
  rintro e w4 ⟨rfl, h4, b4⟩
  have H4 := hide h4
  have B4 := hide ((unhide B3).trans b4)
  clear h4 b4 P3 B3 H3
  by_cases hi : (0 ≤ now ∧ now ≤ 1099511627776) ∧ n ≤ 20
  · have ht : tmB now = true := by unfold tmB; rw [decide_eq_true hi.1.1, decide_eq_true hi.1.2]; rfl
    have HT := hide ht
    obtain ⟨⟨i1, i2⟩, i3⟩ := hi
    have g1 : decide (now < (0 : Int)) = false := decide_eq_false (by omega)
    have g2 : decide ((1099511627776 : Int) < now) = false := decide_eq_false (by omega)
    have g3 : decide ((20 : Int) < (n : Int)) = false := decide_eq_false (by omega)
    clear ht
    go_wp2_with fail
    go_loopw [10, 57] (fun sv kv wr => ∃ (k : Nat) (l : List Pul), sv = .int .i64 (sumB l) ∧ kv = .int .i64 k ∧ k ≤ n ∧ Hid (HasQ w.heap.size w.heap.size l wr) ∧ Hid (QOk l ∧ NoEnd l) ∧ Hid (Below w.heap.size w wr)) (fun _ kv _ => n - (intOf kv).toNat)
    case atStart => exact ⟨0, [], rfl, rfl, Nat.zero_le _, H4, hide ⟨QOk.nil, fun p hp => by simp at hp⟩, B4⟩
    case round =>
      obtain ⟨k, l, rfl, rfl, hk, HW, GW, BW⟩ := hrel
      have hsum := sumB_in l (unhide GW).1.one
      have hfew := (unhide GW).1.few
      by_cases hlt : k < n
      · obtain ⟨b, o, rfl, hb, c0⟩ := unhide Hp k hlt
        have e0 := ((unhide BW).cell (p := ⟨b, o + k, none⟩) hb).trans c0
        generalize C k = x at e0
        clear c0
        by_cases hx : 1 ≤ x ∧ x ≤ 50
        · have d1 : decide ((1 : Int) ≤ x) = true := decide_eq_true hx.1
          have d2 : decide (x ≤ (50 : Int)) = true := decide_eq_true hx.2
          by_cases hl : l.length < 10
          · have PX : Hid (∀ nb, Calls Try.prog 6 #[.pointer (some ⟨w.heap.size, 0, none⟩), .int .i64 now, .agg #[.int .i64 x, .int .i64 0, .bool nb]] wr fun e w' => e = .returned (.int .i64 0) ∧ HasQ w.heap.size w.heap.size (l ++ [⟨x, 0, nb⟩]) w' ∧ Below w.heap.size wr w') := hide (fun nb => hasq (unhide HW) (fun v hk => by
              have := ask_any hk hfew now ⟨x, 0, nb⟩
              rw [(ask_yes (unhide HT) hx (unhide GW).2 hl).1, (ask_yes (unhide HT) hx (unhide GW).2 hl).2] at this
              exact this))
            have d3 : decide (sumB l < (500 : Int)) = true := decide_eq_true (by omega)
            have GN : Hid (∀ nb, QOk (l ++ [⟨x, 0, nb⟩]) ∧ NoEnd (l ++ [⟨x, 0, nb⟩])) := hide (fun nb => by
              refine ⟨⟨by simp; omega, fun p hp => ?_⟩, fun p hp => ?_⟩
              · rcases List.mem_append.1 hp with z | z
                · exact (unhide GW).1.one p z
                · rw [List.mem_singleton] at z; subst z; exact hx
              · rcases List.mem_append.1 hp with z | z
                · exact (unhide GW).2 p z
                · rw [List.mem_singleton] at z; subst z; rfl)
            have HSu : Hid (∀ nb, sumB (l ++ [⟨x, 0, nb⟩]) = sumB l + x) := hide (fun nb => by rw [sumB_append]; simp [sumB])
            have hxs : 0 ≤ sumB l + x ∧ sumB l + x ≤ 1000 := by omega
            clear hx hl
            go_wp2_with fail
            refine (unhide PX _).mono ?_
            rintro e w5 ⟨rfl, h5, b5⟩
            have N5 : Hid (∃ l1, HasQ w.heap.size w.heap.size l1 w5 ∧ QOk l1 ∧ NoEnd l1 ∧ sumB l1 = sumB l + x) := hide ⟨_, h5, (unhide GN _).1, (unhide GN _).2, unhide HSu _⟩
            obtain ⟨l1, h6, q6, n6, s6⟩ := unhide N5
            have PF := hide (full_any h6 q6 n6 now 0 (unhide HT))
            rw [show ((0 : Int) == 8) = false from rfl, Bool.false_and] at PF
            have G6 := hide (And.intro q6 n6)
            have S6 := hide s6
            have B5 := hide ((unhide BW).trans b5)
            clear h5 b5 h6 q6 n6 s6 N5 PX GN HSu
            go_wp2_with fail
            refine (unhide PF).mono ?_
            rintro e w7 ⟨rfl, h7, b7⟩
            have H7 := hide h7
            have B7 := hide ((unhide B5).trans b7)
            clear h7 b7 PF
            go_wp2_with fail
            refine ⟨⟨k + 1, l1, by rw [unhide S6], by go_num, by omega, H7, G6, B7⟩, ?_⟩
            simp [intOf]; omega
          · have hl2 : 10 ≤ l.length := by omega
            have PX : Hid (∀ nb, Calls Try.prog 6 #[.pointer (some ⟨w.heap.size, 0, none⟩), .int .i64 now, .agg #[.int .i64 x, .int .i64 0, .bool nb]] wr fun e w' => e = .returned (.int .i64 8) ∧ HasQ w.heap.size w.heap.size l w' ∧ Below w.heap.size wr w') := hide (fun nb => hasq (unhide HW) (fun v hk => by
              have := ask_any hk hfew now ⟨x, 0, nb⟩
              rw [(ask_full (unhide HT) hx (unhide GW).2 hl2).1, (ask_full (unhide HT) hx (unhide GW).2 hl2).2] at this
              exact this))
            have PF : Hid (∀ W, HasQ w.heap.size w.heap.size l W → Calls Try.prog 14 #[.pointer (some ⟨w.heap.size, 0, none⟩), .int .i64 now, .int .i64 8] W fun r w' => r = .returned (.bool true) ∧ HasQ w.heap.size w.heap.size l w' ∧ Below w.heap.size W w') := hide (fun W h => by
              have := full_any h (unhide GW).1 (unhide GW).2 now 8 (unhide HT)
              rw [show ((8 : Int) == 8) = true from rfl, Bool.true_and, show ((l.length : Int) == 10) = true by simp; omega] at this
              exact this)
            by_cases hs : sumB l < 500
            · have d3 : decide (sumB l < (500 : Int)) = true := decide_eq_true hs
              clear hx hl hl2 hs
              go_wp2_with fail
              refine (unhide PX _).mono ?_
              rintro e w5 ⟨rfl, h5, b5⟩
              have PF5 := hide (unhide PF _ h5)
              have B5 := hide ((unhide BW).trans b5)
              clear h5 b5 PX PF
              go_wp2_with fail
              refine (unhide PF5).mono ?_
              rintro e w7 ⟨rfl, h7, b7⟩
              have H7 := hide h7
              have B7 := hide ((unhide B5).trans b7)
              clear h7 b7 PF5
              go_wp2_with fail
              refine ⟨⟨k + 1, l, rfl, by go_num, by omega, H7, GW, B7⟩, ?_⟩
              simp [intOf]; omega
            · have d3 : decide (sumB l < (500 : Int)) = false := decide_eq_false hs
              clear hx hl hl2 hs PF
              go_wp2_with fail
              refine (unhide PX _).mono ?_
              rintro e w5 ⟨rfl, h5, b5⟩
              have H5 := hide h5
              have B5 := hide ((unhide BW).trans b5)
              clear h5 b5 PX
              go_wp2_with fail
              refine ⟨⟨k + 1, l, rfl, by go_num, by omega, H5, GW, B5⟩, ?_⟩
              simp [intOf]; omega
        · have PX : Hid (∀ nb, Calls Try.prog 6 #[.pointer (some ⟨w.heap.size, 0, none⟩), .int .i64 now, .agg #[.int .i64 x, .int .i64 0, .bool nb]] wr fun e w' => e = .returned (.int .i64 1) ∧ HasQ w.heap.size w.heap.size l w' ∧ Below w.heap.size wr w') := hide (fun nb => hasq (unhide HW) (fun v hk => by
              have := ask_any hk hfew now ⟨x, 0, nb⟩
              rw [(ask_not hx).1, (ask_not hx).2] at this
              exact this))
          by_cases h1 : 1 ≤ x
          · have d1 : decide ((1 : Int) ≤ x) = true := decide_eq_true h1
            have d2 : decide (x ≤ (50 : Int)) = false := decide_eq_false (by omega)
            clear hx h1
            go_wp2_with fail
            refine (unhide PX _).mono ?_
            rintro e w5 ⟨rfl, h5, b5⟩
            have H5 := hide h5
            have B5 := hide ((unhide BW).trans b5)
            clear h5 b5 PX
            go_wp2_with fail
            refine ⟨⟨k + 1, l, rfl, by go_num, by omega, H5, GW, B5⟩, ?_⟩
            simp [intOf]; omega
          · have d1 : decide ((1 : Int) ≤ x) = false := decide_eq_false h1
            clear hx h1
            go_wp2_with fail
            refine (unhide PX _).mono ?_
            rintro e w5 ⟨rfl, h5, b5⟩
            have H5 := hide h5
            have B5 := hide ((unhide BW).trans b5)
            clear h5 b5 PX
            go_wp2_with fail
            refine ⟨⟨k + 1, l, rfl, by go_num, by omega, H5, GW, B5⟩, ?_⟩
            simp [intOf]; omega
      · obtain rfl : k = n := by omega
        obtain ⟨Z, hZ⟩ : ∃ Z, sumB l = Z := ⟨_, rfl⟩
        have HZ := hide hZ
        rw [hZ] at hsum
        rw [hZ]
        have hZ5 : Z ≤ 500 := by omega
        clear hZ hlt hsum
        obtain ⟨W0, hW0⟩ : ∃ W0, W0 = wr := ⟨_, rfl⟩
        subst hW0
        go_wp2_with fail
        go_loopw [14, 96] (fun nv kv wr => ∃ (j : Nat) (l2 : List Pul), nv = .int .i64 j ∧ kv = .int .i64 j ∧ j ≤ 600 ∧ (j : Int) + sumB l2 = Z ∧ 0 ≤ sumB l2 ∧ Hid (HasQ w.heap.size w.heap.size l2 wr) ∧ Hid (QOk l2 ∧ NoEnd l2) ∧ Hid (Below w.heap.size w wr)) (fun _ kv _ => 600 - (intOf kv).toNat)
        case atStart => exact ⟨0, l, rfl, rfl, by omega, by rw [unhide HZ]; simp, (by have := sumB_in l (unhide GW).1.one; omega), HW, GW, BW⟩
        case round =>
          obtain ⟨j, l2, rfl, rfl, hj, hjs, hs0, HW2, GW2, BW2⟩ := hrel
          have hj6 : j < 600 := by omega
          cases l2 with
          | nil =>
            have PX : Hid (Calls Try.prog 8 #[.pointer (some ⟨w.heap.size, 0, none⟩), .int .i64 now] wr fun e w' => e = .returned (.tuple #[.bool false, .int .i64 0]) ∧ HasQ w.heap.size w.heap.size [] w' ∧ Below w.heap.size wr w') := hide (hasq (unhide HW2) (fun v hk => by
              have := take_any hk QOk.nil now
              rw [(take_not (unhide HT)).1, (take_not (unhide HT)).2.1, (take_not (unhide HT)).2.2] at this
              exact this))
            have hjz : (j : Int) = Z := by simpa [sumB] using hjs
            clear hjs hs0
            subst hjz
            go_wp2_with fail
            refine (unhide PX).mono ?_
            rintro e w5 ⟨rfl, h5, b5⟩
            have B5 := hide ((unhide BW2).trans b5)
            clear h5 b5 PX
            go_wp2_with fail
            go_ret
            exact ⟨by simp, unhide B5⟩
          | cons p r =>
            have PX : Hid (Calls Try.prog 8 #[.pointer (some ⟨w.heap.size, 0, none⟩), .int .i64 now] wr fun e w' => e = .returned (.tuple #[.bool true, .int .i64 0]) ∧ HasQ w.heap.size w.heap.size (servP (p :: r)) w' ∧ Below w.heap.size wr w') := hide (hasq (unhide HW2) (fun v hk => by
              have := take_any hk (unhide GW2).1 now
              have hy := take_yes (unhide HT) (unhide GW2).2 (show 0 < (p :: r).length by simp)
              rw [hy.1, hy.2.1, hy.2.2] at this
              exact this))
            have hsv := sumB_serv (show 0 < (p :: r).length by simp)
            have G5 := hide (And.intro (unhide GW2).1.serv (unhide GW2).2.serv)
            have hs1 := (sumB_in _ (unhide G5).1.one).1
            obtain ⟨l3, hl3⟩ : ∃ l3, servP (p :: r) = l3 := ⟨_, rfl⟩
            rw [hl3] at PX hsv G5 hs1
            obtain ⟨Y, hY⟩ : ∃ Y, sumB (p :: r) = Y := ⟨_, rfl⟩
            rw [hY] at hsv hjs hs0
            have HSV := hide hsv
            have hj3 : (j : Int) + 1 + sumB l3 = Z := by omega
            have hs3 : 0 ≤ sumB l3 := by omega
            clear hl3 hY hsv hjs hs0 hs1 HSV
            go_wp2_with fail
            refine (unhide PX).mono ?_
            rintro e w5 ⟨rfl, h5, b5⟩
            have H5 := hide h5
            have B5 := hide ((unhide BW2).trans b5)
            clear h5 b5 PX
            go_wp2_with fail
            refine ⟨⟨j + 1, l3, by go_num, by go_num, by omega, by omega, hs3, H5, G5, B5⟩, ?_⟩
            simp [intOf]; omega
  · by_cases h1 : now < 0
    · have g1 : decide (now < (0 : Int)) = true := decide_eq_true h1
      go_wp2_with fail
      go_ret
      exact ⟨rfl, unhide B4⟩
    · have g1 : decide (now < (0 : Int)) = false := decide_eq_false h1
      by_cases h2 : 1099511627776 < now
      · have g2 : decide ((1099511627776 : Int) < now) = true := decide_eq_true h2
        go_wp2_with fail
        go_ret
        exact ⟨rfl, unhide B4⟩
      · have g2 : decide ((1099511627776 : Int) < now) = false := decide_eq_false h2
        have g3 : decide ((20 : Int) < (n : Int)) = true := decide_eq_true (by omega)
        clear hi
        go_wp2_with fail
        go_ret
        exact ⟨rfl, unhide B4⟩
end Go.Proofs.Ytbflhmkapfodiaa.Dk
