/-
  Contracts of the landed package taker: isWithin, isStartRight, areWaitsRight, isAckRight, Check, Wait.
  Contracts of the landed package taker: isAckRight, Check.
-/
import Derived.Test.YtcbfmjjodfnacaaDoorRowQa
import Derived.Test.YtcbfmjjodfnacaaDoorPapQa
import Derived.Test.YtcbfmjjodfnacaaDoorWalkY1
import Derived.Test.YtcbfmjjodfnacaaDoorWalk2
namespace Go.Proofs.YtcbfmjjodfnacaaDoor
open Go.RowKit

set_option maxHeartbeats 400000 in
theorem within_any (n lo hi : Int) (w : World) :
    Calls Tryd.prog 43 #[.int .i64 n, .int .i64 lo, .int .i64 hi] w fun e w' => e = .returned (.bool (Tk.inB n lo hi)) ∧ w' = w := by
  unfold Tk.inB
  by_cases h1 : lo ≤ n
  · have e1 : decide (lo ≤ n) = true := decide_eq_true h1
    rw [e1, Bool.true_and]
    clear h1
    go_enter Tryd.func43, Tryd.ntmps43
    go_wp2
    go_ret
    exact ⟨rfl, rfl⟩
  · have e1 : decide (lo ≤ n) = false := decide_eq_false h1
    rw [e1, Bool.false_and]
    clear h1
    go_enter Tryd.func43, Tryd.ntmps43
    go_wp2
    go_ret
    exact ⟨rfl, rfl⟩
section
variable {t : Tk.Tkr} {a : Option Addr} {c : Nat} {w : World}
theorem tkb0 : Below w.heap.size w (w.alloc (tkO t a c)) := (Below.refl _ _).alloc (Nat.le_refl _) _
set_option maxHeartbeats 1000000 in
theorem start_any (t : Tk.Tkr) (a : Option Addr) (c : Nat) (w : World) :
    Calls Tryd.prog 23 #[tkV t a c] w fun e w' => e = .returned (.bool (Tk.startB t)) ∧ Below w.heap.size w w' := by
  have B0 := hide (tkb0 (t := t) (a := a) (c := c) (w := w))
  obtain ⟨_, c0, c1, c2, c3, c4, c5, c6, c7, c8, c9⟩ := TB.new w t a c
  unfold Tk.startB
  by_cases h3 : t.fr = 3
  · rw [if_pos h3]
    have e3 : (t.fr == 3) = true := by simpa using h3
    obtain ⟨R, hR⟩ : ∃ R, Tk.inB t.st 1 999999999 = R := ⟨_, rfl⟩
    have HR := hide hR
    rw [hR]
    clear h3 hR
    go_enter Tryd.func23, Tryd.ntmps23
    go_wp2_with (go_at_call 43; refine (within_any _ _ _ _).mono ?_; rintro e w2 ⟨rfl, rfl⟩; rw [unhide HR])
    go_ret
    exact ⟨rfl, unhide B0⟩
  · rw [if_neg h3]
    have e3 : (t.fr == 3) = false := by simpa using h3
    cases hR : Tk.inB t.fr 0 2 with
    | false =>
      have HR := hide hR
      rw [Bool.false_and]
      clear h3 hR
      go_enter Tryd.func23, Tryd.ntmps23
      go_wp2_with (go_at_call 43; refine (within_any _ _ _ _).mono ?_; rintro e w2 ⟨rfl, rfl⟩; rw [unhide HR])
      go_ret
      exact ⟨rfl, unhide B0⟩
    | true =>
      have HR := hide hR
      rw [Bool.true_and]
      clear h3 hR
      go_enter Tryd.func23, Tryd.ntmps23
      go_wp2_with (go_at_call 43; refine (within_any _ _ _ _).mono ?_; rintro e w2 ⟨rfl, rfl⟩; rw [unhide HR])
      go_ret
      refine ⟨?_, unhide B0⟩
      first | rfl | simp [beq_eq_decide]
set_option maxHeartbeats 1000000 in
theorem waits_any (t : Tk.Tkr) (a : Option Addr) (c : Nat) (w : World) (hsl : Dk.SlI w a t.bo) (hl : t.bo.length ≤ 140737488355328) :
    Calls Tryd.prog 44 #[tkV t a c] w fun e w' => e = .returned (.bool (Tk.waitsB t)) ∧ Below w.heap.size w w' := by
  have B0 := hide (tkb0 (t := t) (a := a) (c := c) (w := w))
  have HS := hide (nums_on hsl (unhide B0))
  have HT := hide (TB.new w t a c)
  obtain ⟨_, c0, c1, c2, c3, c4, c5, c6, c7, c8, c9⟩ := TB.new w t a c
  clear hsl
  obtain ⟨b, hb⟩ : ∃ b, b = w.heap.size := ⟨_, rfl⟩
  obtain ⟨W, hW⟩ : ∃ W, W = w.alloc (tkO t a c) := ⟨_, rfl⟩
  go_enter Tryd.func44, Tryd.ntmps44
  go_wp2_with fail
  rw [← hb, ← hW] at HT
  rw [← hW] at HS B0
  rw [← hb, ← hW]
  clear hb hW c0 c1 c2 c3 c4 c5 c6 c7 c8 c9
  go_loop [8] (fun iv => ∃ i : Nat, iv = .int .i64 i ∧ i ≤ t.bo.length ∧ Hid (∀ k, k < i → Tk.inB (Dk.nth t.bo k) 1 100000 = true)) (fun iv => t.bo.length - (intOf iv).toNat)
  case atStart => exact ⟨0, rfl, Nat.zero_le _, hide (fun k hk => absurd hk (Nat.not_lt_zero k))⟩
  case round =>
    obtain ⟨i, rfl, hi, hq⟩ := hrel
    by_cases hlt : i < t.bo.length
    · obtain ⟨g, o, rfl, _, e1⟩ := unhide HS i hlt
      have hm : Dk.nth t.bo i ∈ t.bo := by unfold Dk.nth; rw [List.getElem?_eq_getElem hlt]; exact List.getElem_mem hlt
      have HM := hide hm
      obtain ⟨x, hx⟩ : ∃ x, x = Dk.nth t.bo i := ⟨_, rfl⟩
      rw [← hx] at e1 HM
      have HX := hide hx
      clear hx hm
      cases hR : Tk.inB x 1 100000 with
      | false =>
        have HR := hide hR
        have HE : Hid (Tk.waitsB t = false) := hide (by
          unfold Tk.waitsB
          have : t.bo.all (fun n => Tk.inB n 1 100000) = false := by
            rw [List.all_eq_false]
            exact ⟨x, unhide HM, by rw [hR]; decide⟩
          rw [this]; rfl)
        clear hR
        go_wp2_with (go_at_call 43; refine (within_any _ _ _ _).mono ?_; rintro e w2 ⟨rfl, rfl⟩; rw [unhide HR])
        go_ret
        exact ⟨by rw [unhide HE]; rfl, unhide B0⟩
      | true =>
        have HR := hide hR
        clear hR
        go_wp2_with (go_at_call 43; refine (within_any _ _ _ _).mono ?_; rintro e w2 ⟨rfl, rfl⟩; rw [unhide HR])
        go_round
        case rel => exact ⟨i + 1, by go_num, by omega, hide (fun k hk => by
          rcases Nat.lt_succ_iff_lt_or_eq.1 hk with q | q
          · exact unhide hq k q
          · rw [q, ← unhide HX]; exact unhide HR)⟩
        case measure => simp [intOf]; omega
    · obtain rfl : i = t.bo.length := by omega
      have HE : Hid (Tk.waitsB t = Tk.inB t.wait 1 100000) := hide (by
        unfold Tk.waitsB
        have : t.bo.all (fun n => Tk.inB n 1 100000) = true := by
          rw [List.all_eq_true]
          intro x hx
          obtain ⟨k, hk, rfl⟩ := List.mem_iff_getElem.1 hx
          have := unhide hq k hk
          unfold Dk.nth at this
          rw [List.getElem?_eq_getElem hk] at this
          exact this
        rw [this]; rfl)
      obtain ⟨R, hR⟩ : ∃ R, Tk.inB t.wait 1 100000 = R := ⟨_, rfl⟩
      have HR := hide hR
      rw [hR] at HE
      have c5 := (unhide HT).c5
      have hbl := (unhide HT).lt
      clear hR hq HS HT
      go_wp2_with (go_at_call 43; refine (within_any _ _ _ _).mono ?_; rintro e w2 ⟨rfl, rfl⟩; rw [unhide HR])
      go_ret
      exact ⟨by rw [unhide HE]; rfl, unhide B0⟩
end
end Go.Proofs.YtcbfmjjodfnacaaDoor

namespace Go.Proofs.YtcbfmjjodfnacaaDoor
open Go.RowKit

set_option maxRecDepth 100000 in
set_option maxHeartbeats 2000000 in
theorem ack_any (t : Tk.Tkr) (a : Option Addr) (c : Nat) (w : World) (hsl : Dk.SlI w a t.bo) (hl : t.bo.length ≤ 140737488355328) :
    Calls Tryd.prog 24 #[tkV t a c] w fun e w' => e = .returned (.bool (Tk.ackB t)) ∧ Below w.heap.size w w' := by
  have B0 := hide (tkb0 (t := t) (a := a) (c := c) (w := w))
  have HT := hide (TB.new w t a c)
  obtain ⟨_, c0, c1, c2, c3, c4, c5, c6, c7, c8, c9⟩ := TB.new w t a c
  unfold Tk.ackB
  by_cases h0 : t.ack = 0
  · rw [if_pos h0]
    have e0 : (t.ack == 0) = true := by simpa using h0
    clear h0 hsl
    by_cases w0 : t.wait = 0
    · rw [decide_eq_true w0]
      have e5 : (t.wait == 0) = true := by simpa using w0
      clear w0
      by_cases m0 : t.mo = 0
      · rw [decide_eq_true m0]
        have e7 : (t.mo == 0) = true := by simpa using m0
        clear m0
        by_cases p0 : t.pe = 0
        · rw [decide_eq_true p0]
          have e8 : (t.pe == 0) = true := by simpa using p0
          clear p0
          by_cases l0 : t.bo.length = 0
          · rw [decide_eq_true l0]
            have e6 : ((t.bo.length : Int) == 0) = true := by rw [beq_iff_eq]; omega
            clear l0
            go_enter Tryd.func24, Tryd.ntmps24
            go_wp2_with fail
            go_ret
            refine ⟨?_, unhide B0⟩
            first | rfl | simp
          · rw [decide_eq_false l0]
            have e6 : ((t.bo.length : Int) == 0) = false := by rw [beq_eq_false_iff_ne]; omega
            clear l0
            go_enter Tryd.func24, Tryd.ntmps24
            go_wp2_with fail
            go_ret
            refine ⟨?_, unhide B0⟩
            first | rfl | simp
        · rw [decide_eq_false p0]
          have e8 : (t.pe == 0) = false := by simpa using p0
          clear p0
          go_enter Tryd.func24, Tryd.ntmps24
          go_wp2_with fail
          go_ret
          refine ⟨?_, unhide B0⟩
          first | rfl | simp
      · rw [decide_eq_false m0]
        have e7 : (t.mo == 0) = false := by simpa using m0
        clear m0
        go_enter Tryd.func24, Tryd.ntmps24
        go_wp2_with fail
        go_ret
        refine ⟨?_, unhide B0⟩
        first | rfl | simp
    · rw [decide_eq_false w0]
      have e5 : (t.wait == 0) = false := by simpa using w0
      clear w0
      go_enter Tryd.func24, Tryd.ntmps24
      go_wp2_with fail
      go_ret
      refine ⟨?_, unhide B0⟩
      first | rfl | simp
  · rw [if_neg h0]
    have e0 : (t.ack == 0) = false := by simpa using h0
    by_cases h1 : t.ack = 1 ∨ t.ack = 2
    · rw [if_pos h1]
      have PW := hide (waits_any t a c (w.alloc (tkO t a c)) (nums_on hsl (unhide B0)) hl)
      obtain ⟨A, hA⟩ : ∃ A, Tk.waitsB t = A := ⟨_, rfl⟩
      rw [hA] at PW ⊢
      obtain ⟨M, hM⟩ : ∃ M, Tk.inB t.mo 0 20 = M := ⟨_, rfl⟩
      obtain ⟨Q, hQ⟩ : ∃ Q, Tk.inB t.pe 0 50 = Q := ⟨_, rfl⟩
      have HM := hide hM
      have HQ := hide hQ
      rw [hM, hQ]
      have HC := hide (fun (W : World) (hW : Below (w.alloc (tkO t a c)).heap.size (w.alloc (tkO t a c)) W) => show W.cell? ⟨w.heap.size, 7, none⟩ = some (.int .i64 t.mo) ∧ W.cell? ⟨w.heap.size, 8, none⟩ = some (.int .i64 t.pe) ∧ w.heap.size < W.heap.size ∧ Below w.heap.size w W from ⟨((unhide HT).next hW).c7, ((unhide HT).next hW).c8, ((unhide HT).next hW).lt, bstep (unhide B0) hW⟩)
      have e1 : (t.ack == 1) = true ∨ ((t.ack == 1) = false ∧ (t.ack == 2) = true) := by
        rcases h1 with h | h
        · exact .inl (by simpa using h)
        · exact .inr ⟨by rw [h]; decide, by simpa using h⟩
      clear h0 h1 hA hM hQ hsl
      go_enter Tryd.func24, Tryd.ntmps24
      rcases e1 with e1 | ⟨e1, e2⟩
      · go_wp2_with fail
        refine (unhide PW).mono ?_
        rintro e w1 ⟨rfl, b1⟩
        obtain ⟨d7, d8, hbl, be⟩ := unhide HC w1 b1
        have BE := hide be
        clear PW b1 be HC
        cases A with
        | false =>
          go_wp2_with fail
          go_ret
          refine ⟨?_, unhide BE⟩
          first | rfl | simp
        | true =>
          cases M with
          | false =>
            go_wp2_with (go_at_call 43; refine (within_any _ _ _ _).mono ?_; rintro e w2 ⟨rfl, rfl⟩; first | rw [unhide HM] | rw [unhide HQ])
            go_ret
            refine ⟨?_, unhide BE⟩
            first | rfl | simp
          | true =>
            go_wp2_with (go_at_call 43; refine (within_any _ _ _ _).mono ?_; rintro e w2 ⟨rfl, rfl⟩; first | rw [unhide HM] | rw [unhide HQ])
            go_ret
            refine ⟨?_, unhide BE⟩
            first | rfl | simp
      · go_wp2_with fail
        refine (unhide PW).mono ?_
        rintro e w1 ⟨rfl, b1⟩
        obtain ⟨d7, d8, hbl, be⟩ := unhide HC w1 b1
        have BE := hide be
        clear PW b1 be HC
        cases A with
        | false =>
          go_wp2_with fail
          go_ret
          refine ⟨?_, unhide BE⟩
          first | rfl | simp
        | true =>
          cases M with
          | false =>
            go_wp2_with (go_at_call 43; refine (within_any _ _ _ _).mono ?_; rintro e w2 ⟨rfl, rfl⟩; first | rw [unhide HM] | rw [unhide HQ])
            go_ret
            refine ⟨?_, unhide BE⟩
            first | rfl | simp
          | true =>
            go_wp2_with (go_at_call 43; refine (within_any _ _ _ _).mono ?_; rintro e w2 ⟨rfl, rfl⟩; first | rw [unhide HM] | rw [unhide HQ])
            go_ret
            refine ⟨?_, unhide BE⟩
            first | rfl | simp
    · rw [if_neg h1]
      have e1 : (t.ack == 1) = false := by rw [beq_eq_false_iff_ne]; exact fun z => h1 (.inl z)
      have e2 : (t.ack == 2) = false := by rw [beq_eq_false_iff_ne]; exact fun z => h1 (.inr z)
      clear h0 h1 hsl
      go_enter Tryd.func24, Tryd.ntmps24
      go_wp2_with fail
      go_ret
      exact ⟨rfl, unhide B0⟩

set_option maxRecDepth 100000 in
set_option maxHeartbeats 2000000 in
theorem tcheck_any (t : Tk.Tkr) (a : Option Addr) (c : Nat) (w : World) (hs : SmallQ t) (hsl : Dk.SlI w a t.bo) :
    Calls Tryd.prog 9 #[tkV t a c] w fun e w' => e = .returned (.int .i64 (Tk.takE t)) ∧ Below w.heap.size w w' := by
  have b0 := tkb0 (t := t) (a := a) (c := c) (w := w)
  have PN := hide (isName_any t.n (w.alloc (tkO t a c)) hs.name)
  have PF := hide (fun W => filter_any t.f W hs.filt)
  have HW := hide (fun (W : World) (hW : Below (w.alloc (tkO t a c)).heap.size (w.alloc (tkO t a c)) W) => show TB W w.heap.size t a c ∧ Dk.SlI W a t.bo ∧ Below w.heap.size w W from ⟨(TB.new w t a c).next hW, nums_on (nums_on hsl b0) hW, bstep b0 hW⟩)
  have hl := hs.many
  obtain ⟨_, c0, c1, c2, c3, c4, c5, c6, c7, c8, c9⟩ := TB.new w t a c
  have HE0 : Hid (Pn.namedB t.n = false → Tk.takE t = 3) := hide (fun h => by unfold Tk.takE; rw [if_pos h])
  have HE1 : Hid (Pn.namedB t.n = true → Tk.takE t = if errS true t.f ≠ 0 then errS true t.f else if 5 < t.bo.length then 2 else if (Tk.startB t && Tk.ackB t) = true then 0 else 1) := hide (fun h => by unfold Tk.takE; rw [if_neg (by rw [h]; simp)])
  obtain ⟨N, hN⟩ : ∃ N, Pn.namedB t.n = N := ⟨_, rfl⟩
  rw [hN] at PN HE0 HE1
  obtain ⟨E, hE⟩ : ∃ E, errS true t.f = E := ⟨_, rfl⟩
  rw [hE] at PF HE1
  obtain ⟨R, hR⟩ : ∃ R, Tk.takE t = R := ⟨_, rfl⟩
  rw [hR] at HE0 HE1 ⊢
  have PS := hide (fun (W : World) => start_any t a c W)
  have PA := hide (fun (W : World) (h : Dk.SlI W a t.bo) => ack_any t a c W h hl)
  obtain ⟨SB, hSB⟩ : ∃ SB, Tk.startB t = SB := ⟨_, rfl⟩
  obtain ⟨AB, hAB⟩ : ∃ AB, Tk.ackB t = AB := ⟨_, rfl⟩
  rw [hSB] at PS HE1
  rw [hAB] at PA HE1
  clear hN hE hR hSB hAB hs hsl b0
  go_enter Tryd.func9, Tryd.ntmps9
  go_wp2_with fail
  refine (unhide PN).mono ?_
  rintro e w0 ⟨rfl, hw0⟩
  rw [hw0]
  clear hw0 PN
  cases N with
  | false =>
    obtain rfl : R = 3 := unhide HE0 rfl
    have BE := hide (unhide HW _ (Below.refl _ _)).2.2
    clear HE0 HE1 HW
    go_wp2_with fail
    go_ret
    exact ⟨rfl, unhide BE⟩
  | true =>
    have HR := hide (unhide HE1 rfl)
    clear HE0 HE1
    have PF1 := hide (unhide PF (w.alloc (tkO t a c)))
    clear PF
    go_wp2_with fail
    refine (unhide PF1).mono ?_
    rintro e w1 ⟨rfl, b1⟩
    obtain ⟨tb, hs1, be⟩ := unhide HW w1 b1
    have BE := hide be
    have B1 := hide b1
    have PS1 := hide (unhide PS w1)
    clear PF1 b1 be PS c0 c1 c2 c3 c4 c5 c6 c7 c8 c9
    obtain ⟨hbl, c0, c1, c2, c3, c4, c5, c6, c7, c8, c9⟩ := tb
    by_cases hE0 : E = 0
    · subst hE0
      by_cases h5 : 5 < t.bo.length
      · have hd : (5 : Int) < (t.bo.length : Int) := by omega
        obtain rfl : R = 2 := by rw [unhide HR, if_neg (by simp), if_pos h5]
        clear HR h5 PS1 PA HW
        go_wp2_with fail
        go_ret
        exact ⟨rfl, unhide BE⟩
      · have hd : decide ((5 : Int) < (t.bo.length : Int)) = false := decide_eq_false (by omega)
        have HR2 := hide (show R = if (SB && AB) = true then 0 else 1 from by rw [unhide HR, if_neg (by simp), if_neg h5])
        clear HR h5
        go_wp2_with fail
        refine (unhide PS1).mono ?_
        rintro e w2 ⟨rfl, b2⟩
        have B2 := hide (bstep (unhide B1) b2)
        obtain ⟨tb, hs2, be⟩ := unhide HW w2 (unhide B2)
        have BE2 := hide be
        have PA2 := hide (unhide PA w2 hs2)
        clear PS1 b2 be PA c0 c1 c2 c3 c4 c5 c6 c7 c8 c9 hbl hs2
        obtain ⟨hbl, c0, c1, c2, c3, c4, c5, c6, c7, c8, c9⟩ := tb
        cases SB with
        | false =>
          obtain rfl : R = 1 := by rw [unhide HR2]; rfl
          clear HR2 PA2 HW
          go_wp2_with fail
          go_ret
          exact ⟨rfl, unhide BE2⟩
        | true =>
          go_wp2_with fail
          refine (unhide PA2).mono ?_
          rintro e w3 ⟨rfl, b3⟩
          obtain ⟨_, _, be⟩ := unhide HW w3 (bstep (unhide B2) b3)
          have BE3 := hide be
          clear PA2 b3 be c0 c1 c2 c3 c4 c5 c6 c7 c8 c9 hbl HW
          cases AB with
          | false =>
            obtain rfl : R = 1 := by rw [unhide HR2]; rfl
            clear HR2
            go_wp2_with fail
            go_ret
            exact ⟨rfl, unhide BE3⟩
          | true =>
            obtain rfl : R = 0 := by rw [unhide HR2]; rfl
            clear HR2
            go_wp2_with fail
            go_ret
            exact ⟨rfl, unhide BE3⟩
    · have e5 : (E != 0) = true := by simpa using hE0
      obtain rfl : R = E := by rw [unhide HR, if_pos hE0]
      clear HR hE0 PS1 PA HW
      go_wp2_with fail
      go_ret
      exact ⟨rfl, unhide BE⟩
end Go.Proofs.YtcbfmjjodfnacaaDoor
