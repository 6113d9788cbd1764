/-
  The document's queue: Row.Waits, Take, Idle, Ask.
-/
import Derived.Test.YtbflhmkapfodiaaWalkPu6
import Derived.Test.YtbflhmkapfodiaaWalkPu7
namespace Go.Proofs.Ytbflhmkapfodiaa.Dk
open Go.RowKit Go.Deep

section
variable {w : World} {B p : Nat} {a : Option Addr} {cap : Nat} {l : List Pul}
theorem RwU.room (h : RwU w B p a cap l) : B ≤ w.heap.size := by have := h.base; have := h.lt; omega
set_option maxHeartbeats 1000000 in
theorem rwaits_any (h : RwU w B p a cap l) (hl : l.length ≤ 10) (now : Int) :
    Calls Try.prog 13 #[.pointer (some ⟨p, 0, none⟩), .int .i64 now] w fun e w' => e = .returned (.tuple #[.int .i64 (watN now l), .int .i64 (atE now)]) ∧ UpdR w w' B p a (atL now l) := by
  have HA := hide (rat_any h hl now)
  have HS := hide (UpdR.same h (Below.refl _ _))
  cases ht : tmB now with
  | true =>
    have HV : Hid (watN now l = ((keepP now l).length : Int) ∧ atE now = 0 ∧ atL now l = keepP now l) := hide ⟨by unfold watN; rw [if_pos ht], by unfold atE; rw [if_pos ht], by unfold atL; rw [if_pos ht]⟩
    rw [ht] at HA
    obtain ⟨e1, e2, e3⟩ := unhide HV
    rw [e1, e2, e3]
    clear h ht hl e1 e2 e3
    go_enter Try.func13, Try.ntmps13
    go_wp2_with fail
    refine (unhide HA).mono ?_
    rintro e w1 ⟨rfl, hU, _⟩
    have HU := hide ((hU trivial).upd a)
    obtain ⟨a1, cap1, k1, _, _, _⟩ := hU trivial
    have hc := k1.cell
    clear k1 hU
    go_wp2_with fail
    go_ret2
    exact ⟨rfl, unhide HU⟩
  | false =>
    have HV : Hid (watN now l = 0 ∧ atE now = 1 ∧ atL now l = l) := hide ⟨by unfold watN; rw [if_neg (by simp [ht])], by unfold atE; rw [if_neg (by simp [ht])], by unfold atL; rw [if_neg (by simp [ht])]⟩
    rw [ht] at HA
    obtain ⟨e1, e2, e3⟩ := unhide HV
    rw [e1, e2, e3]
    clear h ht hl e1 e2 e3
    go_enter Try.func13, Try.ntmps13
    go_wp2_with fail
    refine (unhide HA).mono ?_
    rintro e w1 ⟨rfl, _, hw⟩
    rw [hw trivial]
    clear hw
    go_wp2_with fail
    go_ret2
    exact ⟨rfl, unhide HS⟩
theorem stayP_step {m : List Pul} {k : Nat} (h : k < m.length) : stayP (m.take (k + 1)) = stayP (m.take k) ++ (if m[k].nw then [] else [m[k]]) := by
  unfold stayP
  rw [List.take_succ_eq_append_getElem h, List.filter_append]
  cases q : m[k].nw <;> simp [q]
set_option maxRecDepth 100000 in
set_option maxHeartbeats 2000000 in
theorem ridle_any (h : RwU w B p a cap l) (hl : l.length ≤ 10) (now : Int) :
    Calls Try.prog 11 #[.pointer (some ⟨p, 0, none⟩), .int .i64 now] w fun e w' => e = .returned (.tuple #[.int .i64 (idlN now l), .int .i64 (atE now)]) ∧ UpdR w w' B p a (idlL now l) := by
  have HA := hide (rat_any h hl now)
  have HS := hide (UpdR.same h (Below.refl _ _))
  cases ht : tmB now with
  | false =>
    have HV : Hid (idlN now l = 0 ∧ atE now = 1 ∧ idlL now l = l) := hide ⟨by unfold idlN; rw [if_neg (by simp [ht])], by unfold atE; rw [if_neg (by simp [ht])], by unfold idlL; rw [if_neg (by simp [ht])]⟩
    rw [ht] at HA
    obtain ⟨e1, e2, e3⟩ := unhide HV
    rw [e1, e2, e3]
    clear h ht hl e1 e2 e3
    go_enter Try.func11, Try.ntmps11
    go_wp2_with fail
    refine (unhide HA).mono ?_
    rintro e w1 ⟨rfl, _, hw⟩
    rw [hw trivial]
    clear hw
    go_wp2_with fail
    go_ret2
    exact ⟨rfl, unhide HS⟩
  | true =>
    have HV : Hid (idlN now l = ((keepP now l).length : Int) - ((stayP (keepP now l)).length : Int) ∧ atE now = 0 ∧ idlL now l = stayP (keepP now l)) := hide ⟨by unfold idlN; rw [if_pos ht], by unfold atE; rw [if_pos ht], by unfold idlL; rw [if_pos ht]⟩
    have hk : (keepP now l).length ≤ 10 := Nat.le_trans (List.length_filter_le _ _) hl
    rw [ht] at HA
    obtain ⟨e1, e2, e3⟩ := unhide HV
    rw [e1, e2, e3]
    obtain ⟨m, hm⟩ : ∃ m, keepP now l = m := ⟨_, rfl⟩
    rw [hm] at HA hk
    rw [hm]
    clear h ht hl e1 e2 e3 hm HV HS
    go_enter Try.func11, Try.ntmps11
    go_wp2_with fail
    refine (unhide HA).mono ?_
    rintro e w1 ⟨rfl, hU, _⟩
    obtain ⟨a1, cap1, h1, _, c1, z1⟩ := hU trivial
    have H := hide h1
    have HC := hide (And.intro c1 z1)
    have hc := h1.cell
    have hf := h1.free
    have hpl := h1.lt
    have HS := hide h1.sl
    obtain ⟨N, hN⟩ : ∃ N, m.length = N := ⟨_, rfl⟩
    have HN := hide hN
    rw [hN] at hc hk
    clear h1 hN hU c1 z1 HA
    go_wp2_with fail
    go_loopw [6, 7] (fun lv iv wr => ∃ i : Nat, iv = .int .i64 i ∧ i ≤ N ∧ Hid (ArrU wr w1.heap.size lv (stayP (m.take i))) ∧ Hid (Below w1.heap.size w1 wr)) (fun _ iv _ => N - (intOf iv).toNat)
    case atStart => exact ⟨0, rfl, Nat.zero_le _, hide (ArrT.empty _ _ _), hide (Below.refl _ _)⟩
    case round =>
      obtain ⟨i, rfl, hi, AW, BW⟩ := hrel
      have hc2 := ((unhide BW).cell (p := ⟨p, 0, none⟩) hpl).trans hc
      have hf2 := ((unhide BW).frozen (p := ⟨p, 0, none⟩) hpl).trans hf
      have hpl2 := Nat.lt_of_lt_of_le hpl (unhide BW).size
      by_cases hlt : i < N
      · have hil : i < m.length := by rw [unhide HN]; exact hlt
        obtain ⟨b, o, rfl, t⟩ := (unhide HS).below (unhide BW) i hil
        obtain ⟨hbl, d0, d1, d2⟩ := t
        have HP := hide (stayP_step hil)
        have hkl : (stayP (m.take i)).length ≤ 10 := Nat.le_trans (List.length_filter_le _ _) (by rw [List.length_take]; omega)
        obtain ⟨x, hx⟩ : ∃ x, m[i] = x := ⟨_, rfl⟩
        rw [hx] at d0 d1 d2 HP
        obtain ⟨out, hout⟩ : ∃ out, stayP (m.take i) = out := ⟨_, rfl⟩
        rw [hout] at HP AW hkl
        have HM := hide (left_more x w1.heap.size (unhide BW).size hkl (unhide AW) (unhide BW))
        clear hx hout hil
        obtain ⟨nw, hnw⟩ : ∃ nw, x.nw = nw := ⟨_, rfl⟩
        cases nw with
        | false =>
          obtain ⟨a', c', w8, hrun, A8, B8⟩ := unhide HM
          have HP2 : Hid (stayP (m.take (i + 1)) = out ++ [x]) := hide (by rw [unhide HP, hnw]; rfl)
          have H8 := hide (And.intro A8 B8)
          have HRun := hide hrun
          rw [hnw] at d2
          simp only [pulO, hnw] at HRun
          clear HM A8 B8 HP hrun hnw
          go_wp2_with (at_builtin; refine Lib.wpList_append_run _ rfl _ _ _ _ rfl _ _ rfl rfl _ _ (unhide HRun) ?_)
          refine ⟨⟨i + 1, by go_num, by omega, hide (by rw [unhide HP2]; exact (unhide H8).1), hide (unhide H8).2⟩, ?_⟩
          simp [intOf]; omega
        | true =>
          have HP2 : Hid (stayP (m.take (i + 1)) = out) := hide (by rw [unhide HP, hnw]; simp)
          rw [hnw] at d2
          clear HM HP hnw
          go_wp2_with fail
          refine ⟨⟨i + 1, by go_num, by omega, hide (by rw [unhide HP2]; exact unhide AW), BW⟩, ?_⟩
          simp [intOf]; omega
      · obtain rfl : i = N := by omega
        have HP : Hid (stayP (m.take i) = stayP m) := hide (by rw [← unhide HN, List.take_length])
        rw [unhide HP] at AW
        obtain ⟨la, lc, rfl, z1⟩ := ArrU.shape (unhide AW)
        clear z1
        have HR := hide (UpdR.behind (a := a) (unhide HC).1 (unhide HC).2 (((unhide H).store (unhide BW) (unhide AW)).upd a1))
        have hle : (stayP m).length ≤ i := by rw [← unhide HN]; exact List.length_filter_le _ _
        go_wp2_with fail
        go_ret2
        refine ⟨?_, unhide HR⟩
        rw [unhide HN]
        go_num
set_option maxRecDepth 100000 in
set_option maxHeartbeats 2000000 in
theorem rask_any (h : RwU w B p a cap l) (hl : l.length ≤ 10) (now : Int) (x : Pul) :
    Calls Try.prog 7 #[.pointer (some ⟨p, 0, none⟩), .int .i64 now, pulV x] w fun e w' => e = .returned (.int .i64 (askE now x l)) ∧ UpdR w w' B p a (askL now x l) := by
  have b0 : Below w.heap.size w (w.alloc (pulO x)) := (Below.refl _ _).alloc (Nat.le_refl _) _
  obtain ⟨n0, n1, n2⟩ := new_pul w x 30
  obtain ⟨w0, hw0⟩ : ∃ w0, w0 = w.alloc (pulO x) := ⟨_, rfl⟩
  rw [← hw0] at n0 n1 n2 b0
  have hw0l : w.heap.size < w0.heap.size := by rw [hw0]; simp
  have h0 := h.below b0
  have HS := hide (UpdR.same h b0)
  have HB := hide b0
  have HOW : Hid (p ≠ w.heap.size) := hide (by have := h.lt; omega)
  have HR := hide h.room
  have I1 := hide (rin_any x.b 1 50)
  have I2 := hide (rin_any x.t 0 1099511627776)
  rw [inB_tm] at I2
  have HA := hide (rat_any h0 hl now)
  have hpb : pulB x = (inB x.b 1 50 && tmB x.t) := rfl
  cases i1 : inB x.b 1 50 with
  | false =>
    have HE : Hid (askE now x l = 1 ∧ askL now x l = l) := hide (by rw [i1, Bool.false_and] at hpb; exact ⟨by unfold askE; rw [if_neg (by simp [hpb])], by unfold askL; rw [if_neg (by simp [hpb])]⟩)
    obtain ⟨e1, e2⟩ := unhide HE
    rw [e1, e2]
    rw [i1] at I1
    clear e1 e2 HE hpb i1 h h0
    go_enter Try.func7, Try.ntmps7
    go_wp2_with (go_at_call 18; rw [← hw0]; refine (unhide I1 _).mono ?_; rintro e w1 ⟨rfl, hw⟩; rw [hw]; clear hw hw0)
    go_ret
    exact ⟨rfl, unhide HS⟩
  | true =>
    rw [i1] at I1
    rw [i1, Bool.true_and] at hpb
    cases i2 : tmB x.t with
    | false =>
      have HE : Hid (askE now x l = 1 ∧ askL now x l = l) := hide (by rw [i2] at hpb; exact ⟨by unfold askE; rw [if_neg (by simp [hpb])], by unfold askL; rw [if_neg (by simp [hpb])]⟩)
      obtain ⟨e1, e2⟩ := unhide HE
      rw [e1, e2]
      rw [i2] at I2
      clear e1 e2 HE hpb i1 i2 h h0
      go_enter Try.func7, Try.ntmps7
      go_wp2_with fail
      rw [← hw0]
      clear hw0
      refine (unhide I1 _).mono ?_
      rintro e w1 ⟨rfl, hw⟩
      rw [hw]
      clear hw
      go_wp2_with fail
      refine (unhide I2 _).mono ?_
      rintro e w1 ⟨rfl, hw⟩
      rw [hw]
      clear hw
      go_wp2_with fail
      go_ret
      exact ⟨rfl, unhide HS⟩
    | true =>
      rw [i2] at I2
      rw [i2] at hpb
      cases ht : tmB now with
      | false =>
        have HE : Hid (askE now x l = 1 ∧ askL now x l = l) := hide ⟨by unfold askE; rw [if_neg (by simp [ht])], by unfold askL; rw [if_neg (by simp [ht])]⟩
        obtain ⟨e1, e2⟩ := unhide HE
        rw [e1, e2]
        rw [ht] at HA
        clear e1 e2 HE hpb i1 i2 h h0 ht
        go_enter Try.func7, Try.ntmps7
        go_wp2_with fail
        rw [← hw0]
        clear hw0
        refine (unhide I1 _).mono ?_
        rintro e w1 ⟨rfl, hw⟩
        rw [hw]
        clear hw
        go_wp2_with fail
        refine (unhide I2 _).mono ?_
        rintro e w1 ⟨rfl, hw⟩
        rw [hw]
        clear hw
        go_wp2_with fail
        refine (unhide HA).mono ?_
        rintro e w1 ⟨rfl, _, hw⟩
        rw [hw trivial]
        clear hw
        go_wp2_with fail
        go_ret
        exact ⟨rfl, unhide HS⟩
      | true =>
        have HE : Hid (askE now x l = (if 10 ≤ (keepP now l).length then 8 else 0) ∧ askL now x l = (if 10 ≤ (keepP now l).length then keepP now l else keepP now l ++ [x])) := hide ⟨by unfold askE; rw [if_pos ⟨ht, hpb⟩], by unfold askL; rw [if_pos ⟨ht, hpb⟩]⟩
        have hk : (keepP now l).length ≤ 10 := Nat.le_trans (List.length_filter_le _ _) hl
        rw [ht] at HA
        obtain ⟨e1, e2⟩ := unhide HE
        rw [e1, e2]
        obtain ⟨m, hm⟩ : ∃ m, keepP now l = m := ⟨_, rfl⟩
        rw [hm] at HA hk
        rw [hm]
        clear e1 e2 HE hpb i1 i2 h h0 ht hm HS
        go_enter Try.func7, Try.ntmps7
        go_wp2_with fail
        rw [← hw0]
        clear hw0
        refine (unhide I1 _).mono ?_
        rintro e w1 ⟨rfl, hw⟩
        rw [hw]
        clear hw
        go_wp2_with fail
        refine (unhide I2 _).mono ?_
        rintro e w1 ⟨rfl, hw⟩
        rw [hw]
        clear hw
        go_wp2_with fail
        refine (unhide HA).mono ?_
        rintro e w2 ⟨rfl, hU, _⟩
        obtain ⟨a1, cap1, h1, k2, c1, z1⟩ := hU trivial
        have hnA : ¬ (w.heap.size = p) := fun q => unhide HOW q.symm
        have y0 := (c1.cell (p := ⟨w.heap.size, 0, none⟩) hw0l hnA).trans n0
        have y1 := (c1.cell (p := ⟨w.heap.size, 1, none⟩) hw0l hnA).trans n1
        have y2 := (c1.cell (p := ⟨w.heap.size, 2, none⟩) hw0l hnA).trans n2
        have hl2 : w.heap.size < w2.heap.size := Nat.lt_of_lt_of_le hw0l c1.size
        have c9 := (Chg.of_below (A := fun k => k = p) (unhide HB)).trans c1
        have z9 : ∀ z, a1 = some z → w.heap.size ≤ z.block := fun z q => by have := z1 z q; omega
        have HU : Hid (UpdR w w2 B p a m) := hide ⟨a1, cap1, h1, c9, fun z q => .inr (z9 z q)⟩
        have HD := hide (fun w' m' hu => AtR.did (w' := w') (a := a) (m' := m') h1 c9 z9 (unhide HR) hu)
        have HM := hide (k2.more hk x)
        have hc := k2.cell
        have hpl := k2.lt
        clear k2 c1 c9 z9 z1 hnA n0 n1 n2 HA hU h1
        by_cases h10 : 10 ≤ m.length
        · have g10 : decide ((10 : Int) ≤ (m.length : Int)) = true := decide_eq_true (by omega)
          go_wp2_with fail
          go_ret
          exact ⟨rfl, unhide HU⟩
        · have g10 : decide ((10 : Int) ≤ (m.length : Int)) = false := decide_eq_false (by omega)
          obtain ⟨a', m', c', w8, hrun, d0, f0, HM8⟩ := unhide HM
          have HU8 := hide (unhide HD _ _ (unhide HM8))
          clear HM HD HU HM8 hk
          go_wp2_with fail
          go_region_law (refine step_appendX rfl _ _ 26 26 rfl (.slice a1 m.length cap1) _ (by first | (simp [Act.eval]; done) | (simp [Act.eval, Act.put]; done)) (by first | (simp [Act.eval]; done) | (simp [Act.eval, Act.put]; done)) hrun ?_)
          all_goals
            go_wp2_with fail
            go_ret
            exact ⟨rfl, unhide HU8⟩
end
end Go.Proofs.Ytbflhmkapfodiaa.Dk
