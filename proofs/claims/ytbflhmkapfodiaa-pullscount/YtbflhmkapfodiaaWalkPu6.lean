/-
  Contracts of the landed queue: Idle, Take, Ask.
-/
import Derived.Test.YtbflhmkapfodiaaWalkPu4
import Derived.Test.YtbflhmkapfodiaaWalkPu5
import Derived.Test.YtbflhmkapfodiaaRowY
namespace Go.Proofs.Ytbflhmkapfodiaa.Dk
open Go.RowKit Go.Deep

section
variable {w : World} {B p : Nat} {v : Value} {l : List Pul}
set_option maxHeartbeats 1000000 in
theorem idle_any (h : KeepU w B p v l) (hl : l.length ≤ 10) (now : Int) :
    Calls Try.prog 10 #[.pointer (some ⟨p, 0, none⟩), .int .i64 now] w fun e w' => e = .returned (.tuple #[.int .i64 (idlN now l), .int .i64 (atE now)]) ∧ UpdU w w' B p v (idlL now l) := by
  have HT := hide (ptime_any now w)
  have HF := hide (forget_any h hl now)
  have HS := hide (UpdU.same h (Below.refl _ _))
  cases ht : tmB now with
  | true =>
    have HV : Hid (idlN now l = ((keepP now l).length : Int) - ((stayP (keepP now l)).length : Int) ∧ atE now = 0 ∧ idlL now l = stayP (keepP now l)) := hide ⟨by unfold idlN; rw [if_pos ht], by unfold atE; rw [if_pos ht], by unfold idlL; rw [if_pos ht]⟩
    have hk : (keepP now l).length ≤ 10 := Nat.le_trans (List.length_filter_le _ _) hl
    rw [ht] at HT
    obtain ⟨e1, e2, e3⟩ := unhide HV
    rw [e1, e2, e3]
    obtain ⟨m, hm⟩ : ∃ m, keepP now l = m := ⟨_, rfl⟩
    rw [hm] at HF hk
    rw [hm]
    clear h ht hl e1 e2 e3 hm HV HS
    go_enter Try.func10, Try.ntmps10
    go_wp2_with fail
    refine (unhide HT).mono ?_
    rintro e w1 ⟨rfl, hw⟩
    rw [hw]
    clear hw
    go_wp2_with fail
    refine (unhide HF).mono ?_
    rintro e w1 ⟨rfl, hU⟩
    obtain ⟨v1, k1, cc, hg⟩ := hU
    have HD := hide (deleteU_any (p := fun x => x.nw) (lb := #[]) enters_i1 v1 B m _ k1.arr (by omega) (fun W _ x _ => idle1_any x W))
    have HU : Hid (∀ w' v', Chg (fun k => v1.ownBlock = some k) w1 w' → ArrU w' B v' (stayP m) → (∀ g, v'.ownBlock = some g → v1.ownBlock = some g ∨ w1.heap.size ≤ g) → UpdU w (w'.setCell ⟨p, 0, none⟩ v') B p v (stayP m)) := hide (fun w' v' hC hA hG => UpdU.trans cc hg (UpdU.store k1 hC hA hG))
    have hc := k1.cell
    have HC : Hid (∀ w', Chg (fun k => v1.ownBlock = some k) w1 w' → w'.cell? ⟨p, 0, none⟩ = some v1 ∧ w'.frozen? ⟨p, 0, none⟩ = false) := hide (fun w' hC => ⟨by rw [hC.cell (p := ⟨p, 0, none⟩) k1.lt k1.apart]; exact k1.cell, by rw [hC.frozen (p := ⟨p, 0, none⟩) k1.lt k1.apart]; exact k1.free⟩)
    obtain ⟨a, cap, rfl, z1⟩ := k1.arr.shape
    clear k1 cc hg z1
    have hst : (stayP m).length ≤ m.length := List.length_filter_le _ _
    go_wp2_with (go_at_call 21; refine (unhide HD).mono ?_; rintro e w' ⟨v', rfl, hA, hC, hG⟩; obtain ⟨x0, x1⟩ := unhide HC w' hC; have HU2 := hide (unhide HU _ _ hC hA hG); obtain ⟨a', cap', rfl, z1⟩ := ArrU.shape hA; clear z1 hA hC hG; rw [show (List.filter (fun x => !x.nw) m).length = (stayP m).length from rfl] at HU2 ⊢)
    go_ret2
    exact ⟨by go_num, unhide HU2⟩
  | false =>
    have HV : Hid (idlN now l = 0 ∧ atE now = 1 ∧ idlL now l = l) := hide ⟨by unfold idlN; rw [if_neg (by simp [ht])], by unfold atE; rw [if_neg (by simp [ht])], by unfold idlL; rw [if_neg (by simp [ht])]⟩
    rw [ht] at HT
    obtain ⟨e1, e2, e3⟩ := unhide HV
    rw [e1, e2, e3]
    clear h ht hl e1 e2 e3
    go_enter Try.func10, Try.ntmps10
    go_wp2_with fail
    refine (unhide HT).mono ?_
    rintro e w1 ⟨rfl, hw⟩
    rw [hw]
    clear hw
    go_wp2_with fail
    go_ret2
    exact ⟨rfl, unhide HS⟩
/-- a pull more -/
theorem KeepU.more (h : KeepU w B p v l) (hl : l.length ≤ 10) (x : Pul) :
    ∃ a' m' c' w8, (Builtin.append_ #[26, 26] 26 #[v, .slice (some ⟨w.heap.size, 0, none⟩) 1 1]).run Try.prog (w.alloc (pulO x)).drew = .ok (.slice a' m' c') w8 ∧ w8.cell? ⟨p, 0, none⟩ = some v ∧ w8.frozen? ⟨p, 0, none⟩ = false ∧ Hid (UpdU w (w8.setCell ⟨p, 0, none⟩ (.slice a' m' c')) B p v (l ++ [x])) := by
  have b4 : Below w.heap.size w (w.alloc (pulO x)).drew := ((Below.refl _ _).alloc (Nat.le_refl _) _).drew
  have h4 := h.below b4
  obtain ⟨v8, w8, hr, A8, C8, L8⟩ := append_pul _ B 26 v l x h4.arr ⟨w.heap.size, 0, none⟩ 1 (tri_row w (pulT x) 30) (by omega) (by have := h4.base; have := h4.lt; omega)
  have HS := hide (UpdU.trans (Chg.of_below b4) (fun _ q => .inl q) (UpdU.store h4 C8 A8 L8))
  obtain ⟨a', c', rfl, _⟩ := A8.shape
  refine ⟨a', _, c', w8, hr, ?_, ?_, HS⟩
  · rw [C8.cell (p := ⟨p, 0, none⟩) h4.lt h4.apart]; exact h4.cell
  · rw [C8.frozen (p := ⟨p, 0, none⟩) h4.lt h4.apart]; exact h4.free
set_option maxRecDepth 100000 in
set_option maxHeartbeats 2000000 in
theorem ask_any (h : KeepU w B p v l) (hl : l.length ≤ 10) (now : Int) (x : Pul) :
    Calls Try.prog 6 #[.pointer (some ⟨p, 0, none⟩), .int .i64 now, pulV x] w fun e w' => e = .returned (.int .i64 (askE now x l)) ∧ UpdU w w' B p v (askL now x l) := by
  have b0 : Below w.heap.size w (w.alloc (pulO x)) := (Below.refl _ _).alloc (Nat.le_refl _) _
  obtain ⟨n0, n1, n2⟩ := new_pul w x 30
  obtain ⟨w0, hw0⟩ : ∃ w0, w0 = w.alloc (pulO x) := ⟨_, rfl⟩
  rw [← hw0] at n0 n1 n2 b0
  have hw0l : w.heap.size < w0.heap.size := by rw [hw0]; simp
  have h0 := h.below b0
  have HT := hide (ptime_any now w0)
  have HP := hide (ispull_any x w0)
  have HS := hide (UpdU.same h b0)
  have HB := hide b0
  have HOW : Hid (v.ownBlock ≠ some w.heap.size ∧ p ≠ w.heap.size) := hide ⟨fun q => by have := (h.arr.lt _ q).2; omega, by have := h.lt; omega⟩
  by_cases ht : tmB now = true ∧ pulB x = true
  · have HK : Hid (∀ w1, Below w0.heap.size w0 w1 → KeepU w1 B p v l) := hide (fun w1 hb => h0.below hb)
    have HE : Hid (askE now x l = (if 10 ≤ (keepP now l).length then 8 else 0) ∧ askL now x l = (if 10 ≤ (keepP now l).length then keepP now l else keepP now l ++ [x])) := hide ⟨by unfold askE; rw [if_pos ht], by unfold askL; rw [if_pos ht]⟩
    have hk : (keepP now l).length ≤ 10 := Nat.le_trans (List.length_filter_le _ _) hl
    rw [ht.1] at HT
    rw [ht.2] at HP
    obtain ⟨e1, e2⟩ := unhide HE
    rw [e1, e2]
    have HF : Hid (∀ w1, Below w0.heap.size w0 w1 → Calls Try.prog 17 #[.pointer (some ⟨p, 0, none⟩), .int .i64 now] w1 fun e w' => e = .returned (.tuple #[]) ∧ UpdU w1 w' B p v (keepP now l)) := hide (fun w1 hb => forget_any (h0.below hb) hl now)
    obtain ⟨m, hm⟩ : ∃ m, keepP now l = m := ⟨_, rfl⟩
    rw [hm] at HF hk
    rw [hm]
    clear e1 e2 hm HE ht h h0 HS HK b0
    go_enter Try.func6, Try.ntmps6
    go_wp2_with fail
    rw [← hw0]
    clear hw0
    refine (unhide HT).mono ?_
    rintro e w1 ⟨rfl, hw⟩
    rw [hw]
    clear hw
    go_wp2_with fail
    refine (unhide HP).mono ?_
    rintro e w1 ⟨rfl, b1⟩
    have HF1 := hide (unhide HF w1 b1)
    have m0 := (b1.cell (p := ⟨w.heap.size, 0, none⟩) hw0l).trans n0
    have m1 := (b1.cell (p := ⟨w.heap.size, 1, none⟩) hw0l).trans n1
    have m2 := (b1.cell (p := ⟨w.heap.size, 2, none⟩) hw0l).trans n2
    have hl1 : w.heap.size < w1.heap.size := Nat.lt_of_lt_of_le hw0l b1.size
    have HB1 := hide ((unhide HB).trans (b1.mono (Nat.le_of_lt hw0l)))
    clear n0 n1 n2 HT HP HF b1
    go_wp2_with fail
    refine (unhide HF1).mono ?_
    rintro e w2 ⟨rfl, hU⟩
    have HU := hide (UpdU.trans (Chg.of_below (unhide HB1)) (fun _ q => .inl q) hU)
    obtain ⟨v2, k2, c2, g2⟩ := hU
    have hnA : ¬ footU p v w.heap.size := fun q => by
      rcases q with q | q
      · exact (unhide HOW).2 q.symm
      · exact (unhide HOW).1 q
    have y0 := (c2.cell (p := ⟨w.heap.size, 0, none⟩) hl1 hnA).trans m0
    have y1 := (c2.cell (p := ⟨w.heap.size, 1, none⟩) hl1 hnA).trans m1
    have y2 := (c2.cell (p := ⟨w.heap.size, 2, none⟩) hl1 hnA).trans m2
    have hl2 : w.heap.size < w2.heap.size := Nat.lt_of_lt_of_le hl1 c2.size
    have HM := hide (k2.more hk x)
    have HG := hide (And.intro c2 g2)
    obtain ⟨a, cap, rfl, _⟩ := k2.arr.shape
    have hc := k2.cell
    have hpl := k2.lt
    clear k2 c2 g2 hnA m0 m1 m2 HF1
    by_cases h10 : 10 ≤ m.length
    · have g10 : decide ((10 : Int) ≤ (m.length : Int)) = true := decide_eq_true (by omega)
      go_wp2_with fail
      go_ret
      exact ⟨rfl, unhide HU⟩
    · have g10 : decide ((10 : Int) ≤ (m.length : Int)) = false := decide_eq_false (by omega)
      obtain ⟨a', m', c', w8, hrun, d0, f0, HM8⟩ := unhide HM
      have HU8 := hide (UpdU.trans (Chg.of_below (unhide HB1)) (fun _ q => .inl q) (UpdU.trans (unhide HG).1 (unhide HG).2 (unhide HM8)))
      clear HM HG HU HM8 hk
      go_wp2_with fail
      go_region_law (refine step_appendX rfl _ _ 26 26 rfl (.slice a m.length cap) _ (by first | (simp [Act.eval]; done) | (simp [Act.eval, Act.put]; done)) (by first | (simp [Act.eval]; done) | (simp [Act.eval, Act.put]; done)) hrun ?_)
      all_goals
        go_wp2_with fail
        go_ret
        exact ⟨rfl, unhide HU8⟩
  · have HE : Hid (askE now x l = 1 ∧ askL now x l = l) := hide ⟨by unfold askE; rw [if_neg ht], by unfold askL; rw [if_neg ht]⟩
    obtain ⟨e1, e2⟩ := unhide HE
    rw [e1, e2]
    clear e1 e2 HE
    have HP2 : Hid (pulB x = false ∨ tmB now = false) := hide (by
      cases q : tmB now with
      | true => exact .inl (by cases z : pulB x with | true => exact absurd ⟨q, z⟩ ht | false => rfl)
      | false => exact .inr rfl)
    clear ht h
    cases ht : tmB now with
    | false =>
      rw [ht] at HT
      clear HP2 ht h0
      go_enter Try.func6, Try.ntmps6
      go_wp2_with fail
      rw [← hw0]
      refine (unhide HT).mono ?_
      rintro e w1 ⟨rfl, hw⟩
      rw [hw]
      clear hw hw0
      go_wp2_with fail
      go_ret
      exact ⟨rfl, unhide HS⟩
    | true =>
      have hp : pulB x = false := by
        rcases unhide HP2 with q | q
        · exact q
        · rw [ht] at q; cases q
      rw [ht] at HT
      rw [hp] at HP
      have HS2 := hide (fun w1 (hb : Below w0.heap.size w0 w1) => UpdU.trans (v := v) (Chg.of_below (A := footU p v) (unhide HB)) (fun _ q => .inl q) (UpdU.same (w' := w1) h0 hb))
      clear h0 HP2 ht hp b0
      go_enter Try.func6, Try.ntmps6
      go_wp2_with fail
      rw [← hw0]
      refine (unhide HT).mono ?_
      rintro e w1 ⟨rfl, hw⟩
      rw [hw]
      clear hw hw0
      go_wp2_with fail
      refine (unhide HP).mono ?_
      rintro e w1 ⟨rfl, b1⟩
      have HB1 := hide b1
      clear b1
      go_wp2_with fail
      go_ret
      exact ⟨rfl, unhide HS2 _ (unhide HB1)⟩
/-- the first one asks for one less -/
theorem KeepU.less {g cap : Nat} {x : Pul} {r : List Pul} (h : KeepU w B p (.slice (some ⟨g, 0, none⟩) (x :: r).length cap) (x :: r)) (n : Int) :
    KeepU (w.setCell ⟨g, 0, none⟩ (.int .i64 n)) B p (.slice (some ⟨g, 0, none⟩) (x :: r).length cap) (⟨n, x.t, x.nw⟩ :: r) ∧ Chg (footU p (.slice (some ⟨g, 0, none⟩) (x :: r).length cap)) w (w.setCell ⟨g, 0, none⟩ (.int .i64 n)) := by
  have hgp : g ≠ p := fun e => h.apart (by rw [e]; rfl)
  have hst := (World.ownsRow.stored (show w.ownsRow B 30 3 (.slice (some ⟨g, 0, none⟩) (x :: r).length cap) (x :: r).length (celT ((x :: r).map pulT)) from by
    have := h.arr
    unfold ArrU ArrT at this
    rwa [List.length_map] at this) 0 (.int .i64 n)).1
  refine ⟨⟨?_, ?_, h.base, ?_, ?_, h.apart⟩, ?_⟩
  · rw [World.cell?_setCell_other _ _ _ _ (by simp <;> omega)]
    exact h.cell
  · rw [World.frozen?_setCell]; exact h.free
  · have := h.lt; simpa [World.setCell] using this
  · unfold ArrU ArrT
    rw [List.length_map]
    exact hst
  · exact (Chg.refl _ _).setCell (.inl (.inr rfl)) _
set_option maxRecDepth 100000 in
set_option maxHeartbeats 2000000 in
theorem take_any (h : KeepU w B p v l) (ho : QOk l) (now : Int) :
    Calls Try.prog 8 #[.pointer (some ⟨p, 0, none⟩), .int .i64 now] w fun e w' => e = .returned (.tuple #[.bool (takB now l), .int .i64 (atE now)]) ∧ UpdU w w' B p v (takL now l) := by
  have hl := ho.few
  have HT := hide (ptime_any now w)
  have HF := hide (forget_any h hl now)
  have HS := hide (UpdU.same h (Below.refl _ _))
  cases ht : tmB now with
  | true =>
    have HV : Hid (takB now l = decide (0 < (keepP now l).length) ∧ atE now = 0 ∧ takL now l = servP (keepP now l)) := hide ⟨by unfold takB; rw [ht, Bool.true_and], by unfold atE; rw [if_pos ht], by unfold takL; rw [if_pos ht]⟩
    have hk := ho.keep now
    rw [ht] at HT
    obtain ⟨e1, e2, e3⟩ := unhide HV
    rw [e1, e2, e3]
    obtain ⟨m, hm⟩ : ∃ m, keepP now l = m := ⟨_, rfl⟩
    rw [hm] at HF hk
    rw [hm]
    clear h ht hl e1 e2 e3 hm HV HS ho
    cases m with
    | nil =>
      clear hk
      go_enter Try.func8, Try.ntmps8
      go_wp2_with fail
      refine (unhide HT).mono ?_
      rintro e w1 ⟨rfl, hw⟩
      rw [hw]
      clear hw
      go_wp2_with fail
      refine (unhide HF).mono ?_
      rintro e w1 ⟨rfl, hU⟩
      have HU := hide hU
      obtain ⟨v1, k1, cc, hg⟩ := hU
      obtain ⟨a, cap, rfl, z1⟩ := k1.arr.shape
      have hc := k1.cell
      rw [show ([] : List Pul).length = 0 from rfl] at hc
      clear k1 cc hg z1 HF HT
      go_wp2_with fail
      go_ret2
      exact ⟨rfl, unhide HU⟩
    | cons x r =>
      have hxb := hk.one x (by simp)
      have hrl := hk.few
      clear hk
      rw [List.length_cons] at hrl
      go_enter Try.func8, Try.ntmps8
      go_wp2_with fail
      refine (unhide HT).mono ?_
      rintro e w1 ⟨rfl, hw⟩
      rw [hw]
      clear hw
      go_wp2_with fail
      refine (unhide HF).mono ?_
      rintro e w1 ⟨rfl, hU⟩
      obtain ⟨v1, k1, cc, hg⟩ := hU
      obtain ⟨g, cap, rfl, z1, z2, z3, z4⟩ := k1.arr.there (by simp)
      have hgp : g ≠ p := fun e => k1.apart (by rw [e]; rfl)
      have hc := k1.cell
      have hat := (k1.arr.at (k := 0) (by simp)).c0
      have hfr := (ArrT.free k1.arr).1 0
      rw [Nat.zero_mul] at hat
      rw [show (x :: r)[0].b = x.b from rfl] at hat
      obtain ⟨k2, c2⟩ := k1.less (x.b - 1)
      have hc2 := k2.cell
      have hat2 : (w1.setCell ⟨g, 0, none⟩ (.int .i64 (x.b - 1))).cell? ⟨g, 0, none⟩ = some (.int .i64 (x.b - 1)) := World.cell?_setCell_same _ _ _ hat
      have HG := hide (And.intro cc hg)
      have hlen : (x :: r).length = r.length + 1 := rfl
      have HC2 := hide c2
      have HK2 := hide k2
      rw [hlen] at hc hc2
      have g0 : (((r.length : Int) + 1) == 0) = false := by rw [beq_eq_false_iff_ne]; omega
      have hpl := k1.lt
      by_cases h1 : x.b - 1 = 0
      · have HV2 : Hid (servP (x :: r) = r) := hide (if_pos h1)
        have HD : Hid (Calls Try.prog 20 #[.slice (some ⟨g, 0, none⟩) (r.length + 1) cap, .int .i64 0, .int .i64 1] (w1.setCell ⟨g, 0, none⟩ (.int .i64 (x.b - 1))) fun e w' => ∃ v', e = .returned v' ∧ ArrU w' B v' r ∧ Chg (fun k => (Value.slice (some ⟨g, 0, none⟩) (r.length + 1) cap).ownBlock = some k) (w1.setCell ⟨g, 0, none⟩ (.int .i64 (x.b - 1))) w' ∧ ∀ g', v'.ownBlock = some g' → (Value.slice (some ⟨g, 0, none⟩) (r.length + 1) cap).ownBlock = some g' ∨ (w1.setCell ⟨g, 0, none⟩ (.int .i64 (x.b - 1))).heap.size ≤ g') := hide (deleteP_any B _ (⟨x.b - 1, x.t, x.nw⟩ :: r) 0 _ k2.arr (by simp) (by simp; omega))
        have g1 : ((x.b - 1) == 0) = true := by rw [h1]; rfl
        have HU : Hid (∀ w' v', Chg (fun k => (Value.slice (some ⟨g, 0, none⟩) (r.length + 1) cap).ownBlock = some k) (w1.setCell ⟨g, 0, none⟩ (.int .i64 (x.b - 1))) w' → ArrU w' B v' r → (∀ g', v'.ownBlock = some g' → (Value.slice (some ⟨g, 0, none⟩) (r.length + 1) cap).ownBlock = some g' ∨ (w1.setCell ⟨g, 0, none⟩ (.int .i64 (x.b - 1))).heap.size ≤ g') → UpdU w (w'.setCell ⟨p, 0, none⟩ v') B p v (servP (x :: r))) := hide (fun w' v' hC hA hG => by
          rw [unhide HV2]
          exact UpdU.trans cc hg (UpdU.trans c2 (fun _ q => .inl q) (UpdU.store k2 hC hA hG)))
        have HC : Hid (∀ w', Chg (fun k => (Value.slice (some ⟨g, 0, none⟩) (r.length + 1) cap).ownBlock = some k) (w1.setCell ⟨g, 0, none⟩ (.int .i64 (x.b - 1))) w' → w'.cell? ⟨p, 0, none⟩ = some (.slice (some ⟨g, 0, none⟩) (r.length + 1) cap) ∧ w'.frozen? ⟨p, 0, none⟩ = false) := hide (fun w' hC => ⟨by rw [hC.cell (p := ⟨p, 0, none⟩) k2.lt k2.apart]; exact k2.cell, by rw [hC.frozen (p := ⟨p, 0, none⟩) k2.lt k2.apart]; exact k2.free⟩)
        clear k1 k2 c2 cc hg z1 HF HT z2 z3 h1 HV2 HG HC2 HK2
        go_wp2_with (go_at_call 20; refine (unhide HD).mono ?_; rintro e w' ⟨v', rfl, hA, hC, hG⟩; obtain ⟨x0, x1⟩ := unhide HC w' hC; have HU2 := hide (unhide HU _ _ hC hA hG); obtain ⟨a', cap', rfl, z1⟩ := ArrU.shape hA; clear z1 hA hC hG)
        go_ret2
        exact ⟨by simp, unhide HU2⟩
      · have HV2 : Hid (servP (x :: r) = ⟨x.b - 1, x.t, x.nw⟩ :: r) := hide (if_neg h1)
        have g1 : ((x.b - 1) == 0) = false := by rw [beq_eq_false_iff_ne]; exact h1
        clear k1 k2 c2 cc hg z1 HF HT z2 z3
        go_wp2_with fail
        go_ret2
        refine ⟨by simp, ?_⟩
        rw [unhide HV2]
        exact UpdU.trans (unhide HG).1 (unhide HG).2 ⟨_, unhide HK2, unhide HC2, fun _ q => .inl q⟩
  | false =>
    have HV : Hid (takB now l = false ∧ atE now = 1 ∧ takL now l = l) := hide ⟨by unfold takB; rw [ht, Bool.false_and], by unfold atE; rw [if_neg (by simp [ht])], by unfold takL; rw [if_neg (by simp [ht])]⟩
    rw [ht] at HT
    obtain ⟨e1, e2, e3⟩ := unhide HV
    rw [e1, e2, e3]
    clear h ht hl e1 e2 e3 ho
    go_enter Try.func8, Try.ntmps8
    go_wp2_with fail
    refine (unhide HT).mono ?_
    rintro e w1 ⟨rfl, hw⟩
    rw [hw]
    clear hw
    go_wp2_with fail
    go_ret2
    exact ⟨rfl, unhide HS⟩
end
end Go.Proofs.Ytbflhmkapfodiaa.Dk
