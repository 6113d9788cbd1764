/-
  The program's store: Try.
-/
import Derived.Test.YtcdajajekmichafDoorWalkX1
import Derived.Test.YtcdajajekmichafDoorWalkX2
import Derived.Test.YtcdajajekmichafDoorJointWorksSWorksT
namespace Go.Proofs.YtcdajajekmichafDoor.Dk
open Go.RowKit

theorem right_pur {r : Rc} (h : chkR r = 0) (h1 : r.k = 3) : errS true r.s = 0 := by
  have e := chkV_eq r.k r.q r.t r.s r.h r.d
  have e2 : chkV r.k r.q r.t r.s r.h r.d = 0 := h
  rw [e2] at e
  by_cases hb : Pk.inB r.k r.q r.t = false
  · rw [if_pos hb] at e; cases e
  · rw [if_neg hb, if_neg (by omega), if_pos h1] at e
    unfold purE at e
    by_cases z : errS true r.s ≠ 0
    · rw [if_pos z] at e; exact e.symm
    · exact Classical.byContradiction z
/-- what Try answers of a message that is right -/
def tmE (l : List Rc) (last : Int) (r : Rc) : Int := if r.q ≤ last then 9 else if 200 ≤ l.length ∨ (hasS l r.s = false ∧ 100 ≤ nameN l) then 8 else 0
theorem tm_low {l : List Rc} {last : Int} {r : Rc} (h : r.q ≤ last) : tmE l last r = 9 := if_pos h
theorem tm_full {l : List Rc} {last : Int} {r : Rc} (h : ¬ r.q ≤ last) (h2 : 200 ≤ l.length) : tmE l last r = 8 := by unfold tmE; rw [if_neg h, if_pos (.inl h2)]
theorem tm_many {l : List Rc} {last : Int} {r : Rc} (h : ¬ r.q ≤ last) (h2 : hasS l r.s = false) (h3 : 100 ≤ nameN l) : tmE l last r = 8 := by unfold tmE; rw [if_neg h, if_pos (.inr ⟨h2, h3⟩)]
theorem tm_has {l : List Rc} {last : Int} {r : Rc} (h : ¬ r.q ≤ last) (h1 : ¬ 200 ≤ l.length) (h2 : hasS l r.s = true) : tmE l last r = 0 := by
  unfold tmE; rw [if_neg h, if_neg (fun z => by rcases z with z | z; exact h1 z; rw [h2] at z; cases z.1)]
theorem tm_room {l : List Rc} {last : Int} {r : Rc} (h : ¬ r.q ≤ last) (h1 : ¬ 200 ≤ l.length) (h2 : ¬ 100 ≤ nameN l) : tmE l last r = 0 := by
  unfold tmE; rw [if_neg h, if_neg (fun z => by rcases z with z | z; exact h1 z; exact h2 z.2)]

set_option maxRecDepth 100000 in
set_option maxHeartbeats 1000000 in
theorem stmsg_any {w : World} {B q : Nat} {v u : Value} {l : List Rc} {es : List Ent} {last : Int} (r : Rc) (h : Sho w B q v u l es last) (hc : Cnt l es) (hr : errS false r.s = 0) (hs : r.s.size ≤ 140737488355328) (h200 : l.length ≤ 200) :
    Calls Tryd.prog 45 #[.pointer (some ⟨q, 0, none⟩), .agg #[.int .i64 r.k, .int .i64 r.q, .int .i64 r.t, .string r.s, .string r.h, .string r.d]] w fun e w' => e = .returned (.int .i64 (tmE l last r)) ∧ Below w.heap.size w w' := by
  have hb0 : Below w.heap.size w (w.alloc (.cells #[.int .i64 r.k, .int .i64 r.q, .int .i64 r.t, .string r.s, .string r.h, .string r.d] 26)) := (Below.refl _ _).alloc (Nat.le_refl _) _
  have Hb0 := hide hb0
  obtain ⟨a, cap, rfl, _⟩ := h.msgs.shape
  have c0 := h.c0
  have c2 := h.c2
  have hql := h.lt
  have g1 : (getN es r.s : Int) = (cntN l r.s : Int) := hc.get hr
  have g2 : (es.length : Int) = (nameN l : Int) := by rw [hc.len]
  have g3 := cntN_has l r.s
  have HS := hide h
  have HC := hide hc.good
  have P : Hid (∀ m, Calls Tryd.prog 48 #[.pointer (some ⟨q, 0, none⟩), .string r.s] ((w.alloc (.cells #[.int .i64 r.k, .int .i64 r.q, .int .i64 r.t, .string r.s, .string r.h, .string r.d] 26)).drewN m) fun e w' => e = .returned (.int .i64 (getN es r.s)) ∧ Below w.heap.size w w') := hide (fun m => by
    have b := below_drewN hb0 m
    refine (scount_any r.s (h.below b) hc.good hs).mono ?_
    rintro e w' ⟨he, hb⟩
    exact ⟨he, bstep b hb⟩)
  clear h hb0 hc
  by_cases h1 : r.q ≤ last
  · have R := hide (tm_low (l := l) h1)
    clear g1 g2 g3
    go_enter Tryd.func45, Tryd.ntmps45
    go_wp2_with fail
    go_quiet (fail)
    go_wp2_with fail
    go_ret
    exact ⟨ret_eq (unhide R), below_drewN (unhide Hb0) _⟩
  · by_cases h2 : 200 ≤ l.length
    · have R := hide (tm_full h1 h2)
      clear g1 g2 g3
      go_enter Tryd.func45, Tryd.ntmps45
      go_wp2_with fail
      go_quiet (fail)
      go_wp2_with fail
      go_ret
      exact ⟨ret_eq (unhide R), below_drewN (unhide Hb0) _⟩
    · obtain ⟨n, en⟩ : ∃ n, n = getN es r.s := ⟨_, rfl⟩
      rw [← en] at g1
      have EN := hide en
      clear en
      by_cases h3 : n = 0
      · subst h3
        have hz : hasS l r.s = false := by rw [g3]; exact decide_eq_false (by omega)
        by_cases h4 : 100 ≤ es.length
        · have R := hide (tm_many (r := r) h1 hz (by omega))
          clear g1 g2 g3 hz
          go_enter Tryd.func45, Tryd.ntmps45
          go_wp2_with fail
          go_quiet (fail)
          go_wp2_with fail
          refine (unhide P _).mono ?_
          rintro e w1 ⟨rfl, b1⟩
          rw [← unhide EN]
          have P2 := hide (count_any B q u es w1 ((unhide HS).below b1).keeps)
          have B1 := hide b1
          clear b1 P c0 c2
          go_wp2_with fail
          refine (unhide P2).mono ?_
          rintro e w2 ⟨rfl, rfl⟩
          go_wp2_with fail
          go_ret
          exact ⟨ret_eq (unhide R), unhide B1⟩
        · have R := hide (tm_room (r := r) h1 h2 (by omega))
          clear g1 g2 g3 hz
          go_enter Tryd.func45, Tryd.ntmps45
          go_wp2_with fail
          go_quiet (fail)
          go_wp2_with fail
          refine (unhide P _).mono ?_
          rintro e w1 ⟨rfl, b1⟩
          rw [← unhide EN]
          have P2 := hide (count_any B q u es w1 ((unhide HS).below b1).keeps)
          have B1 := hide b1
          clear b1 P c0 c2
          go_wp2_with fail
          refine (unhide P2).mono ?_
          rintro e w2 ⟨rfl, rfl⟩
          go_wp2_with fail
          go_ret
          exact ⟨ret_eq (unhide R), unhide B1⟩
      · have R := hide (tm_has (r := r) h1 h2 (by rw [g3]; exact decide_eq_true (by omega)))
        clear g1 g2 g3
        go_enter Tryd.func45, Tryd.ntmps45
        go_wp2_with fail
        go_quiet (fail)
        go_wp2_with fail
        refine (unhide P _).mono ?_
        rintro e w1 ⟨rfl, b1⟩
        rw [← unhide EN]
        have B1 := hide b1
        clear b1 P c0 c2
        go_wp2_with fail
        go_ret
        exact ⟨ret_eq (unhide R), unhide B1⟩

def erE (l : List Rc) (n : Int) : Int := if seqB l n = false then 4 else 0
set_option maxHeartbeats 400000 in
theorem stera_any {w : World} {B q : Nat} {v u : Value} {l : List Rc} {es : List Ent} {last : Int} (n : Int) (h : Sho w B q v u l es last) (hr : RiseQ l) (h200 : l.length ≤ 200) :
    Calls Tryd.prog 46 #[.pointer (some ⟨q, 0, none⟩), .int .i64 n] w fun e w' => e = .returned (.int .i64 (erE l n)) ∧ Below w.heap.size w w' := by
  cases hs : seqB l n
  all_goals
    have hE : erE l n = (if seqB l n = false then 4 else 0) := rfl
    rw [hs] at hE
    have HE := hide hE
    clear hE
    go_enter Tryd.func46, Tryd.ntmps46
    go_wp2_with fail
    refine (splace_any n h hr h200).mono ?_
    rintro e w1 ⟨rfl, hb⟩
    rw [hs]
    go_wp2_with fail
    go_ret
    exact ⟨ret_eq (by rw [unhide HE]; rfl), hb⟩

theorem try_bad {s : Sto} {r : Rc} (h : ¬ chkR r = 0) : tryE s r = chkR r := by unfold tryE; rw [if_pos h]
theorem try_msg {s : Sto} {r : Rc} (h : chkR r = 0) (h1 : r.k = 1) : tryE s r = tmE s.l s.last r := by
  unfold tryE tmE
  rw [if_neg (by rw [h]; simp), if_neg (by omega), if_neg (by omega)]
theorem try_era {s : Sto} {r : Rc} (h : chkR r = 0) (h1 : r.k = 2) : tryE s r = erE s.l r.q := by
  unfold tryE erE
  rw [if_neg (by rw [h]; simp)]
  by_cases z : seqB s.l r.q = false
  · rw [if_pos ⟨h1, z⟩, if_pos z]
  · rw [if_neg (fun y => z y.2), if_pos (by omega), if_neg z]
theorem try_else {s : Sto} {r : Rc} (h : chkR r = 0) (h1 : ¬ r.k = 1) (h2 : ¬ r.k = 2) : tryE s r = 0 := by
  unfold tryE
  rw [if_neg (by rw [h]; simp), if_neg (fun z => h2 z.1), if_pos h1]

set_option maxHeartbeats 1000000 in
theorem stry_any {w : World} {B q : Nat} {v u : Value} {s : Sto} {es : List Ent} (r : Rc) (hm : Small r) (h : Sho w B q v u s.l es s.last) (hc : Cnt s.l es) (hk : s.Ok) :
    Calls Tryd.prog 29 #[.pointer (some ⟨q, 0, none⟩), .agg #[.int .i64 r.k, .int .i64 r.q, .int .i64 r.t, .string r.s, .string r.h, .string r.d]] w fun e w' => e = .returned (.int .i64 (tryE s r)) ∧ Below w.heap.size w w' := by
  have hr : RiseQ s.l := hk.rise
  have h200 := hk.few
  have hb0 : Below w.heap.size w (w.alloc (.cells #[.int .i64 r.k, .int .i64 r.q, .int .i64 r.t, .string r.s, .string r.h, .string r.d] 26)) := (Below.refl _ _).alloc (Nat.le_refl _) _
  have H0 := hide (h.below hb0)
  have HR := hide (RB.new w r.k r.q r.t r.s r.h r.d 26)
  have Hb0 := hide hb0
  have PC := hide (check_any r.k r.q r.t r.s r.h r.d (w.alloc (.cells #[.int .i64 r.k, .int .i64 r.q, .int .i64 r.t, .string r.s, .string r.h, .string r.d] 26)) hm.s hm.h hm.d)
  have hz := hm.s
  have HC := hide hc
  have Hr := hide hr
  clear h hb0 hm hk hc hr
  by_cases hg : chkR r = 0
  · have HZ : Hid (chkV r.k r.q r.t r.s r.h r.d = 0) := hide hg
    have F1 := right_msg hg
    have T1 := try_msg (s := s) hg
    have T2 := try_era (s := s) hg
    have T3 := try_else (s := s) hg
    clear hg
    rcases r with ⟨k, n, t, s', h', d'⟩
    by_cases hk1 : k = 1
    · subst hk1
      have HRt := hide (F1 rfl)
      have TT := hide (T1 rfl)
      clear T1 T2 T3 F1
      dsimp only at H0 HR Hb0 PC hz HZ ⊢
      go_enter Tryd.func29, Tryd.ntmps29
      go_wp2_with fail
      refine (unhide PC).mono ?_
      rintro e w1 ⟨rfl, b1⟩
      rw [unhide HZ]
      obtain ⟨_, x0, x1, x2, x3, x4, x5⟩ := (unhide HR).next b1
      have P := hide (stmsg_any ⟨1, n, t, s', h', d'⟩ ((unhide H0).below b1) (unhide HC) (unhide HRt) hz h200)
      have B1 := hide (bstep (unhide Hb0) b1)
      clear b1
      go_wp2_with fail
      refine (unhide P).mono ?_
      rintro e w2 ⟨rfl, b2⟩
      go_wp2_with fail
      go_ret
      exact ⟨ret_eq (unhide TT), bstep (unhide B1) b2⟩
    · by_cases hk2 : k = 2
      · subst hk2
        have TT := hide (T2 rfl)
        clear T1 T2 T3 F1
        dsimp only at H0 HR Hb0 PC hz HZ ⊢
        go_enter Tryd.func29, Tryd.ntmps29
        go_wp2_with fail
        refine (unhide PC).mono ?_
        rintro e w1 ⟨rfl, b1⟩
        rw [unhide HZ]
        obtain ⟨_, x0, x1, x2, x3, x4, x5⟩ := (unhide HR).next b1
        have P := hide (stera_any n ((unhide H0).below b1) (unhide Hr) h200)
        have B1 := hide (bstep (unhide Hb0) b1)
        clear b1
        go_wp2_with fail
        refine (unhide P).mono ?_
        rintro e w2 ⟨rfl, b2⟩
        go_wp2_with fail
        go_ret
        exact ⟨ret_eq (unhide TT), bstep (unhide B1) b2⟩
      · have T4 := hide (T3 hk1 hk2)
        clear T1 T2 T3 F1
        dsimp only at H0 HR Hb0 PC hz HZ ⊢
        go_enter Tryd.func29, Tryd.ntmps29
        go_wp2_with fail
        refine (unhide PC).mono ?_
        rintro e w1 ⟨rfl, b1⟩
        rw [unhide HZ]
        obtain ⟨_, x0, x1, x2, x3, x4, x5⟩ := (unhide HR).next b1
        have B1 := hide (bstep (unhide Hb0) b1)
        clear b1
        go_wp2_with fail
        go_ret
        exact ⟨ret_eq (unhide T4), unhide B1⟩
  · have R := hide (try_bad (s := s) hg)
    obtain ⟨E, hE⟩ : ∃ E, E = chkR r := ⟨_, rfl⟩
    have HE : Hid (chkV r.k r.q r.t r.s r.h r.d = E) := hide hE.symm
    rw [← hE] at hg R
    clear hE
    go_enter Tryd.func29, Tryd.ntmps29
    go_wp2_with fail
    refine (unhide PC).mono ?_
    rintro e w1 ⟨rfl, b1⟩
    rw [unhide HE]
    go_wp2_with fail
    go_ret
    exact ⟨ret_eq (unhide R), bstep (unhide Hb0) b1⟩
end Go.Proofs.YtcdajajekmichafDoor.Dk
