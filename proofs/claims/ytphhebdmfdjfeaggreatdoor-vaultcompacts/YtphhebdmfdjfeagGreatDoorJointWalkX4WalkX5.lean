/-
  The program's store: Try.
  The program's store: a message more (add), one less (erase).
-/
import Derived.Test.YtphhebdmfdjfeagGreatDoorJointWalkX1WalkX2
import Derived.Test.YtphhebdmfdjfeagGreatDoorJointWalkG1rWorksTaPapW
import Derived.Test.YtphhebdmfdjfeagGreatDoorWalkX3
import Derived.Test.YtphhebdmfdjfeagGreatDoorJointRowXRowY
namespace Go.Proofs.YtphhebdmfdjfeagGreatDoor.Dk
open Go.RowKit

theorem right_pur {r : Rc} (h : chkR r = 0) (h1 : r.k = 3) : errS true r.s = 0 := by
  have e := chkV_eq r.k r.q r.t r.s r.h r.d
  have e2 : chkV r.k r.q r.t r.s r.h r.d = 0 := h
  rw [e2] at e
  by_cases hb : Pk.inB r.k r.q r.t = false
  · rw [if_pos hb] at e; cases e
  · rw [if_neg hb, if_neg (by omega), if_pos h1] at e
    unfold purE at e
    by_cases z : errS true r.s ≠ 0
    · rw [if_pos z] at e; exact e.symm
    · exact Classical.byContradiction z
/-- what Try answers of a message that is right -/
def tmE (l : List Rc) (last : Int) (r : Rc) : Int := if r.q ≤ last then 9 else if 200 ≤ l.length ∨ (hasS l r.s = false ∧ 100 ≤ nameN l) then 8 else 0
theorem tm_low {l : List Rc} {last : Int} {r : Rc} (h : r.q ≤ last) : tmE l last r = 9 := if_pos h
theorem tm_full {l : List Rc} {last : Int} {r : Rc} (h : ¬ r.q ≤ last) (h2 : 200 ≤ l.length) : tmE l last r = 8 := by unfold tmE; rw [if_neg h, if_pos (.inl h2)]
theorem tm_many {l : List Rc} {last : Int} {r : Rc} (h : ¬ r.q ≤ last) (h2 : hasS l r.s = false) (h3 : 100 ≤ nameN l) : tmE l last r = 8 := by unfold tmE; rw [if_neg h, if_pos (.inr ⟨h2, h3⟩)]
theorem tm_has {l : List Rc} {last : Int} {r : Rc} (h : ¬ r.q ≤ last) (h1 : ¬ 200 ≤ l.length) (h2 : hasS l r.s = true) : tmE l last r = 0 := by
  unfold tmE; rw [if_neg h, if_neg (fun z => by rcases z with z | z; exact h1 z; rw [h2] at z; cases z.1)]
theorem tm_room {l : List Rc} {last : Int} {r : Rc} (h : ¬ r.q ≤ last) (h1 : ¬ 200 ≤ l.length) (h2 : ¬ 100 ≤ nameN l) : tmE l last r = 0 := by
  unfold tmE; rw [if_neg h, if_neg (fun z => by rcases z with z | z; exact h1 z; exact h2 z.2)]

set_option maxRecDepth 100000 in
set_option maxHeartbeats 1000000 in
theorem stmsg_any {w : World} {B q : Nat} {v u : Value} {l : List Rc} {es : List Ent} {last : Int} (r : Rc) (h : Sho w B q v u l es last) (hc : Cnt l es) (hr : errS false r.s = 0) (hs : r.s.size ≤ 140737488355328) (h200 : l.length ≤ 200) :
    Calls Tryz.prog 33 #[.pointer (some ⟨q, 0, none⟩), .agg #[.int .i64 r.k, .int .i64 r.q, .int .i64 r.t, .string r.s, .string r.h, .string r.d]] w fun e w' => e = .returned (.int .i64 (tmE l last r)) ∧ Below w.heap.size w w' := by
  have hb0 : Below w.heap.size w (w.alloc (.cells #[.int .i64 r.k, .int .i64 r.q, .int .i64 r.t, .string r.s, .string r.h, .string r.d] 30)) := (Below.refl _ _).alloc (Nat.le_refl _) _
  have Hb0 := hide hb0
  obtain ⟨a, cap, rfl, _⟩ := h.msgs.shape
  have c0 := h.c0
  have c2 := h.c2
  have hql := h.lt
  have g1 : (getN es r.s : Int) = (cntN l r.s : Int) := hc.get hr
  have g2 : (es.length : Int) = (nameN l : Int) := by rw [hc.len]
  have g3 := cntN_has l r.s
  have HS := hide h
  have HC := hide hc.good
  have P : Hid (∀ m, Calls Tryz.prog 53 #[.pointer (some ⟨q, 0, none⟩), .string r.s] ((w.alloc (.cells #[.int .i64 r.k, .int .i64 r.q, .int .i64 r.t, .string r.s, .string r.h, .string r.d] 30)).drewN m) fun e w' => e = .returned (.int .i64 (getN es r.s)) ∧ Below w.heap.size w w') := hide (fun m => by
    have b := below_drewN hb0 m
    refine (scount_any r.s (h.below b) hc.good hs).mono ?_
    rintro e w' ⟨he, hb⟩
    exact ⟨he, bstep b hb⟩)
  clear h hb0 hc
  by_cases h1 : r.q ≤ last
  · have R := hide (tm_low (l := l) h1)
    clear g1 g2 g3
    go_enter Tryz.func33, Tryz.ntmps33
    go_wp2_with fail
    go_quiet (fail)
    go_wp2_with fail
    go_ret
    exact ⟨ret_eq (unhide R), below_drewN (unhide Hb0) _⟩
  · by_cases h2 : 200 ≤ l.length
    · have R := hide (tm_full h1 h2)
      clear g1 g2 g3
      go_enter Tryz.func33, Tryz.ntmps33
      go_wp2_with fail
      go_quiet (fail)
      go_wp2_with fail
      go_ret
      exact ⟨ret_eq (unhide R), below_drewN (unhide Hb0) _⟩
    · obtain ⟨n, en⟩ : ∃ n, n = getN es r.s := ⟨_, rfl⟩
      rw [← en] at g1
      have EN := hide en
      clear en
      by_cases h3 : n = 0
      · subst h3
        have hz : hasS l r.s = false := by rw [g3]; exact decide_eq_false (by omega)
        by_cases h4 : 100 ≤ es.length
        · have R := hide (tm_many (r := r) h1 hz (by omega))
          clear g1 g2 g3 hz
          go_enter Tryz.func33, Tryz.ntmps33
          go_wp2_with fail
          go_quiet (fail)
          go_wp2_with fail
          refine (unhide P _).mono ?_
          rintro e w1 ⟨rfl, b1⟩
          rw [← unhide EN]
          have P2 := hide (count_any B q u es w1 ((unhide HS).below b1).keeps)
          have B1 := hide b1
          clear b1 P c0 c2
          go_wp2_with fail
          refine (unhide P2).mono ?_
          rintro e w2 ⟨rfl, rfl⟩
          go_wp2_with fail
          go_ret
          exact ⟨ret_eq (unhide R), unhide B1⟩
        · have R := hide (tm_room (r := r) h1 h2 (by omega))
          clear g1 g2 g3 hz
          go_enter Tryz.func33, Tryz.ntmps33
          go_wp2_with fail
          go_quiet (fail)
          go_wp2_with fail
          refine (unhide P _).mono ?_
          rintro e w1 ⟨rfl, b1⟩
          rw [← unhide EN]
          have P2 := hide (count_any B q u es w1 ((unhide HS).below b1).keeps)
          have B1 := hide b1
          clear b1 P c0 c2
          go_wp2_with fail
          refine (unhide P2).mono ?_
          rintro e w2 ⟨rfl, rfl⟩
          go_wp2_with fail
          go_ret
          exact ⟨ret_eq (unhide R), unhide B1⟩
      · have R := hide (tm_has (r := r) h1 h2 (by rw [g3]; exact decide_eq_true (by omega)))
        clear g1 g2 g3
        go_enter Tryz.func33, Tryz.ntmps33
        go_wp2_with fail
        go_quiet (fail)
        go_wp2_with fail
        refine (unhide P _).mono ?_
        rintro e w1 ⟨rfl, b1⟩
        rw [← unhide EN]
        have B1 := hide b1
        clear b1 P c0 c2
        go_wp2_with fail
        go_ret
        exact ⟨ret_eq (unhide R), unhide B1⟩

def erE (l : List Rc) (n : Int) : Int := if seqB l n = false then 4 else 0
set_option maxHeartbeats 400000 in
theorem stera_any {w : World} {B q : Nat} {v u : Value} {l : List Rc} {es : List Ent} {last : Int} (n : Int) (h : Sho w B q v u l es last) (hr : RiseQ l) (h200 : l.length ≤ 200) :
    Calls Tryz.prog 34 #[.pointer (some ⟨q, 0, none⟩), .int .i64 n] w fun e w' => e = .returned (.int .i64 (erE l n)) ∧ Below w.heap.size w w' := by
  cases hs : seqB l n
  all_goals
    have hE : erE l n = (if seqB l n = false then 4 else 0) := rfl
    rw [hs] at hE
    have HE := hide hE
    clear hE
    go_enter Tryz.func34, Tryz.ntmps34
    go_wp2_with fail
    refine (splace_any n h hr h200).mono ?_
    rintro e w1 ⟨rfl, hb⟩
    rw [hs]
    go_wp2_with fail
    go_ret
    exact ⟨ret_eq (by rw [unhide HE]; rfl), hb⟩

theorem try_bad {s : Sto} {r : Rc} (h : ¬ chkR r = 0) : tryE s r = chkR r := by unfold tryE; rw [if_pos h]
theorem try_msg {s : Sto} {r : Rc} (h : chkR r = 0) (h1 : r.k = 1) : tryE s r = tmE s.l s.last r := by
  unfold tryE tmE
  rw [if_neg (by rw [h]; simp), if_neg (by omega), if_neg (by omega)]
theorem try_era {s : Sto} {r : Rc} (h : chkR r = 0) (h1 : r.k = 2) : tryE s r = erE s.l r.q := by
  unfold tryE erE
  rw [if_neg (by rw [h]; simp)]
  by_cases z : seqB s.l r.q = false
  · rw [if_pos ⟨h1, z⟩, if_pos z]
  · rw [if_neg (fun y => z y.2), if_pos (by omega), if_neg z]
theorem try_else {s : Sto} {r : Rc} (h : chkR r = 0) (h1 : ¬ r.k = 1) (h2 : ¬ r.k = 2) : tryE s r = 0 := by
  unfold tryE
  rw [if_neg (by rw [h]; simp), if_neg (fun z => h2 z.1), if_pos h1]

set_option maxHeartbeats 1000000 in
theorem stry_any {w : World} {B q : Nat} {v u : Value} {s : Sto} {es : List Ent} (r : Rc) (hm : Small r) (h : Sho w B q v u s.l es s.last) (hc : Cnt s.l es) (hk : s.Ok) :
    Calls Tryz.prog 17 #[.pointer (some ⟨q, 0, none⟩), .agg #[.int .i64 r.k, .int .i64 r.q, .int .i64 r.t, .string r.s, .string r.h, .string r.d]] w fun e w' => e = .returned (.int .i64 (tryE s r)) ∧ Below w.heap.size w w' := by
  have hr : RiseQ s.l := hk.rise
  have h200 := hk.few
  have hb0 : Below w.heap.size w (w.alloc (.cells #[.int .i64 r.k, .int .i64 r.q, .int .i64 r.t, .string r.s, .string r.h, .string r.d] 30)) := (Below.refl _ _).alloc (Nat.le_refl _) _
  have H0 := hide (h.below hb0)
  have HR := hide (RB.new w r.k r.q r.t r.s r.h r.d 30)
  have Hb0 := hide hb0
  have PC := hide (check_any r.k r.q r.t r.s r.h r.d (w.alloc (.cells #[.int .i64 r.k, .int .i64 r.q, .int .i64 r.t, .string r.s, .string r.h, .string r.d] 30)) hm.s hm.h hm.d)
  have hz := hm.s
  have HC := hide hc
  have Hr := hide hr
  clear h hb0 hm hk hc hr
  by_cases hg : chkR r = 0
  · have HZ : Hid (chkV r.k r.q r.t r.s r.h r.d = 0) := hide hg
    have F1 := right_msg hg
    have T1 := try_msg (s := s) hg
    have T2 := try_era (s := s) hg
    have T3 := try_else (s := s) hg
    clear hg
    rcases r with ⟨k, n, t, s', h', d'⟩
    by_cases hk1 : k = 1
    · subst hk1
      have HRt := hide (F1 rfl)
      have TT := hide (T1 rfl)
      clear T1 T2 T3 F1
      dsimp only at H0 HR Hb0 PC hz HZ ⊢
      go_enter Tryz.func17, Tryz.ntmps17
      go_wp2_with fail
      refine (unhide PC).mono ?_
      rintro e w1 ⟨rfl, b1⟩
      rw [unhide HZ]
      obtain ⟨_, x0, x1, x2, x3, x4, x5⟩ := (unhide HR).next b1
      have P := hide (stmsg_any ⟨1, n, t, s', h', d'⟩ ((unhide H0).below b1) (unhide HC) (unhide HRt) hz h200)
      have B1 := hide (bstep (unhide Hb0) b1)
      clear b1
      go_wp2_with fail
      refine (unhide P).mono ?_
      rintro e w2 ⟨rfl, b2⟩
      go_wp2_with fail
      go_ret
      exact ⟨ret_eq (unhide TT), bstep (unhide B1) b2⟩
    · by_cases hk2 : k = 2
      · subst hk2
        have TT := hide (T2 rfl)
        clear T1 T2 T3 F1
        dsimp only at H0 HR Hb0 PC hz HZ ⊢
        go_enter Tryz.func17, Tryz.ntmps17
        go_wp2_with fail
        refine (unhide PC).mono ?_
        rintro e w1 ⟨rfl, b1⟩
        rw [unhide HZ]
        obtain ⟨_, x0, x1, x2, x3, x4, x5⟩ := (unhide HR).next b1
        have P := hide (stera_any n ((unhide H0).below b1) (unhide Hr) h200)
        have B1 := hide (bstep (unhide Hb0) b1)
        clear b1
        go_wp2_with fail
        refine (unhide P).mono ?_
        rintro e w2 ⟨rfl, b2⟩
        go_wp2_with fail
        go_ret
        exact ⟨ret_eq (unhide TT), bstep (unhide B1) b2⟩
      · have T4 := hide (T3 hk1 hk2)
        clear T1 T2 T3 F1
        dsimp only at H0 HR Hb0 PC hz HZ ⊢
        go_enter Tryz.func17, Tryz.ntmps17
        go_wp2_with fail
        refine (unhide PC).mono ?_
        rintro e w1 ⟨rfl, b1⟩
        rw [unhide HZ]
        obtain ⟨_, x0, x1, x2, x3, x4, x5⟩ := (unhide HR).next b1
        have B1 := hide (bstep (unhide Hb0) b1)
        clear b1
        go_wp2_with fail
        go_ret
        exact ⟨ret_eq (unhide T4), unhide B1⟩
  · have R := hide (try_bad (s := s) hg)
    obtain ⟨E, hE⟩ : ∃ E, E = chkR r := ⟨_, rfl⟩
    have HE : Hid (chkV r.k r.q r.t r.s r.h r.d = E) := hide hE.symm
    rw [← hE] at hg R
    clear hE
    go_enter Tryz.func17, Tryz.ntmps17
    go_wp2_with fail
    refine (unhide PC).mono ?_
    rintro e w1 ⟨rfl, b1⟩
    rw [unhide HE]
    go_wp2_with fail
    go_ret
    exact ⟨ret_eq (unhide R), bstep (unhide Hb0) b1⟩
end Go.Proofs.YtphhebdmfdjfeagGreatDoor.Dk

namespace Go.Proofs.YtphhebdmfdjfeagGreatDoor.Dk
open Go.RowKit

theorem ArrR.six {w : World} {B g cap : Nat} {l : List Rc} (h : ArrR w B (.slice (some ⟨g, 0, none⟩) l.length cap) l) {k : Nat} (hk : k < l.length) : Six w g (k * 6) (rc l k) := by
  obtain ⟨a, c, e, _, _, hs⟩ := h.shape
  obtain ⟨rfl, _, _⟩ := Value.slice.inj e
  obtain ⟨b, o, e2, s6⟩ := hs k hk
  cases e2
  rw [Nat.zero_add] at s6
  exact s6

theorem rb_chg {w w' : World} {b : Nat} {k q t : Int} {s h d : ByteArray} {A : Nat → Prop} (r : RB w b k q t s h d) (hc : Chg A w w') (hn : ¬ A b) : RB w' b k q t s h d :=
  ⟨Nat.lt_of_lt_of_le r.lt hc.size, by rw [hc.cell (p := ⟨b, 0, none⟩) r.lt hn]; exact r.c0, by rw [hc.cell (p := ⟨b, 1, none⟩) r.lt hn]; exact r.c1, by rw [hc.cell (p := ⟨b, 2, none⟩) r.lt hn]; exact r.c2, by rw [hc.cell (p := ⟨b, 3, none⟩) r.lt hn]; exact r.c3, by rw [hc.cell (p := ⟨b, 4, none⟩) r.lt hn]; exact r.c4, by rw [hc.cell (p := ⟨b, 5, none⟩) r.lt hn]; exact r.c5, fun j => by rw [hc.frozen (p := ⟨b, j, none⟩) r.lt hn]; exact r.fr j⟩
/-- the record is put behind the messages -/
theorem Sho.more {w : World} {B q : Nat} {a : Option Addr} {n cap : Nat} {u : Value} {l : List Rc} {es : List Ent} {last : Int} (r : Rc) (h : Sho w B q (.slice a n cap) u l es last) (h200 : l.length ≤ 200) (hB : B ≤ w.heap.size) (w3 : World) (b3 : Below w.heap.size w w3) :
    ∃ a' m' c' w8, (Builtin.append_ #[22, 22] 22 #[.slice a n cap, .slice (some ⟨w3.heap.size, 0, none⟩) 1 1]).run Tryz.prog (w3.alloc (.cells #[.int .i64 r.k, .int .i64 r.q, .int .i64 r.t, .string r.s, .string r.h, .string r.d] 30)) = .ok (.slice a' m' c') w8 ∧ w8.cell? ⟨q, 0, none⟩ = some (.slice a n cap) ∧ w8.frozen? ⟨q, 0, none⟩ = false ∧ Hid (Moves w (w8.setCell ⟨q, 0, none⟩ (.slice a' m' c')) B q (.slice a n cap) u (l ++ [r]) es last) := by
  have b4 : Below w3.heap.size w3 (w3.alloc (.cells #[.int .i64 r.k, .int .i64 r.q, .int .i64 r.t, .string r.s, .string r.h, .string r.d] 30)) := (Below.refl _ _).alloc (Nat.le_refl _) _
  have h4 := (h.below b3).below b4
  obtain ⟨v8, w8, hr, A8, C8, L8⟩ := append_rec _ B 22 _ l [r] h4.msgs ⟨w3.heap.size, 0, none⟩ 1 (six_row w3 r) (by simp; omega) (by have := b3.size; have := b4.size; omega)
  obtain ⟨a', c', rfl, _⟩ := A8.shape
  refine ⟨a', _, c', w8, hr, ?_, ?_, hide (Moves.behind (bstep b3 b4) (Moves.store h4 C8 A8 L8))⟩
  · rw [C8.cell (p := ⟨q, 0, none⟩) h4.lt h4.av]; exact h4.c0
  · rw [C8.frozen (p := ⟨q, 0, none⟩) h4.lt h4.av]; exact h4.free 0

set_option maxRecDepth 100000 in
set_option maxHeartbeats 2000000 in
theorem sadd_any {w : World} {B q : Nat} {v u : Value} {l : List Rc} {es : List Ent} {last : Int} (r : Rc) (hm : Small r) (h : Sho w B q v u l es last) (hg : Good es) (h200 : l.length ≤ 200) (hB : B ≤ w.heap.size) (hn : getN es r.s ≤ 200) (hn0 : 0 ≤ getN es r.s) :
    Calls Tryz.prog 38 #[.pointer (some ⟨q, 0, none⟩), .agg #[.int .i64 r.k, .int .i64 r.q, .int .i64 r.t, .string r.s, .string r.h, .string r.d]] w fun e w' => e = .returned (.tuple #[]) ∧ Moves w w' B q v u (l ++ [r]) (putL es r.s (getN es r.s + 1)) r.q := by
  obtain ⟨w0, hw0⟩ : ∃ w0, w0 = w.alloc (.cells #[.int .i64 r.k, .int .i64 r.q, .int .i64 r.t, .string r.s, .string r.h, .string r.d] 30) := ⟨_, rfl⟩
  have hb0 : Below w.heap.size w w0 := by rw [hw0]; exact (Below.refl _ _).alloc (Nat.le_refl _) _
  have R0 : RB w0 w.heap.size r.k r.q r.t r.s r.h r.d := by rw [hw0]; exact RB.new w r.k r.q r.t r.s r.h r.d 30
  have h0 := h.below hb0
  obtain ⟨a, cap, rfl, _⟩ := h.msgs.shape
  have c0 := h0.c0
  have hql := h0.lt
  have hbl := R0.lt
  have hw0l : w.heap.size < w0.heap.size := R0.lt
  have hnf : ¬ feet q (.slice a l.length cap) u w.heap.size := fun z => by have := (h.own _ z).2; omega
  have HR0 := hide R0
  obtain ⟨_, x0, x1, x2, x3, x4, x5, _⟩ := R0
  have PC : Hid (∀ X, Calls Tryz.prog 22 #[.agg #[.int .i64 r.k, .int .i64 r.q, .int .i64 r.t, .string r.s, .string r.h, .string r.d]] X fun e w' => e = .returned (.agg #[.int .i64 r.k, .int .i64 r.q, .int .i64 r.t, .string r.s, .string r.h, .string r.d]) ∧ Below X.heap.size X w') := hide (fun X => copyR_any r hm X)
  have PA := hide (h0.more r h200 (by have := hb0.size; omega))
  have Hb0 := hide hb0
  have HN := hide hnf
  have HG := hide hg
  have hz := hm.s
  have hB0 : B ≤ w0.heap.size := by have := hb0.size; omega
  clear h h0 hb0 hg hnf hm
  go_enter Tryz.func38, Tryz.ntmps38
  go_wp2_with fail
  rw [← hw0]
  clear hw0
  go_region_law (first
    | (refine step_appendX rfl _ _ 22 22 rfl (.slice a l.length cap) _ (by first | (simp [Act.eval]; done) | (simp [Act.eval, Act.put]; done)) (by first | (simp [Act.eval]; done) | (simp [Act.eval, Act.put]; done)) hrun ?_)
    | (go_simp; go_at_call 22; refine (unhide PC _).mono ?_; rintro e w3 ⟨rfl, b3⟩; have d2 := (b3.cell (p := ⟨q, 0, none⟩) hql).trans c0; have hp3 := Nat.lt_of_lt_of_le hql b3.size; obtain ⟨a', m', c', w8, hrun, e0, f0, HM⟩ := unhide PA w3 (((Below.refl w0.heap.size w0).drew).trans b3); dsimp only))
  all_goals
    obtain ⟨v1, u1, s1, ch1, o1⟩ := unhide HM
    have R1 := rb_chg (unhide HR0) ch1 (unhide HN)
    generalize w8.setCell ⟨q, 0, none⟩ (.slice a' m' c') = W1 at *
    clear PC PA HR0 x0 x1 x2 x3 x4 x5 e0 f0 d2 hp3 b3 hrun HM c0 hbl
    have HS1 := hide s1
    have HR1 := hide R1
    have hq1 := s1.lt
    have hl1 := R1.lt
    obtain ⟨_, x0, x1, x2, x3, x4, x5, _⟩ := R1
    have HC1 := hide (And.intro ch1 o1)
    have HNf : Hid (¬ foot q u1 w.heap.size) := hide (fun z => by
      have hf : feet q v1 u1 w.heap.size := by
        rcases z with z | z
        · exact .inl z
        · exact .inr (.inr z)
      rcases o1 _ hf with y | y
      · exact unhide HN y
      · have := hw0l; omega)
    have hB1 : B ≤ W1.heap.size := by have := ch1.size; omega
    have hsd := s1.below (Below.refl _ W1).drew
    have PN := hide (scount_any r.s hsd (unhide HG) hz)
    obtain ⟨n, en⟩ : ∃ n, n = getN es r.s := ⟨_, rfl⟩
    rw [← en] at PN hn hn0
    have HE := hide en
    have hw1 : IntKind.i64.wrap (n + 1) = n + 1 := by rw [IntKind.wrap_i64]; omega
    clear s1 ch1 o1 en hsd
    go_wp2_with fail
    go_region_held3 (fun w' => w'.cell? ⟨w.heap.size, 3, none⟩ = some (.string r.s)) (first | assumption | go_keep)
      (first
        | (go_at_call 53; refine (unhide PN).mono ?_; rintro e w5 ⟨rfl, b5⟩; have B5 := hide (((Below.refl W1.heap.size W1).drew).trans b5); have y3 := ((unhide HR1).next (unhide B5)).c3)
        | (go_at_call 60; refine (putO_any B q u1 es r.s (n + 1) w5 ((unhide HS1).below (unhide B5)).keeps (unhide HG) hz (Nat.le_trans hB1 (unhide B5).size)).mono ?_; rintro e w6 ⟨rfl, hu⟩; have R6 := rb_chg ((unhide HR1).next (unhide B5)) (chgD (UpdO.chg hu)) (unhide HNf); have z3 := R6.c3))
    have s5 := (unhide HS1).below (unhide B5)
    have M6 := Moves.behind (unhide B5) (Moves.upd s5 hu)
    have HM6 := hide M6
    obtain ⟨v6, u6, s6, c6, o6⟩ := M6
    have k2 := s6.c2
    have kf := s6.free 2
    have kl := s6.lt
    have x1 := R6.c1
    have HF := hide (Moves.seq c6 o6 (Moves.number s6 r.q))
    have HC := hide (Moves.behind (unhide Hb0) (Moves.seq (unhide HC1).1 (unhide HC1).2 (unhide HF)))
    clear HF s6 c6 o6 s5 hu HM6 y3 z3 R6
    go_wp2_with fail
    go_end0
    refine ⟨rfl, ?_⟩
    rw [← unhide HE]
    exact unhide HC

set_option maxHeartbeats 1000000 in
theorem sera_any {w : World} {B q : Nat} {v u : Value} {l : List Rc} {es : List Ent} {last : Int} (n : Int) (h : Sho w B q v u l es last) (hr : RiseQ l) (hs : seqB l n = true) (hg : Good es) (h200 : l.length ≤ 200) (hB : B ≤ w.heap.size) (hz : (rc l (pq l n)).s.size ≤ 140737488355328) (hn : getN es (rc l (pq l n)).s ≤ 200) :
    Calls Tryz.prog 39 #[.pointer (some ⟨q, 0, none⟩), .int .i64 n] w fun e w' => e = .returned (.tuple #[]) ∧ Moves w w' B q v u (delR l (pq l n)) (offL es (getN es (rc l (pq l n)).s) (rc l (pq l n)).s) last := by
  obtain ⟨p1, p2⟩ := seq_hit hr hs
  have PP := hide (splace_any n h hr h200)
  obtain ⟨p, hp⟩ : ∃ p, p = pq l n := ⟨_, rfl⟩
  rw [← hp] at p1 p2 PP hz hn ⊢
  clear hp p2
  obtain ⟨g, cap, rfl, c1, c2, c3, c4⟩ := h.msgs.there (by omega)
  unfold maxLen at c2
  have HH := hide h
  have HG := hide hg
  clear h hg hr hs
  go_enter Tryz.func39, Tryz.ntmps39
  go_wp2_with fail
  refine (unhide PP).mono ?_
  rintro e w1 ⟨rfl, b1⟩
  have h1 := (unhide HH).below b1
  have d0 := h1.c0
  obtain ⟨_, x0, x1, x2, x3, x4, x5⟩ := h1.msgs.six p1
  have P := hide (off_any (rc l p).s h1 (unhide HG) hz (by have := b1.size; omega) hn)
  have B1 := hide b1
  clear b1 h1 x0 x1 x2 x4 x5
  go_wp2_with fail
  refine (unhide P).mono ?_
  rintro e w2 ⟨rfl, k2⟩
  obtain ⟨u2, h2, ch2, o2⟩ := Counts.behind (unhide B1) k2
  have F2 := hide (Counts.feet (v := .slice (some ⟨g, 0, none⟩) l.length cap) ch2 o2)
  have e0 := h2.c0
  have PD := hide (deleteR_any B _ l p w2 h2.msgs p1 h200)
  have H2 := hide h2
  clear h2 ch2 o2 P x3 d0 k2
  go_wp2_with fail
  refine (unhide PD).mono ?_
  rintro e w3 ⟨v3, rfl, i1, i2, i3⟩
  obtain ⟨a3, cp3, rfl, _⟩ := i1.shape
  have d4 : w3.cell? ⟨q, 0, none⟩ = some (.slice (some ⟨g, 0, none⟩) l.length cap) := by rw [i2.cell (p := ⟨q, 0, none⟩) (unhide H2).lt (unhide H2).av]; exact e0
  have d5 : w3.frozen? ⟨q, 0, none⟩ = false := by rw [i2.frozen (p := ⟨q, 0, none⟩) (unhide H2).lt (unhide H2).av]; exact (unhide H2).free 0
  have HM := hide (Moves.store (unhide H2) i2 i1 i3)
  clear i1 i2 i3 e0 PD
  go_wp2_with fail
  go_end0
  exact ⟨rfl, Moves.seq (unhide F2).1 (unhide F2).2 (unhide HM)⟩
end Go.Proofs.YtphhebdmfdjfeagGreatDoor.Dk
