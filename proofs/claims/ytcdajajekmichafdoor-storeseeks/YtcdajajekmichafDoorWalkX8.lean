/-
  The program's store: Apply.
-/
import Derived.Test.YtcdajajekmichafDoorWalkX7
namespace Go.Proofs.YtcdajajekmichafDoor.Dk
open Go.RowKit

theorem try_chk {s : Sto} {r : Rc} (h : tryE s r = 0) : chkR r = 0 := by
  apply Classical.byContradiction
  intro z
  rw [try_bad z] at h
  exact z h
theorem apl_bad {s : Sto} {r : Rc} (h : ¬ tryE s r = 0) : aplS s r = s := by unfold aplS; rw [if_pos h]
theorem apl_msg {s : Sto} {r : Rc} (h : tryE s r = 0) (h1 : r.k = 1) : aplS s r = ⟨s.l ++ [r], r.q⟩ := by
  unfold aplS; rw [if_neg (by rw [h]; simp), if_pos h1]
theorem apl_mark {s : Sto} {r : Rc} (h : tryE s r = 0) (h1 : r.k = 4) : aplS s r = ⟨s.l, max s.last r.q⟩ := by
  unfold aplS; rw [if_neg (by rw [h]; simp), if_neg (by omega), if_pos h1]
theorem apl_era {s : Sto} {r : Rc} (h : tryE s r = 0) (h1 : r.k = 2) (hr : RiseQ s.l) (hs : seqB s.l r.q = true) : aplS s r = ⟨delR s.l (pq s.l r.q), s.last⟩ := by
  unfold aplS; rw [if_neg (by rw [h]; simp), if_neg (by omega), if_neg (by omega), ← erase_is hr hs]
  unfold goneB
  rw [h1]
  simp
theorem apl_pur {s : Sto} {r : Rc} (h : tryE s r = 0) (h1 : r.k = 3) (hr : RiseQ s.l) : aplS s r = ⟨leftL r.s (s.l.take (pq s.l r.q)) ++ s.l.drop (pq s.l r.q), s.last⟩ := by
  rw [purge_left h h1, purge_is hr]
theorem try_seq {s : Sto} {r : Rc} (h : tryE s r = 0) (h1 : r.k = 2) : seqB s.l r.q = true := by
  rw [try_era (try_chk h) h1] at h
  unfold erE at h
  cases z : seqB s.l r.q
  · rw [z] at h; cases h
  · rfl
theorem try_room {s : Sto} {r : Rc} {es : List Ent} (hc : Cnt s.l es) (h : tryE s r = 0) (h1 : r.k = 1) : 0 < cntN s.l r.s ∨ es.length < 100 := by
  rw [try_msg (try_chk h) h1] at h
  unfold tmE at h
  split at h
  · cases h
  · split at h
    · cases h
    · rename_i z y
      rw [hc.len]
      by_cases q : nameN s.l < 100
      · exact .inr q
      · left
        have hh : hasS s.l r.s = true := by
          cases x : hasS s.l r.s
          · exact absurd (.inr ⟨x, by omega⟩) y
          · rfl
        rw [cntN_has] at hh
        exact of_decide_eq_true hh
theorem Moves.drew {w w' : World} {B q : Nat} {v u : Value} {l : List Rc} {es : List Ent} {last : Int} (h : Moves w w' B q v u l es last) : Moves w w'.drew B q v u l es last := by
  obtain ⟨v', u', s, c, o⟩ := h
  exact ⟨v', u', s.below (Below.refl _ _).drew, c.trans (Chg.of_below (Below.refl _ _).drew), o⟩
/-- what a call of Apply makes of it -/
def Done (w w' : World) (B q : Nat) (v u : Value) (s' : Sto) : Prop := ∃ es', Moves w w' B q v u s'.l es' s'.last ∧ Cnt s'.l es'
theorem Done.behind {w w1 w' : World} {B q : Nat} {v u : Value} {s' : Sto} (hb : Below w.heap.size w w1) (h : Done w1 w' B q v u s') : Done w w' B q v u s' := by
  obtain ⟨es', m, c⟩ := h
  exact ⟨es', m.behind hb, c⟩

set_option maxRecDepth 100000 in
set_option maxHeartbeats 2000000 in
theorem sapply_any {w : World} {B q : Nat} {v u : Value} {s : Sto} {es : List Ent} (r : Rc) (hm : Small r) (h : Sho w B q v u s.l es s.last) (hc : Cnt s.l es) (hk : s.Ok) (hB : B ≤ w.heap.size) :
    Calls Tryd.prog 16 #[.pointer (some ⟨q, 0, none⟩), .agg #[.int .i64 r.k, .int .i64 r.q, .int .i64 r.t, .string r.s, .string r.h, .string r.d]] w fun e w' => e = .returned (.int .i64 (tryE s r)) ∧ Done w w' B q v u (aplS s r) := by
  have hb0 : Below w.heap.size w (w.alloc (.cells #[.int .i64 r.k, .int .i64 r.q, .int .i64 r.t, .string r.s, .string r.h, .string r.d] 26)) := (Below.refl _ _).alloc (Nat.le_refl _) _
  have h0 := h.below hb0
  have PT := hide (stry_any r hm h0 hc hk)
  have HR := hide (RB.new w r.k r.q r.t r.s r.h r.d 26)
  have Hb0 := hide hb0
  have H0 := hide h0
  have hr : RiseQ s.l := hk.rise
  have h200 := hk.few
  have HMs : Hid (∀ x ∈ s.l, errS false x.s = 0 ∧ x.s.size ≤ 135) := hide (fun x hx => ⟨right_msg (hk.msg x hx).2 (hk.msg x hx).1, (hk.small hx).1⟩)
  have hl := hk.last
  have HC := hide hc
  have Hr := hide hr
  clear hk
  by_cases ht : tryE s r = 0
  · have hg := try_chk ht
    have hq := chkR_in hg
    have HT := hide ht
    have A1 := apl_msg ht
    have A2 := fun h1 => apl_era ht h1 hr (try_seq ht h1)
    have A3 := fun h1 => apl_pur ht h1 hr
    have A4 := apl_mark ht
    have S2 := try_seq ht
    have Rm := right_msg hg
    have Rp := right_pur hg
    have Ro := try_room hc ht
    have K4 : r.k = 1 ∨ r.k = 2 ∨ r.k = 3 ∨ r.k = 4 := by
      obtain ⟨z1, z2, _⟩ := Pk.chk_len (r := r.pk) hg
      have z1 : 1 ≤ r.k := z1
      have z2 : r.k ≤ 4 := z2
      omega
    clear h hb0 h0 hc hr ht hg
    rcases r with ⟨k, n, t, s', h', d'⟩
    dsimp only at HR Hb0 H0 PT HT hq K4 ⊢
    have hz : s'.size ≤ 140737488355328 := hm.s
    rcases K4 with rfl | rfl | rfl | rfl
    · have AA := hide (A1 rfl)
      have G0 : getN es s' = (cntN s.l s' : Int) := (unhide HC).get (Rm rfl)
      have G1 := cntN_le s.l s'
      have hn1 : getN es s' ≤ 200 := by omega
      have hn0 : 0 ≤ getN es s' := by omega
      have CC : Hid (Cnt (s.l ++ [⟨1, n, t, s', h', d'⟩]) (putL es s' (getN es s' + 1))) := hide (by rw [G0]; exact (unhide HC).put ⟨1, n, t, s', h', d'⟩ (Rm rfl) hz (Ro rfl))
      clear A1 A2 A3 A4 S2 Rm Rp Ro G0 G1
      go_enter Tryd.func16, Tryd.ntmps16
      go_wp2_with fail
      refine (unhide PT).mono ?_
      rintro e w1 ⟨rfl, b1⟩
      rw [unhide HT]
      obtain ⟨_, x0, x1, x2, x3, x4, x5, _⟩ := (unhide HR).next b1
      have B1 := hide (bstep (unhide Hb0) b1)
      have H1 := hide ((unhide H0).below b1)
      have hB1 : B ≤ w1.heap.size := Nat.le_trans hB (unhide B1).size
      clear b1
      have P := hide (sadd_any ⟨1, n, t, s', h', d'⟩ hm (unhide H1) (unhide HC).good h200 hB1 hn1 hn0)
      go_wp2_with fail
      refine (unhide P).mono ?_
      rintro e w2 ⟨rfl, m2⟩
      have M2 := hide m2
      clear P m2 x0 x1 x2 x3 x4 x5
      go_wp2_with fail
      go_ret
      refine ⟨ret_eq (unhide HT), ?_⟩
      rw [unhide AA]
      exact Done.behind (unhide B1) ⟨_, unhide M2, unhide CC⟩
    · have AA := hide (A2 rfl)
      have hs0 : seqB s.l n = true := S2 rfl
      obtain ⟨p1, p2⟩ := seq_hit (unhide Hr) hs0
      have hs := hide hs0
      obtain ⟨m1, m2⟩ := unhide HMs _ (rc_mem p1)
      have G0 : getN es (rc s.l (pq s.l n)).s = (cntN s.l (rc s.l (pq s.l n)).s : Int) := (unhide HC).get m1
      have G1 := cntN_le s.l (rc s.l (pq s.l n)).s
      have hn1 : Hid (getN es (rc s.l (pq s.l n)).s ≤ 200) := hide (by omega)
      have CC : Hid (Cnt (delR s.l (pq s.l n)) (offL es (getN es (rc s.l (pq s.l n)).s) (rc s.l (pq s.l n)).s)) := hide (by
        have c := unhide HC
        rw [split_at p1] at c
        exact Cnt.off c m1 (by omega))
      have hm2 : Hid ((rc s.l (pq s.l n)).s.size ≤ 140737488355328) := hide (by omega)
      clear A1 A2 A3 A4 S2 Rm Rp Ro G0 G1 p1 p2 m1 m2 hs0
      go_enter Tryd.func16, Tryd.ntmps16
      go_wp2_with fail
      refine (unhide PT).mono ?_
      rintro e w1 ⟨rfl, b1⟩
      rw [unhide HT]
      obtain ⟨_, x0, x1, x2, x3, x4, x5, _⟩ := (unhide HR).next b1
      have B1 := hide (bstep (unhide Hb0) b1)
      have H1 := hide ((unhide H0).below b1)
      have hB1 : B ≤ w1.heap.size := Nat.le_trans hB (unhide B1).size
      clear b1
      have P := hide (sera_any n (unhide H1) (unhide Hr) (unhide hs) (unhide HC).good h200 hB1 (unhide hm2) (unhide hn1))
      go_wp2_with fail
      refine (unhide P).mono ?_
      rintro e w2 ⟨rfl, m2⟩
      have M2 := hide m2
      clear P m2 x0 x1 x2 x3 x4 x5
      go_wp2_with fail
      go_ret
      refine ⟨ret_eq (unhide HT), ?_⟩
      rw [unhide AA]
      exact Done.behind (unhide B1) ⟨_, unhide M2, unhide CC⟩
    · have AA := hide (A3 rfl)
      have hf := hide (Rp rfl)
      clear A1 A2 A3 A4 S2 Rm Rp Ro
      go_enter Tryd.func16, Tryd.ntmps16
      go_wp2_with fail
      refine (unhide PT).mono ?_
      rintro e w1 ⟨rfl, b1⟩
      rw [unhide HT]
      obtain ⟨_, x0, x1, x2, x3, x4, x5, _⟩ := (unhide HR).next b1
      have B1 := hide (bstep (unhide Hb0) b1)
      have H1 := hide ((unhide H0).below b1)
      have hB1 : B ≤ w1.heap.size := Nat.le_trans hB (unhide B1).size
      clear b1
      have P := hide (spur_any s' n (unhide hf) hz (unhide H1) (unhide Hr) (unhide HC) h200 (unhide HMs) hB1)
      go_wp2_with fail
      refine (unhide P).mono ?_
      rintro e w2 ⟨rfl, m2⟩
      have M2 := hide m2
      clear P m2 x0 x1 x2 x3 x4 x5
      go_wp2_with fail
      go_ret
      refine ⟨ret_eq (unhide HT), ?_⟩
      rw [unhide AA]
      exact Done.behind (unhide B1) (unhide M2)
    · have AA := hide (A4 rfl)
      clear A1 A2 A3 A4 S2 Rm Rp Ro
      go_enter Tryd.func16, Tryd.ntmps16
      go_wp2_with fail
      refine (unhide PT).mono ?_
      rintro e w1 ⟨rfl, b1⟩
      rw [unhide HT]
      obtain ⟨_, x0, x1, x2, x3, x4, x5, _⟩ := (unhide HR).next b1
      have B1 := hide (bstep (unhide Hb0) b1)
      have H1 := hide ((unhide H0).below b1)
      have hB1 : B ≤ w1.heap.size := Nat.le_trans hB (unhide B1).size
      clear b1
      have k2 := (unhide H1).c2
      have kf := (unhide H1).free 2
      have kl := (unhide H1).lt
      have M2 := hide (Moves.number (unhide H1) (max s.last n))
      go_wp2_with fail
      go_region
      all_goals go_wp2_with fail
      all_goals go_ret
      all_goals refine ⟨ret_eq (unhide HT), ?_⟩
      all_goals rw [unhide AA]
      all_goals exact Done.behind (unhide B1) ⟨es, (unhide M2).drew, unhide HC⟩
  · have R := hide (apl_bad ht)
    obtain ⟨E, hE⟩ : ∃ E, E = tryE s r := ⟨_, rfl⟩
    rw [← hE] at ht PT ⊢
    clear hE h hb0 h0 hc hr
    go_enter Tryd.func16, Tryd.ntmps16
    go_wp2_with fail
    refine (unhide PT).mono ?_
    rintro e w1 ⟨rfl, b1⟩
    go_wp2_with fail
    go_ret
    refine ⟨rfl, ?_⟩
    rw [unhide R]
    exact Done.behind (unhide Hb0) ⟨es, Moves.same (unhide H0) b1, unhide HC⟩
end Go.Proofs.YtcdajajekmichafDoor.Dk
