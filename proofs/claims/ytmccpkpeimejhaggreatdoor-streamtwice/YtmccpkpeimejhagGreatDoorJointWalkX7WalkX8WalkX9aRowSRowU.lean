/-
  The program's store: purge.
  The program's store: Apply.
  The program's store: New, All.
  The four numbers of a store's sums in a block. No walk.
  A store's sums that are handed back: four cells are read as one value. No walk.
-/
import Derived.Test.YtmccpkpeimejhagGreatDoorJointWalkX3RowYWalkX5WalkX6aWalkX6
import Derived.Test.YtmccpkpeimejhagGreatDoorJointWalkN3RowBWalkC1WalkC2WalkC3
import Derived.Laws.Rows
namespace Go.Proofs.YtmccpkpeimejhagGreatDoor.Dk
open Go.RowKit

theorem tk_match {f s : ByteArray} (hf : errS true f = 0) (hs : errS false s = 0) : matchB f s = tkB f s := by
  unfold matchB tkB
  rw [hf, hs]
  simp
/-- a purge on its way: k messages were looked at -/
structure Purg (w wr : World) (B q : Nat) (v u : Value) (l : List Rc) (last : Int) (f : ByteArray) (k : Nat) (sv : Value) : Prop where
  ex : ∃ u' es', Sho wr B q v u' l es' last ∧ Cnt (leftL f (l.take k) ++ l.drop k) es' ∧ Chg (feet q v u) w wr ∧ (∀ g, feet q v u' g → feet q v u g ∨ w.heap.size ≤ g) ∧ ArrR wr w.heap.size sv (leftL f (l.take k)) ∧ ∀ g, sv.ownBlock = some g → u'.ownBlock ≠ some g
  hq : q < w.heap.size
  hv : ∀ g, v.ownBlock = some g → g < w.heap.size

theorem cntN_le (l : List Rc) (s : ByteArray) : cntN l s ≤ l.length := List.length_filter_le _ _
section
variable {w wr w' : World} {B q : Nat} {v u sv : Value} {l : List Rc} {last : Int} {f : ByteArray} {k : Nat}
theorem Purg.below (h : Purg w wr B q v u l last f k sv) (hb : Below wr.heap.size wr w') : Purg w w' B q v u l last f k sv := by
  obtain ⟨u', es', s, cn, ch, o, ar, ap⟩ := h.ex
  exact ⟨⟨u', es', s.below hb, cn, ch.trans (Chg.of_below hb), o, ar.below hb, ap⟩, h.hq, h.hv⟩
theorem Purg.room (h : Purg w wr B q v u l last f k sv) : w.heap.size ≤ wr.heap.size := by
  obtain ⟨u', es', s, cn, ch, o, ar, ap⟩ := h.ex
  exact ch.size
theorem Purg.show (h : Purg w wr B q v u l last f k sv) (hk : k < l.length) {a : Option Addr} {n c : Nat} (hv : v = .slice a n c) : ∃ b o, a = some ⟨b, o, none⟩ ∧ Six wr b (o + k * 6) (rc l k) := by
  obtain ⟨u', es', s, cn, ch, o, ar, ap⟩ := h.ex
  obtain ⟨a', c', e, _, _, hs⟩ := s.msgs.shape
  rw [hv] at e
  obtain ⟨rfl, _, _⟩ := Value.slice.inj e
  exact hs k hk
theorem Purg.shape (h : Purg w wr B q v u l last f k sv) : ∃ a n c, sv = .slice a n c := by
  obtain ⟨u', es', s, cn, ch, o, ar, ap⟩ := h.ex
  obtain ⟨a', c', e, _⟩ := ar.shape
  exact ⟨_, _, _, e⟩
theorem Purg.count (h : Purg w wr B q v u l last f k sv) (hk : k < l.length) (ht : tkB f (rc l k).s = true) (hB : B ≤ w.heap.size) (h200 : l.length ≤ 200) (hm : ∀ x ∈ l, errS false x.s = 0 ∧ x.s.size ≤ 135) :
    Calls Tryz.prog 94 #[.pointer (some ⟨q, 0, none⟩), .string (rc l k).s] wr fun e w' => e = .returned (.tuple #[]) ∧ Purg w w' B q v u l last f (k + 1) sv := by
  obtain ⟨u', es', s, cn, ch, o, ar, ap⟩ := h.ex
  obtain ⟨m1, m2⟩ := hm _ (rc_mem hk)
  have hsp : leftL f (l.take k) ++ l.drop k = leftL f (l.take k) ++ rc l k :: l.drop (k + 1) := by rw [rc_get hk, ← List.drop_eq_getElem_cons hk]
  have hnl : (leftL f (l.take k) ++ l.drop k).length ≤ 200 := by
    have := left_len f (l.take k)
    rw [List.length_take] at this
    rw [List.length_append, List.length_drop]; omega
  have hgn : getN es' (rc l k).s ≤ 200 := by
    rw [cn.get m1]
    have := cntN_le (leftL f (l.take k) ++ l.drop k) (rc l k).s
    omega
  refine (off_any (rc l k).s s cn.good (by omega) (Nat.le_trans hB ch.size) hgn).mono ?_
  rintro e w' ⟨he, u2, s2, c2, o2⟩
  obtain ⟨F1, F2⟩ := Counts.feet (v := v) c2 o2
  refine ⟨he, ⟨⟨u2, _, s2, ?_, ?_, ?_, ?_, ?_⟩, h.hq, h.hv⟩⟩
  · rw [hsp] at cn
    have := Cnt.off cn m1 (by omega)
    rw [left_take hk, ht, if_pos rfl, List.append_nil]
    exact this
  · refine ⟨F1.os.trans ch.os, F1.tape.trans ch.tape, F1.output.trans ch.output, Nat.le_trans ch.size F1.size, fun i hi hn => ?_⟩
    rw [F1.block i (by have := ch.size; omega) (fun z => ?_)]
    · exact ch.block i hi hn
    · rcases o i z with y | y
      · exact hn y
      · omega
  · intro g hg
    rcases F2 g hg with y | y
    · exact o g y
    · right; have := ch.size; omega
  · rw [left_take hk, ht, if_pos rfl, List.append_nil]
    refine ar.chg c2 (fun g hg z => ?_)
    rcases z with z | z
    · have := (ar.lt g hg).1; have := h.hq; omega
    · exact ap g hg z
  · intro g hg z
    rcases o2 g z with y | y
    · exact ap g hg y
    · have := (ar.lt g hg).2; omega
theorem Purg.more (h : Purg w wr B q v u l last f k sv) (hk : k < l.length) (ht : tkB f (rc l k).s = false) (h200 : l.length ≤ 200) :
    ∃ a' n' c' w', (Builtin.append_ #[22, 22] 22 #[sv, .slice (some ⟨wr.heap.size, 0, none⟩) 1 1]).run Tryz.prog (wr.alloc (.cells #[.int .i64 (rc l k).k, .int .i64 (rc l k).q, .int .i64 (rc l k).t, .string (rc l k).s, .string (rc l k).h, .string (rc l k).d] 30)) = .ok (.slice a' n' c') w' ∧ Purg w w' B q v u l last f (k + 1) (.slice a' n' c') := by
  have b4 : Below wr.heap.size wr (wr.alloc (.cells #[.int .i64 (rc l k).k, .int .i64 (rc l k).q, .int .i64 (rc l k).t, .string (rc l k).s, .string (rc l k).h, .string (rc l k).d] 30)) := (Below.refl _ _).alloc (Nat.le_refl _) _
  obtain ⟨u', es', s, cn, ch, o, ar, ap⟩ := (h.below b4).ex
  have hnl : (leftL f (l.take k)).length ≤ 200 := by
    have := left_len f (l.take k)
    rw [List.length_take] at this; omega
  obtain ⟨v8, w8, hr, A8, C8, L8⟩ := append_rec _ w.heap.size 22 sv _ [rc l k] ar ⟨wr.heap.size, 0, none⟩ 1 (six_row wr (rc l k)) (by simp; omega) ch.size
  obtain ⟨a', c', rfl, _⟩ := A8.shape
  have hsp : l.drop k = rc l k :: l.drop (k + 1) := by rw [rc_get hk, ← List.drop_eq_getElem_cons hk]
  have hlt : leftL f (l.take (k + 1)) = leftL f (l.take k) ++ [rc l k] := by rw [left_take hk, ht]; rfl
  have hown : ∀ g, sv.ownBlock = some g → ¬ feet q v u' g := fun g hg z => by
    have h1 := (ar.lt g hg).1
    rcases z with z | z | z
    · have := h.hq; omega
    · have := h.hv g z; omega
    · exact ap g hg z
  refine ⟨a', _, c', w8, hr, ⟨⟨u', es', s.chg C8 (fun g hg z => hown g z hg), ?_, ?_, o, by rw [hlt]; exact A8, ?_⟩, h.hq, h.hv⟩⟩
  · rw [hlt, List.append_assoc, List.singleton_append, ← hsp]; exact cn
  · refine ⟨C8.os.trans ch.os, C8.tape.trans ch.tape, C8.output.trans ch.output, Nat.le_trans ch.size C8.size, fun i hi hn => ?_⟩
    rw [C8.block i (by have := ch.size; omega) (fun z => by have := (ar.lt i z).1; omega)]
    exact ch.block i hi hn
  · intro g hg z
    rcases L8 g hg with y | y
    · exact ap g y z
    · have := (s.cnts.lt g z).2; omega
theorem Purg.fin {a : Option Addr} {n c : Nat} (h : Purg w wr B q (.slice a n c) u l last f k sv) (hk : k ≤ l.length) (h200 : l.length ≤ 200) :
    Calls Tryz.prog 97 #[.slice a n c, .int .i64 0, .int .i64 k, sv] wr fun e w' => ∃ a' n' c', e = .returned (.slice a' n' c') ∧ w'.cell? ⟨q, 0, none⟩ = some (.slice a n c) ∧ w'.frozen? ⟨q, 0, none⟩ = false ∧ Hid (∃ es', Moves w (w'.setCell ⟨q, 0, none⟩ (.slice a' n' c')) B q (.slice a n c) u (leftL f (l.take k) ++ l.drop k) es' last ∧ Cnt (leftL f (l.take k) ++ l.drop k) es') := by
  obtain ⟨u', es', s, cn, ch, o, ar, ap⟩ := h.ex
  refine (replace_any s.msgs ar (by have := left_len f (l.take k); rw [List.length_take] at this; omega) hk h200 (fun g hg z => by have := h.hv g hg; have := (ar.lt g z).1; omega)).mono ?_
  rintro e w' ⟨v', rfl, A8, C8, L8⟩
  obtain ⟨a', c', rfl, _⟩ := A8.shape
  refine ⟨a', _, c', rfl, ?_, ?_, hide ⟨es', Moves.seq ch o (Moves.store s C8 A8 L8), cn⟩⟩
  · rw [C8.cell (p := ⟨q, 0, none⟩) s.lt s.av]; exact s.c0
  · rw [C8.frozen (p := ⟨q, 0, none⟩) s.lt s.av]; exact s.free 0
end
set_option maxRecDepth 100000 in
set_option maxHeartbeats 2000000 in
theorem spur_any {w : World} {B q : Nat} {v u : Value} {l : List Rc} {es : List Ent} {last : Int} (f : ByteArray) (n : Int) (hf : errS true f = 0) (hfz : f.size ≤ 140737488355328) (h : Sho w B q v u l es last) (hr : RiseQ l) (hc : Cnt l es) (h200 : l.length ≤ 200) (hm : ∀ x ∈ l, errS false x.s = 0 ∧ x.s.size ≤ 135) (hB : B ≤ w.heap.size) :
    Calls Tryz.prog 57 #[.pointer (some ⟨q, 0, none⟩), .string f, .int .i64 n] w fun e w' => e = .returned (.tuple #[]) ∧ ∃ es', Moves w w' B q v u (leftL f (l.take (pq l n)) ++ l.drop (pq l n)) es' last ∧ Cnt (leftL f (l.take (pq l n)) ++ l.drop (pq l n)) es' := by
  have PP := hide (splace_any n h hr h200)
  have hpl := pq_le l n
  obtain ⟨p, hp⟩ : ∃ p, p = pq l n := ⟨_, rfl⟩
  rw [← hp] at PP hpl ⊢
  clear hp
  obtain ⟨a, cap, rfl, c1, c2, hsl⟩ := h.msgs.shape
  unfold maxLen at c2
  have HH := hide h
  have HC := hide hc
  have HM := hide hm
  clear h hc hr hm
  go_enter Tryz.func57, Tryz.ntmps57
  go_wp2_with fail
  refine (unhide PP).mono ?_
  rintro e w1 ⟨rfl, b1⟩
  have h1 := (unhide HH).below b1
  have d0 := h1.c0
  have e0 : (0 : Int) ≤ (p : Int) := by omega
  have e1 : (p : Int) ≤ (l.length : Int) := by omega
  have e2 : p ≤ cap := by omega
  clear PP
  have HP : Hid (Purg w w1 B q (.slice a l.length cap) u l last f 0 (.slice none 0 0)) := hide ⟨⟨u, es, h1, by simpa [leftL] using unhide HC, Chg.of_below b1, fun g hg => .inl hg, ArrR.empty _ _, fun g hg => by simp [Value.ownBlock] at hg⟩, (unhide HH).lt, fun g hg => ((unhide HH).msgs.lt g hg).2⟩
  have PT : Hid (∀ k, k < l.length → ∀ X, Calls Tryz.prog 96 #[.string f, .agg #[.int .i64 (rc l k).k, .int .i64 (rc l k).q, .int .i64 (rc l k).t, .string (rc l k).s, .string (rc l k).h, .string (rc l k).d]] X fun e w' => e = .returned (.bool (tkB f (rc l k).s)) ∧ Below X.heap.size X w') := hide (fun k hk X => by
    obtain ⟨m1, m2⟩ := unhide HM _ (rc_mem hk)
    have := takes_any f (rc l k) hfz (by omega) X
    rw [tk_match hf m1] at this
    exact this)
  clear h1 b1 hsl hf
  go_wp2_with fail
  clear d0
  go_loopw [8, 24] (fun sv kv wr => ∃ (k : Nat), kv = .int .i64 k ∧ k ≤ p ∧ Hid (Purg w wr B q (.slice a l.length cap) u l last f k sv)) (fun _ kv _ => p - (intOf kv).toNat)
  case atStart => exact ⟨0, rfl, Nat.zero_le _, HP⟩
  case round =>
    clear HP
    obtain ⟨k, rfl, hk, HP⟩ := hrel
    obtain ⟨sa, sn, sc, rfl⟩ := (unhide HP).shape
    by_cases hlt : k < p
    · obtain ⟨b, o, rfl, s6⟩ := (unhide HP).show (by omega) rfl
      have hkl : k < l.length := by omega
      have T := hide (unhide PT k hkl)
      have K1 : Hid (∀ w5, Below wr.heap.size wr w5 → tkB f (rc l k).s = true → Calls Tryz.prog 94 #[.pointer (some ⟨q, 0, none⟩), .string (rc l k).s] w5 fun e w' => e = .returned (.tuple #[]) ∧ Purg w w' B q (.slice (some ⟨b, o, none⟩) l.length cap) u l last f (k + 1) (.slice sa sn sc)) := hide (fun w5 b5 ht => ((unhide HP).below b5).count hkl ht hB h200 (unhide HM))
      have K2 : Hid (∀ w5, Below wr.heap.size wr w5 → tkB f (rc l k).s = false → ∃ a' n' c' w', (Builtin.append_ #[22, 22] 22 #[.slice sa sn sc, .slice (some ⟨w5.heap.size, 0, none⟩) 1 1]).run Tryz.prog (w5.alloc (.cells #[.int .i64 (rc l k).k, .int .i64 (rc l k).q, .int .i64 (rc l k).t, .string (rc l k).s, .string (rc l k).h, .string (rc l k).d] 30)) = .ok (.slice a' n' c') w' ∧ Purg w w' B q (.slice (some ⟨b, o, none⟩) l.length cap) u l last f (k + 1) (.slice a' n' c')) := hide (fun w5 b5 ht => ((unhide HP).below b5).more hkl ht h200)
      generalize rc l k = y at *
      obtain ⟨_, x0, x1, x2, x3, x4, x5⟩ := s6
      have hb0 : Below wr.heap.size wr (wr.alloc (.cells #[.int .i64 y.k, .int .i64 y.q, .int .i64 y.t, .string y.s, .string y.h, .string y.d] 30)) := (Below.refl _ _).alloc (Nat.le_refl _) _
      have R0 := hide (RB.new wr y.k y.q y.t y.s y.h y.d 30)
      have Hb0 := hide hb0
      clear hb0 PT
      go_wp2_with fail
      refine (unhide T _).mono ?_
      rintro e w5 ⟨rfl, b5⟩
      have B5 := hide (bstep (unhide Hb0) b5)
      obtain ⟨_, y0, y1, y2, y3, y4, y5, _⟩ := (unhide R0).next b5
      clear x0 x1 x2 x3 x4 x5 b5 T R0 Hb0
      cases ht : tkB f y.s with
      | true =>
        have C := hide (unhide K1 w5 (unhide B5) ht)
        clear K1 K2 ht
        go_wp2_with fail
        refine (unhide C).mono ?_
        rintro e w6 ⟨rfl, p6⟩
        have P6 := hide p6
        clear p6 C
        go_wp2_with fail
        refine ⟨⟨k + 1, by go_num, by omega, P6⟩, ?_⟩
        simp [intOf]; omega
      | false =>
        obtain ⟨a', n', c', w6, hrun, p6⟩ := unhide K2 w5 (unhide B5) ht
        have P6 := hide p6
        clear K1 K2 ht p6
        go_wp2_with (at_builtin; refine Lib.wpList_append_run _ rfl _ _ _ _ rfl _ _ rfl rfl _ _ hrun ?_)
        refine ⟨⟨k + 1, by go_num, by omega, P6⟩, ?_⟩
        simp [intOf]; omega
    · obtain rfl : k = p := by omega
      have PF := hide ((unhide HP).fin hpl h200)
      have d0 : wr.cell? ⟨q, 0, none⟩ = some (.slice a l.length cap) := by
        obtain ⟨u', es', s, _⟩ := (unhide HP).ex
        exact s.c0
      clear HP
      go_wp2_with fail
      refine (unhide PF).mono ?_
      rintro e w6 ⟨a', n', c', rfl, f0, f1, HF⟩
      clear PF d0
      go_wp2_with fail
      go_end0
      exact ⟨rfl, unhide HF⟩
end Go.Proofs.YtmccpkpeimejhagGreatDoor.Dk

namespace Go.Proofs.YtmccpkpeimejhagGreatDoor.Dk
open Go.RowKit

theorem try_chk {s : Sto} {r : Rc} (h : tryE s r = 0) : chkR r = 0 := by
  apply Classical.byContradiction
  intro z
  rw [try_bad z] at h
  exact z h
theorem apl_bad {s : Sto} {r : Rc} (h : ¬ tryE s r = 0) : aplS s r = s := by unfold aplS; rw [if_pos h]
theorem apl_msg {s : Sto} {r : Rc} (h : tryE s r = 0) (h1 : r.k = 1) : aplS s r = ⟨s.l ++ [r], r.q⟩ := by
  unfold aplS; rw [if_neg (by rw [h]; simp), if_pos h1]
theorem apl_mark {s : Sto} {r : Rc} (h : tryE s r = 0) (h1 : r.k = 4) : aplS s r = ⟨s.l, max s.last r.q⟩ := by
  unfold aplS; rw [if_neg (by rw [h]; simp), if_neg (by omega), if_pos h1]
theorem apl_era {s : Sto} {r : Rc} (h : tryE s r = 0) (h1 : r.k = 2) (hr : RiseQ s.l) (hs : seqB s.l r.q = true) : aplS s r = ⟨delR s.l (pq s.l r.q), s.last⟩ := by
  unfold aplS; rw [if_neg (by rw [h]; simp), if_neg (by omega), if_neg (by omega), ← erase_is hr hs]
  unfold goneB
  rw [h1]
  simp
theorem apl_pur {s : Sto} {r : Rc} (h : tryE s r = 0) (h1 : r.k = 3) (hr : RiseQ s.l) : aplS s r = ⟨leftL r.s (s.l.take (pq s.l r.q)) ++ s.l.drop (pq s.l r.q), s.last⟩ := by
  rw [purge_left h h1, purge_is hr]
theorem try_seq {s : Sto} {r : Rc} (h : tryE s r = 0) (h1 : r.k = 2) : seqB s.l r.q = true := by
  rw [try_era (try_chk h) h1] at h
  unfold erE at h
  cases z : seqB s.l r.q
  · rw [z] at h; cases h
  · rfl
theorem sto_room {s : Sto} {r : Rc} {es : List Ent} (hc : Cnt s.l es) (h : tryE s r = 0) (h1 : r.k = 1) : 0 < cntN s.l r.s ∨ es.length < 100 := by
  rw [try_msg (try_chk h) h1] at h
  unfold tmE at h
  split at h
  · cases h
  · split at h
    · cases h
    · rename_i z y
      rw [hc.len]
      by_cases q : nameN s.l < 100
      · exact .inr q
      · left
        have hh : hasS s.l r.s = true := by
          cases x : hasS s.l r.s
          · exact absurd (.inr ⟨x, by omega⟩) y
          · rfl
        rw [cntN_has] at hh
        exact of_decide_eq_true hh
theorem Moves.drew {w w' : World} {B q : Nat} {v u : Value} {l : List Rc} {es : List Ent} {last : Int} (h : Moves w w' B q v u l es last) : Moves w w'.drew B q v u l es last := by
  obtain ⟨v', u', s, c, o⟩ := h
  exact ⟨v', u', s.below (Below.refl _ _).drew, c.trans (Chg.of_below (Below.refl _ _).drew), o⟩
/-- what a call of Apply makes of it -/
def Done (w w' : World) (B q : Nat) (v u : Value) (s' : Sto) : Prop := ∃ es', Moves w w' B q v u s'.l es' s'.last ∧ Cnt s'.l es'
theorem Done.behind {w w1 w' : World} {B q : Nat} {v u : Value} {s' : Sto} (hb : Below w.heap.size w w1) (h : Done w1 w' B q v u s') : Done w w' B q v u s' := by
  obtain ⟨es', m, c⟩ := h
  exact ⟨es', m.behind hb, c⟩

set_option maxRecDepth 100000 in
set_option maxHeartbeats 2000000 in
theorem sapply_any {w : World} {B q : Nat} {v u : Value} {s : Sto} {es : List Ent} (r : Rc) (hm : Small r) (h : Sho w B q v u s.l es s.last) (hc : Cnt s.l es) (hk : s.Ok) (hB : B ≤ w.heap.size) :
    Calls Tryz.prog 27 #[.pointer (some ⟨q, 0, none⟩), .agg #[.int .i64 r.k, .int .i64 r.q, .int .i64 r.t, .string r.s, .string r.h, .string r.d]] w fun e w' => e = .returned (.int .i64 (tryE s r)) ∧ Done w w' B q v u (aplS s r) := by
  have hb0 : Below w.heap.size w (w.alloc (.cells #[.int .i64 r.k, .int .i64 r.q, .int .i64 r.t, .string r.s, .string r.h, .string r.d] 30)) := (Below.refl _ _).alloc (Nat.le_refl _) _
  have h0 := h.below hb0
  have PT := hide (stry_any r hm h0 hc hk)
  have HR := hide (RB.new w r.k r.q r.t r.s r.h r.d 30)
  have Hb0 := hide hb0
  have H0 := hide h0
  have hr : RiseQ s.l := hk.rise
  have h200 := hk.few
  have HMs : Hid (∀ x ∈ s.l, errS false x.s = 0 ∧ x.s.size ≤ 135) := hide (fun x hx => ⟨right_msg (hk.msg x hx).2 (hk.msg x hx).1, (hk.small hx).1⟩)
  have hl := hk.last
  have HC := hide hc
  have Hr := hide hr
  clear hk
  by_cases ht : tryE s r = 0
  · have hg := try_chk ht
    have hq := chkR_in hg
    have HT := hide ht
    have A1 := apl_msg ht
    have A2 := fun h1 => apl_era ht h1 hr (try_seq ht h1)
    have A3 := fun h1 => apl_pur ht h1 hr
    have A4 := apl_mark ht
    have S2 := try_seq ht
    have Rm := right_msg hg
    have Rp := right_pur hg
    have Ro := sto_room hc ht
    have K4 : r.k = 1 ∨ r.k = 2 ∨ r.k = 3 ∨ r.k = 4 := by
      obtain ⟨z1, z2, _⟩ := Pk.chk_len (r := r.pk) hg
      have z1 : 1 ≤ r.k := z1
      have z2 : r.k ≤ 4 := z2
      omega
    clear h hb0 h0 hc hr ht hg
    rcases r with ⟨k, n, t, s', h', d'⟩
    dsimp only at HR Hb0 H0 PT HT hq K4 ⊢
    have hz : s'.size ≤ 140737488355328 := hm.s
    rcases K4 with rfl | rfl | rfl | rfl
    · have AA := hide (A1 rfl)
      have G0 : getN es s' = (cntN s.l s' : Int) := (unhide HC).get (Rm rfl)
      have G1 := cntN_le s.l s'
      have hn1 : getN es s' ≤ 200 := by omega
      have hn0 : 0 ≤ getN es s' := by omega
      have CC : Hid (Cnt (s.l ++ [⟨1, n, t, s', h', d'⟩]) (putL es s' (getN es s' + 1))) := hide (by rw [G0]; exact (unhide HC).put ⟨1, n, t, s', h', d'⟩ (Rm rfl) hz (Ro rfl))
      clear A1 A2 A3 A4 S2 Rm Rp Ro G0 G1
      go_enter Tryz.func27, Tryz.ntmps27
      go_wp2_with fail
      refine (unhide PT).mono ?_
      rintro e w1 ⟨rfl, b1⟩
      rw [unhide HT]
      obtain ⟨_, x0, x1, x2, x3, x4, x5, _⟩ := (unhide HR).next b1
      have B1 := hide (bstep (unhide Hb0) b1)
      have H1 := hide ((unhide H0).below b1)
      have hB1 : B ≤ w1.heap.size := Nat.le_trans hB (unhide B1).size
      clear b1
      have P := hide (sadd_any ⟨1, n, t, s', h', d'⟩ hm (unhide H1) (unhide HC).good h200 hB1 hn1 hn0)
      go_wp2_with fail
      refine (unhide P).mono ?_
      rintro e w2 ⟨rfl, m2⟩
      have M2 := hide m2
      clear P m2 x0 x1 x2 x3 x4 x5
      go_wp2_with fail
      go_ret
      refine ⟨ret_eq (unhide HT), ?_⟩
      rw [unhide AA]
      exact Done.behind (unhide B1) ⟨_, unhide M2, unhide CC⟩
    · have AA := hide (A2 rfl)
      have hs0 : seqB s.l n = true := S2 rfl
      obtain ⟨p1, p2⟩ := seq_hit (unhide Hr) hs0
      have hs := hide hs0
      obtain ⟨m1, m2⟩ := unhide HMs _ (rc_mem p1)
      have G0 : getN es (rc s.l (pq s.l n)).s = (cntN s.l (rc s.l (pq s.l n)).s : Int) := (unhide HC).get m1
      have G1 := cntN_le s.l (rc s.l (pq s.l n)).s
      have hn1 : Hid (getN es (rc s.l (pq s.l n)).s ≤ 200) := hide (by omega)
      have CC : Hid (Cnt (delR s.l (pq s.l n)) (offL es (getN es (rc s.l (pq s.l n)).s) (rc s.l (pq s.l n)).s)) := hide (by
        have c := unhide HC
        rw [split_at p1] at c
        exact Cnt.off c m1 (by omega))
      have hm2 : Hid ((rc s.l (pq s.l n)).s.size ≤ 140737488355328) := hide (by omega)
      clear A1 A2 A3 A4 S2 Rm Rp Ro G0 G1 p1 p2 m1 m2 hs0
      go_enter Tryz.func27, Tryz.ntmps27
      go_wp2_with fail
      refine (unhide PT).mono ?_
      rintro e w1 ⟨rfl, b1⟩
      rw [unhide HT]
      obtain ⟨_, x0, x1, x2, x3, x4, x5, _⟩ := (unhide HR).next b1
      have B1 := hide (bstep (unhide Hb0) b1)
      have H1 := hide ((unhide H0).below b1)
      have hB1 : B ≤ w1.heap.size := Nat.le_trans hB (unhide B1).size
      clear b1
      have P := hide (sera_any n (unhide H1) (unhide Hr) (unhide hs) (unhide HC).good h200 hB1 (unhide hm2) (unhide hn1))
      go_wp2_with fail
      refine (unhide P).mono ?_
      rintro e w2 ⟨rfl, m2⟩
      have M2 := hide m2
      clear P m2 x0 x1 x2 x3 x4 x5
      go_wp2_with fail
      go_ret
      refine ⟨ret_eq (unhide HT), ?_⟩
      rw [unhide AA]
      exact Done.behind (unhide B1) ⟨_, unhide M2, unhide CC⟩
    · have AA := hide (A3 rfl)
      have hf := hide (Rp rfl)
      clear A1 A2 A3 A4 S2 Rm Rp Ro
      go_enter Tryz.func27, Tryz.ntmps27
      go_wp2_with fail
      refine (unhide PT).mono ?_
      rintro e w1 ⟨rfl, b1⟩
      rw [unhide HT]
      obtain ⟨_, x0, x1, x2, x3, x4, x5, _⟩ := (unhide HR).next b1
      have B1 := hide (bstep (unhide Hb0) b1)
      have H1 := hide ((unhide H0).below b1)
      have hB1 : B ≤ w1.heap.size := Nat.le_trans hB (unhide B1).size
      clear b1
      have P := hide (spur_any s' n (unhide hf) hz (unhide H1) (unhide Hr) (unhide HC) h200 (unhide HMs) hB1)
      go_wp2_with fail
      refine (unhide P).mono ?_
      rintro e w2 ⟨rfl, m2⟩
      have M2 := hide m2
      clear P m2 x0 x1 x2 x3 x4 x5
      go_wp2_with fail
      go_ret
      refine ⟨ret_eq (unhide HT), ?_⟩
      rw [unhide AA]
      exact Done.behind (unhide B1) (unhide M2)
    · have AA := hide (A4 rfl)
      clear A1 A2 A3 A4 S2 Rm Rp Ro
      go_enter Tryz.func27, Tryz.ntmps27
      go_wp2_with fail
      refine (unhide PT).mono ?_
      rintro e w1 ⟨rfl, b1⟩
      rw [unhide HT]
      obtain ⟨_, x0, x1, x2, x3, x4, x5, _⟩ := (unhide HR).next b1
      have B1 := hide (bstep (unhide Hb0) b1)
      have H1 := hide ((unhide H0).below b1)
      have hB1 : B ≤ w1.heap.size := Nat.le_trans hB (unhide B1).size
      clear b1
      have k2 := (unhide H1).c2
      have kf := (unhide H1).free 2
      have kl := (unhide H1).lt
      have M2 := hide (Moves.number (unhide H1) (max s.last n))
      go_wp2_with fail
      go_region
      all_goals go_wp2_with fail
      all_goals go_ret
      all_goals refine ⟨ret_eq (unhide HT), ?_⟩
      all_goals rw [unhide AA]
      all_goals exact Done.behind (unhide B1) ⟨es, (unhide M2).drew, unhide HC⟩
  · have R := hide (apl_bad ht)
    obtain ⟨E, hE⟩ : ∃ E, E = tryE s r := ⟨_, rfl⟩
    rw [← hE] at ht PT ⊢
    clear hE h hb0 h0 hc hr
    go_enter Tryz.func27, Tryz.ntmps27
    go_wp2_with fail
    refine (unhide PT).mono ?_
    rintro e w1 ⟨rfl, b1⟩
    go_wp2_with fail
    go_ret
    refine ⟨rfl, ?_⟩
    rw [unhide R]
    exact Done.behind (unhide Hb0) ⟨es, Moves.same (unhide H0) b1, unhide HC⟩
end Go.Proofs.YtmccpkpeimejhagGreatDoor.Dk

namespace Go.Proofs.YtmccpkpeimejhagGreatDoor.Dk
open Go.RowKit

set_option maxHeartbeats 400000 in
theorem snew_any (w : World) :
    Calls Tryz.prog 41 #[] w fun e w' => e = .returned (.pointer (some ⟨w.heap.size, 0, none⟩)) ∧ Sho w' w.heap.size w.heap.size (.slice none 0 0) (.slice none 0 0) [] [] 0 ∧ Below w.heap.size w w' := by
  go_enter Tryz.func41, Tryz.ntmps41
  go_wp2_with fail
  go_ret
  refine ⟨rfl, ⟨by simp, by simp, by simp, fun j => by simp, Nat.le_refl _, by simp, ArrR.empty _ _, Arr.empty _ _, by simp [Value.ownBlock], by simp [Value.ownBlock], fun g hg => by simp [Value.ownBlock] at hg⟩, (Below.refl _ _).alloc (Nat.le_refl _) _⟩

/-- one record more in a row of one's own -/
theorem row_more {w wr : World} {sv : Value} {l : List Rc} {k : Nat} (h : ArrR wr w.heap.size sv (l.take k)) (hb : Below w.heap.size w wr) (hk : k < l.length) (h200 : l.length ≤ 200) (w5 : World) (b5 : Below wr.heap.size wr w5) :
    ∃ a' n' c' w', (Builtin.append_ #[22, 22] 22 #[sv, .slice (some ⟨w5.heap.size, 0, none⟩) 1 1]).run Tryz.prog (w5.alloc (.cells #[.int .i64 (rc l k).k, .int .i64 (rc l k).q, .int .i64 (rc l k).t, .string (rc l k).s, .string (rc l k).h, .string (rc l k).d] 30)) = .ok (.slice a' n' c') w' ∧ Hid (ArrR w' w.heap.size (.slice a' n' c') (l.take (k + 1)) ∧ Below w.heap.size w w') := by
  have b4 : Below w5.heap.size w5 (w5.alloc (.cells #[.int .i64 (rc l k).k, .int .i64 (rc l k).q, .int .i64 (rc l k).t, .string (rc l k).s, .string (rc l k).h, .string (rc l k).d] 30)) := (Below.refl _ _).alloc (Nat.le_refl _) _
  have h4 := (h.below b5).below b4
  have hb4 := bstep (bstep hb b5) b4
  obtain ⟨v8, w8, hr, A8, C8, _⟩ := append_rec _ w.heap.size 22 sv _ [rc l k] h4 ⟨w5.heap.size, 0, none⟩ 1 (six_row w5 (rc l k)) (by rw [List.length_take]; simp; omega) hb4.size
  obtain ⟨a', c', rfl, _⟩ := A8.shape
  refine ⟨a', _, c', w8, hr, hide ⟨?_, hb4.trans (C8.below hb4.size (fun g hg z => by have := (h4.lt g z).1; omega))⟩⟩
  rw [List.take_succ_eq_append_getElem hk, ← rc_get hk]
  exact A8

set_option maxRecDepth 100000 in
set_option maxHeartbeats 1000000 in
theorem sall_any {w : World} {B q : Nat} {v u : Value} {l : List Rc} {es : List Ent} {last : Int} (h : Sho w B q v u l es last) (h200 : l.length ≤ 200) (hm : ∀ x ∈ l, Small x) :
    Calls Tryz.prog 12 #[.pointer (some ⟨q, 0, none⟩)] w fun e w' => ∃ v', e = .returned v' ∧ ArrR w' w.heap.size v' l ∧ Below w.heap.size w w' := by
  obtain ⟨a, cap, rfl, c1, c2, hsl⟩ := h.msgs.shape
  have d0 := h.c0
  have HSl := hide hsl
  have HM := hide hm
  clear hsl hm h
  go_enter Tryz.func12, Tryz.ntmps12
  go_wp2_with fail
  go_loopw [3, 11] (fun sv kv wr => ∃ (k : Nat), kv = .int .i64 k ∧ k ≤ l.length ∧ Hid (ArrR wr w.heap.size sv (l.take k) ∧ Below w.heap.size w wr)) (fun _ kv _ => l.length - (intOf kv).toNat)
  case atStart => exact ⟨0, rfl, Nat.zero_le _, hide ⟨ArrR.empty _ _, Below.refl _ _⟩⟩
  case round =>
    clear d0
    obtain ⟨k, rfl, hk, HP⟩ := hrel
    obtain ⟨sa, sc, rfl, _⟩ := (unhide HP).1.shape
    by_cases hlt : k < l.length
    · obtain ⟨b, o, rfl, s6⟩ := unhide HSl k hlt
      have s7 := s6.below (unhide HP).2 s6.lt
      have K2 := hide (row_more (unhide HP).1 (unhide HP).2 hlt h200)
      have T := hide (fun X => copyR_any (rc l k) (unhide HM _ (rc_mem hlt)) X)
      obtain ⟨sn, hsn⟩ : ∃ sn, sn = (l.take k).length := ⟨_, rfl⟩
      rw [← hsn] at K2 ⊢
      clear hsn
      generalize rc l k = y at *
      obtain ⟨_, x0, x1, x2, x3, x4, x5⟩ := s7
      have hb0 : Below wr.heap.size wr (wr.alloc (.cells #[.int .i64 y.k, .int .i64 y.q, .int .i64 y.t, .string y.s, .string y.h, .string y.d] 30)) := (Below.refl _ _).alloc (Nat.le_refl _) _
      have Hb0 := hide hb0
      clear hb0 s6
      go_wp2_with fail
      refine (unhide T _).mono ?_
      rintro e w5 ⟨rfl, b5⟩
      obtain ⟨a', n', c', w6, hrun, P6⟩ := unhide K2 w5 (bstep (unhide Hb0) b5)
      clear x0 x1 x2 x3 x4 x5 b5 T Hb0 K2
      go_wp2_with (at_builtin; refine Lib.wpList_append_run _ rfl _ _ _ _ rfl _ _ rfl rfl _ _ hrun ?_)
      refine ⟨⟨k + 1, by go_num, by omega, P6⟩, ?_⟩
      simp [intOf]; omega
    · obtain rfl : k = l.length := by omega
      rw [List.take_length] at HP ⊢
      go_wp2_with fail
      go_ret
      exact ⟨_, rfl, (unhide HP).1, (unhide HP).2⟩

end Go.Proofs.YtmccpkpeimejhagGreatDoor.Dk

namespace Go.Proofs.YtmccpkpeimejhagGreatDoor.Dk
open Go.RowKit

/-- the four numbers of a store's sums in a block -/
structure SB (w : World) (b : Nat) (x0 x1 x2 x3 : Int) : Prop where
  lt : b < w.heap.size
  c0 : w.cell? ⟨b, 0, none⟩ = some (.int .i64 x0)
  c1 : w.cell? ⟨b, 1, none⟩ = some (.int .i64 x1)
  c2 : w.cell? ⟨b, 2, none⟩ = some (.int .i64 x2)
  c3 : w.cell? ⟨b, 3, none⟩ = some (.int .i64 x3)
  fr : ∀ j, w.frozen? ⟨b, j, none⟩ = false
theorem SB.below {w w' : World} {b n : Nat} {x0 x1 x2 x3 : Int} (r : SB w b x0 x1 x2 x3) (hb : Below n w w') (hn : b < n) : SB w' b x0 x1 x2 x3 :=
  ⟨Nat.lt_of_lt_of_le r.lt hb.size, by rw [hb.cell (p := ⟨b, 0, none⟩) hn]; exact r.c0, by rw [hb.cell (p := ⟨b, 1, none⟩) hn]; exact r.c1, by rw [hb.cell (p := ⟨b, 2, none⟩) hn]; exact r.c2, by rw [hb.cell (p := ⟨b, 3, none⟩) hn]; exact r.c3, fun j => by rw [hb.frozen (p := ⟨b, j, none⟩) hn]; exact r.fr j⟩
theorem SB.next {w w' : World} {b : Nat} {x0 x1 x2 x3 : Int} (r : SB w b x0 x1 x2 x3) (hb : Below w.heap.size w w') : SB w' b x0 x1 x2 x3 := r.below hb r.lt
theorem SB.alloc {w : World} {b : Nat} {x0 x1 x2 x3 : Int} (r : SB w b x0 x1 x2 x3) (o : Obj) : SB (w.alloc o) b x0 x1 x2 x3 := r.next ((Below.refl _ _).alloc (Nat.le_refl _) o)
theorem SB.new (w : World) (x0 x1 x2 x3 : Int) (T : TypeId) : SB (w.alloc (.cells #[.int .i64 x0, .int .i64 x1, .int .i64 x2, .int .i64 x3] T)) w.heap.size x0 x1 x2 x3 :=
  ⟨by simp, by simp, by simp, by simp, by simp, fun j => World.frozen?_alloc_new _ _ _ j⟩
theorem SB.set0 {w : World} {b : Nat} {x0 x1 x2 x3 : Int} (r : SB w b x0 x1 x2 x3) (y : Int) : SB (w.setCell ⟨b, 0, none⟩ (.int .i64 y)) b y x1 x2 x3 :=
  ⟨by simpa using r.lt, same_cell r.c0, by rw [cell_other' _ _ _ _ (by intro e; injection e; omega)]; exact r.c1, by rw [cell_other' _ _ _ _ (by intro e; injection e; omega)]; exact r.c2, by rw [cell_other' _ _ _ _ (by intro e; injection e; omega)]; exact r.c3, fun j => by simpa using r.fr j⟩
theorem SB.set1 {w : World} {b : Nat} {x0 x1 x2 x3 : Int} (r : SB w b x0 x1 x2 x3) (y : Int) : SB (w.setCell ⟨b, 1, none⟩ (.int .i64 y)) b x0 y x2 x3 :=
  ⟨by simpa using r.lt, by rw [cell_other' _ _ _ _ (by intro e; injection e; omega)]; exact r.c0, same_cell r.c1, by rw [cell_other' _ _ _ _ (by intro e; injection e; omega)]; exact r.c2, by rw [cell_other' _ _ _ _ (by intro e; injection e; omega)]; exact r.c3, fun j => by simpa using r.fr j⟩
theorem SB.set2 {w : World} {b : Nat} {x0 x1 x2 x3 : Int} (r : SB w b x0 x1 x2 x3) (y : Int) : SB (w.setCell ⟨b, 2, none⟩ (.int .i64 y)) b x0 x1 y x3 :=
  ⟨by simpa using r.lt, by rw [cell_other' _ _ _ _ (by intro e; injection e; omega)]; exact r.c0, by rw [cell_other' _ _ _ _ (by intro e; injection e; omega)]; exact r.c1, same_cell r.c2, by rw [cell_other' _ _ _ _ (by intro e; injection e; omega)]; exact r.c3, fun j => by simpa using r.fr j⟩
theorem SB.set3 {w : World} {b : Nat} {x0 x1 x2 x3 : Int} (r : SB w b x0 x1 x2 x3) (y : Int) : SB (w.setCell ⟨b, 3, none⟩ (.int .i64 y)) b x0 x1 x2 y :=
  ⟨by simpa using r.lt, by rw [cell_other' _ _ _ _ (by intro e; injection e; omega)]; exact r.c0, by rw [cell_other' _ _ _ _ (by intro e; injection e; omega)]; exact r.c1, by rw [cell_other' _ _ _ _ (by intro e; injection e; omega)]; exact r.c2, same_cell r.c3, fun j => by simpa using r.fr j⟩
theorem SB.other {w : World} {b c i : Nat} {x0 x1 x2 x3 : Int} {v : Value} (r : SB w b x0 x1 x2 x3) (hc : c ≠ b) : SB (w.setCell ⟨c, i, none⟩ v) b x0 x1 x2 x3 :=
  ⟨by simpa using r.lt, by rw [cell_other' _ _ _ _ (by intro e; injection e; omega)]; exact r.c0, by rw [cell_other' _ _ _ _ (by intro e; injection e; omega)]; exact r.c1, by rw [cell_other' _ _ _ _ (by intro e; injection e; omega)]; exact r.c2, by rw [cell_other' _ _ _ _ (by intro e; injection e; omega)]; exact r.c3, fun j => by simpa using r.fr j⟩
end Go.Proofs.YtmccpkpeimejhagGreatDoor.Dk

namespace Go.Proofs.YtmccpkpeimejhagGreatDoor.Dk
open Go.RowKit

theorem load_sum {w : World} {b : Nat} {x0 x1 x2 x3 : Int} (r : SB w b x0 x1 x2 x3) : (loadVar 37 ⟨b, 0, none⟩).run Tryz.prog w = .ok (.agg #[.int .i64 x0, .int .i64 x1, .int .i64 x2, .int .i64 x3]) w := by
  have hl : (loadCells ⟨b, 0, none⟩ 4).run Tryz.prog w = .ok #[.int .i64 x0, .int .i64 x1, .int .i64 x2, .int .i64 x3] w :=
    run_loadCells_list (P := Tryz.prog) w ⟨b, 0, none⟩ [.int .i64 x0, .int .i64 x1, .int .i64 x2, .int .i64 x3] (fun j v hv => by
      rw [addp, Nat.zero_add]
      match j, hv with
      | 0, hv => rw [r.c0]; simpa using hv
      | 1, hv => rw [r.c1]; simpa using hv
      | 2, hv => rw [r.c2]; simpa using hv
      | 3, hv => rw [r.c3]; simpa using hv)
  have hz : Tryz.t37.size = 4 := by kernel_rfl
  simp [loadVar, isAgg, sizeOf]
  rw [hz, hl]
  rfl
theorem results_sum {fn : Func} {a : Tmp} {tmps : Array Value} {w : World} {b : Nat} {x0 x1 x2 x3 : Int} (hf : fn.results = #[.cell a 37]) (ha : tmps.getD a undef = .pointer (some ⟨b, 0, none⟩)) (r : SB w b x0 x1 x2 x3) :
    (results fn tmps).run Tryz.prog w = .ok (.agg #[.int .i64 x0, .int .i64 x1, .int .i64 x2, .int .i64 x3]) w := by
  have ha' : tmps[a]?.getD undef = .pointer (some ⟨b, 0, none⟩) := by simpa using ha
  simp [results, hf, ha', asAddr, load_sum r]
end Go.Proofs.YtmccpkpeimejhagGreatDoor.Dk
