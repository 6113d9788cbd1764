/-
  The program's store: purge.
-/
import Derived.Test.YtcdajajekmichafDoorWalkX5
import Derived.Test.YtcdajajekmichafDoorJointWalkX6aWalkX6
namespace Go.Proofs.YtcdajajekmichafDoor.Dk
open Go.RowKit

theorem tk_match {f s : ByteArray} (hf : errS true f = 0) (hs : errS false s = 0) : matchB f s = tkB f s := by
  unfold matchB tkB
  rw [hf, hs]
  simp
/-- a purge on its way: k messages were looked at -/
structure Purg (w wr : World) (B q : Nat) (v u : Value) (l : List Rc) (last : Int) (f : ByteArray) (k : Nat) (sv : Value) : Prop where
  ex : ∃ u' es', Sho wr B q v u' l es' last ∧ Cnt (leftL f (l.take k) ++ l.drop k) es' ∧ Chg (feet q v u) w wr ∧ (∀ g, feet q v u' g → feet q v u g ∨ w.heap.size ≤ g) ∧ ArrR wr w.heap.size sv (leftL f (l.take k)) ∧ ∀ g, sv.ownBlock = some g → u'.ownBlock ≠ some g
  hq : q < w.heap.size
  hv : ∀ g, v.ownBlock = some g → g < w.heap.size

theorem cntN_le (l : List Rc) (s : ByteArray) : cntN l s ≤ l.length := List.length_filter_le _ _
section
variable {w wr w' : World} {B q : Nat} {v u sv : Value} {l : List Rc} {last : Int} {f : ByteArray} {k : Nat}
theorem Purg.below (h : Purg w wr B q v u l last f k sv) (hb : Below wr.heap.size wr w') : Purg w w' B q v u l last f k sv := by
  obtain ⟨u', es', s, cn, ch, o, ar, ap⟩ := h.ex
  exact ⟨⟨u', es', s.below hb, cn, ch.trans (Chg.of_below hb), o, ar.below hb, ap⟩, h.hq, h.hv⟩
theorem Purg.room (h : Purg w wr B q v u l last f k sv) : w.heap.size ≤ wr.heap.size := by
  obtain ⟨u', es', s, cn, ch, o, ar, ap⟩ := h.ex
  exact ch.size
theorem Purg.show (h : Purg w wr B q v u l last f k sv) (hk : k < l.length) {a : Option Addr} {n c : Nat} (hv : v = .slice a n c) : ∃ b o, a = some ⟨b, o, none⟩ ∧ Six wr b (o + k * 6) (rc l k) := by
  obtain ⟨u', es', s, cn, ch, o, ar, ap⟩ := h.ex
  obtain ⟨a', c', e, _, _, hs⟩ := s.msgs.shape
  rw [hv] at e
  obtain ⟨rfl, _, _⟩ := Value.slice.inj e
  exact hs k hk
theorem Purg.shape (h : Purg w wr B q v u l last f k sv) : ∃ a n c, sv = .slice a n c := by
  obtain ⟨u', es', s, cn, ch, o, ar, ap⟩ := h.ex
  obtain ⟨a', c', e, _⟩ := ar.shape
  exact ⟨_, _, _, e⟩
theorem Purg.count (h : Purg w wr B q v u l last f k sv) (hk : k < l.length) (ht : tkB f (rc l k).s = true) (hB : B ≤ w.heap.size) (h200 : l.length ≤ 200) (hm : ∀ x ∈ l, errS false x.s = 0 ∧ x.s.size ≤ 135) :
    Calls Tryd.prog 49 #[.pointer (some ⟨q, 0, none⟩), .string (rc l k).s] wr fun e w' => e = .returned (.tuple #[]) ∧ Purg w w' B q v u l last f (k + 1) sv := by
  obtain ⟨u', es', s, cn, ch, o, ar, ap⟩ := h.ex
  obtain ⟨m1, m2⟩ := hm _ (rc_mem hk)
  have hsp : leftL f (l.take k) ++ l.drop k = leftL f (l.take k) ++ rc l k :: l.drop (k + 1) := by rw [rc_get hk, ← List.drop_eq_getElem_cons hk]
  have hnl : (leftL f (l.take k) ++ l.drop k).length ≤ 200 := by
    have := left_len f (l.take k)
    rw [List.length_take] at this
    rw [List.length_append, List.length_drop]; omega
  have hgn : getN es' (rc l k).s ≤ 200 := by
    rw [cn.get m1]
    have := cntN_le (leftL f (l.take k) ++ l.drop k) (rc l k).s
    omega
  refine (off_any (rc l k).s s cn.good (by omega) (Nat.le_trans hB ch.size) hgn).mono ?_
  rintro e w' ⟨he, u2, s2, c2, o2⟩
  obtain ⟨F1, F2⟩ := Counts.feet (v := v) c2 o2
  refine ⟨he, ⟨⟨u2, _, s2, ?_, ?_, ?_, ?_, ?_⟩, h.hq, h.hv⟩⟩
  · rw [hsp] at cn
    have := Cnt.off cn m1 (by omega)
    rw [left_take hk, ht, if_pos rfl, List.append_nil]
    exact this
  · refine ⟨F1.os.trans ch.os, F1.tape.trans ch.tape, F1.output.trans ch.output, Nat.le_trans ch.size F1.size, fun i hi hn => ?_⟩
    rw [F1.block i (by have := ch.size; omega) (fun z => ?_)]
    · exact ch.block i hi hn
    · rcases o i z with y | y
      · exact hn y
      · omega
  · intro g hg
    rcases F2 g hg with y | y
    · exact o g y
    · right; have := ch.size; omega
  · rw [left_take hk, ht, if_pos rfl, List.append_nil]
    refine ar.chg c2 (fun g hg z => ?_)
    rcases z with z | z
    · have := (ar.lt g hg).1; have := h.hq; omega
    · exact ap g hg z
  · intro g hg z
    rcases o2 g z with y | y
    · exact ap g hg y
    · have := (ar.lt g hg).2; omega
theorem Purg.more (h : Purg w wr B q v u l last f k sv) (hk : k < l.length) (ht : tkB f (rc l k).s = false) (h200 : l.length ≤ 200) :
    ∃ a' n' c' w', (Builtin.append_ #[22, 22] 22 #[sv, .slice (some ⟨wr.heap.size, 0, none⟩) 1 1]).run Tryd.prog (wr.alloc (.cells #[.int .i64 (rc l k).k, .int .i64 (rc l k).q, .int .i64 (rc l k).t, .string (rc l k).s, .string (rc l k).h, .string (rc l k).d] 26)) = .ok (.slice a' n' c') w' ∧ Purg w w' B q v u l last f (k + 1) (.slice a' n' c') := by
  have b4 : Below wr.heap.size wr (wr.alloc (.cells #[.int .i64 (rc l k).k, .int .i64 (rc l k).q, .int .i64 (rc l k).t, .string (rc l k).s, .string (rc l k).h, .string (rc l k).d] 26)) := (Below.refl _ _).alloc (Nat.le_refl _) _
  obtain ⟨u', es', s, cn, ch, o, ar, ap⟩ := (h.below b4).ex
  have hnl : (leftL f (l.take k)).length ≤ 200 := by
    have := left_len f (l.take k)
    rw [List.length_take] at this; omega
  obtain ⟨v8, w8, hr, A8, C8, L8⟩ := append_rec _ w.heap.size 22 sv _ [rc l k] ar ⟨wr.heap.size, 0, none⟩ 1 (six_row wr (rc l k)) (by simp; omega) ch.size
  obtain ⟨a', c', rfl, _⟩ := A8.shape
  have hsp : l.drop k = rc l k :: l.drop (k + 1) := by rw [rc_get hk, ← List.drop_eq_getElem_cons hk]
  have hlt : leftL f (l.take (k + 1)) = leftL f (l.take k) ++ [rc l k] := by rw [left_take hk, ht]; rfl
  have hown : ∀ g, sv.ownBlock = some g → ¬ feet q v u' g := fun g hg z => by
    have h1 := (ar.lt g hg).1
    rcases z with z | z | z
    · have := h.hq; omega
    · have := h.hv g z; omega
    · exact ap g hg z
  refine ⟨a', _, c', w8, hr, ⟨⟨u', es', s.chg C8 (fun g hg z => hown g z hg), ?_, ?_, o, by rw [hlt]; exact A8, ?_⟩, h.hq, h.hv⟩⟩
  · rw [hlt, List.append_assoc, List.singleton_append, ← hsp]; exact cn
  · refine ⟨C8.os.trans ch.os, C8.tape.trans ch.tape, C8.output.trans ch.output, Nat.le_trans ch.size C8.size, fun i hi hn => ?_⟩
    rw [C8.block i (by have := ch.size; omega) (fun z => by have := (ar.lt i z).1; omega)]
    exact ch.block i hi hn
  · intro g hg z
    rcases L8 g hg with y | y
    · exact ap g y z
    · have := (s.cnts.lt g z).2; omega
theorem Purg.fin {a : Option Addr} {n c : Nat} (h : Purg w wr B q (.slice a n c) u l last f k sv) (hk : k ≤ l.length) (h200 : l.length ≤ 200) :
    Calls Tryd.prog 51 #[.slice a n c, .int .i64 0, .int .i64 k, sv] wr fun e w' => ∃ a' n' c', e = .returned (.slice a' n' c') ∧ w'.cell? ⟨q, 0, none⟩ = some (.slice a n c) ∧ w'.frozen? ⟨q, 0, none⟩ = false ∧ Hid (∃ es', Moves w (w'.setCell ⟨q, 0, none⟩ (.slice a' n' c')) B q (.slice a n c) u (leftL f (l.take k) ++ l.drop k) es' last ∧ Cnt (leftL f (l.take k) ++ l.drop k) es') := by
  obtain ⟨u', es', s, cn, ch, o, ar, ap⟩ := h.ex
  refine (replace_any s.msgs ar (by have := left_len f (l.take k); rw [List.length_take] at this; omega) hk h200 (fun g hg z => by have := h.hv g hg; have := (ar.lt g z).1; omega)).mono ?_
  rintro e w' ⟨v', rfl, A8, C8, L8⟩
  obtain ⟨a', c', rfl, _⟩ := A8.shape
  refine ⟨a', _, c', rfl, ?_, ?_, hide ⟨es', Moves.seq ch o (Moves.store s C8 A8 L8), cn⟩⟩
  · rw [C8.cell (p := ⟨q, 0, none⟩) s.lt s.av]; exact s.c0
  · rw [C8.frozen (p := ⟨q, 0, none⟩) s.lt s.av]; exact s.free 0
end
set_option maxRecDepth 100000 in
set_option maxHeartbeats 2000000 in
theorem spur_any {w : World} {B q : Nat} {v u : Value} {l : List Rc} {es : List Ent} {last : Int} (f : ByteArray) (n : Int) (hf : errS true f = 0) (hfz : f.size ≤ 140737488355328) (h : Sho w B q v u l es last) (hr : RiseQ l) (hc : Cnt l es) (h200 : l.length ≤ 200) (hm : ∀ x ∈ l, errS false x.s = 0 ∧ x.s.size ≤ 135) (hB : B ≤ w.heap.size) :
    Calls Tryd.prog 32 #[.pointer (some ⟨q, 0, none⟩), .string f, .int .i64 n] w fun e w' => e = .returned (.tuple #[]) ∧ ∃ es', Moves w w' B q v u (leftL f (l.take (pq l n)) ++ l.drop (pq l n)) es' last ∧ Cnt (leftL f (l.take (pq l n)) ++ l.drop (pq l n)) es' := by
  have PP := hide (splace_any n h hr h200)
  have hpl := pq_le l n
  obtain ⟨p, hp⟩ : ∃ p, p = pq l n := ⟨_, rfl⟩
  rw [← hp] at PP hpl ⊢
  clear hp
  obtain ⟨a, cap, rfl, c1, c2, hsl⟩ := h.msgs.shape
  unfold maxLen at c2
  have HH := hide h
  have HC := hide hc
  have HM := hide hm
  clear h hc hr hm
  go_enter Tryd.func32, Tryd.ntmps32
  go_wp2_with fail
  refine (unhide PP).mono ?_
  rintro e w1 ⟨rfl, b1⟩
  have h1 := (unhide HH).below b1
  have d0 := h1.c0
  have e0 : (0 : Int) ≤ (p : Int) := by omega
  have e1 : (p : Int) ≤ (l.length : Int) := by omega
  have e2 : p ≤ cap := by omega
  clear PP
  have HP : Hid (Purg w w1 B q (.slice a l.length cap) u l last f 0 (.slice none 0 0)) := hide ⟨⟨u, es, h1, by simpa [leftL] using unhide HC, Chg.of_below b1, fun g hg => .inl hg, ArrR.empty _ _, fun g hg => by simp [Value.ownBlock] at hg⟩, (unhide HH).lt, fun g hg => ((unhide HH).msgs.lt g hg).2⟩
  have PT : Hid (∀ k, k < l.length → ∀ X, Calls Tryd.prog 38 #[.string f, .agg #[.int .i64 (rc l k).k, .int .i64 (rc l k).q, .int .i64 (rc l k).t, .string (rc l k).s, .string (rc l k).h, .string (rc l k).d]] X fun e w' => e = .returned (.bool (tkB f (rc l k).s)) ∧ Below X.heap.size X w') := hide (fun k hk X => by
    obtain ⟨m1, m2⟩ := unhide HM _ (rc_mem hk)
    have := takes_any f (rc l k) hfz (by omega) X
    rw [tk_match hf m1] at this
    exact this)
  clear h1 b1 hsl hf
  go_wp2_with fail
  clear d0
  go_loopw [8, 24] (fun sv kv wr => ∃ (k : Nat), kv = .int .i64 k ∧ k ≤ p ∧ Hid (Purg w wr B q (.slice a l.length cap) u l last f k sv)) (fun _ kv _ => p - (intOf kv).toNat)
  case atStart => exact ⟨0, rfl, Nat.zero_le _, HP⟩
  case round =>
    clear HP
    obtain ⟨k, rfl, hk, HP⟩ := hrel
    obtain ⟨sa, sn, sc, rfl⟩ := (unhide HP).shape
    by_cases hlt : k < p
    · obtain ⟨b, o, rfl, s6⟩ := (unhide HP).show (by omega) rfl
      have hkl : k < l.length := by omega
      have T := hide (unhide PT k hkl)
      have K1 : Hid (∀ w5, Below wr.heap.size wr w5 → tkB f (rc l k).s = true → Calls Tryd.prog 49 #[.pointer (some ⟨q, 0, none⟩), .string (rc l k).s] w5 fun e w' => e = .returned (.tuple #[]) ∧ Purg w w' B q (.slice (some ⟨b, o, none⟩) l.length cap) u l last f (k + 1) (.slice sa sn sc)) := hide (fun w5 b5 ht => ((unhide HP).below b5).count hkl ht hB h200 (unhide HM))
      have K2 : Hid (∀ w5, Below wr.heap.size wr w5 → tkB f (rc l k).s = false → ∃ a' n' c' w', (Builtin.append_ #[22, 22] 22 #[.slice sa sn sc, .slice (some ⟨w5.heap.size, 0, none⟩) 1 1]).run Tryd.prog (w5.alloc (.cells #[.int .i64 (rc l k).k, .int .i64 (rc l k).q, .int .i64 (rc l k).t, .string (rc l k).s, .string (rc l k).h, .string (rc l k).d] 26)) = .ok (.slice a' n' c') w' ∧ Purg w w' B q (.slice (some ⟨b, o, none⟩) l.length cap) u l last f (k + 1) (.slice a' n' c')) := hide (fun w5 b5 ht => ((unhide HP).below b5).more hkl ht h200)
      generalize rc l k = y at *
      obtain ⟨_, x0, x1, x2, x3, x4, x5⟩ := s6
      have hb0 : Below wr.heap.size wr (wr.alloc (.cells #[.int .i64 y.k, .int .i64 y.q, .int .i64 y.t, .string y.s, .string y.h, .string y.d] 26)) := (Below.refl _ _).alloc (Nat.le_refl _) _
      have R0 := hide (RB.new wr y.k y.q y.t y.s y.h y.d 26)
      have Hb0 := hide hb0
      clear hb0 PT
      go_wp2_with fail
      refine (unhide T _).mono ?_
      rintro e w5 ⟨rfl, b5⟩
      have B5 := hide (bstep (unhide Hb0) b5)
      obtain ⟨_, y0, y1, y2, y3, y4, y5, _⟩ := (unhide R0).next b5
      clear x0 x1 x2 x3 x4 x5 b5 T R0 Hb0
      cases ht : tkB f y.s with
      | true =>
        have C := hide (unhide K1 w5 (unhide B5) ht)
        clear K1 K2 ht
        go_wp2_with fail
        refine (unhide C).mono ?_
        rintro e w6 ⟨rfl, p6⟩
        have P6 := hide p6
        clear p6 C
        go_wp2_with fail
        refine ⟨⟨k + 1, by go_num, by omega, P6⟩, ?_⟩
        simp [intOf]; omega
      | false =>
        obtain ⟨a', n', c', w6, hrun, p6⟩ := unhide K2 w5 (unhide B5) ht
        have P6 := hide p6
        clear K1 K2 ht p6
        go_wp2_with (at_builtin; refine Lib.wpList_append_run _ rfl _ _ _ _ rfl _ _ rfl rfl _ _ hrun ?_)
        refine ⟨⟨k + 1, by go_num, by omega, P6⟩, ?_⟩
        simp [intOf]; omega
    · obtain rfl : k = p := by omega
      have PF := hide ((unhide HP).fin hpl h200)
      have d0 : wr.cell? ⟨q, 0, none⟩ = some (.slice a l.length cap) := by
        obtain ⟨u', es', s, _⟩ := (unhide HP).ex
        exact s.c0
      clear HP
      go_wp2_with fail
      refine (unhide PF).mono ?_
      rintro e w6 ⟨a', n', c', rfl, f0, f1, HF⟩
      clear PF d0
      go_wp2_with fail
      go_end0
      exact ⟨rfl, unhide HF⟩
end Go.Proofs.YtcdajajekmichafDoor.Dk
