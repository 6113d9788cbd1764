/-
  A stream, pure: a post that is refused ahead of all writing changes nothing. No program.
  The program's stream: Store, erase, purge, isTime, sizeOf, takes, isLarge; over any disk and any store.
  The program's stream: isKnown.
  The program's stream: know.
  The program's stream: know, the walk.
-/
import Derived.Test.YtmccpkpeimejhagGreatDoorJointPapRcPapRgOsMRowPvWorksR
import Derived.Test.YtmccpkpeimejhagGreatDoorJointOsROsPOv1Ov3Ov5
import Derived.Test.YtmccpkpeimejhagGreatDoorJointPapPcPapPeWalkY1Walk5aWalk5
import Derived.Deep.RegionHeld3
import Derived.Test.YtmccpkpeimejhagGreatDoorJointWalkClWalkN4WalkC5WalkC6WalkC7
import Derived.Test.YtmccpkpeimejhagGreatDoorJointWalkN3RowBWalkC1WalkC2WalkC3
import Derived.Deep.RegionWith
namespace Go.Proofs.YtmccpkpeimejhagGreatDoor.Dk
open Go

/-- the blocks bear low numbers -/
def Low (es : List Pap) : Prop := ∀ e ∈ es, 0 ≤ e.n ∧ e.n < (es.length : Int)
theorem Low.nil : Low [] := fun e h => by cases h
theorem last_in {es : List Pap} (h : es.length ≠ 0) : lastP es ∈ es := pa_mem (by omega)
theorem Low.sync {es : List Pap} (h : Low es) (n : Int) : Low (syncL es n) := by
  unfold syncL
  split
  · rename_i hi
    intro e he
    rw [List.length_set]
    rcases List.mem_or_eq_of_mem_set he with y | y
    · exact h e y
    · rw [y]; exact h (pa es (ix es n)) (pa_mem hi)
  · exact h
theorem Low.lsync {es : List Pap} (h : Low es) : Low (lsyncL es) := by
  unfold lsyncL
  split
  · exact h
  · exact h.sync _
theorem Low.app {es : List Pap} (h : Low es) {m n : Int} {s : ByteArray} (hn : 0 ≤ n ∧ n ≤ (es.length : Int)) : Low (appL es m n s) := by
  unfold appL
  split
  · exact h
  · split
    · exact h
    · split
      · rename_i hi
        intro e he
        rw [List.length_set]
        rcases List.mem_or_eq_of_mem_set he with y | y
        · exact h e y
        · rw [y]; exact h (pa es (ix es n)) (pa_mem hi)
      · intro e he
        have hl : (insL es (low es n) ⟨n, 0, s⟩).length = es.length + 1 := by
          unfold insL
          rw [List.length_append, List.length_cons, List.length_take, List.length_drop]
          have : low es n ≤ es.length := by unfold low; exact List.findIdx_le_length
          omega
        rw [hl]
        rcases mem_ins he with y | y
        · rw [y]; exact ⟨hn.1, by show n < ((es.length + 1 : Nat) : Int); omega⟩
        · have := h e y; exact ⟨this.1, by omega⟩
theorem Low.size_sync (es : List Pap) (n : Int) : (syncL es n).length = es.length := by
  unfold syncL
  split
  · rw [List.length_set]
  · rfl
theorem Low.log {es : List Pap} (h : Low es) (m size : Int) (r : Rc) : Low (logP es m size r).2 := by
  unfold logP
  split
  · unfold logR
    split
    · exact h
    · split
      · exact h.app ⟨Int.le_refl _, by omega⟩
      · rename_i hne
        have hl := h _ (last_in hne)
        split
        · exact (h.sync _).app ⟨by omega, by rw [Low.size_sync]; omega⟩
        · exact h.app ⟨hl.1, by omega⟩
  · exact h
theorem Low.did {es : List Pap} (h : Low es) (s : Sto) (m size : Int) (r : Rc) : Low (doL es s m size r) := by
  unfold doL
  split
  · exact (h.log m size r).lsync
  · exact h
/-- the one error of a log whose blocks bear low numbers: no room -/
theorem log_err {es : List Pap} (h : Low es) (hf : es.length ≤ 20) {m size : Int} {r : Rc} (hc : chkR r = 0) : (logP es m size r).1 = 0 ∨ (logP es m size r).1 = 8 := by
  have key : ∀ (es' : List Pap) (n : Int), 0 ≤ n → n ≤ 1099511627776 → appE es' m n (codT r) = 0 ∨ appE es' m n (codT r) = 8 := fun es' n h1 h2 => by
    unfold appE
    rw [if_neg (by unfold inI; rw [decide_eq_true h1, decide_eq_true h2]; decide)]
    split
    · exact .inr rfl
    · exact .inl rfl
  have hR : (logR es m size r).1 = 0 ∨ (logR es m size r).1 = 8 := by
    unfold logR
    rw [if_neg (by rw [hc]; simp)]
    split
    · exact key es 0 (by omega) (by omega)
    · rename_i hne
      have hl := h _ (last_in hne)
      split
      · exact key (syncL es (lastP es).n) ((lastP es).n + 1) (by omega) (by omega)
      · exact key es (lastP es).n (by omega) (by omega)
  unfold logP
  split
  · exact hR
  · exact hR
theorem do_err {es : List Pap} (h : Low es) (hf : es.length ≤ 20) {s : Sto} {m size : Int} {r : Rc} (hc : chkR r = 0) (ht : tryE s r = 0 ∨ tryE s r = 8) : doE es s m size r = 0 ∨ doE es s m size r = 8 := by
  unfold doE
  split
  · exact ht
  · exact log_err h hf hc
theorem errS_errOf (wild : Bool) (s : ByteArray) : errS wild s = Pl.errOf wild (Pl.pcs s.data.toList) := rfl
/-- a post that passes is a record -/
theorem msg_chk {p : Pn.Pln} {now : Int} {x : Po} {q : Int} (h : preE p now x = 0) (hq : 1 ≤ q ∧ q ≤ 1099511627776) : chkR (msgR q now x) = 0 := by
  unfold preE at h
  by_cases a : (inI now 0 1099511627776 && (decide (-1 ≤ x.x) && inI x.ro 0 2)) = false
  · rw [if_pos a] at h; cases h
  · rw [if_neg a] at h
    by_cases b : errS false x.s = 0
    · rw [if_neg (by rw [b]; simp)] at h
      by_cases c : takesP p x.s = false
      · rw [if_pos c] at h; cases h
      · rw [if_neg c] at h
        have a : (inI now 0 1099511627776 && (decide (-1 ≤ x.x) && inI x.ro 0 2)) = true := by simpa using a
        simp only [inI, Bool.and_eq_true, decide_eq_true_eq] at a
        have d : ¬ 256 < x.h.size + x.d.size := fun z => by
          rw [decide_eq_true z] at h
          simp at h
        have e : ∀ y : ByteArray, y.data.toList.length = y.size := fun y => by simp
        unfold chkR msgR Rc.pk Pk.chk
        rw [if_neg (by
          have : Pk.inB 1 q now = true := Pk.inB_iff.2 ⟨by decide, by decide, hq.1, hq.2, a.1.1, a.1.2⟩
          rw [this]; decide), if_pos rfl, if_neg (by rw [← errS_errOf, b]; simp), if_neg (by simp only [e]; exact d)]
    · rw [if_pos b] at h; exact absurd h b
theorem pur_chk {q now : Int} {f : ByteArray} (hq : 1 ≤ q ∧ q ≤ 1099511627776) (hn : 0 ≤ now ∧ now ≤ 1099511627776) (hf : errS true f = 0) : chkR (purR q now f) = 0 := by
  unfold chkR purR Rc.pk Pk.chk
  rw [if_neg (by
    have : Pk.inB 3 q now = true := Pk.inB_iff.2 ⟨by decide, by decide, hq.1, hq.2, hn.1, hn.2⟩
    rw [this]; decide), if_neg (by show ¬ (3 : Int) = 1; decide), if_pos rfl, if_neg (by rw [← errS_errOf, hf]; simp), if_pos (by simp [noB])]
theorem msg_try {s : Sto} {q now : Int} {x : Po} (hc : chkR (msgR q now x) = 0) (hq : s.last < q) : tryE s (msgR q now x) = 0 ∨ tryE s (msgR q now x) = 8 := by
  unfold tryE
  rw [if_neg (by rw [hc]; simp), if_neg (by intro z; have := z.1; cases this), if_neg (by intro z; exact z rfl), if_neg (by show ¬ q ≤ s.last; omega)]
  split
  · exact .inr rfl
  · exact .inl rfl
theorem Low.room {p : Pn.Pln} {m size now : Int} {x : Po} : ∀ (k : Nat) {es : List Pap} {s : Sto}, Low es → Low (roomF p m size now x k es s).2.1
  | 0, _, _, h => h
  | k + 1, es, s, h => by
    unfold roomF
    split
    · exact h
    · split
      · exact h
      · split
        · exact h
        · exact Low.room k (h.did _ _ _ _)
theorem Low.pub {p : Pn.Pln} {m size now : Int} {x : Po} {st : Str} (h : Low st.es) : Low (pubP p m size now x st).2.es := by
  have hr : Low (roomE p m size now x st.es st.s).2.1 := by
    unfold roomE
    split
    · exact h
    · exact Low.room _ h
  unfold pubP
  split
  · exact h
  · split
    · exact h
    · split
      · exact h
      · split
        · exact hr
        · unfold putP
          split
          · exact hr
          · split
            · exact hr.did _ _ _ _
            · split
              · exact hr.did _ _ _ _
              · exact (hr.did _ _ _ _).did _ _ _ _
/-- where new ones are thrown away room takes nothing; else its one error is that there is no room -/
theorem room_err {p : Pn.Pln} {m size now : Int} {x : Po} (hp : PPos p) (hn : 0 ≤ now ∧ now ≤ 1099511627776) (hz : ¬ (pv p 1 ≠ 0 ∧ pv p 1 < (szP x : Int))) : ∀ (k : Nat) {es : List Pap} {s : Sto}, VOk m es s → Low es →
    (pv p 5 = 1 → (roomF p m size now x k es s).2.2 = s) ∧ ((roomF p m size now x k es s).1 = 0 ∨ (roomF p m size now x k es s).1 = 8)
  | 0, _, _, _, _ => ⟨fun _ => rfl, .inl rfl⟩
  | k + 1, es, s, hv, hl => by
    unfold roomF
    by_cases a : (crowdB p s.l x || fullB p s.l x) = false
    · rw [if_pos a]; exact ⟨fun _ => rfl, .inl rfl⟩
    · rw [if_neg a]
      by_cases b : pv p 5 = 1
      · rw [if_pos b]; exact ⟨fun _ => rfl, .inr rfl⟩
      · rw [if_neg b]
        obtain ⟨r, hr, e⟩ := go_in hp hz a
        have ht := era_try (now := now) hv.ok ⟨r, hr, e⟩ hn
        have hc : chkR (eraR (goQ p s.l x) now) = 0 := era_chk (by rw [← e]; exact hv.ok.seq hr) hn
        have hd := do_err (m := m) (size := size) hl hv.tidy.few hc (.inl ht)
        by_cases c : doE es s m size (eraR (goQ p s.l x) now) = 0
        · rw [if_neg (by rw [c]; simp)]
          obtain ⟨_, i2⟩ := room_err hp hn hz k (hv.did (size := size) (eraR (goQ p s.l x) now)) (hl.did s m size (eraR (goQ p s.l x) now))
          exact ⟨fun z => absurd z b, i2⟩
        · rw [if_pos c]
          exact ⟨fun z => absurd z b, hd⟩
/-- what is refused ahead of all writing changes nothing -/
theorem pub_refuses {p : Pn.Pln} {m size now : Int} {x : Po} {st : Str} (hp : PPos p) (hv : VOk m st.es st.s) (hl : Low st.es) (hq : st.s.last < 1099511627776) (h0 : (pubP p m size now x st).1.2.2 ≠ 0) (h8 : ¬ ((pubP p m size now x st).1.2.2 = 8 ∧ (pv p 5 ≠ 1 ∨ x.ro ≠ 0))) : (pubP p m size now x st).2.s.l = st.s.l := by
  unfold pubP at h0 h8 ⊢
  by_cases a : preE p now x = 0
  · rw [if_neg (by rw [a]; simp)] at h0 h8 ⊢
    by_cases b : againB p now x st.ids = true
    · rw [if_pos b]
    · rw [if_neg b] at h0 h8 ⊢
      by_cases c : x.x ≠ -1 ∧ x.x ≠ st.s.last
      · rw [if_pos c]
      · rw [if_neg c] at h0 h8 ⊢
        have hn : 0 ≤ now ∧ now ≤ 1099511627776 := by
          have h := a
          unfold preE at h
          by_cases z : (inI now 0 1099511627776 && (decide (-1 ≤ x.x) && inI x.ro 0 2)) = false
          · rw [if_pos z] at h; cases h
          · have z : (inI now 0 1099511627776 && (decide (-1 ≤ x.x) && inI x.ro 0 2)) = true := by simpa using z
            simp only [inI, Bool.and_eq_true, decide_eq_true_eq] at z
            exact ⟨z.1.1, z.1.2⟩
        have hsub : errS true x.s = 0 := by
          have h := a
          unfold preE at h
          by_cases z : (inI now 0 1099511627776 && (decide (-1 ≤ x.x) && inI x.ro 0 2)) = false
          · rw [if_pos z] at h; cases h
          · rw [if_neg z] at h
            by_cases y : errS false x.s = 0
            · exact subject_filter y
            · rw [if_pos y] at h; exact absurd h y
        have hv1 := hv.roomE (p := p) (size := size) (now := now) (x := x)
        have hs1 := (roomE_sub (p := p) (m := m) (size := size) (now := now) (x := x) (es := st.es) (s := st.s)).2
        have hL : Low (roomE p m size now x st.es st.s).2.1 ∧ (pv p 5 = 1 → (roomE p m size now x st.es st.s).2.2 = st.s) ∧ ((roomE p m size now x st.es st.s).1 = 0 ∨ (roomE p m size now x st.es st.s).1 = 8 ∧ (pv p 5 ≠ 1 ∨ (roomE p m size now x st.es st.s).2.2 = st.s)) := by
          unfold roomE
          by_cases z : pv p 1 ≠ 0 ∧ pv p 1 < (szP x : Int)
          · rw [if_pos z]; exact ⟨hl, fun _ => rfl, .inr ⟨rfl, .inr rfl⟩⟩
          · rw [if_neg z]
            obtain ⟨r1, r2⟩ := room_err (size := size) hp hn z (st.s.l.length + 1) hv hl
            refine ⟨Low.room _ hl, r1, ?_⟩
            rcases r2 with y | y
            · exact .inl y
            · by_cases d : pv p 5 = 1
              · exact .inr ⟨y, .inr (r1 d)⟩
              · exact .inr ⟨y, .inl d⟩
        obtain ⟨hL1, hL2, hL3⟩ := hL
        by_cases d : (roomE p m size now x st.es st.s).1 = 0
        · rw [if_neg (by rw [d]; simp)] at h0 h8 ⊢
          clear hL3 d
          generalize (roomE p m size now x st.es st.s).2.1 = es at *
          generalize (roomE p m size now x st.es st.s).2.2 = s at *
          have hs0 : 0 ≤ s.last := hv1.ok.last.1
          have hc := msg_chk (q := s.last + 1) a ⟨by omega, by omega⟩
          have hd := do_err (m := m) (size := size) hL1 hv1.tidy.few hc (msg_try (s := s) (q := s.last + 1) hc (by omega))
          unfold putP at h0 h8 ⊢
          by_cases e : doE es s m size (msgR (s.last + 1) now x) = 0
          · rw [if_neg (by rw [e]; simp)] at h0 h8 ⊢
            by_cases f : x.ro = 0
            · rw [if_pos f] at h0
              exact absurd rfl h0
            · rw [if_neg f] at h0 h8 ⊢
              have hcp : chkR (purR (s.last + 1) now (rollF x)) = 0 := pur_chk ⟨by omega, by omega⟩ hn (by
                unfold rollF
                split
                · exact hsub
                · exact gt_text.1)
              have hdp := do_err (m := m) (size := size) (hL1.did s m size (msgR (s.last + 1) now x)) (hv1.did (size := size) (msgR (s.last + 1) now x)).tidy.few (s := doS es s m size (msgR (s.last + 1) now x)) hcp (.inl (by rw [purge_try rfl]; exact hcp))
              by_cases g : doE (doL es s m size (msgR (s.last + 1) now x)) (doS es s m size (msgR (s.last + 1) now x)) m size (purR (s.last + 1) now (rollF x)) = 0
              · rw [if_neg (by rw [g]; simp)] at h0
                exact absurd rfl h0
              · rw [if_pos g] at h8
                rcases hdp with y | y
                · exact absurd y g
                · exact absurd ⟨y, .inr f⟩ h8
          · rw [if_pos e] at h0 h8 ⊢
            rcases hd with y | y
            · exact absurd y e
            · by_cases z : pv p 5 = 1
              · show s.l = st.s.l
                rw [hL2 z]
              · exact absurd ⟨y, .inl z⟩ h8
        · rw [if_pos d] at h0 h8 ⊢
          rcases hL3 with y | ⟨y, z⟩
          · exact absurd y d
          · rcases z with z | z
            · exact absurd ⟨y, .inl z⟩ h8
            · show (roomE p m size now x st.es st.s).2.2.l = st.s.l
              rw [z]
  · rw [if_pos a]
end Go.Proofs.YtmccpkpeimejhagGreatDoor.Dk

namespace Go.Proofs.YtmccpkpeimejhagGreatDoor.Dk
open Go.RowKit

/-- what is asked of the disk, the log, the store, all at once -/
structure Und (Has : World → Nat → Nat → (Nat → Prop) → Int → List Pap → Prop) (SH : World → Nat → Nat → (Nat → Prop) → Sto → Prop) : Prop where
  H : More Has
  L : LWorks Has (LHof Has)
  S : SVault SH
theorem apl_last (s : Sto) (r : Rc) : s.last ≤ (aplS s r).last := by
  unfold aplS
  by_cases h0 : tryE s r = 0
  · rw [if_neg (by rw [h0]; simp)]
    by_cases h1 : r.k = 1
    · rw [if_pos h1]
      show s.last ≤ r.q
      unfold tryE at h0
      by_cases c1 : chkR r = 0
      · rw [if_neg (by rw [c1]; simp), if_neg (by rw [h1]; omega), if_neg (by rw [h1]; simp)] at h0
        by_cases c2 : r.q ≤ s.last
        · rw [if_pos c2] at h0
          exact absurd h0 (by decide)
        · omega
      · rw [if_pos c1] at h0
        exact absurd h0 c1
    · rw [if_neg h1]
      split
      · exact Int.le_max_left _ _
      · exact Int.le_refl _
  · rw [if_pos h0]
    exact Int.le_refl _
theorem do_last (es : List Pap) (s : Sto) (m size : Int) (r : Rc) : s.last ≤ (doS es s m size r).last := by
  unfold doS
  split
  · exact apl_last s r
  · exact Int.le_refl _
/-- what a stream is when a record was written -/
def doT (m size : Int) (st : Str) (r : Rc) : Str := ⟨doL st.es st.s m size r, doS st.es st.s m size r, st.ids⟩
theorem Fit.did {P : Pn.Pln} {m size : Int} {st : Str} (h : Fit P m size st) (r : Rc) : Fit P m size (doT m size st r) := ⟨h.plan, h.vok.did r, h.room, h.size, h.seqs⟩
theorem nob_small : noB.size ≤ 140737488355328 := by decide
theorem plan_each {P : Pn.Pln} (h : Pn.planE P = 0) : ∀ k, k < P.f.length → errS true (tk P.f k) = 0 := by
  obtain ⟨_, _, _, h4, _, _⟩ := Pn.plan_ok h
  exact fun k hk => Pn.filtE_all h4 _ (by unfold tk; rw [List.getElem?_eq_getElem hk]; exact List.getElem_mem hk)
/-- the plan's numbers aren't above what they may be -/
theorem plan_max {P : Pn.Pln} (h : Pn.planE P = 0) (k : Nat) : nth P.v k ≤ nth Pn.most8 k := by
  obtain ⟨_, _, _, _, _, h6⟩ := Pn.plan_ok h
  have key : ∀ (v ms : List Int) (k : Nat), (∀ y ∈ ms, 0 ≤ y) → Pn.inAll v ms = true → (v[k]?).getD 0 ≤ (ms[k]?).getD 0 := by
    intro v
    induction v with
    | nil =>
      intro ms k hp _
      cases hm : ms[k]? with
      | none => simp
      | some y => simpa using hp y (List.mem_of_getElem? hm)
    | cons y v ih =>
      intro ms k hp hh
      cases ms with
      | nil => simp [Pn.inAll] at hh
      | cons z ms =>
        simp only [Pn.inAll, Bool.and_eq_true, decide_eq_true_eq] at hh
        cases k with
        | zero => simpa using hh.1.2
        | succ k => simpa using ih ms k (fun y hy => hp y (List.mem_cons_of_mem _ hy)) hh.2
  exact key P.v Pn.most8 k (by decide) h6
section
variable {Has : World → Nat → Nat → (Nat → Prop) → Int → List Pap → Prop} {SH : World → Nat → Nat → (Nat → Prop) → Sto → Prop} {F0 Cs : Nat → Prop} {w wr : World} {B x : Nat} {a : Option Addr} {c : Nat} {mb : Option Nat} {P : Pn.Pln} {m size : Int} {st : Str}

set_option maxRecDepth 100000 in
set_option maxHeartbeats 1000000 in
theorem tstore_any (h : Rst Has SH F0 Cs w wr B x a c mb P m size st) :
    Calls Tryz.prog 17 #[.pointer (some ⟨x, 0, none⟩)] wr fun e w' => ∃ q G, e = .returned (.pointer (some ⟨q, 0, none⟩)) ∧ SH w' B q G st.s ∧ Below wr.heap.size wr w' := by
  obtain ⟨FV, hv⟩ := h.look
  have P1 := hide (vstore_any hv)
  clear h hv
  go_enter Tryz.func17, Tryz.ntmps17
  go_wp2_with fail
  refine (unhide P1).mono ?_
  rintro e w1 ⟨q, G, rfl, h1, _, b1⟩
  have B1 := hide (And.intro h1 b1)
  clear P1 h1 b1
  go_wp2_with fail
  go_ret
  exact ⟨q, G, rfl, unhide B1⟩
/-- a record is written -/
theorem Rst.vdo (U : Und Has SH) (h : Rst Has SH F0 Cs w wr B x a c mb P m size st) (hf : Fit P m size st) (hB : B ≤ w.heap.size) (r : Rc) (hr : Small r) :
    Calls Tryz.prog 8 #[.pointer (some ⟨x, 10, none⟩), .agg #[.int .i64 r.k, .int .i64 r.q, .int .i64 r.t, .string r.s, .string r.h, .string r.d]] wr fun e w' => e = .returned (.int .i64 (doE st.es st.s m size r)) ∧ Rst Has SH F0 Cs w w' B x a c mb P m size (doT m size st r) ∧ Stay Cs wr w' :=
  h.did (do_last _ _ _ _ r) (Q := fun e _ => e = .returned (.int .i64 (doE st.es st.s m size r))) (fun _ hv => vdo_any U.H U.L U.S r hr hv hf.vok hf.room hf.size (Nat.le_trans hB h.room))

set_option maxRecDepth 100000 in
set_option maxHeartbeats 1000000 in
theorem terase_any (U : Und Has SH) (h : Rst Has SH F0 Cs w wr B x a c mb P m size st) (hf : Fit P m size st) (hB : B ≤ w.heap.size) (now q : Int) :
    Calls Tryz.prog 106 #[.pointer (some ⟨x, 0, none⟩), .int .i64 now, .int .i64 q] wr fun e w' => e = .returned (.int .i64 (doE st.es st.s m size (eraR q now))) ∧ Rst Has SH F0 Cs w w' B x a c mb P m size (doT m size st (eraR q now)) ∧ Stay Cs wr w' := by
  have PD := hide (show Calls Tryz.prog 8 #[.pointer (some ⟨x, 10, none⟩), .agg #[.int .i64 2, .int .i64 q, .int .i64 now, .string ⟨#[]⟩, .string ⟨#[]⟩, .string ⟨#[]⟩]] wr _ from h.vdo U hf hB (eraR q now) ⟨nob_small, nob_small, nob_small⟩)
  clear h hf
  generalize doE st.es st.s m size (eraR q now) = E at *
  go_enter Tryz.func106, Tryz.ntmps106
  go_wp2_with fail
  refine (unhide PD).mono ?_
  rintro e w1 ⟨rfl, h1⟩
  have B1 := hide h1
  clear PD h1
  go_wp2_with fail
  go_ret
  exact ⟨rfl, unhide B1⟩

set_option maxRecDepth 100000 in
set_option maxHeartbeats 1000000 in
theorem tpurge_any (U : Und Has SH) (h : Rst Has SH F0 Cs w wr B x a c mb P m size st) (hf : Fit P m size st) (hB : B ≤ w.heap.size) (now q : Int) (f : ByteArray) (hs : f.size ≤ 140737488355328) :
    Calls Tryz.prog 107 #[.pointer (some ⟨x, 0, none⟩), .int .i64 now, .string f, .int .i64 q] wr fun e w' => e = .returned (.int .i64 (doE st.es st.s m size (purR q now f))) ∧ Rst Has SH F0 Cs w w' B x a c mb P m size (doT m size st (purR q now f)) ∧ Stay Cs wr w' := by
  have PD := hide (show Calls Tryz.prog 8 #[.pointer (some ⟨x, 10, none⟩), .agg #[.int .i64 3, .int .i64 q, .int .i64 now, .string f, .string ⟨#[]⟩, .string ⟨#[]⟩]] wr _ from h.vdo U hf hB (purR q now f) ⟨hs, nob_small, nob_small⟩)
  clear h hf
  generalize doE st.es st.s m size (purR q now f) = E at *
  go_enter Tryz.func107, Tryz.ntmps107
  go_wp2_with fail
  refine (unhide PD).mono ?_
  rintro e w1 ⟨rfl, h1⟩
  have B1 := hide h1
  clear PD h1
  go_wp2_with fail
  go_ret
  exact ⟨rfl, unhide B1⟩

set_option maxRecDepth 100000 in
set_option maxHeartbeats 1000000 in
theorem istime_any (now : Int) (w : World) :
    Calls Tryz.prog 62 #[.int .i64 now] w fun e w' => e = .returned (.bool (inI now 0 1099511627776)) ∧ w' = w := by
  by_cases h0 : 0 ≤ now
  · by_cases h1 : now ≤ 1099511627776
    · have e : inI now 0 1099511627776 = true := by unfold inI; rw [decide_eq_true h0, decide_eq_true h1]; rfl
      rw [e]
      go_enter Tryz.func62, Tryz.ntmps62
      go_wp2_with fail
      go_ret
      exact ⟨rfl, rfl⟩
    · have e : inI now 0 1099511627776 = false := by unfold inI; rw [decide_eq_true h0, decide_eq_false h1]; rfl
      have e1 : decide (now ≤ 1099511627776) = false := decide_eq_false h1
      rw [e]
      go_enter Tryz.func62, Tryz.ntmps62
      go_wp2_with fail
      go_ret
      exact ⟨rfl, rfl⟩
  · have e : inI now 0 1099511627776 = false := by unfold inI; rw [decide_eq_false h0]; rfl
    have e1 : decide (0 ≤ now) = false := decide_eq_false h0
    rw [e]
    go_enter Tryz.func62, Tryz.ntmps62
    go_wp2_with fail
    go_ret
    exact ⟨rfl, rfl⟩

set_option maxRecDepth 100000 in
set_option maxHeartbeats 1000000 in
theorem sizeof_any (y : Po) (hy : SmallO y) (w : World) :
    Calls Tryz.prog 66 #[poV y] w fun e w' => e = .returned (.int .i64 (szP y : Nat)) ∧ Below w.heap.size w w' := by
  have b0 : Below w.heap.size w (w.alloc (poO y)) := (Below.refl _ _).alloc (Nat.le_refl _) _
  have hb := PoB.new w y
  have h1 := hy.s
  have h2 := hy.h
  have h3 := hy.d
  have B0 := hide b0
  obtain ⟨_, c0, c1, c2, c3, c4, c5⟩ := hb
  clear hy b0
  go_enter Tryz.func66, Tryz.ntmps66
  go_wp2_with fail
  go_ret
  exact ⟨by unfold szP; congr 2 <;> omega, unhide B0⟩

set_option maxRecDepth 100000 in
set_option maxHeartbeats 1000000 in
theorem islarge_any (hpl : Pn.planE P = 0) (h : PBx w x P a c) (y : Po) (hy : SmallO y) :
    Calls Tryz.prog 65 #[.pointer (some ⟨x, 0, none⟩), poV y] w fun e w' => e = .returned (.bool (decide (256 < y.h.size + y.d.size) || ((decide (pv P 4 ≠ 0) && decide (pv P 4 < ((y.h.size + y.d.size : Nat) : Int))) || decide (16 < y.i.size)))) ∧ Below w.heap.size w w' := by
  have b0 : Below w.heap.size w (w.alloc (poO y)) := (Below.refl _ _).alloc (Nat.le_refl _) _
  have hb := PoB.new w y
  have h2 := hy.h
  have h3 := hy.d
  have h4 := hy.i
  have d6 := (h.next b0).c6
  have hlt := h.lt
  have hmax : nth P.v 4 ≤ 256 := plan_max hpl 4
  have B0 := hide b0
  obtain ⟨_, c0, c1, c2, c3, c4, c5⟩ := hb
  unfold pv
  generalize nth P.v 4 = M at *
  clear hy h b0 hpl
  have key : ∀ most : Int, (most = 256 ∧ M = 0 ∨ most = M ∧ M ≠ 0) → (decide (256 < y.h.size + y.d.size) || ((decide (M ≠ 0) && decide (M < ((y.h.size + y.d.size : Nat) : Int))) || decide (16 < y.i.size))) = (decide (most < ((y.h.size : Int) + (y.d.size : Int))) || decide ((16 : Int) < (y.i.size : Int))) := by
    intro most hm
    rw [Bool.eq_iff_iff]
    simp only [Bool.or_eq_true, Bool.and_eq_true, decide_eq_true_eq]
    omega
  by_cases e0 : M = 0
  · rw [key 256 (.inl ⟨rfl, e0⟩)]
    clear key
    subst e0
    by_cases g1 : (256 : Int) < (y.h.size : Int) + (y.d.size : Int)
    · rw [decide_eq_true g1]
      go_enter Tryz.func65, Tryz.ntmps65
      go_wp2_with fail
      go_ret
      exact ⟨rfl, unhide B0⟩
    · have g2 : decide ((256 : Int) < (y.h.size : Int) + (y.d.size : Int)) = false := decide_eq_false g1
      rw [g2]
      go_enter Tryz.func65, Tryz.ntmps65
      go_wp2_with fail
      go_ret
      exact ⟨rfl, unhide B0⟩
  · rw [key M (.inr ⟨rfl, e0⟩)]
    clear key
    have e1 : (M != 0) = true := by simpa using e0
    by_cases g1 : M < (y.h.size : Int) + (y.d.size : Int)
    · rw [decide_eq_true g1]
      go_enter Tryz.func65, Tryz.ntmps65
      go_wp2_with fail
      go_ret
      exact ⟨rfl, unhide B0⟩
    · have g2 : decide (M < (y.h.size : Int) + (y.d.size : Int)) = false := decide_eq_false g1
      rw [g2]
      go_enter Tryz.func65, Tryz.ntmps65
      go_wp2_with fail
      go_ret
      exact ⟨rfl, unhide B0⟩

set_option maxRecDepth 100000 in
set_option maxHeartbeats 1000000 in
theorem ttakes_any (hpl : Pn.planE P = 0) (hsm : SmallP P) (h : PBx w x P a c) (hsl : SlS w a P.f) (s : ByteArray) (hs : s.size ≤ 140737488355328) (hok : errS false s = 0) :
    Calls Tryz.prog 64 #[.pointer (some ⟨x, 0, none⟩), .string s] w fun e w' => e = .returned (.bool (takesP P s)) ∧ Below w.heap.size w w' := by
  have HS := hide hsl
  have HM := hide (fun (W : World) (k : Nat) (hk : k < P.f.length) => match_at (f := tk P.f k) (s := s) (a := tkB (tk P.f k) s) (x := 0) (by unfold matchB tkB; rw [plan_each hpl k hk, hok]; simp) (by rw [plan_each hpl k hk, hok]; rfl) (hsm.each k hk) hs W)
  have hl := hsm.many
  have c1 := h.c1
  clear hsl hpl hsm hok h
  go_enter Tryz.func64, Tryz.ntmps64
  go_wp2_with fail
  go_loopw [15] (fun iv wr => ∃ (k : Nat), iv = .int .i64 k ∧ k ≤ P.f.length ∧ Hid (takesP P s = (P.f.drop k).any fun f => tkB f s) ∧ Hid (Below w.heap.size w wr)) (fun iv _ => P.f.length - (intOf iv).toNat)
  case atStart => exact ⟨0, rfl, Nat.zero_le _, hide rfl, hide (Below.refl _ _)⟩
  case round =>
    obtain ⟨k, rfl, hk, HT, HB⟩ := hrel
    by_cases hlt : k < P.f.length
    · obtain ⟨b, o, rfl, hb, hcell⟩ := unhide HS k hlt
      have hc2 := ((unhide HB).cell (p := ⟨b, o + k, none⟩) hb).trans hcell
      have PM := hide (unhide HM wr k hlt)
      have ht := unhide HT
      rw [Pn.any_drop hlt] at ht
      obtain ⟨v, hv⟩ : ∃ v, tkB (tk P.f k) s = v := ⟨_, rfl⟩
      rw [hv] at PM ht
      generalize tk P.f k = t at *
      clear hcell HT hv
      cases v with
      | true =>
        have HE := hide (show takesP P s = true from by rw [ht]; rfl)
        clear ht
        go_wp2_with fail
        refine (unhide PM).mono ?_
        rintro e w1 ⟨rfl, b1⟩
        have B1 := hide (bstep (unhide HB) b1)
        clear PM b1
        go_wp2_with fail
        go_ret
        rw [unhide HE]
        exact ⟨rfl, unhide B1⟩
      | false =>
        have HE := hide (show takesP P s = (P.f.drop (k + 1)).any fun f => tkB f s from by rw [ht]; rfl)
        clear ht
        go_wp2_with fail
        refine (unhide PM).mono ?_
        rintro e w1 ⟨rfl, b1⟩
        have B1 := hide (bstep (unhide HB) b1)
        clear PM b1
        go_wp2_with fail
        refine ⟨⟨k + 1, by go_num, by omega, HE, B1⟩, ?_⟩
        simp [intOf]; omega
    · obtain rfl : k = P.f.length := by omega
      have HE := hide (show takesP P s = false from by rw [unhide HT, List.drop_length]; rfl)
      clear HT
      go_wp2_with fail
      go_ret
      rw [unhide HE]
      exact ⟨rfl, unhide HB⟩
end
end Go.Proofs.YtmccpkpeimejhagGreatDoor.Dk

namespace Go.Proofs.YtmccpkpeimejhagGreatDoor.Dk
open Go.RowKit

def knB (o : Option Kn) (f : Int) : Bool := match o with
  | none => false
  | some k => decide (f ≤ k.a)
/-- known by the map, known by the list -/
theorem again_kn {P : Pn.Pln} {ids : List Kn} {now : Int} {y : Po} (h : Lasts (mids P ids)) (hq : ∀ k ∈ ids, 1 ≤ k.q) : againB P now y ids = knB (lastK (mids P ids) y.i) (now - pv P 7) ∧ (againB P now y ids = true → seenQ ids y.i (now - pv P 7) = knQ (lastK (mids P ids) y.i) (now - pv P 7)) := by
  unfold againB
  by_cases hW : pv P 7 = 0
  · have e : mids P ids = [] := by unfold mids; rw [if_pos hW]
    rw [e, decide_eq_false (p := pv P 7 ≠ 0) (by simpa using hW)]
    simp [lastK, knB]
  · have e : mids P ids = ids := by unfold mids; rw [if_neg hW]
    rw [e] at h ⊢
    rw [decide_eq_true (p := pv P 7 ≠ 0) hW, Bool.true_and]
    have hs := h.seen y.i (now - pv P 7)
    refine ⟨?_, fun _ => hs⟩
    cases hl : lastK ids y.i with
    | none =>
      rw [hl] at hs
      rw [hs]
      simp [knQ, knB]
    | some k =>
      obtain ⟨hm, hi⟩ := lastK_mem hl
      have h1 := hq k hm
      have h2 := h.some' k hm
      rw [hi] at h2
      rw [hl] at hs
      rw [hs, decide_eq_true (p := y.i.size ≠ 0) h2, Bool.true_and]
      by_cases c : now - pv P 7 ≤ k.a
      · have e1 : knQ (some k) (now - pv P 7) = k.q := if_pos c
        have e2 : knB (some k) (now - pv P 7) = true := decide_eq_true c
        rw [e1, e2]
        exact decide_eq_true (by omega)
      · have e1 : knQ (some k) (now - pv P 7) = 0 := if_neg c
        have e2 : knB (some k) (now - pv P 7) = false := decide_eq_false c
        rw [e1, e2]
        rfl
section
variable {Has : World → Nat → Nat → (Nat → Prop) → Int → List Pap → Prop} {SH : World → Nat → Nat → (Nat → Prop) → Sto → Prop} {F0 Cs : Nat → Prop} {w wr : World} {B x : Nat} {a : Option Addr} {c : Nat} {mb : Option Nat} {P : Pn.Pln} {m size : Int} {st : Str}
theorem Rst.map (h : Rst Has SH F0 Cs w wr B x a c mb P m size st) : KMap wr mb (mids P st.ids) ∧ Lasts (mids P st.ids) := by
  obtain ⟨_, h1, _⟩ := h
  exact ⟨h1.map, h1.lasts⟩

set_option maxRecDepth 100000 in
set_option maxHeartbeats 2000000 in
theorem isknown_any (h : Rst Has SH F0 Cs w wr B x a c mb P m size st) (hf : Fit P m size st) (now : Int) (hn : 0 ≤ now ∧ now ≤ 1099511627776) (i : ByteArray) (hi : i.size ≤ 140737488355328) :
    Calls Tryz.prog 35 #[.pointer (some ⟨x, 0, none⟩), .int .i64 now, .string i] wr fun e w' => e = .returned (.tuple #[.int .i64 (knQ (lastK (mids P st.ids) i) (now - pv P 7)), .bool (knB (lastK (mids P st.ids) i) (now - pv P 7))]) ∧ Below wr.heap.size wr w' := by
  obtain ⟨q, t, b, hrun, hb0, hb1⟩ := h.map.1.look i (by unfold maxLen; omega)
  have c14 := h.ids.1
  have c9 := h.plan.c9
  have hlt := h.plan.lt
  have hW0 : 0 ≤ nth P.v 7 := (ppos_of hf.plan).pos 7
  have hW1 : nth P.v 7 ≤ 100000 := plan_max hf.plan 7
  have bb : Below wr.heap.size wr (wr.alloc (.cells #[.int .i64 q, .int .i64 t] 124)) := (Below.refl _ _).alloc (Nat.le_refl _) _
  have c9b := (bb.cell (p := ⟨x, 9, none⟩) hlt).trans c9
  have B0 := hide bb
  have B1 := hide (fun n => below_drewN bb n)
  unfold pv
  generalize nth P.v 7 = W at *
  cases b with
  | false =>
    rw [hb0 rfl]
    clear h hf hb0 hb1 bb
    go_enter Tryz.func35, Tryz.ntmps35
    go_wp2_with fail
    go_quiet (fail)
    go_wp2_with fail
    go_ret2
    exact ⟨rfl, unhide B1 _⟩
  | true =>
    obtain ⟨k, hk, hq, ht⟩ := hb1 rfl
    rw [hk]
    clear h hf hb0 hb1 bb
    by_cases g : t < now - W
    · have e : knQ (some k) (now - W) = 0 ∧ knB (some k) (now - W) = false := by
        rw [← ht] at g
        exact ⟨if_neg (by omega), decide_eq_false (by omega)⟩
      rw [e.1, e.2]
      clear e hk hq ht
      go_enter Tryz.func35, Tryz.ntmps35
      go_wp2_with fail
      go_quiet (fail)
      go_wp2_with fail
      go_ret2
      exact ⟨rfl, unhide B1 _⟩
    · have e : knQ (some k) (now - W) = q ∧ knB (some k) (now - W) = true := by
        rw [← ht] at g
        exact ⟨(if_pos (by omega) : knQ (some k) (now - W) = k.q).trans hq, decide_eq_true (by omega)⟩
      have g2 : decide (t < now - W) = false := decide_eq_false g
      rw [e.1, e.2]
      clear e hk hq ht
      go_enter Tryz.func35, Tryz.ntmps35
      go_wp2_with fail
      go_quiet (fail)
      go_wp2_with fail
      go_ret2
      exact ⟨rfl, unhide B1 _⟩
end
end Go.Proofs.YtmccpkpeimejhagGreatDoor.Dk

namespace Go.Proofs.YtmccpkpeimejhagGreatDoor.Dk
open Go.RowKit

/-- the ids behind a message -/
def idsK (ids : List Kn) (i : ByteArray) (now q : Int) : List Kn := if i.size = 0 then ids else ids ++ [⟨i, now, q⟩]
section
variable {Has : World → Nat → Nat → (Nat → Prop) → Int → List Pap → Prop} {SH : World → Nat → Nat → (Nat → Prop) → Sto → Prop} {F0 Cs : Nat → Prop} {w wr w' : World} {B x : Nat} {a : Option Addr} {c : Nat} {mb : Option Nat} {P : Pn.Pln} {m size : Int} {st : Str} {ids' : List Kn}
/-- nothing of it is kept -/
theorem Rst.free (h : Rst Has SH F0 Cs w wr B x a c mb P m size st) (hm : mids P ids' = mids P st.ids) (hf : (ids'.length : Int) ≤ st.s.last) : Rst Has SH F0 Cs w wr B x a c mb P m size ⟨st.es, st.s, ids'⟩ := by
  obtain ⟨FV, h1, h2, h3, h4⟩ := h
  exact ⟨FV, ⟨h1.vault, h1.plan, h1.ids, h1.row, h1.rowB, h1.cap, by rw [hm]; exact h1.map, h1.mapB, by rw [hm]; exact h1.lasts, hf, h1.small⟩, h2, h3, h4⟩
/-- a map is made -/
theorem Rst.makes (U : Und Has SH) (h : Rst Has SH F0 Cs w wr B x a c .none P m size st) (hB : B ≤ w.heap.size) {W1 : World} (hW : W1 = wr.alloc (.map #[] 0)) : Rst Has SH F0 Cs w (W1.setCell ⟨x, 14, none⟩ (.map (some wr.heap.size))) B x a c (some wr.heap.size) P m size st ∧ Stay Cs wr (W1.setCell ⟨x, 14, none⟩ (.map (some wr.heap.size))) := by
  have hr := h.room
  have bb : Below wr.heap.size wr W1 := by rw [hW]; exact (Below.refl _ _).alloc (Nat.le_refl _) _
  have hsz : W1.heap.size = wr.heap.size + 1 := by rw [hW]; simp
  obtain ⟨FV, h1, h2, h3, h4⟩ := h
  have hx := h1.vault.blk
  have he : mids P st.ids = [] := by
    rcases h1.map with ⟨_, e⟩ | ⟨b, D, e, _⟩
    · exact e
    · cases e
  have hk : KMap W1 (some wr.heap.size) (mids P st.ids) := by rw [he, hW]; exact KMap.made wr
  have hw1 := h1.below U.H U.S bb
  have hno : ¬ FV wr.heap.size := fun z => by have := (h1.vault.own U.H U.S _ z).2; omega
  have cs : Chg (fun k => k = x) W1 (W1.setCell ⟨x, 14, none⟩ (.map (some wr.heap.size))) := (Chg.refl _ _).setCell (A := fun k => k = x) (p := ⟨x, 14, none⟩) (.inl rfl) _
  refine ⟨⟨FV, hw1.put U.H U.S hk (fun b hb => ?_) h1.lasts h1.few, chg_more (h2.trans (Chg.of_below bb)) cs (fun i hi z => ?_), fun k hk' => ?_, fun k hk' => ?_⟩, Nat.le_trans bb.size cs.size, fun k hk' => ?_⟩
  · cases hb
    exact ⟨Nat.le_trans hB hr, by omega, hno, fun z hz e => by have := (h1.rowB z hz).2.1; omega⟩
  · subst z
    rcases h3 _ (.inl hx.1) with y | y
    · exact y
    · omega
  · rcases hk' with z | z | z
    · exact h3 k (.inl z)
    · exact h3 k (.inr (.inl z))
    · cases z; exact .inr hr
  · have hc := h4 k hk'
    refine ⟨Nat.lt_of_lt_of_le hc.1 (Nat.le_trans bb.size cs.size), fun z => ?_⟩
    rcases z with z | z | z
    · exact hc.2 (.inl z)
    · exact hc.2 (.inr (.inl z))
    · cases z; exact absurd hc.1 (Nat.lt_irrefl _)
  · have hc := h4 k hk'
    rw [cs.block k (Nat.lt_of_lt_of_le hc.1 bb.size) (fun z => hc.2 (.inl (z ▸ hx.1)))]
    exact bb.block k hc.1
/-- an id is kept in the map -/
theorem Rst.keeps {b : Nat} (h : Rst Has SH F0 Cs w wr B x a c (some b) P m size st) (U : Und Has SH) (hl : (mids P st.ids).length < maxLen) (i : ByteArray) (hi : i.size ≤ maxLen) (q t : Int) (hm : mids P ids' = mids P st.ids ++ [⟨i, t, q⟩]) (hL : Lasts (mids P ids')) (hf : (ids'.length : Int) ≤ st.s.last) :
    ∃ w', (Instr.mapUpdate 78 (.map (some b)) (.string i) (.agg #[.int .i64 q, .int .i64 t])).run Tryz.prog wr = .ok () w' ∧ Rst Has SH F0 Cs w w' B x a c (some b) P m size ⟨st.es, st.s, ids'⟩ ∧ Stay Cs wr w' := by
  have hr := h.room
  obtain ⟨FV, h1, h2, h3, h4⟩ := h
  obtain ⟨w', hrun, hk, hc⟩ := h1.map.store hl i hi q t
  have hb := h1.mapB b rfl
  obtain ⟨hx, _, hxl, _⟩ := h1.vault.blk
  have hxb : ¬ x = b := fun z => hb.2.2.1 (z ▸ hx)
  have e : ∀ j, w'.cell? ⟨x, j, none⟩ = wr.cell? ⟨x, j, none⟩ := fun j => hc.cell (p := ⟨x, j, none⟩) hxl hxb
  refine ⟨w', hrun, ⟨FV, ⟨h1.vault.chg U.H U.S hc (fun k hk z => hb.2.2.1 (z ▸ hk)), pb_same h1.plan hc.size (fun j _ => e j), (e 14).trans h1.ids, sls_chg h1.row hc (fun z hz y => hb.2.2.2 z hz y), fun z hz => ⟨(h1.rowB z hz).1, Nat.lt_of_lt_of_le (h1.rowB z hz).2.1 hc.size, (h1.rowB z hz).2.2⟩, h1.cap, by rw [hm]; exact hk, fun b' hb' => ⟨(h1.mapB b' hb').1, Nat.lt_of_lt_of_le (h1.mapB b' hb').2.1 hc.size, (h1.mapB b' hb').2.2⟩, hL, hf, h1.small⟩, chg_more h2 hc (fun j hj z => ?_), h3, fun k hk' => ⟨Nat.lt_of_lt_of_le (h4 k hk').1 hc.size, (h4 k hk').2⟩⟩, hc.size, fun k hk' => hc.block k (h4 k hk').1 (fun z => (h4 k hk').2 (.inr (.inr (by rw [z]))))⟩
  subst z
  rcases h3 _ (.inr (.inr rfl)) with y | y
  · exact y
  · omega
end
end Go.Proofs.YtmccpkpeimejhagGreatDoor.Dk

namespace Go.Proofs.YtmccpkpeimejhagGreatDoor.Dk
open Go.RowKit

theorem eqlK_nil (w : World) : (binOp .eql 78 (.map none) (.map none)).run Tryz.prog w = .ok (.bool true) w := by kernel_rfl
theorem eqlK_some (b : Nat) (w : World) : (binOp .eql 78 (.map (some b)) (.map none)).run Tryz.prog w = .ok (.bool false) w := by kernel_rfl
section
variable {Has : World → Nat → Nat → (Nat → Prop) → Int → List Pap → Prop} {SH : World → Nat → Nat → (Nat → Prop) → Sto → Prop} {F0 Cs : Nat → Prop} {w wr w' : World} {B x : Nat} {a : Option Addr} {c : Nat} {mb : Option Nat} {P : Pn.Pln} {m size : Int} {st : Str} {ids' : List Kn}

set_option maxRecDepth 100000 in
set_option maxHeartbeats 2000000 in
theorem know_any (U : Und Has SH) (h : Rst Has SH F0 Cs w wr B x a c mb P m size st) (hf : Fit P m size st) (hB : B ≤ w.heap.size) (i : ByteArray) (hi : i.size ≤ 140737488355328) (q now : Int) (hno : i.size ≠ 0 → pv P 7 ≠ 0 → ¬ 0 < seenQ st.ids i (now - pv P 7)) (hfew : (st.ids.length : Int) + 1 ≤ st.s.last) :
    Calls Tryz.prog 70 #[.pointer (some ⟨x, 0, none⟩), .string i, .agg #[.int .i64 q, .int .i64 now]] wr fun e w' => e = .returned (.tuple #[]) ∧ (∃ mb', Rst Has SH F0 Cs w w' B x a c mb' P m size ⟨st.es, st.s, idsK st.ids i now q⟩) ∧ Stay Cs wr w' := by
  have b0 : Below wr.heap.size wr (wr.alloc (.cells #[.int .i64 q, .int .i64 now] 124)) := (Below.refl _ _).alloc (Nat.le_refl _) _
  have hx := h.lt
  have c9 := h.plan.c9
  by_cases h0 : i.size = 0
  · have e : idsK st.ids i now q = st.ids := by unfold idsK; rw [if_pos h0]
    have hi0 : i = ⟨#[]⟩ := by
      apply ByteArray.ext
      exact Array.eq_empty_of_size_eq_zero h0
    have HE := hide (And.intro (show ∃ mb', Rst Has SH F0 Cs w (wr.alloc (.cells #[.int .i64 q, .int .i64 now] 124)) B x a c mb' P m size ⟨st.es, st.s, idsK st.ids i now q⟩ from ⟨mb, by rw [e]; exact h.below U.H U.S b0⟩) (h.stay b0))
    rw [hi0] at HE ⊢
    clear h hf hno hfew b0 e hi0 h0
    go_enter Tryz.func70, Tryz.ntmps70
    go_wp2_with fail
    (try simp only [Exit.inBlock, Exit.then])
    refine bodyPost_ret (results_none rfl _ _ _) rfl ?_
    exact ⟨rfl, unhide HE⟩
  · have e : idsK st.ids i now q = st.ids ++ [⟨i, now, q⟩] := by unfold idsK; rw [if_neg h0]
    have hlen : ((idsK st.ids i now q).length : Int) ≤ st.s.last := by rw [e, List.length_append]; simpa using hfew
    have hne : ¬ i.toList = [] := by rw [tl_nil]; exact h0
    have hne1 : (!i.toList.isEmpty) = true := by rw [tl_emp, decide_eq_false h0]; rfl
    have hne2 : i.toList.isEmpty = false := by rw [tl_emp, decide_eq_false h0]
    by_cases hW : pv P 7 = 0
    · have HE := hide (And.intro (show ∃ mb', Rst Has SH F0 Cs w (wr.alloc (.cells #[.int .i64 q, .int .i64 now] 124)) B x a c mb' P m size ⟨st.es, st.s, idsK st.ids i now q⟩ from ⟨mb, (h.below U.H U.S b0).free (by unfold mids; rw [if_pos hW, if_pos hW]) hlen⟩) (h.stay b0))
      have hW2 : nth P.v 7 = 0 := hW
      rw [hW2] at c9
      clear h hf hno hfew b0 e h0 hlen hW hW2
      go_enter Tryz.func70, Tryz.ntmps70
      go_wp2_with fail
      (try simp only [Exit.inBlock, Exit.then])
      refine bodyPost_ret (results_none rfl _ _ _) rfl ?_
      exact ⟨rfl, unhide HE⟩
    · have hm : mids P (idsK st.ids i now q) = mids P st.ids ++ [⟨i, now, q⟩] := by rw [e]; unfold mids; rw [if_neg hW, if_neg hW]
      have hms : mids P st.ids = st.ids := by unfold mids; rw [if_neg hW]
      have hL : Lasts (mids P (idsK st.ids i now q)) := by
        have h1 := h.map.2
        rw [hm, hms]
        rw [hms] at h1
        exact h1.more hf.seqs h0 ((ppos_of hf.plan).pos 7) (hno h0 hW)
      have hlen2 : (mids P st.ids).length < maxLen := by
        have := hf.vok.ok.last.2
        rw [hms]
        unfold maxLen
        omega
      have hW2 : (nth P.v 7 == 0) = false := by rw [beq_eq_false_iff_ne]; exact hW
      have hW3 : decide (nth P.v 7 = 0) = false := decide_eq_false hW
      have hi2 : i.size ≤ maxLen := by unfold maxLen; omega
      have PC : Hid (∀ X, Calls Tryz.prog 58 #[.string i] X fun e w' => e = .returned (.string i) ∧ Below X.heap.size X w') := hide (fun X => clone_any i X (by omega))
      cases mb with
      | some b =>
        have c14 := h.ids.1
        have hS := hide (fun (W : World) (hb : Below wr.heap.size wr W) => show W.cell? ⟨x, 14, none⟩ = some (.map (some b)) ∧ ∃ w', (Instr.mapUpdate 78 (.map (some b)) (.string i) (.agg #[.int .i64 q, .int .i64 now])).run Tryz.prog W = .ok () w' ∧ (∃ mb', Rst Has SH F0 Cs w w' B x a c mb' P m size ⟨st.es, st.s, idsK st.ids i now q⟩) ∧ Stay Cs wr w' from by
          have r1 := h.below U.H U.S hb
          obtain ⟨w', k1, k2, k3⟩ := r1.keeps U hlen2 i hi2 q now hm hL hlen
          exact ⟨r1.ids.1, w', k1, ⟨_, k2⟩, (h.stay hb).trans k3⟩)
        have B0 := hide b0
        have hq := fun W => eqlK_some b W
        have d0 : ∀ W, Below (wr.alloc (.cells #[.int .i64 q, .int .i64 now] 124)).heap.size (wr.alloc (.cells #[.int .i64 q, .int .i64 now] 124)) W → W.cell? ⟨wr.heap.size, 0, none⟩ = some (.int .i64 q) ∧ W.cell? ⟨wr.heap.size, 1, none⟩ = some (.int .i64 now) := fun W hW => ⟨(hW.cell (p := ⟨wr.heap.size, 0, none⟩) (by simp)).trans (by simp), (hW.cell (p := ⟨wr.heap.size, 1, none⟩) (by simp)).trans (by simp)⟩
        have D0 := hide d0
        clear h hf hno hfew b0 e h0 hlen hW hm hms hL hlen2 d0
        go_enter Tryz.func70, Tryz.ntmps70
        go_wp2_with fail
        go_region_with (go_at_call 58; refine (unhide PC _).mono ?_; rintro e w1 ⟨rfl, b1⟩; obtain ⟨g0, g1⟩ := unhide D0 w1 ((Below.refl _ _).drew.trans b1); obtain ⟨g2, w2, hrun, hfin, hst⟩ := unhide hS w1 (bstep (unhide B0).drew b1))
        all_goals (
          go_wp2_with fail
          go_end0
          exact ⟨rfl, hfin, hst⟩)
      | none =>
        have c14 := h.ids.1
        have f14 := h.ids.2
        have r0 := h.below U.H U.S b0
        obtain ⟨r1, s1⟩ := r0.makes U hB rfl
        have hsz : (wr.alloc (.cells #[.int .i64 q, .int .i64 now] 124)).heap.size = wr.heap.size + 1 := by simp
        have hWe : (((wr.alloc (.cells #[.int .i64 q, .int .i64 now] 124)).alloc (.map #[] 0)).setCell ⟨x, 14, none⟩ (.map (some (wr.alloc (.cells #[.int .i64 q, .int .i64 now] 124)).heap.size))) = (((wr.setCell ⟨x, 14, none⟩ (.map (some (wr.heap.size + 1)))).alloc (.cells #[.int .i64 q, .int .i64 now] 124)).alloc (.map #[] 0)) := by
          rw [hsz, World.setCell_alloc_past _ _ _ _ (by rw [hsz]; omega), World.setCell_alloc_past _ _ _ _ hx]
        rw [hWe, hsz] at r1
        rw [hWe] at s1
        obtain ⟨W1, hW1⟩ : ∃ W1, W1 = (((wr.setCell ⟨x, 14, none⟩ (.map (some (wr.heap.size + 1)))).alloc (.cells #[.int .i64 q, .int .i64 now] 124)).alloc (.map #[] 0)) := ⟨_, rfl⟩
        have q0 : W1.cell? ⟨wr.heap.size, 0, none⟩ = some (.int .i64 q) ∧ W1.cell? ⟨wr.heap.size, 1, none⟩ = some (.int .i64 now) ∧ wr.heap.size < W1.heap.size := by
          rw [hW1]
          refine ⟨?_, ?_, ?_⟩
          · rw [World.cell?_alloc_past _ _ _ (by simp [World.setCell]), World.cell?_alloc_at _ _ _ _ (by simp [World.setCell])]; rfl
          · rw [World.cell?_alloc_past _ _ _ (by simp [World.setCell]), World.cell?_alloc_at _ _ _ _ (by simp [World.setCell])]; rfl
          · simp [World.setCell]; omega
        rw [← hW1] at r1 s1
        have hS := hide (fun (W : World) (hb : Below W1.heap.size W1 W) => show W.cell? ⟨x, 14, none⟩ = some (.map (some (wr.heap.size + 1))) ∧ ∃ w', (Instr.mapUpdate 78 (.map (some (wr.heap.size + 1))) (.string i) (.agg #[.int .i64 q, .int .i64 now])).run Tryz.prog W = .ok () w' ∧ (∃ mb', Rst Has SH F0 Cs w w' B x a c mb' P m size ⟨st.es, st.s, idsK st.ids i now q⟩) ∧ Stay Cs wr w' from by
          have r2 := r1.below U.H U.S hb
          obtain ⟨w', k1, k2, k3⟩ := r2.keeps U hlen2 i hi2 q now hm hL hlen
          exact ⟨r2.ids.1, w', k1, ⟨_, k2⟩, ((h.stay b0).trans s1).trans ((r1.stay hb).trans k3)⟩)
        have hq := fun W => eqlK_nil W
        have hmm := @run_makeMap Tryz.prog
        have D0 := hide (fun (W : World) (hW : Below W1.heap.size W1 W) => show W.cell? ⟨wr.heap.size, 0, none⟩ = some (.int .i64 q) ∧ W.cell? ⟨wr.heap.size, 1, none⟩ = some (.int .i64 now) from ⟨(hW.cell (p := ⟨wr.heap.size, 0, none⟩) q0.2.2).trans q0.1, (hW.cell (p := ⟨wr.heap.size, 1, none⟩) q0.2.2).trans q0.2.1⟩)
        have c15 := r1.ids.1
        have hx1 := r1.lt
        obtain ⟨q1, q2, q3⟩ := q0
        clear h hf hno hfew b0 e h0 hlen hW hm hms hL hlen2 r0 r1 s1 hsz hWe
        go_enter Tryz.func70, Tryz.ntmps70
        go_wp2_with fail
        rw [← hW1]
        clear hW1
        go_region_with (go_at_call 58; refine (unhide PC _).mono ?_; rintro e w1 ⟨rfl, b1⟩; obtain ⟨g0, g1⟩ := unhide D0 w1 ((Below.refl _ _).drew.trans b1); obtain ⟨g2, w2, hrun, hfin, hst⟩ := unhide hS w1 ((Below.refl _ _).drew.trans b1))
        all_goals (
          go_wp2_with fail
          go_end0
          exact ⟨rfl, hfin, hst⟩)
end
end Go.Proofs.YtmccpkpeimejhagGreatDoor.Dk
