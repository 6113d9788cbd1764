/-
  The program's stream: eraseFirst.
  The program's stream: count, subjectIsFull, isFull.
  The program's stream: subjectIsFull.
  The program's stream: makeRoom.
-/
import Derived.Test.YtmccpkpeimejhahGreatDoorJointOsAOsCOsKOsK2
import Derived.Test.YtmccpkpeimejhahGreatDoorJointWalkXTWalkXLWorksSWorksT
import Derived.Test.YtmccpkpeimejhahGreatDoorJointPapWRowEWalkI1WalkI2
import Derived.Deep.RegionHeldLaw
import Derived.Deep.LoopGhost
namespace Go.Proofs.YtmccpkpeimejhahGreatDoor.Dk
open Go.RowKit

/-- the next message's number, out of what is answered -/
theorem seek_num {f : ByteArray} (hf : errS true f = 0) (o : Option Rc) : ∃ (y : Rc) (E : Int), seekV f o = .tuple #[.agg #[.int .i64 y.k, .int .i64 y.q, .int .i64 y.t, .string y.s, .string y.h, .string y.d], .int .i64 E] ∧ y.q = (o.map (·.q)).getD 0 := by
  unfold seekV
  rw [if_pos hf]
  cases o with
  | none => exact ⟨zeroR, _, rfl, rfl⟩
  | some r => exact ⟨r, _, rfl, rfl⟩
section
variable {Has : World → Nat → Nat → (Nat → Prop) → Int → List Pap → Prop} {SH : World → Nat → Nat → (Nat → Prop) → Sto → Prop} {F0 Cs : Nat → Prop} {w wr : World} {B x : Nat} {a : Option Addr} {c : Nat} {mb : Option Nat} {P : Pn.Pln} {m size : Int} {st : Str}

set_option maxRecDepth 100000 in
set_option maxHeartbeats 2000000 in
theorem erasefirst_any (U : Und Has SH) (V : SWorks SH) (h : Rst Has SH F0 Cs w wr B x a c mb P m size st) (hf : Fit P m size st) (hB : B ≤ w.heap.size) (now : Int) (f : ByteArray) (hs : f.size ≤ 140737488355328) (hok : errS true f = 0) :
    Calls Tryz.prog 40 #[.pointer (some ⟨x, 0, none⟩), .int .i64 now, .string f] wr fun e w' => e = .returned (.int .i64 (doE st.es st.s m size (eraR (nxQ f st.s.l) now))) ∧ Rst Has SH F0 Cs w w' B x a c mb P m size (doT m size st (eraR (nxQ f st.s.l) now)) ∧ Stay Cs wr w' := by
  have hk := hf.vok.ok
  have hBr := Nat.le_trans hB h.room
  have P1 := hide (tstore_any h)
  obtain ⟨y, E, hy, hq⟩ := seek_num hok (nextO f st.s.l 0)
  have P2 := hide (fun (W : World) (q : Nat) (G : Nat → Prop) (hS : SH W B q G st.s) (hW : B ≤ W.heap.size) => V.next f 0 hs hS hk hW)
  have hq2 : nxQ f st.s.l = y.q := hq.symm
  rw [hy] at P2
  rw [hq2]
  have HE := hide (fun (W : World) (hW : Below wr.heap.size wr W) => show Calls Tryz.prog 59 #[.pointer (some ⟨x, 0, none⟩), .int .i64 now, .int .i64 y.q] W fun e w' => e = .returned (.int .i64 (doE st.es st.s m size (eraR y.q now))) ∧ Rst Has SH F0 Cs w w' B x a c mb P m size (doT m size st (eraR y.q now)) ∧ Stay Cs wr w' from (terase_any U (h.below U.H U.S hW) hf hB now y.q).mono (fun _ _ z => ⟨z.1, z.2.1, (h.stay hW).trans z.2.2⟩))
  generalize doE st.es st.s m size (eraR y.q now) = D at *
  generalize doT m size st (eraR y.q now) = st' at *
  clear h hf hk hy hq hq2
  go_enter Tryz.func40, Tryz.ntmps40
  go_wp2_with fail
  refine (unhide P1).mono ?_
  rintro e w1 ⟨q, G, rfl, h1, b1⟩
  have P3 := hide (unhide P2 w1 q G h1 (Nat.le_trans hBr b1.size))
  have B1 := hide b1
  clear P1 P2 h1 b1
  go_wp2_with fail
  refine (unhide P3).mono ?_
  rintro e w2 ⟨rfl, b2⟩
  have bA : Below w2.heap.size w2 (w2.alloc (.cells #[.int .i64 y.k, .int .i64 y.q, .int .i64 y.t, .string y.s, .string y.h, .string y.d] 42)) := (Below.refl _ _).alloc (Nat.le_refl _) _
  have PE := hide (unhide HE _ (bstep (bstep (unhide B1) b2) bA))
  clear P3 b2 B1 bA HE
  go_wp2_with fail
  refine (unhide PE).mono ?_
  rintro e w3 ⟨rfl, h3⟩
  have B3 := hide h3
  clear PE h3
  go_wp2_with fail
  go_ret
  exact ⟨rfl, unhide B3⟩

end
end Go.Proofs.YtmccpkpeimejhahGreatDoor.Dk

namespace Go.Proofs.YtmccpkpeimejhahGreatDoor.Dk
open Go.RowKit

section
variable {Has : World → Nat → Nat → (Nat → Prop) → Int → List Pap → Prop} {SH : World → Nat → Nat → (Nat → Prop) → Sto → Prop} {F0 Cs : Nat → Prop} {w wr : World} {B x : Nat} {a : Option Addr} {c : Nat} {mb : Option Nat} {P : Pn.Pln} {m size : Int} {st : Str}

set_option maxRecDepth 100000 in
set_option maxHeartbeats 2000000 in
theorem count_any (T : STells SH) (h : Rst Has SH F0 Cs w wr B x a c mb P m size st) (hf : Fit P m size st) (hB : B ≤ w.heap.size) (s : ByteArray) (hs : s.size ≤ 140737488355328) (hok : errS false s = 0) :
    Calls Tryz.prog 57 #[.pointer (some ⟨x, 0, none⟩), .string s] wr fun e w' => e = .returned (.int .i64 (sameN st.s.l s : Int)) ∧ Below wr.heap.size wr w' := by
  have hk := hf.vok.ok
  obtain ⟨es, hes⟩ := hk.cnt
  have P1 := hide (tstore_any h)
  have hfo := found_one hes hok (fun r hr => right_msg (hk.msg r hr).2 (hk.msg r hr).1)
  have hBr := Nat.le_trans hB h.room
  have P2 := hide (fun (W : World) (q : Nat) (G : Nat → Prop) (hS : SH W B q G st.s) (hW : B ≤ W.heap.size) => T.subjects s hs hS hk hW hes)
  obtain ⟨N, hN⟩ : ∃ N, sameN st.s.l s = N := ⟨_, rfl⟩
  rw [hN] at hfo ⊢
  clear h hf hk hes hN
  go_enter Tryz.func57, Tryz.ntmps57
  go_wp2_with fail
  refine (unhide P1).mono ?_
  rintro e w1 ⟨q, G, rfl, h1, b1⟩
  have P3 := hide (unhide P2 w1 q G h1 (Nat.le_trans hBr b1.size))
  have B1 := hide b1
  clear P1 P2 h1 b1
  go_wp2_with fail
  refine (unhide P3).mono ?_
  rintro e w2 ⟨v, rfl, a2, b2⟩
  have B2 := hide (bstep (unhide B1) b2)
  clear P3 b2
  rw [hfo] at a2
  by_cases h0 : N = 0
  · rw [if_pos h0] at a2
    obtain ⟨a', cap, rfl, _⟩ := a2.shape
    subst h0
    clear a2
    go_wp2_with fail
    go_ret
    exact ⟨rfl, unhide B2⟩
  · rw [if_neg h0] at a2
    obtain ⟨g, cap, rfl, hc1, hc2, _, hg⟩ := a2.there (by simp)
    have e1 : w2.cell? ⟨g, 1, none⟩ = some (.int .i64 (N : Int)) := a2.num (k := 0) (by simp)
    have hc3 : 1 ≤ cap := by simpa using hc1
    clear a2 hc1
    rw [List.length_singleton]
    go_wp2_with fail
    go_ret
    exact ⟨rfl, unhide B2⟩
end
end Go.Proofs.YtmccpkpeimejhahGreatDoor.Dk

namespace Go.Proofs.YtmccpkpeimejhahGreatDoor.Dk
open Go.RowKit

section
variable {Has : World → Nat → Nat → (Nat → Prop) → Int → List Pap → Prop} {SH : World → Nat → Nat → (Nat → Prop) → Sto → Prop} {F0 Cs : Nat → Prop} {w wr : World} {B x : Nat} {a : Option Addr} {c : Nat} {mb : Option Nat} {P : Pn.Pln} {m size : Int} {st : Str}
/-- a plan's number, and a post, that are read -/
abbrev AtN (x j : Nat) (N : Int) (b : Nat) (s : ByteArray) (w : World) : Prop := w.cell? ⟨x, j, none⟩ = some (.int .i64 N) ∧ w.cell? ⟨b, 0, none⟩ = some (.string s)

set_option maxRecDepth 100000 in
set_option maxHeartbeats 2000000 in
theorem subfull_any (U : Und Has SH) (T : STells SH) (h : Rst Has SH F0 Cs w wr B x a c mb P m size st) (hf : Fit P m size st) (hB : B ≤ w.heap.size) (y : Po) (hy : SmallO y) (hok : errS false y.s = 0) :
    Calls Tryz.prog 38 #[.pointer (some ⟨x, 0, none⟩), poV y] wr fun e w' => e = .returned (.bool (crowdB P st.s.l y)) ∧ Below wr.heap.size wr w' := by
  have b0 : Below wr.heap.size wr (wr.alloc (poO y)) := (Below.refl _ _).alloc (Nat.le_refl _) _
  have bd : Below wr.heap.size wr (wr.alloc (poO y)).drew := b0.drew
  have r1 := h.below U.H U.S bd
  have p1 := (PoB.new wr y).below (Below.refl _ _).drew
  have k0 : AtN x 5 (nth P.v 3) wr.heap.size y.s (wr.alloc (poO y)).drew := ⟨r1.plan.c5, p1.c0⟩
  have PC := hide (count_any T r1 hf hB y.s hy.s hok)
  have HK := hide (fun (W : World) (hW : Below (wr.alloc (poO y)).drew.heap.size (wr.alloc (poO y)).drew W) => show AtN x 5 (nth P.v 3) wr.heap.size y.s W ∧ Below wr.heap.size wr W from ⟨⟨(r1.below U.H U.S hW).plan.c5, (p1.below hW).c0⟩, bstep bd hW⟩)
  have B0 := hide (fun n => below_drewN b0 n)
  have hx := h.lt
  have c5 := h.plan.c5
  unfold crowdB pv
  generalize nth P.v 3 = M at *
  generalize sameN st.s.l y.s = N at *
  clear h hf hok r1 p1 b0 bd hy
  by_cases hM : M = 0
  · subst hM
    go_enter Tryz.func38, Tryz.ntmps38
    go_wp2_with fail
    go_quiet (fail)
    go_wp2_with fail
    go_ret
    exact ⟨rfl, unhide B0 _⟩
  · have e1 : (M != 0) = true := by simpa using hM
    rw [decide_eq_true (p := M ≠ 0) hM, Bool.true_and]
    go_enter Tryz.func38, Tryz.ntmps38
    go_wp2_with fail
    first | (go_region_held_law (AtN x 5 M wr.heap.size y.s) (first | assumption | go_keep)
      (first
        | (go_at_call 57; refine (unhide PC).mono ?_; rintro e w3 ⟨rfl, b3⟩; obtain ⟨k3, B3⟩ := unhide HK w3 b3))) | fail
    all_goals (
      go_wp2_with fail
      go_ret
      exact ⟨rfl, B3⟩)
end
end Go.Proofs.YtmccpkpeimejhahGreatDoor.Dk

namespace Go.Proofs.YtmccpkpeimejhahGreatDoor.Dk
open Go.RowKit

/-- room in the making: what it will come to is R -/
def Mk (Has : World → Nat → Nat → (Nat → Prop) → Int → List Pap → Prop) (SH : World → Nat → Nat → (Nat → Prop) → Sto → Prop) (F0 Cs : Nat → Prop) (w wr W : World) (B x : Nat) (a : Option Addr) (c : Nat) (mb : Option Nat) (P : Pn.Pln) (m size now : Int) (y : Po) (b : Nat) (ids : List Kn) (R : Int × List Pap × Sto) (es : List Pap) (s : Sto) : Prop :=
  Rst Has SH F0 (fun k => Cs k ∨ k = b) w W B x a c mb P m size ⟨es, s, ids⟩ ∧ Fit P m size ⟨es, s, ids⟩ ∧ PoB W b y ∧ Stay Cs wr W ∧ roomR P m size now y es s = R ∧ (pv P 5 = 1 → (crowdB P s.l y || fullB P s.l y) = false)
section
variable {Has : World → Nat → Nat → (Nat → Prop) → Int → List Pap → Prop} {SH : World → Nat → Nat → (Nat → Prop) → Sto → Prop} {F0 Cs Cs' : Nat → Prop} {w wr wo W W' : World} {B x : Nat} {a : Option Addr} {c : Nat} {mb : Option Nat} {P : Pn.Pln} {m size now : Int} {y : Po} {b : Nat} {ids : List Kn} {R : Int × List Pap × Sto} {es : List Pap} {s : Sto} {st : Str}
theorem Rst.fewer (U : Und Has SH) (h : Rst Has SH F0 Cs w wr B x a c mb P m size st) (hC : ∀ k, Cs' k → Cs k) : Rst Has SH F0 Cs' w wr B x a c mb P m size st := h.mine U.H U.S (Below.refl _ _) (fun k hk => .inl (hC k hk))
theorem Mk.below (U : Und Has SH) (h : Mk Has SH F0 Cs w wr W B x a c mb P m size now y b ids R es s) (hb : Below W.heap.size W W') : Mk Has SH F0 Cs w wr W' B x a c mb P m size now y b ids R es s :=
  ⟨h.1.below U.H U.S hb, h.2.1, h.2.2.1.below hb, h.2.2.2.1.trans ((h.1.fewer U (fun _ hk => .inl hk)).stay hb), h.2.2.2.2⟩
/-- a message is erased -/
theorem Mk.erase (U : Und Has SH) (V : SWorks SH) (h : Mk Has SH F0 Cs w wr W B x a c mb P m size now y b ids R es s) (hB : B ≤ w.heap.size) (hz : ¬ (pv P 1 ≠ 0 ∧ pv P 1 < (szP y : Int))) (hc : ¬ (crowdB P s.l y || fullB P s.l y) = false) (f : ByteArray) (hs : f.size ≤ 140737488355328) (hok : errS true f = 0) (hq : nxQ f s.l = goQ P s.l y) :
    ∃ D : Int, (D ≠ 0 → R = (D, es, s)) ∧ Calls Tryz.prog 40 #[.pointer (some ⟨x, 0, none⟩), .int .i64 now, .string f] W fun e w' => e = .returned (.int .i64 D) ∧ (D ≠ 0 → Mk Has SH F0 Cs w wr w' B x a c mb P m size now y b ids R es s) ∧ (D = 0 → ∃ es' s', Mk Has SH F0 Cs w wr w' B x a c mb P m size now y b ids R es' s' ∧ s'.l.length < s.l.length ∧ s'.l.Sublist s.l) := by
  have hp := ppos_of h.2.1.plan
  have hd : pv P 5 ≠ 1 := fun z => hc (h.2.2.2.2.2 z)
  have he := erasefirst_any U V h.1 h.2.1 hB now f hs hok
  rw [show (⟨es, s, ids⟩ : Str).s = s from rfl, show (⟨es, s, ids⟩ : Str).es = es from rfl, hq] at he
  have hfit := h.2.1.did (eraR (goQ P s.l y) now)
  refine ⟨doE es s m size (eraR (goQ P s.l y) now), fun hD => by rw [← h.2.2.2.2.1]; exact room_bad hc hd hD, he.mono ?_⟩
  rintro e w' ⟨rfl, r1, s1⟩
  have hst : Stay Cs W w' := s1.fewer (fun k hk => .inl hk)
  have hpo : PoB w' b y := h.2.2.1.stay s1 (.inr rfl)
  refine ⟨rfl, fun hD => ?_, fun hD => ?_⟩
  · have e1 : doL es s m size (eraR (goQ P s.l y) now) = es := by unfold doL; rw [if_neg hD]
    have e2 : doS es s m size (eraR (goQ P s.l y) now) = s := by unfold doS; rw [if_neg hD]
    unfold doT at r1
    simp only [e1, e2] at r1
    exact ⟨r1, h.2.1, hpo, h.2.2.2.1.trans hst, h.2.2.2.2⟩
  · exact ⟨_, _, ⟨r1, hfit, hpo, h.2.2.2.1.trans hst, (room_on hp hz hc hd hD).symm.trans h.2.2.2.2.1, fun z => absurd z hd⟩, era_less hD (go_in hp hz hc), era_sub hD⟩

set_option maxRecDepth 100000 in
set_option maxHeartbeats 4000000 in
/-- room is made; where new messages are thrown away there is room -/
theorem makeroom_any (U : Und Has SH) (T : STells SH) (V : SWorks SH) (h : Rst Has SH F0 Cs w wo B x a c mb P m size st) (hf : Fit P m size st) (hB : B ≤ w.heap.size) (y : Po) (hy : SmallO y) (hok : errS false y.s = 0) (hz : ¬ (pv P 1 ≠ 0 ∧ pv P 1 < (szP y : Int))) (hd : pv P 5 = 1 → (crowdB P st.s.l y || fullB P st.s.l y) = false)
    (IF : ∀ (Cs' : Nat → Prop) (W : World) (s' : Str), Rst Has SH F0 Cs' w W B x a c mb P m size s' → Fit P m size s' → Calls Tryz.prog 39 #[.pointer (some ⟨x, 0, none⟩), poV y] W fun e w' => e = .returned (.bool (fullB P s'.s.l y)) ∧ Below W.heap.size W w') :
    Calls Tryz.prog 22 #[.pointer (some ⟨x, 0, none⟩), .int .i64 now, poV y] wo fun e w' => e = .returned (.int .i64 (roomR P m size now y st.es st.s).1) ∧ Rst Has SH F0 Cs w w' B x a c mb P m size ⟨(roomR P m size now y st.es st.s).2.1, (roomR P m size now y st.es st.s).2.2, st.ids⟩ ∧ Stay Cs wo w' := by
  have b0 : Below wo.heap.size wo (wo.alloc (poO y)) := (Below.refl _ _).alloc (Nat.le_refl _) _
  obtain ⟨R, hR⟩ : ∃ R, roomR P m size now y st.es st.s = R := ⟨_, rfl⟩
  have hM0 : Hid (Mk Has SH F0 Cs w wo (wo.alloc (poO y)) B x a c mb P m size now y wo.heap.size st.ids R st.es st.s) := hide ⟨h.mine U.H U.S b0 (fun k hk => by
    rcases hk with z | z
    · exact .inl z
    · exact .inr ⟨by omega, by subst z; simp⟩), hf, PoB.new wo y, h.stay b0, hR, hd⟩
  rw [hR]
  have PSub : Hid (∀ (W : World) (es : List Pap) (s : Sto), Mk Has SH F0 Cs w wo W B x a c mb P m size now y wo.heap.size st.ids R es s → Calls Tryz.prog 38 #[.pointer (some ⟨x, 0, none⟩), poV y] W fun e w' => e = .returned (.bool (crowdB P s.l y)) ∧ Below W.heap.size W w') := hide (fun W es s hm => subfull_any U T hm.1 hm.2.1 hB y hy hok)
  have PFul : Hid (∀ (W : World) (es : List Pap) (s : Sto), Mk Has SH F0 Cs w wo W B x a c mb P m size now y wo.heap.size st.ids R es s → Calls Tryz.prog 39 #[.pointer (some ⟨x, 0, none⟩), poV y] W fun e w' => e = .returned (.bool (fullB P s.l y)) ∧ Below W.heap.size W w') := hide (fun W es s hm => IF _ W _ hm.1 hm.2.1)
  have PEr1 := hide (fun (W : World) (es : List Pap) (s : Sto) (hm : Mk Has SH F0 Cs w wo W B x a c mb P m size now y wo.heap.size st.ids R es s) (hc : crowdB P s.l y = true) => hm.erase U V hB hz (by rw [hc]; simp) y.s hy.s (subject_filter hok) (by
    unfold goQ
    rw [if_pos hc]
    exact nx_subject hm.2.1.vok.ok hok))
  have PEr2 := hide (fun (W : World) (es : List Pap) (s : Sto) (hm : Mk Has SH F0 Cs w wo W B x a c mb P m size now y wo.heap.size st.ids R es s) (hc : crowdB P s.l y = false) (hfu : fullB P s.l y = true) => hm.erase U V hB hz (by rw [hfu]; simp) ⟨#[62]⟩ (by decide) gt_right (by
    unfold goQ
    rw [if_neg (by rw [hc]; simp)]
    exact nx_all hm.2.1.vok.ok))
  have HMb := hide (fun (W W' : World) (es : List Pap) (s : Sto) (hm : Mk Has SH F0 Cs w wo W B x a c mb P m size now y wo.heap.size st.ids R es s) (hb : Below W.heap.size W W') => hm.below U hb)
  have HEnd : Hid (∀ (W : World) (es : List Pap) (s : Sto), Mk Has SH F0 Cs w wo W B x a c mb P m size now y wo.heap.size st.ids R es s → R.2.1 = es → R.2.2 = s → Rst Has SH F0 Cs w W B x a c mb P m size ⟨R.2.1, R.2.2, st.ids⟩ ∧ Stay Cs wo W) := hide (fun W es s hm h1 h2 => by
    rw [h1, h2]
    exact ⟨hm.1.fewer U (fun k hk => .inl hk), hm.2.2.2.1⟩)
  obtain ⟨n0, hn0⟩ : ∃ n0, n0 = st.s.l.length := ⟨_, rfl⟩
  have HN0 := hide hn0
  obtain ⟨W0, hW0⟩ : ∃ W0, W0 = wo.alloc (poO y) := ⟨_, rfl⟩
  rw [← hW0] at hM0
  clear h hf hB hy hok hz hd IF b0 hR hn0
  go_enter Tryz.func22, Tryz.ntmps22
  go_wp2_with fail
  rw [← hW0]
  clear hW0
  go_loopg [] n0 (fun k W => ∃ (es : List Pap) (s : Sto), Hid (Mk Has SH F0 Cs w wo W B x a c mb P m size now y wo.heap.size st.ids R es s) ∧ Hid (k = s.l.length))
  case atStart => exact ⟨_, _, hM0, HN0⟩
  case round =>
    clear hM0 HN0
    obtain ⟨es, s, HM, HN⟩ := hrel
    obtain ⟨hlt, y0, y1, y2, y3, y4, y5⟩ := (unhide HM).2.2.1
    have PS := hide (unhide PSub _ _ _ (unhide HM))
    obtain ⟨C, hC⟩ : ∃ C, crowdB P s.l y = C := ⟨_, rfl⟩
    rw [hC] at PS
    have HC := hide hC
    clear hC
    go_wp2_with fail
    refine (unhide PS).mono ?_
    rintro e w1 ⟨rfl, b1⟩
    have HM1 := hide (unhide HMb _ _ _ _ (unhide HM) b1)
    clear PS b1 HM y0 y1 y2 y3 y4 y5 hlt
    cases C with
    | true =>
      obtain ⟨D, hD1, hD2⟩ := unhide PEr1 _ _ _ (unhide HM1) (unhide HC)
      have PE := hide hD2
      have HD := hide hD1
      have y0 := (unhide HM1).2.2.1.c0
      clear hD1 hD2
      go_wp2_with fail
      refine (unhide PE).mono ?_
      rintro e w2 ⟨rfl, k1, k2⟩
      have K1 := hide k1
      have K2 := hide k2
      clear PE k1 k2 HM1 y0
      by_cases h0 : D = 0
      · obtain ⟨es', s', hm', hl', _⟩ := unhide K2 h0
        have HM2 := hide hm'
        have HL := hide hl'
        subst h0
        clear hm' hl' K1 K2 HD
        go_wp2_with fail
        go_roundg s'.l.length
        case measure => have := unhide HL; have := unhide HN; omega
        case rel => exact ⟨_, _, HM2, hide rfl⟩
      · have e5 : (D != 0) = true := by simpa using h0
        have hr := unhide HD h0
        have HE := hide (unhide HEnd _ _ _ (unhide K1 h0) (by rw [hr]) (by rw [hr]))
        have HR := hide (show R.1 = D from by rw [hr])
        clear K1 K2 HD hr
        go_wp2_with fail
        go_ret
        rw [unhide HR]
        exact ⟨rfl, unhide HE⟩
    | false =>
      obtain ⟨n1, hn1⟩ : ∃ n1, n1 = s.l.length := ⟨_, rfl⟩
      have HN1 := hide hn1
      clear hn1 HN
      go_wp2_with fail
      go_loopg [] n1 (fun k W => ∃ (es : List Pap) (s : Sto), Hid (Mk Has SH F0 Cs w wo W B x a c mb P m size now y wo.heap.size st.ids R es s) ∧ Hid (k = s.l.length) ∧ Hid (crowdB P s.l y = false))
      case atStart => exact ⟨_, _, HM1, HN1, HC⟩
      case round =>
        clear HM1 HN1 HC
        obtain ⟨es, s, HM, HN, HC⟩ := hrel
        obtain ⟨hlt, y0, y1, y2, y3, y4, y5⟩ := (unhide HM).2.2.1
        have PS := hide (unhide PFul _ _ _ (unhide HM))
        obtain ⟨C, hC⟩ : ∃ C, fullB P s.l y = C := ⟨_, rfl⟩
        rw [hC] at PS
        have HF := hide hC
        clear hC
        go_wp2_with fail
        refine (unhide PS).mono ?_
        rintro e w1 ⟨rfl, b1⟩
        have HM1 := hide (unhide HMb _ _ _ _ (unhide HM) b1)
        clear PS b1 HM y0 y1 y2 y3 y4 y5 hlt
        cases C with
        | true =>
          obtain ⟨D, hD1, hD2⟩ := unhide PEr2 _ _ _ (unhide HM1) (unhide HC) (unhide HF)
          have PE := hide hD2
          have HD := hide hD1
          clear hD1 hD2
          go_wp2_with fail
          refine (unhide PE).mono ?_
          rintro e w2 ⟨rfl, k1, k2⟩
          have K1 := hide k1
          have K2 := hide k2
          clear PE k1 k2 HM1
          by_cases h0 : D = 0
          · obtain ⟨es', s', hm', hl', hs'⟩ := unhide K2 h0
            have HM2 := hide hm'
            have HL := hide hl'
            have HC2 := hide (crowd_kept hs' (unhide HC))
            subst h0
            clear hm' hl' hs' K1 K2 HD
            go_wp2_with fail
            go_roundg s'.l.length
            case measure => have := unhide HL; have := unhide HN; omega
            case rel => exact ⟨_, _, HM2, hide rfl, HC2⟩
          · have e5 : (D != 0) = true := by simpa using h0
            have hr := unhide HD h0
            have HE := hide (unhide HEnd _ _ _ (unhide K1 h0) (by rw [hr]) (by rw [hr]))
            have HR := hide (show R.1 = D from by rw [hr])
            clear K1 K2 HD hr
            go_wp2_with fail
            go_ret
            rw [unhide HR]
            exact ⟨rfl, unhide HE⟩
        | false =>
          have hr : R = (0, es, s) := (unhide HM1).2.2.2.2.1.symm.trans (room_no (by rw [unhide HC, unhide HF]; rfl))
          have HE := hide (unhide HEnd _ _ _ (unhide HM1) (by rw [hr]) (by rw [hr]))
          have HR := hide (show R.1 = 0 from by rw [hr])
          clear hr HM1
          go_wp2_with fail
          go_ret
          rw [unhide HR]
          exact ⟨rfl, unhide HE⟩
end
end Go.Proofs.YtmccpkpeimejhahGreatDoor.Dk
