/-
  The program's stream: Store, erase, purge, isTime, sizeOf, takes, isLarge; over any disk and any store.
  The program's stream: isKnown.
  The program's stream: know.
  The program's stream: know, the walk.
  The program's stream: eraseFirst.
  The program's stream: checkPost.
-/
import Derived.Test.YtohjipnkoiifhagGreatDoorJointWorksTaWorksTPapRgOsMOsR
import Derived.Test.YtohjipnkoiifhagGreatDoorJointOvRWorksSPapRaPapRbPapRfPapRcRowPvWorksROsPPapRdRowPtRowPu
import Derived.Test.YtohjipnkoiifhagGreatDoorJointWalkL3Ov1Ov3Ov5Ov2
import Derived.Test.YtohjipnkoiifhagGreatDoorJointWalkSplitWalk2Plain2Plain5PlainKWalk5aWalk5PlainI
import Derived.Deep.RegionHeld3
import Derived.Test.YtohjipnkoiifhagGreatDoorWalkCl
import Derived.Test.YtohjipnkoiifhagGreatDoorJointWalkC3WalkC4
import Derived.Deep.RegionWith
namespace Go.Proofs.YtohjipnkoiifhagGreatDoor.Dk
open Go.RowKit

/-- what is asked of the disk, the log, the store, all at once -/
structure Und (Has : World → Nat → Nat → (Nat → Prop) → Int → List Pap → Prop) (SH : World → Nat → Nat → (Nat → Prop) → Sto → Prop) : Prop where
  H : More Has
  L : LWorks Has (LHof Has)
  S : SVault SH
theorem apl_last (s : Sto) (r : Rc) : s.last ≤ (aplS s r).last := by
  unfold aplS
  by_cases h0 : tryE s r = 0
  · rw [if_neg (by rw [h0]; simp)]
    by_cases h1 : r.k = 1
    · rw [if_pos h1]
      show s.last ≤ r.q
      unfold tryE at h0
      by_cases c1 : chkR r = 0
      · rw [if_neg (by rw [c1]; simp), if_neg (by rw [h1]; omega), if_neg (by rw [h1]; simp)] at h0
        by_cases c2 : r.q ≤ s.last
        · rw [if_pos c2] at h0
          exact absurd h0 (by decide)
        · omega
      · rw [if_pos c1] at h0
        exact absurd h0 c1
    · rw [if_neg h1]
      split
      · exact Int.le_max_left _ _
      · exact Int.le_refl _
  · rw [if_pos h0]
    exact Int.le_refl _
theorem do_last (es : List Pap) (s : Sto) (m size : Int) (r : Rc) : s.last ≤ (doS es s m size r).last := by
  unfold doS
  split
  · exact apl_last s r
  · exact Int.le_refl _
/-- what a stream is when a record was written -/
def doT (m size : Int) (st : Str) (r : Rc) : Str := ⟨doL st.es st.s m size r, doS st.es st.s m size r, st.ids⟩
theorem Fit.did {P : Pn.Pln} {m size : Int} {st : Str} (h : Fit P m size st) (r : Rc) : Fit P m size (doT m size st r) := ⟨h.plan, h.vok.did r, h.room, h.size, h.seqs⟩
theorem nob_small : noB.size ≤ 140737488355328 := by decide
theorem plan_each {P : Pn.Pln} (h : Pn.planE P = 0) : ∀ k, k < P.f.length → errS true (tk P.f k) = 0 := by
  obtain ⟨_, _, _, h4, _, _⟩ := Pn.plan_ok h
  exact fun k hk => Pn.filtE_all h4 _ (by unfold tk; rw [List.getElem?_eq_getElem hk]; exact List.getElem_mem hk)
/-- the plan's numbers aren't above what they may be -/
theorem plan_max {P : Pn.Pln} (h : Pn.planE P = 0) (k : Nat) : nth P.v k ≤ nth Pn.most8 k := by
  obtain ⟨_, _, _, _, _, h6⟩ := Pn.plan_ok h
  have key : ∀ (v ms : List Int) (k : Nat), (∀ y ∈ ms, 0 ≤ y) → Pn.inAll v ms = true → (v[k]?).getD 0 ≤ (ms[k]?).getD 0 := by
    intro v
    induction v with
    | nil =>
      intro ms k hp _
      cases hm : ms[k]? with
      | none => simp
      | some y => simpa using hp y (List.mem_of_getElem? hm)
    | cons y v ih =>
      intro ms k hp hh
      cases ms with
      | nil => simp [Pn.inAll] at hh
      | cons z ms =>
        simp only [Pn.inAll, Bool.and_eq_true, decide_eq_true_eq] at hh
        cases k with
        | zero => simpa using hh.1.2
        | succ k => simpa using ih ms k (fun y hy => hp y (List.mem_cons_of_mem _ hy)) hh.2
  exact key P.v Pn.most8 k (by decide) h6
section
variable {Has : World → Nat → Nat → (Nat → Prop) → Int → List Pap → Prop} {SH : World → Nat → Nat → (Nat → Prop) → Sto → Prop} {F0 Cs : Nat → Prop} {w wr : World} {B x : Nat} {a : Option Addr} {c : Nat} {mb : Option Nat} {P : Pn.Pln} {m size : Int} {st : Str}

set_option maxRecDepth 100000 in
set_option maxHeartbeats 1000000 in
theorem tstore_any (h : Rst Has SH F0 Cs w wr B x a c mb P m size st) :
    Calls Tryz.prog 17 #[.pointer (some ⟨x, 0, none⟩)] wr fun e w' => ∃ q G, e = .returned (.pointer (some ⟨q, 0, none⟩)) ∧ SH w' B q G st.s ∧ Below wr.heap.size wr w' := by
  obtain ⟨FV, hv⟩ := h.look
  have P1 := hide (vstore_any hv)
  clear h hv
  go_enter Tryz.func17, Tryz.ntmps17
  go_wp2_with fail
  refine (unhide P1).mono ?_
  rintro e w1 ⟨q, G, rfl, h1, _, b1⟩
  have B1 := hide (And.intro h1 b1)
  clear P1 h1 b1
  go_wp2_with fail
  go_ret
  exact ⟨q, G, rfl, unhide B1⟩
/-- a record is written -/
theorem Rst.vdo (U : Und Has SH) (h : Rst Has SH F0 Cs w wr B x a c mb P m size st) (hf : Fit P m size st) (hB : B ≤ w.heap.size) (r : Rc) (hr : Small r) :
    Calls Tryz.prog 8 #[.pointer (some ⟨x, 10, none⟩), .agg #[.int .i64 r.k, .int .i64 r.q, .int .i64 r.t, .string r.s, .string r.h, .string r.d]] wr fun e w' => e = .returned (.int .i64 (doE st.es st.s m size r)) ∧ Rst Has SH F0 Cs w w' B x a c mb P m size (doT m size st r) ∧ Stay Cs wr w' :=
  h.did (do_last _ _ _ _ r) (Q := fun e _ => e = .returned (.int .i64 (doE st.es st.s m size r))) (fun _ hv => vdo_any U.H U.L U.S r hr hv hf.vok hf.room hf.size (Nat.le_trans hB h.room))

set_option maxRecDepth 100000 in
set_option maxHeartbeats 1000000 in
theorem terase_any (U : Und Has SH) (h : Rst Has SH F0 Cs w wr B x a c mb P m size st) (hf : Fit P m size st) (hB : B ≤ w.heap.size) (now q : Int) :
    Calls Tryz.prog 106 #[.pointer (some ⟨x, 0, none⟩), .int .i64 now, .int .i64 q] wr fun e w' => e = .returned (.int .i64 (doE st.es st.s m size (eraR q now))) ∧ Rst Has SH F0 Cs w w' B x a c mb P m size (doT m size st (eraR q now)) ∧ Stay Cs wr w' := by
  have PD := hide (show Calls Tryz.prog 8 #[.pointer (some ⟨x, 10, none⟩), .agg #[.int .i64 2, .int .i64 q, .int .i64 now, .string ⟨#[]⟩, .string ⟨#[]⟩, .string ⟨#[]⟩]] wr _ from h.vdo U hf hB (eraR q now) ⟨nob_small, nob_small, nob_small⟩)
  clear h hf
  generalize doE st.es st.s m size (eraR q now) = E at *
  go_enter Tryz.func106, Tryz.ntmps106
  go_wp2_with fail
  refine (unhide PD).mono ?_
  rintro e w1 ⟨rfl, h1⟩
  have B1 := hide h1
  clear PD h1
  go_wp2_with fail
  go_ret
  exact ⟨rfl, unhide B1⟩

set_option maxRecDepth 100000 in
set_option maxHeartbeats 1000000 in
theorem tpurge_any (U : Und Has SH) (h : Rst Has SH F0 Cs w wr B x a c mb P m size st) (hf : Fit P m size st) (hB : B ≤ w.heap.size) (now q : Int) (f : ByteArray) (hs : f.size ≤ 140737488355328) :
    Calls Tryz.prog 107 #[.pointer (some ⟨x, 0, none⟩), .int .i64 now, .string f, .int .i64 q] wr fun e w' => e = .returned (.int .i64 (doE st.es st.s m size (purR q now f))) ∧ Rst Has SH F0 Cs w w' B x a c mb P m size (doT m size st (purR q now f)) ∧ Stay Cs wr w' := by
  have PD := hide (show Calls Tryz.prog 8 #[.pointer (some ⟨x, 10, none⟩), .agg #[.int .i64 3, .int .i64 q, .int .i64 now, .string f, .string ⟨#[]⟩, .string ⟨#[]⟩]] wr _ from h.vdo U hf hB (purR q now f) ⟨hs, nob_small, nob_small⟩)
  clear h hf
  generalize doE st.es st.s m size (purR q now f) = E at *
  go_enter Tryz.func107, Tryz.ntmps107
  go_wp2_with fail
  refine (unhide PD).mono ?_
  rintro e w1 ⟨rfl, h1⟩
  have B1 := hide h1
  clear PD h1
  go_wp2_with fail
  go_ret
  exact ⟨rfl, unhide B1⟩

set_option maxRecDepth 100000 in
set_option maxHeartbeats 1000000 in
theorem istime_any (now : Int) (w : World) :
    Calls Tryz.prog 62 #[.int .i64 now] w fun e w' => e = .returned (.bool (inI now 0 1099511627776)) ∧ w' = w := by
  by_cases h0 : 0 ≤ now
  · by_cases h1 : now ≤ 1099511627776
    · have e : inI now 0 1099511627776 = true := by unfold inI; rw [decide_eq_true h0, decide_eq_true h1]; rfl
      rw [e]
      go_enter Tryz.func62, Tryz.ntmps62
      go_wp2_with fail
      go_ret
      exact ⟨rfl, rfl⟩
    · have e : inI now 0 1099511627776 = false := by unfold inI; rw [decide_eq_true h0, decide_eq_false h1]; rfl
      have e1 : decide (now ≤ 1099511627776) = false := decide_eq_false h1
      rw [e]
      go_enter Tryz.func62, Tryz.ntmps62
      go_wp2_with fail
      go_ret
      exact ⟨rfl, rfl⟩
  · have e : inI now 0 1099511627776 = false := by unfold inI; rw [decide_eq_false h0]; rfl
    have e1 : decide (0 ≤ now) = false := decide_eq_false h0
    rw [e]
    go_enter Tryz.func62, Tryz.ntmps62
    go_wp2_with fail
    go_ret
    exact ⟨rfl, rfl⟩

set_option maxRecDepth 100000 in
set_option maxHeartbeats 1000000 in
theorem sizeof_any (y : Po) (hy : SmallO y) (w : World) :
    Calls Tryz.prog 66 #[poV y] w fun e w' => e = .returned (.int .i64 (szP y : Nat)) ∧ Below w.heap.size w w' := by
  have b0 : Below w.heap.size w (w.alloc (poO y)) := (Below.refl _ _).alloc (Nat.le_refl _) _
  have hb := PoB.new w y
  have h1 := hy.s
  have h2 := hy.h
  have h3 := hy.d
  have B0 := hide b0
  obtain ⟨_, c0, c1, c2, c3, c4, c5⟩ := hb
  clear hy b0
  go_enter Tryz.func66, Tryz.ntmps66
  go_wp2_with fail
  go_ret
  exact ⟨by unfold szP; congr 2 <;> omega, unhide B0⟩

set_option maxRecDepth 100000 in
set_option maxHeartbeats 1000000 in
theorem islarge_any (hpl : Pn.planE P = 0) (h : PBx w x P a c) (y : Po) (hy : SmallO y) :
    Calls Tryz.prog 65 #[.pointer (some ⟨x, 0, none⟩), poV y] w fun e w' => e = .returned (.bool (decide (256 < y.h.size + y.d.size) || ((decide (pv P 4 ≠ 0) && decide (pv P 4 < ((y.h.size + y.d.size : Nat) : Int))) || decide (16 < y.i.size)))) ∧ Below w.heap.size w w' := by
  have b0 : Below w.heap.size w (w.alloc (poO y)) := (Below.refl _ _).alloc (Nat.le_refl _) _
  have hb := PoB.new w y
  have h2 := hy.h
  have h3 := hy.d
  have h4 := hy.i
  have d6 := (h.next b0).c6
  have hlt := h.lt
  have hmax : nth P.v 4 ≤ 256 := plan_max hpl 4
  have B0 := hide b0
  obtain ⟨_, c0, c1, c2, c3, c4, c5⟩ := hb
  unfold pv
  generalize nth P.v 4 = M at *
  clear hy h b0 hpl
  have key : ∀ most : Int, (most = 256 ∧ M = 0 ∨ most = M ∧ M ≠ 0) → (decide (256 < y.h.size + y.d.size) || ((decide (M ≠ 0) && decide (M < ((y.h.size + y.d.size : Nat) : Int))) || decide (16 < y.i.size))) = (decide (most < ((y.h.size : Int) + (y.d.size : Int))) || decide ((16 : Int) < (y.i.size : Int))) := by
    intro most hm
    rw [Bool.eq_iff_iff]
    simp only [Bool.or_eq_true, Bool.and_eq_true, decide_eq_true_eq]
    omega
  by_cases e0 : M = 0
  · rw [key 256 (.inl ⟨rfl, e0⟩)]
    clear key
    subst e0
    by_cases g1 : (256 : Int) < (y.h.size : Int) + (y.d.size : Int)
    · rw [decide_eq_true g1]
      go_enter Tryz.func65, Tryz.ntmps65
      go_wp2_with fail
      go_ret
      exact ⟨rfl, unhide B0⟩
    · have g2 : decide ((256 : Int) < (y.h.size : Int) + (y.d.size : Int)) = false := decide_eq_false g1
      rw [g2]
      go_enter Tryz.func65, Tryz.ntmps65
      go_wp2_with fail
      go_ret
      exact ⟨rfl, unhide B0⟩
  · rw [key M (.inr ⟨rfl, e0⟩)]
    clear key
    have e1 : (M != 0) = true := by simpa using e0
    by_cases g1 : M < (y.h.size : Int) + (y.d.size : Int)
    · rw [decide_eq_true g1]
      go_enter Tryz.func65, Tryz.ntmps65
      go_wp2_with fail
      go_ret
      exact ⟨rfl, unhide B0⟩
    · have g2 : decide (M < (y.h.size : Int) + (y.d.size : Int)) = false := decide_eq_false g1
      rw [g2]
      go_enter Tryz.func65, Tryz.ntmps65
      go_wp2_with fail
      go_ret
      exact ⟨rfl, unhide B0⟩

set_option maxRecDepth 100000 in
set_option maxHeartbeats 1000000 in
theorem ttakes_any (hpl : Pn.planE P = 0) (hsm : SmallP P) (h : PBx w x P a c) (hsl : SlS w a P.f) (s : ByteArray) (hs : s.size ≤ 140737488355328) (hok : errS false s = 0) :
    Calls Tryz.prog 64 #[.pointer (some ⟨x, 0, none⟩), .string s] w fun e w' => e = .returned (.bool (takesP P s)) ∧ Below w.heap.size w w' := by
  have HS := hide hsl
  have HM := hide (fun (W : World) (k : Nat) (hk : k < P.f.length) => match_at (f := tk P.f k) (s := s) (a := tkB (tk P.f k) s) (x := 0) (by unfold matchB tkB; rw [plan_each hpl k hk, hok]; simp) (by rw [plan_each hpl k hk, hok]; rfl) (hsm.each k hk) hs W)
  have hl := hsm.many
  have c1 := h.c1
  clear hsl hpl hsm hok h
  go_enter Tryz.func64, Tryz.ntmps64
  go_wp2_with fail
  go_loopw [15] (fun iv wr => ∃ (k : Nat), iv = .int .i64 k ∧ k ≤ P.f.length ∧ Hid (takesP P s = (P.f.drop k).any fun f => tkB f s) ∧ Hid (Below w.heap.size w wr)) (fun iv _ => P.f.length - (intOf iv).toNat)
  case atStart => exact ⟨0, rfl, Nat.zero_le _, hide rfl, hide (Below.refl _ _)⟩
  case round =>
    obtain ⟨k, rfl, hk, HT, HB⟩ := hrel
    by_cases hlt : k < P.f.length
    · obtain ⟨b, o, rfl, hb, hcell⟩ := unhide HS k hlt
      have hc2 := ((unhide HB).cell (p := ⟨b, o + k, none⟩) hb).trans hcell
      have PM := hide (unhide HM wr k hlt)
      have ht := unhide HT
      rw [Pn.any_drop hlt] at ht
      obtain ⟨v, hv⟩ : ∃ v, tkB (tk P.f k) s = v := ⟨_, rfl⟩
      rw [hv] at PM ht
      generalize tk P.f k = t at *
      clear hcell HT hv
      cases v with
      | true =>
        have HE := hide (show takesP P s = true from by rw [ht]; rfl)
        clear ht
        go_wp2_with fail
        refine (unhide PM).mono ?_
        rintro e w1 ⟨rfl, b1⟩
        have B1 := hide (bstep (unhide HB) b1)
        clear PM b1
        go_wp2_with fail
        go_ret
        rw [unhide HE]
        exact ⟨rfl, unhide B1⟩
      | false =>
        have HE := hide (show takesP P s = (P.f.drop (k + 1)).any fun f => tkB f s from by rw [ht]; rfl)
        clear ht
        go_wp2_with fail
        refine (unhide PM).mono ?_
        rintro e w1 ⟨rfl, b1⟩
        have B1 := hide (bstep (unhide HB) b1)
        clear PM b1
        go_wp2_with fail
        refine ⟨⟨k + 1, by go_num, by omega, HE, B1⟩, ?_⟩
        simp [intOf]; omega
    · obtain rfl : k = P.f.length := by omega
      have HE := hide (show takesP P s = false from by rw [unhide HT, List.drop_length]; rfl)
      clear HT
      go_wp2_with fail
      go_ret
      rw [unhide HE]
      exact ⟨rfl, unhide HB⟩
end
end Go.Proofs.YtohjipnkoiifhagGreatDoor.Dk

namespace Go.Proofs.YtohjipnkoiifhagGreatDoor.Dk
open Go.RowKit

def knB (o : Option Kn) (f : Int) : Bool := match o with
  | none => false
  | some k => decide (f ≤ k.a)
/-- known by the map, known by the list -/
theorem again_kn {P : Pn.Pln} {ids : List Kn} {now : Int} {y : Po} (h : Lasts (mids P ids)) (hq : ∀ k ∈ ids, 1 ≤ k.q) : againB P now y ids = knB (lastK (mids P ids) y.i) (now - pv P 7) ∧ (againB P now y ids = true → seenQ ids y.i (now - pv P 7) = knQ (lastK (mids P ids) y.i) (now - pv P 7)) := by
  unfold againB
  by_cases hW : pv P 7 = 0
  · have e : mids P ids = [] := by unfold mids; rw [if_pos hW]
    rw [e, decide_eq_false (p := pv P 7 ≠ 0) (by simpa using hW)]
    simp [lastK, knB]
  · have e : mids P ids = ids := by unfold mids; rw [if_neg hW]
    rw [e] at h ⊢
    rw [decide_eq_true (p := pv P 7 ≠ 0) hW, Bool.true_and]
    have hs := h.seen y.i (now - pv P 7)
    refine ⟨?_, fun _ => hs⟩
    cases hl : lastK ids y.i with
    | none =>
      rw [hl] at hs
      rw [hs]
      simp [knQ, knB]
    | some k =>
      obtain ⟨hm, hi⟩ := lastK_mem hl
      have h1 := hq k hm
      have h2 := h.some' k hm
      rw [hi] at h2
      rw [hl] at hs
      rw [hs, decide_eq_true (p := y.i.size ≠ 0) h2, Bool.true_and]
      by_cases c : now - pv P 7 ≤ k.a
      · have e1 : knQ (some k) (now - pv P 7) = k.q := if_pos c
        have e2 : knB (some k) (now - pv P 7) = true := decide_eq_true c
        rw [e1, e2]
        exact decide_eq_true (by omega)
      · have e1 : knQ (some k) (now - pv P 7) = 0 := if_neg c
        have e2 : knB (some k) (now - pv P 7) = false := decide_eq_false c
        rw [e1, e2]
        rfl
section
variable {Has : World → Nat → Nat → (Nat → Prop) → Int → List Pap → Prop} {SH : World → Nat → Nat → (Nat → Prop) → Sto → Prop} {F0 Cs : Nat → Prop} {w wr : World} {B x : Nat} {a : Option Addr} {c : Nat} {mb : Option Nat} {P : Pn.Pln} {m size : Int} {st : Str}
theorem Rst.map (h : Rst Has SH F0 Cs w wr B x a c mb P m size st) : KMap wr mb (mids P st.ids) ∧ Lasts (mids P st.ids) := by
  obtain ⟨_, h1, _⟩ := h
  exact ⟨h1.map, h1.lasts⟩

set_option maxRecDepth 100000 in
set_option maxHeartbeats 2000000 in
theorem isknown_any (h : Rst Has SH F0 Cs w wr B x a c mb P m size st) (hf : Fit P m size st) (now : Int) (hn : 0 ≤ now ∧ now ≤ 1099511627776) (i : ByteArray) (hi : i.size ≤ 140737488355328) :
    Calls Tryz.prog 35 #[.pointer (some ⟨x, 0, none⟩), .int .i64 now, .string i] wr fun e w' => e = .returned (.tuple #[.int .i64 (knQ (lastK (mids P st.ids) i) (now - pv P 7)), .bool (knB (lastK (mids P st.ids) i) (now - pv P 7))]) ∧ Below wr.heap.size wr w' := by
  obtain ⟨q, t, b, hrun, hb0, hb1⟩ := h.map.1.look i (by unfold maxLen; omega)
  have c14 := h.ids.1
  have c9 := h.plan.c9
  have hlt := h.plan.lt
  have hW0 : 0 ≤ nth P.v 7 := (ppos_of hf.plan).pos 7
  have hW1 : nth P.v 7 ≤ 100000 := plan_max hf.plan 7
  have bb : Below wr.heap.size wr (wr.alloc (.cells #[.int .i64 q, .int .i64 t] 124)) := (Below.refl _ _).alloc (Nat.le_refl _) _
  have c9b := (bb.cell (p := ⟨x, 9, none⟩) hlt).trans c9
  have B0 := hide bb
  have B1 := hide (fun n => below_drewN bb n)
  unfold pv
  generalize nth P.v 7 = W at *
  cases b with
  | false =>
    rw [hb0 rfl]
    clear h hf hb0 hb1 bb
    go_enter Tryz.func35, Tryz.ntmps35
    go_wp2_with fail
    go_quiet (fail)
    go_wp2_with fail
    go_ret2
    exact ⟨rfl, unhide B1 _⟩
  | true =>
    obtain ⟨k, hk, hq, ht⟩ := hb1 rfl
    rw [hk]
    clear h hf hb0 hb1 bb
    by_cases g : t < now - W
    · have e : knQ (some k) (now - W) = 0 ∧ knB (some k) (now - W) = false := by
        rw [← ht] at g
        exact ⟨if_neg (by omega), decide_eq_false (by omega)⟩
      rw [e.1, e.2]
      clear e hk hq ht
      go_enter Tryz.func35, Tryz.ntmps35
      go_wp2_with fail
      go_quiet (fail)
      go_wp2_with fail
      go_ret2
      exact ⟨rfl, unhide B1 _⟩
    · have e : knQ (some k) (now - W) = q ∧ knB (some k) (now - W) = true := by
        rw [← ht] at g
        exact ⟨(if_pos (by omega) : knQ (some k) (now - W) = k.q).trans hq, decide_eq_true (by omega)⟩
      have g2 : decide (t < now - W) = false := decide_eq_false g
      rw [e.1, e.2]
      clear e hk hq ht
      go_enter Tryz.func35, Tryz.ntmps35
      go_wp2_with fail
      go_quiet (fail)
      go_wp2_with fail
      go_ret2
      exact ⟨rfl, unhide B1 _⟩
end
end Go.Proofs.YtohjipnkoiifhagGreatDoor.Dk

namespace Go.Proofs.YtohjipnkoiifhagGreatDoor.Dk
open Go.RowKit

/-- the ids behind a message -/
def idsK (ids : List Kn) (i : ByteArray) (now q : Int) : List Kn := if i.size = 0 then ids else ids ++ [⟨i, now, q⟩]
section
variable {Has : World → Nat → Nat → (Nat → Prop) → Int → List Pap → Prop} {SH : World → Nat → Nat → (Nat → Prop) → Sto → Prop} {F0 Cs : Nat → Prop} {w wr w' : World} {B x : Nat} {a : Option Addr} {c : Nat} {mb : Option Nat} {P : Pn.Pln} {m size : Int} {st : Str} {ids' : List Kn}
/-- nothing of it is kept -/
theorem Rst.free (h : Rst Has SH F0 Cs w wr B x a c mb P m size st) (hm : mids P ids' = mids P st.ids) (hf : (ids'.length : Int) ≤ st.s.last) : Rst Has SH F0 Cs w wr B x a c mb P m size ⟨st.es, st.s, ids'⟩ := by
  obtain ⟨FV, h1, h2, h3, h4⟩ := h
  exact ⟨FV, ⟨h1.vault, h1.plan, h1.ids, h1.row, h1.rowB, h1.cap, by rw [hm]; exact h1.map, h1.mapB, by rw [hm]; exact h1.lasts, hf, h1.small⟩, h2, h3, h4⟩
/-- a map is made -/
theorem Rst.makes (U : Und Has SH) (h : Rst Has SH F0 Cs w wr B x a c .none P m size st) (hB : B ≤ w.heap.size) {W1 : World} (hW : W1 = wr.alloc (.map #[] 0)) : Rst Has SH F0 Cs w (W1.setCell ⟨x, 14, none⟩ (.map (some wr.heap.size))) B x a c (some wr.heap.size) P m size st ∧ Stay Cs wr (W1.setCell ⟨x, 14, none⟩ (.map (some wr.heap.size))) := by
  have hr := h.room
  have bb : Below wr.heap.size wr W1 := by rw [hW]; exact (Below.refl _ _).alloc (Nat.le_refl _) _
  have hsz : W1.heap.size = wr.heap.size + 1 := by rw [hW]; simp
  obtain ⟨FV, h1, h2, h3, h4⟩ := h
  have hx := h1.vault.blk
  have he : mids P st.ids = [] := by
    rcases h1.map with ⟨_, e⟩ | ⟨b, D, e, _⟩
    · exact e
    · cases e
  have hk : KMap W1 (some wr.heap.size) (mids P st.ids) := by rw [he, hW]; exact KMap.made wr
  have hw1 := h1.below U.H U.S bb
  have hno : ¬ FV wr.heap.size := fun z => by have := (h1.vault.own U.H U.S _ z).2; omega
  have cs : Chg (fun k => k = x) W1 (W1.setCell ⟨x, 14, none⟩ (.map (some wr.heap.size))) := (Chg.refl _ _).setCell (A := fun k => k = x) (p := ⟨x, 14, none⟩) (.inl rfl) _
  refine ⟨⟨FV, hw1.put U.H U.S hk (fun b hb => ?_) h1.lasts h1.few, chg_more (h2.trans (Chg.of_below bb)) cs (fun i hi z => ?_), fun k hk' => ?_, fun k hk' => ?_⟩, Nat.le_trans bb.size cs.size, fun k hk' => ?_⟩
  · cases hb
    exact ⟨Nat.le_trans hB hr, by omega, hno, fun z hz e => by have := (h1.rowB z hz).2.1; omega⟩
  · subst z
    rcases h3 _ (.inl hx.1) with y | y
    · exact y
    · omega
  · rcases hk' with z | z | z
    · exact h3 k (.inl z)
    · exact h3 k (.inr (.inl z))
    · cases z; exact .inr hr
  · have hc := h4 k hk'
    refine ⟨Nat.lt_of_lt_of_le hc.1 (Nat.le_trans bb.size cs.size), fun z => ?_⟩
    rcases z with z | z | z
    · exact hc.2 (.inl z)
    · exact hc.2 (.inr (.inl z))
    · cases z; exact absurd hc.1 (Nat.lt_irrefl _)
  · have hc := h4 k hk'
    rw [cs.block k (Nat.lt_of_lt_of_le hc.1 bb.size) (fun z => hc.2 (.inl (z ▸ hx.1)))]
    exact bb.block k hc.1
/-- an id is kept in the map -/
theorem Rst.keeps {b : Nat} (h : Rst Has SH F0 Cs w wr B x a c (some b) P m size st) (U : Und Has SH) (hl : (mids P st.ids).length < maxLen) (i : ByteArray) (hi : i.size ≤ maxLen) (q t : Int) (hm : mids P ids' = mids P st.ids ++ [⟨i, t, q⟩]) (hL : Lasts (mids P ids')) (hf : (ids'.length : Int) ≤ st.s.last) :
    ∃ w', (Instr.mapUpdate 78 (.map (some b)) (.string i) (.agg #[.int .i64 q, .int .i64 t])).run Tryz.prog wr = .ok () w' ∧ Rst Has SH F0 Cs w w' B x a c (some b) P m size ⟨st.es, st.s, ids'⟩ ∧ Stay Cs wr w' := by
  have hr := h.room
  obtain ⟨FV, h1, h2, h3, h4⟩ := h
  obtain ⟨w', hrun, hk, hc⟩ := h1.map.store hl i hi q t
  have hb := h1.mapB b rfl
  obtain ⟨hx, _, hxl, _⟩ := h1.vault.blk
  have hxb : ¬ x = b := fun z => hb.2.2.1 (z ▸ hx)
  have e : ∀ j, w'.cell? ⟨x, j, none⟩ = wr.cell? ⟨x, j, none⟩ := fun j => hc.cell (p := ⟨x, j, none⟩) hxl hxb
  refine ⟨w', hrun, ⟨FV, ⟨h1.vault.chg U.H U.S hc (fun k hk z => hb.2.2.1 (z ▸ hk)), pb_same h1.plan hc.size (fun j _ => e j), (e 14).trans h1.ids, sls_chg h1.row hc (fun z hz y => hb.2.2.2 z hz y), fun z hz => ⟨(h1.rowB z hz).1, Nat.lt_of_lt_of_le (h1.rowB z hz).2.1 hc.size, (h1.rowB z hz).2.2⟩, h1.cap, by rw [hm]; exact hk, fun b' hb' => ⟨(h1.mapB b' hb').1, Nat.lt_of_lt_of_le (h1.mapB b' hb').2.1 hc.size, (h1.mapB b' hb').2.2⟩, hL, hf, h1.small⟩, chg_more h2 hc (fun j hj z => ?_), h3, fun k hk' => ⟨Nat.lt_of_lt_of_le (h4 k hk').1 hc.size, (h4 k hk').2⟩⟩, hc.size, fun k hk' => hc.block k (h4 k hk').1 (fun z => (h4 k hk').2 (.inr (.inr (by rw [z]))))⟩
  subst z
  rcases h3 _ (.inr (.inr rfl)) with y | y
  · exact y
  · omega
end
end Go.Proofs.YtohjipnkoiifhagGreatDoor.Dk

namespace Go.Proofs.YtohjipnkoiifhagGreatDoor.Dk
open Go.RowKit

theorem eqlK_nil (w : World) : (binOp .eql 78 (.map none) (.map none)).run Tryz.prog w = .ok (.bool true) w := by kernel_rfl
theorem eqlK_some (b : Nat) (w : World) : (binOp .eql 78 (.map (some b)) (.map none)).run Tryz.prog w = .ok (.bool false) w := by kernel_rfl
section
variable {Has : World → Nat → Nat → (Nat → Prop) → Int → List Pap → Prop} {SH : World → Nat → Nat → (Nat → Prop) → Sto → Prop} {F0 Cs : Nat → Prop} {w wr w' : World} {B x : Nat} {a : Option Addr} {c : Nat} {mb : Option Nat} {P : Pn.Pln} {m size : Int} {st : Str} {ids' : List Kn}

set_option maxRecDepth 100000 in
set_option maxHeartbeats 2000000 in
theorem know_any (U : Und Has SH) (h : Rst Has SH F0 Cs w wr B x a c mb P m size st) (hf : Fit P m size st) (hB : B ≤ w.heap.size) (i : ByteArray) (hi : i.size ≤ 140737488355328) (q now : Int) (hno : i.size ≠ 0 → pv P 7 ≠ 0 → ¬ 0 < seenQ st.ids i (now - pv P 7)) (hfew : (st.ids.length : Int) + 1 ≤ st.s.last) :
    Calls Tryz.prog 70 #[.pointer (some ⟨x, 0, none⟩), .string i, .agg #[.int .i64 q, .int .i64 now]] wr fun e w' => e = .returned (.tuple #[]) ∧ (∃ mb', Rst Has SH F0 Cs w w' B x a c mb' P m size ⟨st.es, st.s, idsK st.ids i now q⟩) ∧ Stay Cs wr w' := by
  have b0 : Below wr.heap.size wr (wr.alloc (.cells #[.int .i64 q, .int .i64 now] 124)) := (Below.refl _ _).alloc (Nat.le_refl _) _
  have hx := h.lt
  have c9 := h.plan.c9
  by_cases h0 : i.size = 0
  · have e : idsK st.ids i now q = st.ids := by unfold idsK; rw [if_pos h0]
    have hi0 : i = ⟨#[]⟩ := by
      apply ByteArray.ext
      exact Array.eq_empty_of_size_eq_zero h0
    have HE := hide (And.intro (show ∃ mb', Rst Has SH F0 Cs w (wr.alloc (.cells #[.int .i64 q, .int .i64 now] 124)) B x a c mb' P m size ⟨st.es, st.s, idsK st.ids i now q⟩ from ⟨mb, by rw [e]; exact h.below U.H U.S b0⟩) (h.stay b0))
    rw [hi0] at HE ⊢
    clear h hf hno hfew b0 e hi0 h0
    go_enter Tryz.func70, Tryz.ntmps70
    go_wp2_with fail
    (try simp only [Exit.inBlock, Exit.then])
    refine bodyPost_ret (results_none rfl _ _ _) rfl ?_
    exact ⟨rfl, unhide HE⟩
  · have e : idsK st.ids i now q = st.ids ++ [⟨i, now, q⟩] := by unfold idsK; rw [if_neg h0]
    have hlen : ((idsK st.ids i now q).length : Int) ≤ st.s.last := by rw [e, List.length_append]; simpa using hfew
    have hne : ¬ i.toList = [] := by rw [tl_nil]; exact h0
    have hne1 : (!i.toList.isEmpty) = true := by rw [tl_emp, decide_eq_false h0]; rfl
    have hne2 : i.toList.isEmpty = false := by rw [tl_emp, decide_eq_false h0]
    by_cases hW : pv P 7 = 0
    · have HE := hide (And.intro (show ∃ mb', Rst Has SH F0 Cs w (wr.alloc (.cells #[.int .i64 q, .int .i64 now] 124)) B x a c mb' P m size ⟨st.es, st.s, idsK st.ids i now q⟩ from ⟨mb, (h.below U.H U.S b0).free (by unfold mids; rw [if_pos hW, if_pos hW]) hlen⟩) (h.stay b0))
      have hW2 : nth P.v 7 = 0 := hW
      rw [hW2] at c9
      clear h hf hno hfew b0 e h0 hlen hW hW2
      go_enter Tryz.func70, Tryz.ntmps70
      go_wp2_with fail
      (try simp only [Exit.inBlock, Exit.then])
      refine bodyPost_ret (results_none rfl _ _ _) rfl ?_
      exact ⟨rfl, unhide HE⟩
    · have hm : mids P (idsK st.ids i now q) = mids P st.ids ++ [⟨i, now, q⟩] := by rw [e]; unfold mids; rw [if_neg hW, if_neg hW]
      have hms : mids P st.ids = st.ids := by unfold mids; rw [if_neg hW]
      have hL : Lasts (mids P (idsK st.ids i now q)) := by
        have h1 := h.map.2
        rw [hm, hms]
        rw [hms] at h1
        exact h1.more hf.seqs h0 ((ppos_of hf.plan).pos 7) (hno h0 hW)
      have hlen2 : (mids P st.ids).length < maxLen := by
        have := hf.vok.ok.last.2
        rw [hms]
        unfold maxLen
        omega
      have hW2 : (nth P.v 7 == 0) = false := by rw [beq_eq_false_iff_ne]; exact hW
      have hW3 : decide (nth P.v 7 = 0) = false := decide_eq_false hW
      have hi2 : i.size ≤ maxLen := by unfold maxLen; omega
      have PC : Hid (∀ X, Calls Tryz.prog 58 #[.string i] X fun e w' => e = .returned (.string i) ∧ Below X.heap.size X w') := hide (fun X => clone_any i X (by omega))
      cases mb with
      | some b =>
        have c14 := h.ids.1
        have hS := hide (fun (W : World) (hb : Below wr.heap.size wr W) => show W.cell? ⟨x, 14, none⟩ = some (.map (some b)) ∧ ∃ w', (Instr.mapUpdate 78 (.map (some b)) (.string i) (.agg #[.int .i64 q, .int .i64 now])).run Tryz.prog W = .ok () w' ∧ (∃ mb', Rst Has SH F0 Cs w w' B x a c mb' P m size ⟨st.es, st.s, idsK st.ids i now q⟩) ∧ Stay Cs wr w' from by
          have r1 := h.below U.H U.S hb
          obtain ⟨w', k1, k2, k3⟩ := r1.keeps U hlen2 i hi2 q now hm hL hlen
          exact ⟨r1.ids.1, w', k1, ⟨_, k2⟩, (h.stay hb).trans k3⟩)
        have B0 := hide b0
        have hq := fun W => eqlK_some b W
        have d0 : ∀ W, Below (wr.alloc (.cells #[.int .i64 q, .int .i64 now] 124)).heap.size (wr.alloc (.cells #[.int .i64 q, .int .i64 now] 124)) W → W.cell? ⟨wr.heap.size, 0, none⟩ = some (.int .i64 q) ∧ W.cell? ⟨wr.heap.size, 1, none⟩ = some (.int .i64 now) := fun W hW => ⟨(hW.cell (p := ⟨wr.heap.size, 0, none⟩) (by simp)).trans (by simp), (hW.cell (p := ⟨wr.heap.size, 1, none⟩) (by simp)).trans (by simp)⟩
        have D0 := hide d0
        clear h hf hno hfew b0 e h0 hlen hW hm hms hL hlen2 d0
        go_enter Tryz.func70, Tryz.ntmps70
        go_wp2_with fail
        go_region_with (go_at_call 58; refine (unhide PC _).mono ?_; rintro e w1 ⟨rfl, b1⟩; obtain ⟨g0, g1⟩ := unhide D0 w1 ((Below.refl _ _).drew.trans b1); obtain ⟨g2, w2, hrun, hfin, hst⟩ := unhide hS w1 (bstep (unhide B0).drew b1))
        all_goals (
          go_wp2_with fail
          go_end0
          exact ⟨rfl, hfin, hst⟩)
      | none =>
        have c14 := h.ids.1
        have f14 := h.ids.2
        have r0 := h.below U.H U.S b0
        obtain ⟨r1, s1⟩ := r0.makes U hB rfl
        have hsz : (wr.alloc (.cells #[.int .i64 q, .int .i64 now] 124)).heap.size = wr.heap.size + 1 := by simp
        have hWe : (((wr.alloc (.cells #[.int .i64 q, .int .i64 now] 124)).alloc (.map #[] 0)).setCell ⟨x, 14, none⟩ (.map (some (wr.alloc (.cells #[.int .i64 q, .int .i64 now] 124)).heap.size))) = (((wr.setCell ⟨x, 14, none⟩ (.map (some (wr.heap.size + 1)))).alloc (.cells #[.int .i64 q, .int .i64 now] 124)).alloc (.map #[] 0)) := by
          rw [hsz, World.setCell_alloc_past _ _ _ _ (by rw [hsz]; omega), World.setCell_alloc_past _ _ _ _ hx]
        rw [hWe, hsz] at r1
        rw [hWe] at s1
        obtain ⟨W1, hW1⟩ : ∃ W1, W1 = (((wr.setCell ⟨x, 14, none⟩ (.map (some (wr.heap.size + 1)))).alloc (.cells #[.int .i64 q, .int .i64 now] 124)).alloc (.map #[] 0)) := ⟨_, rfl⟩
        have q0 : W1.cell? ⟨wr.heap.size, 0, none⟩ = some (.int .i64 q) ∧ W1.cell? ⟨wr.heap.size, 1, none⟩ = some (.int .i64 now) ∧ wr.heap.size < W1.heap.size := by
          rw [hW1]
          refine ⟨?_, ?_, ?_⟩
          · rw [World.cell?_alloc_past _ _ _ (by simp [World.setCell]), World.cell?_alloc_at _ _ _ _ (by simp [World.setCell])]; rfl
          · rw [World.cell?_alloc_past _ _ _ (by simp [World.setCell]), World.cell?_alloc_at _ _ _ _ (by simp [World.setCell])]; rfl
          · simp [World.setCell]; omega
        rw [← hW1] at r1 s1
        have hS := hide (fun (W : World) (hb : Below W1.heap.size W1 W) => show W.cell? ⟨x, 14, none⟩ = some (.map (some (wr.heap.size + 1))) ∧ ∃ w', (Instr.mapUpdate 78 (.map (some (wr.heap.size + 1))) (.string i) (.agg #[.int .i64 q, .int .i64 now])).run Tryz.prog W = .ok () w' ∧ (∃ mb', Rst Has SH F0 Cs w w' B x a c mb' P m size ⟨st.es, st.s, idsK st.ids i now q⟩) ∧ Stay Cs wr w' from by
          have r2 := r1.below U.H U.S hb
          obtain ⟨w', k1, k2, k3⟩ := r2.keeps U hlen2 i hi2 q now hm hL hlen
          exact ⟨r2.ids.1, w', k1, ⟨_, k2⟩, ((h.stay b0).trans s1).trans ((r1.stay hb).trans k3)⟩)
        have hq := fun W => eqlK_nil W
        have hmm := @run_makeMap Tryz.prog
        have D0 := hide (fun (W : World) (hW : Below W1.heap.size W1 W) => show W.cell? ⟨wr.heap.size, 0, none⟩ = some (.int .i64 q) ∧ W.cell? ⟨wr.heap.size, 1, none⟩ = some (.int .i64 now) from ⟨(hW.cell (p := ⟨wr.heap.size, 0, none⟩) q0.2.2).trans q0.1, (hW.cell (p := ⟨wr.heap.size, 1, none⟩) q0.2.2).trans q0.2.1⟩)
        have c15 := r1.ids.1
        have hx1 := r1.lt
        obtain ⟨q1, q2, q3⟩ := q0
        clear h hf hno hfew b0 e h0 hlen hW hm hms hL hlen2 r0 r1 s1 hsz hWe
        go_enter Tryz.func70, Tryz.ntmps70
        go_wp2_with fail
        rw [← hW1]
        clear hW1
        go_region_with (go_at_call 58; refine (unhide PC _).mono ?_; rintro e w1 ⟨rfl, b1⟩; obtain ⟨g0, g1⟩ := unhide D0 w1 ((Below.refl _ _).drew.trans b1); obtain ⟨g2, w2, hrun, hfin, hst⟩ := unhide hS w1 ((Below.refl _ _).drew.trans b1))
        all_goals (
          go_wp2_with fail
          go_end0
          exact ⟨rfl, hfin, hst⟩)
end
end Go.Proofs.YtohjipnkoiifhagGreatDoor.Dk

namespace Go.Proofs.YtohjipnkoiifhagGreatDoor.Dk
open Go.RowKit

/-- the next message's number, out of what is answered -/
theorem seek_num {f : ByteArray} (hf : errS true f = 0) (o : Option Rc) : ∃ (y : Rc) (E : Int), seekV f o = .tuple #[.agg #[.int .i64 y.k, .int .i64 y.q, .int .i64 y.t, .string y.s, .string y.h, .string y.d], .int .i64 E] ∧ y.q = (o.map (·.q)).getD 0 := by
  unfold seekV
  rw [if_pos hf]
  cases o with
  | none => exact ⟨zeroR, _, rfl, rfl⟩
  | some r => exact ⟨r, _, rfl, rfl⟩
section
variable {Has : World → Nat → Nat → (Nat → Prop) → Int → List Pap → Prop} {SH : World → Nat → Nat → (Nat → Prop) → Sto → Prop} {F0 Cs : Nat → Prop} {w wr : World} {B x : Nat} {a : Option Addr} {c : Nat} {mb : Option Nat} {P : Pn.Pln} {m size : Int} {st : Str}

set_option maxRecDepth 100000 in
set_option maxHeartbeats 2000000 in
theorem erasefirst_any (U : Und Has SH) (V : SWorks SH) (h : Rst Has SH F0 Cs w wr B x a c mb P m size st) (hf : Fit P m size st) (hB : B ≤ w.heap.size) (now : Int) (f : ByteArray) (hs : f.size ≤ 140737488355328) (hok : errS true f = 0) :
    Calls Tryz.prog 69 #[.pointer (some ⟨x, 0, none⟩), .int .i64 now, .string f] wr fun e w' => e = .returned (.int .i64 (doE st.es st.s m size (eraR (nxQ f st.s.l) now))) ∧ Rst Has SH F0 Cs w w' B x a c mb P m size (doT m size st (eraR (nxQ f st.s.l) now)) ∧ Stay Cs wr w' := by
  have hk := hf.vok.ok
  have hBr := Nat.le_trans hB h.room
  have P1 := hide (tstore_any h)
  obtain ⟨y, E, hy, hq⟩ := seek_num hok (nextO f st.s.l 0)
  have P2 := hide (fun (W : World) (q : Nat) (G : Nat → Prop) (hS : SH W B q G st.s) (hW : B ≤ W.heap.size) => V.next f 0 hs hS hk hW)
  have hq2 : nxQ f st.s.l = y.q := hq.symm
  rw [hy] at P2
  rw [hq2]
  have HE := hide (fun (W : World) (hW : Below wr.heap.size wr W) => show Calls Tryz.prog 106 #[.pointer (some ⟨x, 0, none⟩), .int .i64 now, .int .i64 y.q] W fun e w' => e = .returned (.int .i64 (doE st.es st.s m size (eraR y.q now))) ∧ Rst Has SH F0 Cs w w' B x a c mb P m size (doT m size st (eraR y.q now)) ∧ Stay Cs wr w' from (terase_any U (h.below U.H U.S hW) hf hB now y.q).mono (fun _ _ z => ⟨z.1, z.2.1, (h.stay hW).trans z.2.2⟩))
  generalize doE st.es st.s m size (eraR y.q now) = D at *
  generalize doT m size st (eraR y.q now) = st' at *
  clear h hf hk hy hq hq2
  go_enter Tryz.func69, Tryz.ntmps69
  go_wp2_with fail
  refine (unhide P1).mono ?_
  rintro e w1 ⟨q, G, rfl, h1, b1⟩
  have P3 := hide (unhide P2 w1 q G h1 (Nat.le_trans hBr b1.size))
  have B1 := hide b1
  clear P1 P2 h1 b1
  go_wp2_with fail
  refine (unhide P3).mono ?_
  rintro e w2 ⟨rfl, b2⟩
  have bA : Below w2.heap.size w2 (w2.alloc (.cells #[.int .i64 y.k, .int .i64 y.q, .int .i64 y.t, .string y.s, .string y.h, .string y.d] 30)) := (Below.refl _ _).alloc (Nat.le_refl _) _
  have PE := hide (unhide HE _ (bstep (bstep (unhide B1) b2) bA))
  clear P3 b2 B1 bA HE
  go_wp2_with fail
  refine (unhide PE).mono ?_
  rintro e w3 ⟨rfl, h3⟩
  have B3 := hide h3
  clear PE h3
  go_wp2_with fail
  go_ret
  exact ⟨rfl, unhide B3⟩

end
end Go.Proofs.YtohjipnkoiifhagGreatDoor.Dk

namespace Go.Proofs.YtohjipnkoiifhagGreatDoor.Dk
open Go.RowKit

section
variable {w : World} {x : Nat} {a : Option Addr} {c : Nat} {P : Pn.Pln}
theorem pre_bad {now : Int} {y : Po} (h : ¬ (inI now 0 1099511627776 = true ∧ -1 ≤ y.x ∧ 0 ≤ y.ro ∧ y.ro ≤ 2)) : preE P now y = 1 := by
  unfold preE
  rw [if_pos]
  cases h1 : inI now 0 1099511627776 with
  | false => rfl
  | true =>
    rw [h1] at h
    simp only [true_and, inI, Bool.true_and] at h ⊢
    rw [Bool.eq_false_iff]
    simp only [ne_eq, Bool.and_eq_true, decide_eq_true_eq]
    omega
theorem pre_good {now : Int} {y : Po} (h : inI now 0 1099511627776 = true ∧ -1 ≤ y.x ∧ 0 ≤ y.ro ∧ y.ro ≤ 2) : preE P now y = if errS false y.s ≠ 0 then errS false y.s
  else if takesP P y.s = false then 10
  else if (decide (256 < y.h.size + y.d.size) || ((decide (pv P 4 ≠ 0) && decide (pv P 4 < ((y.h.size + y.d.size : Nat) : Int))) || decide (16 < y.i.size))) = true then 2
  else 0 := by
  unfold preE
  rw [if_neg]
  rw [h.1]
  simp only [inI, Bool.true_and]
  rw [Bool.not_eq_false]
  simp only [Bool.and_eq_true, decide_eq_true_eq]
  omega

set_option maxRecDepth 100000 in
set_option maxHeartbeats 2000000 in
theorem checkpost_any (hpl : Pn.planE P = 0) (hsm : SmallP P) (h : PBx w x P a c) (hsl : SlS w a P.f) (now : Int) (y : Po) (hy : SmallO y) :
    Calls Tryz.prog 34 #[.pointer (some ⟨x, 0, none⟩), .int .i64 now, poV y] w fun e w' => e = .returned (.int .i64 (preE P now y)) ∧ Below w.heap.size w w' := by
  have b0 : Below w.heap.size w (w.alloc (poO y)) := (Below.refl _ _).alloc (Nat.le_refl _) _
  have hb := PoB.new w y
  have B0 := hide b0
  have d4 := hb.c4
  have d5 := hb.c5
  by_cases hg : inI now 0 1099511627776 = true ∧ -1 ≤ y.x ∧ 0 ≤ y.ro ∧ y.ro ≤ 2
  · obtain ⟨g1, g2, g3, g4⟩ := id hg
    have HI := hide g1
    have k1 : decide (y.x < -1) = false := decide_eq_false (by omega)
    have k2 : decide (y.ro < 0) = false := decide_eq_false (by omega)
    have k3 : decide (2 < y.ro) = false := decide_eq_false (by omega)
    have d0 := hb.c0
    have PS := hide (subject_any y.s (w.alloc (poO y)) hy.s)
    have HPre := hide (pre_good (P := P) hg)
    have PT := hide (fun (W : World) (hW : Below (w.alloc (poO y)).heap.size (w.alloc (poO y)) W) (hok : errS false y.s = 0) => ttakes_any hpl hsm ((h.next b0).next hW) ((hsl.next b0).next hW) y.s hy.s hok)
    have PL := hide (fun (W : World) (hW : Below (w.alloc (poO y)).heap.size (w.alloc (poO y)) W) => islarge_any hpl ((h.next b0).next hW) y hy)
    have HC := hide (fun (W : World) (hW : Below (w.alloc (poO y)).heap.size (w.alloc (poO y)) W) => hb.below hW)
    have HBe := hide (fun (W : World) (hW : Below (w.alloc (poO y)).heap.size (w.alloc (poO y)) W) => bstep b0 hW)
    obtain ⟨E, hE⟩ : ∃ E, errS false y.s = E := ⟨_, rfl⟩
    rw [hE] at PS HPre PT
    clear hg g1 g2 g3 g4 hb h hsl hpl hsm hy b0 hE
    go_enter Tryz.func34, Tryz.ntmps34
    go_wp2_with (go_at_call 62; refine (istime_any _ _).mono ?_; rintro e w1 ⟨rfl, rfl⟩; rw [unhide HI])
    refine (unhide PS).mono ?_
    rintro e w1 ⟨rfl, b1⟩
    by_cases h0 : E = 0
    · have d0 := (unhide HC w1 b1).c0
      have PT1 := hide (unhide PT w1 b1 h0)
      obtain ⟨T, hT⟩ : ∃ T, takesP P y.s = T := ⟨_, rfl⟩
      rw [hT] at PT1
      have HT := hide hT
      have B1 := hide b1
      have HPre2 := unhide HPre
      rw [if_neg (by rw [h0]; simp), hT] at HPre2
      have HPre3 := hide HPre2
      subst h0
      clear PS PT b1 hT HPre2 HPre d4 d5
      go_wp2_with fail
      refine (unhide PT1).mono ?_
      rintro e w2 ⟨rfl, b2⟩
      have B2 := hide (bstep (unhide B1) b2)
      clear PT1 b2
      cases T with
      | false =>
        have HPre4 := hide (unhide HPre3)
        rw [if_pos rfl] at HPre4
        clear HPre3
        go_wp2_with fail
        go_ret
        rw [unhide HPre4]
        exact ⟨rfl, unhide HBe _ (unhide B2)⟩
      | true =>
        have HPre4 := hide (unhide HPre3)
        rw [if_neg (by simp)] at HPre4
        have PL2 := hide (unhide PL w2 (unhide B2))
        obtain ⟨V, hV⟩ : ∃ V, (decide (256 < y.h.size + y.d.size) || ((decide (pv P 4 ≠ 0) && decide (pv P 4 < ((y.h.size + y.d.size : Nat) : Int))) || decide (16 < y.i.size))) = V := ⟨_, rfl⟩
        rw [hV] at HPre4 PL2
        obtain ⟨_, f0, f1, f2, f3, f4, f5⟩ := unhide HC w2 (unhide B2)
        clear HPre3 PL hV
        go_wp2_with fail
        refine (unhide PL2).mono ?_
        rintro e w3 ⟨rfl, b3⟩
        have B3 := hide (bstep (unhide B2) b3)
        clear PL2 b3 f0 f1 f2 f3 f4 f5
        cases V with
        | true =>
          rw [if_pos rfl] at HPre4
          go_wp2_with fail
          go_ret
          rw [unhide HPre4]
          exact ⟨rfl, unhide HBe _ (unhide B3)⟩
        | false =>
          rw [if_neg (by simp)] at HPre4
          go_wp2_with fail
          go_ret
          rw [unhide HPre4]
          exact ⟨rfl, unhide HBe _ (unhide B3)⟩
    · have e5 : (E != 0) = true := by simpa using h0
      have HPre2 := unhide HPre
      rw [if_pos h0] at HPre2
      have HPre3 := hide HPre2
      have B1 := hide b1
      clear PS PT b1 HPre2 HPre d4 d5
      go_wp2_with fail
      go_ret
      rw [unhide HPre3]
      exact ⟨rfl, unhide HBe _ (unhide B1)⟩
  · rw [pre_bad hg]
    clear hb h hsl hpl hsm hy b0
    cases hI : inI now 0 1099511627776 with
    | false =>
      have HI := hide hI
      clear hI hg
      go_enter Tryz.func34, Tryz.ntmps34
      go_wp2_with (go_at_call 62; refine (istime_any _ _).mono ?_; rintro e w1 ⟨rfl, rfl⟩; rw [unhide HI])
      go_ret
      exact ⟨rfl, unhide B0⟩
    | true =>
      have HI := hide hI
      by_cases k1 : y.x < -1
      · clear hI hg
        go_enter Tryz.func34, Tryz.ntmps34
        go_wp2_with (go_at_call 62; refine (istime_any _ _).mono ?_; rintro e w1 ⟨rfl, rfl⟩; rw [unhide HI])
        go_ret
        exact ⟨rfl, unhide B0⟩
      · have k1' : decide (y.x < -1) = false := decide_eq_false k1
        by_cases k2 : y.ro < 0
        · clear hI hg
          go_enter Tryz.func34, Tryz.ntmps34
          go_wp2_with (go_at_call 62; refine (istime_any _ _).mono ?_; rintro e w1 ⟨rfl, rfl⟩; rw [unhide HI])
          go_ret
          exact ⟨rfl, unhide B0⟩
        · have k2' : decide (y.ro < 0) = false := decide_eq_false k2
          have k3 : 2 < y.ro := Classical.byContradiction (fun z => hg ⟨by first | rfl | exact hI, by omega, by omega, by omega⟩)
          clear hI hg
          go_enter Tryz.func34, Tryz.ntmps34
          go_wp2_with (go_at_call 62; refine (istime_any _ _).mono ?_; rintro e w1 ⟨rfl, rfl⟩; rw [unhide HI])
          go_ret
          exact ⟨rfl, unhide B0⟩
end
end Go.Proofs.YtohjipnkoiifhagGreatDoor.Dk
