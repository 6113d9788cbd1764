/-
  The program's stream: roll, add.
  The program's stream: add.
  The program's stream: checkPost.
  The program's stream: isFull.
-/
import Derived.Test.YtmccpkpeimejhahGreatDoorJointOsAOsCOsKOsK2
import Derived.Test.YtmccpkpeimejhahGreatDoorJointOsEOsDOsD2OsH
import Derived.Deep.RegionHeld3
import Derived.Deep.RegionHeldLaw
namespace Go.Proofs.YtmccpkpeimejhahGreatDoor.Dk
open Go.RowKit

/-- what is rolled up -/
def rolE (m size now : Int) (y : Po) (q : Int) (st : Str) : Int := if y.ro = 0 then 0 else doE st.es st.s m size (purR q now (rollF y))
def rolT (m size now : Int) (y : Po) (q : Int) (st : Str) : Str := if y.ro = 0 then st else doT m size st (purR q now (rollF y))
/-- a record that stands in memory -/
abbrev At6 (g : Nat) (r : Rc) (w : World) : Prop := w.cell? ⟨g, 0, none⟩ = some (.int .i64 r.k) ∧ w.cell? ⟨g, 1, none⟩ = some (.int .i64 r.q) ∧ w.cell? ⟨g, 2, none⟩ = some (.int .i64 r.t) ∧ w.cell? ⟨g, 3, none⟩ = some (.string r.s) ∧ w.cell? ⟨g, 4, none⟩ = some (.string r.h) ∧ w.cell? ⟨g, 5, none⟩ = some (.string r.d)
section
variable {Has : World → Nat → Nat → (Nat → Prop) → Int → List Pap → Prop} {SH : World → Nat → Nat → (Nat → Prop) → Sto → Prop} {F0 Cs : Nat → Prop} {w wr w' : World} {B x : Nat} {a : Option Addr} {c : Nat} {mb : Option Nat} {P : Pn.Pln} {m size : Int} {st : Str}

set_option maxRecDepth 100000 in
set_option maxHeartbeats 2000000 in
theorem roll_any (U : Und Has SH) (h : Rst Has SH F0 Cs w wr B x a c mb P m size st) (hf : Fit P m size st) (hB : B ≤ w.heap.size) (now q : Int) (y : Po) (hy : SmallO y) (hr : 0 ≤ y.ro ∧ y.ro ≤ 2) :
    Calls Tryz.prog 43 #[.pointer (some ⟨x, 0, none⟩), .int .i64 now, .int .i64 q, poV y] wr fun e w' => e = .returned (.int .i64 (rolE m size now y q st)) ∧ Rst Has SH F0 Cs w w' B x a c mb P m size (rolT m size now y q st) ∧ Stay Cs wr w' := by
  have b0 : Below wr.heap.size wr (wr.alloc (poO y)) := (Below.refl _ _).alloc (Nat.le_refl _) _
  have r0 := h.below U.H U.S b0
  have s0 := h.stay b0
  have hx := h.lt
  obtain ⟨_, y0, y1, y2, y3, y4, y5⟩ := PoB.new wr y
  by_cases h1 : y.ro = 1
  · have e1 : (y.ro == 1) = true := by rw [beq_iff_eq]; exact h1
    have e2 : decide (y.ro = 1) = true := decide_eq_true h1
    have hF : rollF y = y.s := by unfold rollF; rw [if_pos h1]
    have HR := hide (show rolE m size now y q st = doE st.es st.s m size (purR q now y.s) ∧ rolT m size now y q st = doT m size st (purR q now y.s) from by
      unfold rolE rolT
      rw [hF, if_neg (by omega), if_neg (by omega)]
      exact ⟨rfl, rfl⟩)
    have PP := hide (tpurge_any U r0 hf hB now q y.s hy.s)
    have S0 := hide s0
    generalize doE st.es st.s m size (purR q now y.s) = D at *
    generalize doT m size st (purR q now y.s) = st' at *
    clear h hf r0 s0 h1 hr hF b0 hy
    go_enter Tryz.func43, Tryz.ntmps43
    go_wp2_with fail
    refine (unhide PP).mono ?_
    rintro e w1 ⟨rfl, r1, s1⟩
    have B1 := hide (And.intro r1 ((unhide S0).trans s1))
    clear PP r1 s1
    go_wp2_with fail
    go_ret
    rw [(unhide HR).1, (unhide HR).2]
    exact ⟨rfl, unhide B1⟩
  · have e1 : (y.ro == 1) = false := by rw [beq_eq_false_iff_ne]; exact h1
    have e2 : decide (y.ro = 1) = false := decide_eq_false h1
    by_cases h2 : y.ro = 2
    · have e3 : (y.ro == 2) = true := by rw [beq_iff_eq]; exact h2
      have e4 : decide (y.ro = 2) = true := decide_eq_true h2
      have hF : rollF y = ⟨#[62]⟩ := by unfold rollF; rw [if_neg h1]
      have HR := hide (show rolE m size now y q st = doE st.es st.s m size (purR q now ⟨#[62]⟩) ∧ rolT m size now y q st = doT m size st (purR q now ⟨#[62]⟩) from by
        unfold rolE rolT
        rw [hF, if_neg (by omega), if_neg (by omega)]
        exact ⟨rfl, rfl⟩)
      have PP := hide (tpurge_any U r0 hf hB now q ⟨#[62]⟩ (by decide))
      have S0 := hide s0
      generalize doE st.es st.s m size (purR q now ⟨#[62]⟩) = D at *
      generalize doT m size st (purR q now ⟨#[62]⟩) = st' at *
      clear h hf r0 s0 h1 h2 hr hF b0 hy
      go_enter Tryz.func43, Tryz.ntmps43
      go_wp2_with fail
      refine (unhide PP).mono ?_
      rintro e w1 ⟨rfl, r1, s1⟩
      have B1 := hide (And.intro r1 ((unhide S0).trans s1))
      clear PP r1 s1
      go_wp2_with fail
      go_ret
      rw [(unhide HR).1, (unhide HR).2]
      exact ⟨rfl, unhide B1⟩
    · have e3 : (y.ro == 2) = false := by rw [beq_eq_false_iff_ne]; exact h2
      have e4 : decide (y.ro = 2) = false := decide_eq_false h2
      have h3 : y.ro = 0 := by omega
      have HR := hide (show rolE m size now y q st = 0 ∧ rolT m size now y q st = st from by
        unfold rolE rolT
        rw [if_pos h3, if_pos h3]
        exact ⟨rfl, rfl⟩)
      have B1 := hide (And.intro r0 s0)
      clear h hf r0 s0 h1 h2 h3 hr b0 hy
      go_enter Tryz.func43, Tryz.ntmps43
      go_wp2_with fail
      go_ret
      rw [(unhide HR).1, (unhide HR).2]
      exact ⟨rfl, unhide B1⟩
theorem Fit.more {ids' : List Kn} (h : Fit P m size st) (hq : ∀ k ∈ ids', 1 ≤ k.q) : Fit P m size ⟨st.es, st.s, ids'⟩ := ⟨h.plan, h.vok, h.room, h.size, hq⟩
theorem Rst.few (h : Rst Has SH F0 Cs w wr B x a c mb P m size st) : (st.ids.length : Int) ≤ st.s.last := by
  obtain ⟨FV, h1, _⟩ := h
  exact h1.few
end
end Go.Proofs.YtmccpkpeimejhahGreatDoor.Dk

namespace Go.Proofs.YtmccpkpeimejhahGreatDoor.Dk
open Go.RowKit

section
variable {Has : World → Nat → Nat → (Nat → Prop) → Int → List Pap → Prop} {SH : World → Nat → Nat → (Nat → Prop) → Sto → Prop} {F0 Cs : Nat → Prop} {w wr w' : World} {B x : Nat} {a : Option Addr} {c : Nat} {mb : Option Nat} {P : Pn.Pln} {m size : Int} {st : Str}
theorem At6.stay {g : Nat} {r : Rc} {W W' : World} {D : Nat → Prop} (h : At6 g r W) (s : Stay D W W') (hg : D g) : At6 g r W' := ⟨(s.cell hg).trans h.1, (s.cell hg).trans h.2.1, (s.cell hg).trans h.2.2.1, (s.cell hg).trans h.2.2.2.1, (s.cell hg).trans h.2.2.2.2.1, (s.cell hg).trans h.2.2.2.2.2⟩
theorem doT_bad {r : Rc} (h : doE st.es st.s m size r ≠ 0) : doT m size st r = st := by
  unfold doT doL doS
  rw [if_neg h, if_neg h]
theorem put_bad {now : Int} {y : Po} (h : doE st.es st.s m size (msgR (st.s.last + 1) now y) ≠ 0) : putP m size now y st.ids st.es st.s = ((0, false, doE st.es st.s m size (msgR (st.s.last + 1) now y)), st) := by
  unfold putP
  rw [if_pos h]
theorem put_rolled {now : Int} {y : Po} {st1 : Str} (h : doE st.es st.s m size (msgR (st.s.last + 1) now y) = 0) (h1 : st1 = ⟨(doT m size st (msgR (st.s.last + 1) now y)).es, (doT m size st (msgR (st.s.last + 1) now y)).s, idsK st.ids y.i now (st.s.last + 1)⟩) :
    putP m size now y st.ids st.es st.s = ((if rolE m size now y (st.s.last + 1) st1 = 0 then st.s.last + 1 else 0, false, rolE m size now y (st.s.last + 1) st1), rolT m size now y (st.s.last + 1) st1) := by
  subst h1
  unfold putP rolE rolT
  rw [if_neg (by rw [h]; simp)]
  by_cases c1 : y.ro = 0
  · rw [if_pos c1, if_pos c1, if_pos c1]
    rfl
  · rw [if_neg c1, if_neg c1, if_neg c1]
    unfold doT idsK idsP
    simp only
    by_cases c2 : doE (doL st.es st.s m size (msgR (st.s.last + 1) now y)) (doS st.es st.s m size (msgR (st.s.last + 1) now y)) m size (purR (st.s.last + 1) now (rollF y)) = 0
    · rw [if_neg (by rw [c2]; simp), if_pos c2, c2]
    · rw [if_pos c2, if_neg c2]
      have e1 : doL (doL st.es st.s m size (msgR (st.s.last + 1) now y)) (doS st.es st.s m size (msgR (st.s.last + 1) now y)) m size (purR (st.s.last + 1) now (rollF y)) = doL st.es st.s m size (msgR (st.s.last + 1) now y) := by
        rw [doL, if_neg c2]
      have e2 : doS (doL st.es st.s m size (msgR (st.s.last + 1) now y)) (doS st.es st.s m size (msgR (st.s.last + 1) now y)) m size (purR (st.s.last + 1) now (rollF y)) = doS st.es st.s m size (msgR (st.s.last + 1) now y) := by
        rw [doS, if_neg c2]
      rw [e1, e2]

set_option maxRecDepth 100000 in
set_option maxHeartbeats 4000000 in
theorem add_any (U : Und Has SH) (h : Rst Has SH F0 Cs w wr B x a c mb P m size st) (hf : Fit P m size st) (hB : B ≤ w.heap.size) (now : Int) (y : Po) (hy : SmallO y) (hr : 0 ≤ y.ro ∧ y.ro ≤ 2) (hno : y.i.size ≠ 0 → pv P 7 ≠ 0 → ¬ 0 < seenQ st.ids y.i (now - pv P 7)) :
    Calls Tryz.prog 23 #[.pointer (some ⟨x, 0, none⟩), .int .i64 now, poV y] wr fun e w' => e = .returned (.tuple #[.int .i64 (putP m size now y st.ids st.es st.s).1.1, .int .i64 (putP m size now y st.ids st.es st.s).1.2.2]) ∧ (∃ mb', Rst Has SH F0 Cs w w' B x a c mb' P m size (putP m size now y st.ids st.es st.s).2) ∧ Stay Cs wr w' := by
  have b0 : Below wr.heap.size wr (wr.alloc (poO y)) := (Below.refl _ _).alloc (Nat.le_refl _) _
  have hk := hf.vok.ok
  have hlast := hk.last
  have r0 := h.mine U.H U.S (Cs' := fun k => Cs k ∨ k = wr.heap.size) b0 (fun k hk => by
    rcases hk with z | z
    · exact .inl z
    · exact .inr ⟨by omega, by subst z; simp⟩)
  have p0 := PoB.new wr y
  have s0 := h.stay b0
  have P1 := hide (tstore_any r0)
  have P2 := hide (fun (W : World) (q : Nat) (G : Nat → Prop) (hS : SH W B q G st.s) (hW : B ≤ W.heap.size) => U.S.sees.sums hS hk hW)
  have hBr := Nat.le_trans hB r0.room
  have R0 := hide r0
  have HP := hide (fun (W : World) (hW : Below (wr.alloc (poO y)).heap.size (wr.alloc (poO y)) W) => p0.below hW)
  have S0 := hide s0
  have hsl : ∀ x0 x1 x2 x3 : Value, ∀ W : World, (Instr.field 46 (.agg #[x0, x1, x2, x3]) 3).run Tryz.prog W = .ok x3 W := fun _ _ _ _ _ => by kernel_rfl
  have hms : Small (msgR (st.s.last + 1) now y) := ⟨hy.s, hy.h, hy.d⟩
  have HF := hide hf
  have HFew := hide h.few
  have HY := hide hy
  have HRo := hide hr
  have HNo := hide hno
  obtain ⟨r, hrr⟩ : ∃ r, msgR (st.s.last + 1) now y = r := ⟨_, rfl⟩
  have HRR := hide hrr
  obtain ⟨l0, l1⟩ := hlast
  obtain ⟨last, hla⟩ : ∃ last, st.s.last = last := ⟨_, rfl⟩
  have HLa := hide hla
  rw [hla] at P2 l0 l1
  rw [hrr] at hms
  generalize (st.s.l.length : Int) = n1 at P2
  generalize (byteN st.s.l : Int) = n2 at P2
  generalize firstQ st.s.l = n3 at P2
  clear h hf hk r0 p0 b0 s0 hy hr hno hrr hla
  go_enter Tryz.func23, Tryz.ntmps23
  go_wp2_with fail
  refine (unhide P1).mono ?_
  rintro e w1 ⟨q, G, rfl, h1, b1⟩
  have P3 := hide (unhide P2 w1 q G h1 (Nat.le_trans hBr b1.size))
  have B1 := hide b1
  clear P1 P2 h1 b1
  go_wp2_with fail
  refine (unhide P3).mono ?_
  rintro e w2 ⟨rfl, b2⟩
  have B2 := hide (bstep (unhide B1) b2)
  obtain ⟨hpl, z0, z1, z2, z3, z4, z5⟩ := unhide HP w2 (unhide B2)
  clear P3 b2 B1
  have er : r = ⟨1, last + 1, now, y.s, y.h, y.d⟩ := by rw [← unhide HRR, unhide HLa]; rfl
  have bA : Below w2.heap.size w2 (w2.alloc (.cells #[.int .i64 1, .int .i64 (last + 1), .int .i64 now, .string y.s, .string y.h, .string y.d] 42)) := (Below.refl _ _).alloc (Nat.le_refl _) _
  have bA2 : Below w2.heap.size w2 (w2.alloc (.cells #[.int .i64 1, .int .i64 (last + 1), .int .i64 now, .string y.s, .string y.h, .string y.d] 42)).drew := bA.drew
  have R3 := hide ((((unhide R0).below U.H U.S (unhide B2)).mine U.H U.S (Cs' := fun k => (Cs k ∨ k = wr.heap.size) ∨ k = w2.heap.size) bA2 (fun k hk => by
    rcases hk with z | z
    · exact .inl z
    · exact .inr ⟨by omega, by subst z; simp⟩)))
  have S3 := hide (((unhide S0).trans ⟨(unhide B2).size, fun k hk => ((unhide R0).stay (unhide B2)).2 k (.inl hk)⟩).trans ⟨bA2.size, fun k hk => (((unhide R0).below U.H U.S (unhide B2)).stay bA2).2 k (.inl hk)⟩)
  have k3 : At6 w2.heap.size r (w2.alloc (.cells #[.int .i64 1, .int .i64 (last + 1), .int .i64 now, .string y.s, .string y.h, .string y.d] 42)).drew := by
    rw [er]
    exact ⟨by simp, by simp, by simp, by simp, by simp, by simp⟩
  have PO3 := hide ((unhide HP w2 (unhide B2)).below bA2)
  have PD := hide ((unhide R3).vdo U (unhide HF) hB r hms)
  have HK3 := hide k3
  clear er bA bA2 z4 z5 z1
  go_wp2_with fail
  go_region_held3 (At6 w2.heap.size r) (first | assumption | go_keep)
    (first
      | (go_at_call 41; refine (unhide PD).mono ?_; rintro e w4 ⟨rfl, r4, s4⟩; have k4 := At6.stay (unhide HK3) s4 (.inr rfl); have R4 := hide r4; have S4 := hide s4; clear r4 s4))
  have PO4 := hide ((unhide PO3).stay (unhide S4) (.inl (.inr rfl)))
  have SS4 := hide ((unhide S3).trans ((unhide S4).fewer (fun k hk => .inl (.inl hk))))
  clear k3 k4 HK3 PD R3 S3 S4 PO3 hpl z0 z2 z3
  obtain ⟨E, hE⟩ : ∃ E, doE st.es st.s m size r = E := ⟨_, rfl⟩
  rw [hE]
  have HE := hide hE
  clear hE
  by_cases h0 : E = 0
  · have hz := (unhide HE).trans h0
    have hzm : doE st.es st.s m size (msgR (st.s.last + 1) now y) = 0 := by rw [unhide HRR]; exact hz
    have hl1 : (doT m size st r).s.last = last + 1 := by
      show (doS st.es st.s m size r).last = last + 1
      rw [← unhide HRR, msg_did hzm, unhide HLa]
    have F4 := hide ((unhide HF).did r)
    have PK := hide (know_any U (unhide R4) (unhide F4) hB y.i (unhide HY).i (last + 1) now (fun u v => by have t := unhide HNo u v; show ¬ 0 < seenQ st.ids y.i (now - pv P 7); omega) (by rw [hl1, ← unhide HLa]; have := unhide HFew; show (st.ids.length : Int) + 1 ≤ _; omega))
    have y1 := (unhide PO4).c1
    obtain ⟨st2, hst2⟩ : ∃ st2, st2 = (⟨(doT m size st r).es, (doT m size st r).s, idsK (doT m size st r).ids y.i now (last + 1)⟩ : Str) := ⟨_, rfl⟩
    rw [← hst2] at PK
    have F5 := hide (show Fit P m size st2 from by
      rw [hst2]
      refine (unhide F4).more (fun k hk => ?_)
      have hk' : k ∈ idsP st.ids y now (last + 1) := hk
      exact ids_low (unhide HF).seqs (by omega) k hk')
    have HPut := hide (put_rolled (now := now) (y := y) (st1 := st2) hzm (by rw [hst2, unhide HRR, unhide HLa]; rfl))
    rw [unhide HLa] at HPut
    subst h0
    clear hz hzm hl1 hst2 F4 HE
    go_wp2_with fail
    refine (unhide PK).mono ?_
    rintro e w5 ⟨rfl, ⟨mb5, r5⟩, s5⟩
    have PO5 := hide ((unhide PO4).stay s5 (.inl (.inr rfl)))
    have SS5 := hide ((unhide SS4).trans (s5.fewer (fun k hk => .inl (.inl hk))))
    have PR := hide (roll_any U r5 (unhide F5) hB now (last + 1) y (unhide HY) (unhide HRo))
    obtain ⟨_, v0, v1, v2, v3, v4, v5⟩ := unhide PO5
    obtain ⟨D, hD⟩ : ∃ D, rolE m size now y (last + 1) st2 = D := ⟨_, rfl⟩
    rw [hD] at PR HPut
    clear PK R4 PO4 SS4 y1 r5 s5 hD
    go_wp2_with fail
    refine (unhide PR).mono ?_
    rintro e w6 ⟨rfl, r6, s6⟩
    have E6 := hide (show (∃ mb', Rst Has SH F0 Cs w w6 B x a c mb' P m size (putP m size now y st.ids st.es st.s).2) ∧ Stay Cs wr w6 from ⟨⟨mb5, by rw [unhide HPut]; exact r6.fewer U (fun k hk => .inl (.inl hk))⟩, (unhide SS5).trans (s6.fewer (fun k hk => .inl (.inl hk)))⟩)
    clear PR r6 s6 SS5 PO5 v0 v1 v2 v3 v4 v5
    by_cases hD0 : D = 0
    · have HQ := hide (show (putP m size now y st.ids st.es st.s).1.1 = last + 1 ∧ (putP m size now y st.ids st.es st.s).1.2.2 = 0 from by rw [unhide HPut, if_pos hD0]; exact ⟨rfl, hD0⟩)
      subst hD0
      clear HPut
      go_wp2_with fail
      go_ret2
      rw [(unhide HQ).1, (unhide HQ).2]
      exact ⟨rfl, unhide E6⟩
    · have HQ := hide (show (putP m size now y st.ids st.es st.s).1.1 = 0 ∧ (putP m size now y st.ids st.es st.s).1.2.2 = D from by rw [unhide HPut, if_neg hD0]; exact ⟨rfl, rfl⟩)
      have e5 : (D != 0) = true := by simpa using hD0
      clear HPut
      go_wp2_with fail
      go_ret2
      rw [(unhide HQ).1, (unhide HQ).2]
      exact ⟨rfl, unhide E6⟩
  · have hb := doT_bad (by rw [unhide HE]; exact h0 : doE st.es st.s m size r ≠ 0)
    have hp := put_bad (now := now) (y := y) (by rw [unhide HRR, unhide HE]; exact h0 : doE st.es st.s m size (msgR (st.s.last + 1) now y) ≠ 0)
    rw [unhide HRR, unhide HE] at hp
    have E6 := hide (show (∃ mb', Rst Has SH F0 Cs w w4 B x a c mb' P m size (putP m size now y st.ids st.es st.s).2) ∧ Stay Cs wr w4 from ⟨⟨mb, by rw [hp, ← hb]; exact (unhide R4).fewer U (fun k hk => .inl (.inl hk))⟩, unhide SS4⟩)
    have HQ := hide (show (putP m size now y st.ids st.es st.s).1.1 = 0 ∧ (putP m size now y st.ids st.es st.s).1.2.2 = E from by rw [hp]; exact ⟨rfl, rfl⟩)
    have e5 : (E != 0) = true := by simpa using h0
    clear hb hp HE R4 SS4 PO4
    go_wp2_with fail
    go_ret2
    rw [(unhide HQ).1, (unhide HQ).2]
    exact ⟨rfl, unhide E6⟩
end
end Go.Proofs.YtmccpkpeimejhahGreatDoor.Dk

namespace Go.Proofs.YtmccpkpeimejhahGreatDoor.Dk
open Go.RowKit

section
variable {w : World} {x : Nat} {a : Option Addr} {c : Nat} {P : Pn.Pln}
theorem pre_bad {now : Int} {y : Po} (h : ¬ (inI now 0 1099511627776 = true ∧ -1 ≤ y.x ∧ 0 ≤ y.ro ∧ y.ro ≤ 2)) : preE P now y = 1 := by
  unfold preE
  rw [if_pos]
  cases h1 : inI now 0 1099511627776 with
  | false => rfl
  | true =>
    rw [h1] at h
    simp only [true_and, inI, Bool.true_and] at h ⊢
    rw [Bool.eq_false_iff]
    simp only [ne_eq, Bool.and_eq_true, decide_eq_true_eq]
    omega
theorem pre_good {now : Int} {y : Po} (h : inI now 0 1099511627776 = true ∧ -1 ≤ y.x ∧ 0 ≤ y.ro ∧ y.ro ≤ 2) : preE P now y = if errS false y.s ≠ 0 then errS false y.s
  else if takesP P y.s = false then 10
  else if (decide (256 < y.h.size + y.d.size) || ((decide (pv P 4 ≠ 0) && decide (pv P 4 < ((y.h.size + y.d.size : Nat) : Int))) || decide (16 < y.i.size))) = true then 2
  else 0 := by
  unfold preE
  rw [if_neg]
  rw [h.1]
  simp only [inI, Bool.true_and]
  rw [Bool.not_eq_false]
  simp only [Bool.and_eq_true, decide_eq_true_eq]
  omega

set_option maxRecDepth 100000 in
set_option maxHeartbeats 2000000 in
theorem checkpost_any (hpl : Pn.planE P = 0) (hsm : SmallP P) (h : PBx w x P a c) (hsl : SlS w a P.f) (now : Int) (y : Po) (hy : SmallO y) :
    Calls Tryz.prog 19 #[.pointer (some ⟨x, 0, none⟩), .int .i64 now, poV y] w fun e w' => e = .returned (.int .i64 (preE P now y)) ∧ Below w.heap.size w w' := by
  have b0 : Below w.heap.size w (w.alloc (poO y)) := (Below.refl _ _).alloc (Nat.le_refl _) _
  have hb := PoB.new w y
  have B0 := hide b0
  have d4 := hb.c4
  have d5 := hb.c5
  by_cases hg : inI now 0 1099511627776 = true ∧ -1 ≤ y.x ∧ 0 ≤ y.ro ∧ y.ro ≤ 2
  · obtain ⟨g1, g2, g3, g4⟩ := id hg
    have HI := hide g1
    have k1 : decide (y.x < -1) = false := decide_eq_false (by omega)
    have k2 : decide (y.ro < 0) = false := decide_eq_false (by omega)
    have k3 : decide (2 < y.ro) = false := decide_eq_false (by omega)
    have d0 := hb.c0
    have PS := hide (subject_any y.s (w.alloc (poO y)) hy.s)
    have HPre := hide (pre_good (P := P) hg)
    have PT := hide (fun (W : World) (hW : Below (w.alloc (poO y)).heap.size (w.alloc (poO y)) W) (hok : errS false y.s = 0) => ttakes_any hpl hsm ((h.next b0).next hW) ((hsl.next b0).next hW) y.s hy.s hok)
    have PL := hide (fun (W : World) (hW : Below (w.alloc (poO y)).heap.size (w.alloc (poO y)) W) => islarge_any hpl ((h.next b0).next hW) y hy)
    have HC := hide (fun (W : World) (hW : Below (w.alloc (poO y)).heap.size (w.alloc (poO y)) W) => hb.below hW)
    have HBe := hide (fun (W : World) (hW : Below (w.alloc (poO y)).heap.size (w.alloc (poO y)) W) => bstep b0 hW)
    obtain ⟨E, hE⟩ : ∃ E, errS false y.s = E := ⟨_, rfl⟩
    rw [hE] at PS HPre PT
    clear hg g1 g2 g3 g4 hb h hsl hpl hsm hy b0 hE
    go_enter Tryz.func19, Tryz.ntmps19
    go_wp2_with (go_at_call 33; refine (istime_any _ _).mono ?_; rintro e w1 ⟨rfl, rfl⟩; rw [unhide HI])
    refine (unhide PS).mono ?_
    rintro e w1 ⟨rfl, b1⟩
    by_cases h0 : E = 0
    · have d0 := (unhide HC w1 b1).c0
      have PT1 := hide (unhide PT w1 b1 h0)
      obtain ⟨T, hT⟩ : ∃ T, takesP P y.s = T := ⟨_, rfl⟩
      rw [hT] at PT1
      have HT := hide hT
      have B1 := hide b1
      have HPre2 := unhide HPre
      rw [if_neg (by rw [h0]; simp), hT] at HPre2
      have HPre3 := hide HPre2
      subst h0
      clear PS PT b1 hT HPre2 HPre d4 d5
      go_wp2_with fail
      refine (unhide PT1).mono ?_
      rintro e w2 ⟨rfl, b2⟩
      have B2 := hide (bstep (unhide B1) b2)
      clear PT1 b2
      cases T with
      | false =>
        have HPre4 := hide (unhide HPre3)
        rw [if_pos rfl] at HPre4
        clear HPre3
        go_wp2_with fail
        go_ret
        rw [unhide HPre4]
        exact ⟨rfl, unhide HBe _ (unhide B2)⟩
      | true =>
        have HPre4 := hide (unhide HPre3)
        rw [if_neg (by simp)] at HPre4
        have PL2 := hide (unhide PL w2 (unhide B2))
        obtain ⟨V, hV⟩ : ∃ V, (decide (256 < y.h.size + y.d.size) || ((decide (pv P 4 ≠ 0) && decide (pv P 4 < ((y.h.size + y.d.size : Nat) : Int))) || decide (16 < y.i.size))) = V := ⟨_, rfl⟩
        rw [hV] at HPre4 PL2
        obtain ⟨_, f0, f1, f2, f3, f4, f5⟩ := unhide HC w2 (unhide B2)
        clear HPre3 PL hV
        go_wp2_with fail
        refine (unhide PL2).mono ?_
        rintro e w3 ⟨rfl, b3⟩
        have B3 := hide (bstep (unhide B2) b3)
        clear PL2 b3 f0 f1 f2 f3 f4 f5
        cases V with
        | true =>
          rw [if_pos rfl] at HPre4
          go_wp2_with fail
          go_ret
          rw [unhide HPre4]
          exact ⟨rfl, unhide HBe _ (unhide B3)⟩
        | false =>
          rw [if_neg (by simp)] at HPre4
          go_wp2_with fail
          go_ret
          rw [unhide HPre4]
          exact ⟨rfl, unhide HBe _ (unhide B3)⟩
    · have e5 : (E != 0) = true := by simpa using h0
      have HPre2 := unhide HPre
      rw [if_pos h0] at HPre2
      have HPre3 := hide HPre2
      have B1 := hide b1
      clear PS PT b1 HPre2 HPre d4 d5
      go_wp2_with fail
      go_ret
      rw [unhide HPre3]
      exact ⟨rfl, unhide HBe _ (unhide B1)⟩
  · rw [pre_bad hg]
    clear hb h hsl hpl hsm hy b0
    cases hI : inI now 0 1099511627776 with
    | false =>
      have HI := hide hI
      clear hI hg
      go_enter Tryz.func19, Tryz.ntmps19
      go_wp2_with (go_at_call 33; refine (istime_any _ _).mono ?_; rintro e w1 ⟨rfl, rfl⟩; rw [unhide HI])
      go_ret
      exact ⟨rfl, unhide B0⟩
    | true =>
      have HI := hide hI
      by_cases k1 : y.x < -1
      · clear hI hg
        go_enter Tryz.func19, Tryz.ntmps19
        go_wp2_with (go_at_call 33; refine (istime_any _ _).mono ?_; rintro e w1 ⟨rfl, rfl⟩; rw [unhide HI])
        go_ret
        exact ⟨rfl, unhide B0⟩
      · have k1' : decide (y.x < -1) = false := decide_eq_false k1
        by_cases k2 : y.ro < 0
        · clear hI hg
          go_enter Tryz.func19, Tryz.ntmps19
          go_wp2_with (go_at_call 33; refine (istime_any _ _).mono ?_; rintro e w1 ⟨rfl, rfl⟩; rw [unhide HI])
          go_ret
          exact ⟨rfl, unhide B0⟩
        · have k2' : decide (y.ro < 0) = false := decide_eq_false k2
          have k3 : 2 < y.ro := Classical.byContradiction (fun z => hg ⟨by first | rfl | exact hI, by omega, by omega, by omega⟩)
          clear hI hg
          go_enter Tryz.func19, Tryz.ntmps19
          go_wp2_with (go_at_call 33; refine (istime_any _ _).mono ?_; rintro e w1 ⟨rfl, rfl⟩; rw [unhide HI])
          go_ret
          exact ⟨rfl, unhide B0⟩
end
end Go.Proofs.YtmccpkpeimejhahGreatDoor.Dk

namespace Go.Proofs.YtmccpkpeimejhahGreatDoor.Dk
open Go.RowKit

/-- two of a plan's numbers, a post, two of the sums, that are read -/
abbrev AtF (x : Nat) (M0 M1 : Int) (b : Nat) (y : Po) (g : Nat) (n k : Int) (w : World) : Prop := w.cell? ⟨x, 2, none⟩ = some (.int .i64 M0) ∧ w.cell? ⟨x, 3, none⟩ = some (.int .i64 M1) ∧ w.cell? ⟨b, 0, none⟩ = some (.string y.s) ∧ w.cell? ⟨b, 1, none⟩ = some (.string y.i) ∧ w.cell? ⟨b, 2, none⟩ = some (.string y.h) ∧ w.cell? ⟨b, 3, none⟩ = some (.string y.d) ∧ w.cell? ⟨b, 4, none⟩ = some (.int .i64 y.x) ∧ w.cell? ⟨b, 5, none⟩ = some (.int .i64 y.ro) ∧ w.cell? ⟨g, 0, none⟩ = some (.int .i64 n) ∧ w.cell? ⟨g, 1, none⟩ = some (.int .i64 k)
section
variable {Has : World → Nat → Nat → (Nat → Prop) → Int → List Pap → Prop} {SH : World → Nat → Nat → (Nat → Prop) → Sto → Prop} {F0 Cs : Nat → Prop} {w wr : World} {B x : Nat} {a : Option Addr} {c : Nat} {mb : Option Nat} {P : Pn.Pln} {m size : Int} {st : Str}

set_option maxRecDepth 100000 in
set_option maxHeartbeats 4000000 in
theorem isfull_t (U : Und Has SH) (h : Rst Has SH F0 Cs w wr B x a c mb P m size st) (hf : Fit P m size st) (hB : B ≤ w.heap.size) (y : Po) (hy : SmallO y) (hA : nth P.v 0 ≠ 0 ∧ nth P.v 0 ≤ (st.s.l.length : Int)) :
    Calls Tryz.prog 39 #[.pointer (some ⟨x, 0, none⟩), poV y] wr fun e w' => e = .returned (.bool (fullB P st.s.l y)) ∧ Below wr.heap.size wr w' := by
  have b0 : Below wr.heap.size wr (wr.alloc (poO y)) := (Below.refl _ _).alloc (Nat.le_refl _) _
  have r1 := h.below U.H U.S b0
  have p1 := PoB.new wr y
  have hk := hf.vok.ok
  have P1 := hide (tstore_any r1)
  have P2 := hide (fun (W : World) (q : Nat) (G : Nat → Prop) (hS : SH W B q G st.s) (hW : B ≤ W.heap.size) => U.S.sees.sums hS hk hW)
  have hBr := Nat.le_trans hB r1.room
  have HW := hide (fun (W : World) (hW : Below (wr.alloc (poO y)).heap.size (wr.alloc (poO y)) W) => show PBx W x P a c ∧ PoB W wr.heap.size y ∧ Below wr.heap.size wr W from ⟨(r1.below U.H U.S hW).plan, p1.below hW, bstep b0 hW⟩)
  have hbytes := hk.bytes
  have PZ := hide (fun W => sizeof_any y hy W)
  have hz : szP y ≤ 422212465065984 := by
    have h1 := hy.s
    have h2 := hy.h
    have h3 := hy.d
    unfold szP
    omega
  have hfew := hk.few
  have HFu : Hid (fullB P st.s.l y = ((decide (nth P.v 0 ≠ 0) && decide (nth P.v 0 ≤ (st.s.l.length : Int))) || (decide (nth P.v 1 ≠ 0) && decide (nth P.v 1 < (byteN st.s.l : Int) + (szP y : Int))))) := hide (by unfold fullB pv; rw [Int.natCast_add])
  obtain ⟨L, hL⟩ : ∃ L, st.s.l.length = L := ⟨_, rfl⟩
  obtain ⟨K, hK⟩ : ∃ K, byteN st.s.l = K := ⟨_, rfl⟩
  obtain ⟨Z, hZ⟩ : ∃ Z, szP y = Z := ⟨_, rfl⟩
  rw [hL, hK] at P2
  rw [hL, hK, hZ] at HFu
  rw [hZ] at PZ hz
  rw [hL] at hfew
  rw [hL] at hA
  rw [hK] at hbytes
  generalize firstQ st.s.l = fq at *
  clear h hf hk r1 p1 b0 hy hL hK hZ
  go_enter Tryz.func39, Tryz.ntmps39
  go_wp2_with fail
  refine (unhide P1).mono ?_
  rintro e w1 ⟨q, G, rfl, h1, b1⟩
  have P3 := hide (unhide P2 w1 q G h1 (Nat.le_trans hBr b1.size))
  have B1 := hide b1
  clear P1 P2 h1 b1
  go_wp2_with fail
  refine (unhide P3).mono ?_
  rintro e w2 ⟨rfl, b2⟩
  have B2 := hide (bstep (unhide B1) b2)
  clear P3 b2 B1
  obtain ⟨hp2, hy2, hb2⟩ := unhide HW w2 (unhide B2)
  have HB2 := hide hb2
  have hx2 := hp2.lt
  have c2 := hp2.c2
  have c3 := hp2.c3
  have hby := hy2.lt
  have bA : Below w2.heap.size w2 (w2.alloc (.cells #[.int .i64 (L : Int), .int .i64 (K : Int), .int .i64 fq, .int .i64 st.s.last] 46)) := (Below.refl _ _).alloc (Nat.le_refl _) _
  have HB3 := hide (fun n => below_drewN (bstep hb2 bA) n)
  have k0 : AtF x (nth P.v 0) (nth P.v 1) wr.heap.size y w2.heap.size (L : Int) (K : Int) (w2.alloc (.cells #[.int .i64 (L : Int), .int .i64 (K : Int), .int .i64 fq, .int .i64 st.s.last] 46)).drew := by
    have hy3 := (hy2.below bA).below (Below.refl _ _).drew
    have hp3 := (hp2.next bA).next (Below.refl _ _).drew
    exact ⟨hp3.c2, hp3.c3, hy3.c0, hy3.c1, hy3.c2, hy3.c3, hy3.c4, hy3.c5, by simp, by simp⟩
  have HK := hide (fun (W : World) (hW : Below (w2.alloc (.cells #[.int .i64 (L : Int), .int .i64 (K : Int), .int .i64 fq, .int .i64 st.s.last] 46)).drew.heap.size (w2.alloc (.cells #[.int .i64 (L : Int), .int .i64 (K : Int), .int .i64 fq, .int .i64 st.s.last] 46)).drew W) => show AtF x (nth P.v 0) (nth P.v 1) wr.heap.size y w2.heap.size (L : Int) (K : Int) W ∧ Below wr.heap.size wr W from by
    have hy3 := ((hy2.below bA).below (Below.refl _ _).drew).below hW
    have hp3 := ((hp2.next bA).next (Below.refl _ _).drew).next hW
    exact ⟨⟨hp3.c2, hp3.c3, hy3.c0, hy3.c1, hy3.c2, hy3.c3, hy3.c4, hy3.c5, (hW.cell (p := ⟨w2.heap.size, 0, none⟩) (by simp)).trans k0.2.2.2.2.2.2.2.2.1, (hW.cell (p := ⟨w2.heap.size, 1, none⟩) (by simp)).trans k0.2.2.2.2.2.2.2.2.2⟩, bstep (bstep hb2 bA).drew hW⟩)
  generalize nth P.v 0 = M0 at *
  generalize nth P.v 1 = M1 at *
  have hyc := hy2
  obtain ⟨_, y0, y1, y2, y3, y4, y5⟩ := hyc
  clear hp2 hy2 hb2 bA HW B2 HB2
  have e1 : (M0 != 0) = true := by simpa using hA.1
  have e2 : M0 ≤ (L : Int) := hA.2
  have e3 : fullB P st.s.l y = true := by rw [unhide HFu, decide_eq_true hA.1, decide_eq_true hA.2]; rfl
  have E3 := hide e3
  clear hA e3 HFu PZ HK k0
  go_wp2_with fail
  go_quiet (fail)
  go_wp2_with fail
  go_ret
  exact ⟨by rw [unhide E3]; rfl, unhide HB3 _⟩

set_option maxRecDepth 100000 in
set_option maxHeartbeats 4000000 in
theorem isfull_zz (U : Und Has SH) (h : Rst Has SH F0 Cs w wr B x a c mb P m size st) (hf : Fit P m size st) (hB : B ≤ w.heap.size) (y : Po) (hy : SmallO y) (hM0 : nth P.v 0 = 0) (hM1 : nth P.v 1 = 0) :
    Calls Tryz.prog 39 #[.pointer (some ⟨x, 0, none⟩), poV y] wr fun e w' => e = .returned (.bool (fullB P st.s.l y)) ∧ Below wr.heap.size wr w' := by
  have b0 : Below wr.heap.size wr (wr.alloc (poO y)) := (Below.refl _ _).alloc (Nat.le_refl _) _
  have r1 := h.below U.H U.S b0
  have p1 := PoB.new wr y
  have hk := hf.vok.ok
  have P1 := hide (tstore_any r1)
  have P2 := hide (fun (W : World) (q : Nat) (G : Nat → Prop) (hS : SH W B q G st.s) (hW : B ≤ W.heap.size) => U.S.sees.sums hS hk hW)
  have hBr := Nat.le_trans hB r1.room
  have HW := hide (fun (W : World) (hW : Below (wr.alloc (poO y)).heap.size (wr.alloc (poO y)) W) => show PBx W x P a c ∧ PoB W wr.heap.size y ∧ Below wr.heap.size wr W from ⟨(r1.below U.H U.S hW).plan, p1.below hW, bstep b0 hW⟩)
  have hbytes := hk.bytes
  have PZ := hide (fun W => sizeof_any y hy W)
  have hz : szP y ≤ 422212465065984 := by
    have h1 := hy.s
    have h2 := hy.h
    have h3 := hy.d
    unfold szP
    omega
  have hfew := hk.few
  have HFu : Hid (fullB P st.s.l y = ((decide (nth P.v 0 ≠ 0) && decide (nth P.v 0 ≤ (st.s.l.length : Int))) || (decide (nth P.v 1 ≠ 0) && decide (nth P.v 1 < (byteN st.s.l : Int) + (szP y : Int))))) := hide (by unfold fullB pv; rw [Int.natCast_add])
  obtain ⟨L, hL⟩ : ∃ L, st.s.l.length = L := ⟨_, rfl⟩
  obtain ⟨K, hK⟩ : ∃ K, byteN st.s.l = K := ⟨_, rfl⟩
  obtain ⟨Z, hZ⟩ : ∃ Z, szP y = Z := ⟨_, rfl⟩
  rw [hL, hK] at P2
  rw [hL, hK, hZ] at HFu
  rw [hZ] at PZ hz
  rw [hL] at hfew
  rw [hK] at hbytes
  generalize firstQ st.s.l = fq at *
  clear h hf hk r1 p1 b0 hy hL hK hZ
  go_enter Tryz.func39, Tryz.ntmps39
  go_wp2_with fail
  refine (unhide P1).mono ?_
  rintro e w1 ⟨q, G, rfl, h1, b1⟩
  have P3 := hide (unhide P2 w1 q G h1 (Nat.le_trans hBr b1.size))
  have B1 := hide b1
  clear P1 P2 h1 b1
  go_wp2_with fail
  refine (unhide P3).mono ?_
  rintro e w2 ⟨rfl, b2⟩
  have B2 := hide (bstep (unhide B1) b2)
  clear P3 b2 B1
  obtain ⟨hp2, hy2, hb2⟩ := unhide HW w2 (unhide B2)
  have HB2 := hide hb2
  have hx2 := hp2.lt
  have c2 := hp2.c2
  have c3 := hp2.c3
  have hby := hy2.lt
  have bA : Below w2.heap.size w2 (w2.alloc (.cells #[.int .i64 (L : Int), .int .i64 (K : Int), .int .i64 fq, .int .i64 st.s.last] 46)) := (Below.refl _ _).alloc (Nat.le_refl _) _
  have HB3 := hide (fun n => below_drewN (bstep hb2 bA) n)
  have k0 : AtF x (nth P.v 0) (nth P.v 1) wr.heap.size y w2.heap.size (L : Int) (K : Int) (w2.alloc (.cells #[.int .i64 (L : Int), .int .i64 (K : Int), .int .i64 fq, .int .i64 st.s.last] 46)).drew := by
    have hy3 := (hy2.below bA).below (Below.refl _ _).drew
    have hp3 := (hp2.next bA).next (Below.refl _ _).drew
    exact ⟨hp3.c2, hp3.c3, hy3.c0, hy3.c1, hy3.c2, hy3.c3, hy3.c4, hy3.c5, by simp, by simp⟩
  have HK := hide (fun (W : World) (hW : Below (w2.alloc (.cells #[.int .i64 (L : Int), .int .i64 (K : Int), .int .i64 fq, .int .i64 st.s.last] 46)).drew.heap.size (w2.alloc (.cells #[.int .i64 (L : Int), .int .i64 (K : Int), .int .i64 fq, .int .i64 st.s.last] 46)).drew W) => show AtF x (nth P.v 0) (nth P.v 1) wr.heap.size y w2.heap.size (L : Int) (K : Int) W ∧ Below wr.heap.size wr W from by
    have hy3 := ((hy2.below bA).below (Below.refl _ _).drew).below hW
    have hp3 := ((hp2.next bA).next (Below.refl _ _).drew).next hW
    exact ⟨⟨hp3.c2, hp3.c3, hy3.c0, hy3.c1, hy3.c2, hy3.c3, hy3.c4, hy3.c5, (hW.cell (p := ⟨w2.heap.size, 0, none⟩) (by simp)).trans k0.2.2.2.2.2.2.2.2.1, (hW.cell (p := ⟨w2.heap.size, 1, none⟩) (by simp)).trans k0.2.2.2.2.2.2.2.2.2⟩, bstep (bstep hb2 bA).drew hW⟩)
  generalize nth P.v 0 = M0 at *
  generalize nth P.v 1 = M1 at *
  have hyc := hy2
  obtain ⟨_, y0, y1, y2, y3, y4, y5⟩ := hyc
  clear hp2 hy2 hb2 bA HW B2 HB2
  have e3 : fullB P st.s.l y = false := by rw [unhide HFu, hM0, hM1]; rfl
  have E3 := hide e3
  subst hM0 hM1
  clear e3 HFu PZ HK k0
  go_wp2_with fail
  go_quiet (fail)
  go_wp2_with fail
  go_ret
  exact ⟨by rw [unhide E3]; rfl, unhide HB3 _⟩

set_option maxRecDepth 100000 in
set_option maxHeartbeats 4000000 in
theorem isfull_nz (U : Und Has SH) (h : Rst Has SH F0 Cs w wr B x a c mb P m size st) (hf : Fit P m size st) (hB : B ≤ w.heap.size) (y : Po) (hy : SmallO y) (hA : ¬ (nth P.v 0 ≠ 0 ∧ nth P.v 0 ≤ (st.s.l.length : Int))) (hM0 : nth P.v 0 ≠ 0) (hM1 : nth P.v 1 = 0) :
    Calls Tryz.prog 39 #[.pointer (some ⟨x, 0, none⟩), poV y] wr fun e w' => e = .returned (.bool (fullB P st.s.l y)) ∧ Below wr.heap.size wr w' := by
  have b0 : Below wr.heap.size wr (wr.alloc (poO y)) := (Below.refl _ _).alloc (Nat.le_refl _) _
  have r1 := h.below U.H U.S b0
  have p1 := PoB.new wr y
  have hk := hf.vok.ok
  have P1 := hide (tstore_any r1)
  have P2 := hide (fun (W : World) (q : Nat) (G : Nat → Prop) (hS : SH W B q G st.s) (hW : B ≤ W.heap.size) => U.S.sees.sums hS hk hW)
  have hBr := Nat.le_trans hB r1.room
  have HW := hide (fun (W : World) (hW : Below (wr.alloc (poO y)).heap.size (wr.alloc (poO y)) W) => show PBx W x P a c ∧ PoB W wr.heap.size y ∧ Below wr.heap.size wr W from ⟨(r1.below U.H U.S hW).plan, p1.below hW, bstep b0 hW⟩)
  have hbytes := hk.bytes
  have PZ := hide (fun W => sizeof_any y hy W)
  have hz : szP y ≤ 422212465065984 := by
    have h1 := hy.s
    have h2 := hy.h
    have h3 := hy.d
    unfold szP
    omega
  have hfew := hk.few
  have HFu : Hid (fullB P st.s.l y = ((decide (nth P.v 0 ≠ 0) && decide (nth P.v 0 ≤ (st.s.l.length : Int))) || (decide (nth P.v 1 ≠ 0) && decide (nth P.v 1 < (byteN st.s.l : Int) + (szP y : Int))))) := hide (by unfold fullB pv; rw [Int.natCast_add])
  obtain ⟨L, hL⟩ : ∃ L, st.s.l.length = L := ⟨_, rfl⟩
  obtain ⟨K, hK⟩ : ∃ K, byteN st.s.l = K := ⟨_, rfl⟩
  obtain ⟨Z, hZ⟩ : ∃ Z, szP y = Z := ⟨_, rfl⟩
  rw [hL, hK] at P2
  rw [hL, hK, hZ] at HFu
  rw [hZ] at PZ hz
  rw [hL] at hfew
  rw [hL] at hA
  rw [hK] at hbytes
  generalize firstQ st.s.l = fq at *
  clear h hf hk r1 p1 b0 hy hL hK hZ
  go_enter Tryz.func39, Tryz.ntmps39
  go_wp2_with fail
  refine (unhide P1).mono ?_
  rintro e w1 ⟨q, G, rfl, h1, b1⟩
  have P3 := hide (unhide P2 w1 q G h1 (Nat.le_trans hBr b1.size))
  have B1 := hide b1
  clear P1 P2 h1 b1
  go_wp2_with fail
  refine (unhide P3).mono ?_
  rintro e w2 ⟨rfl, b2⟩
  have B2 := hide (bstep (unhide B1) b2)
  clear P3 b2 B1
  obtain ⟨hp2, hy2, hb2⟩ := unhide HW w2 (unhide B2)
  have HB2 := hide hb2
  have hx2 := hp2.lt
  have c2 := hp2.c2
  have c3 := hp2.c3
  have hby := hy2.lt
  have bA : Below w2.heap.size w2 (w2.alloc (.cells #[.int .i64 (L : Int), .int .i64 (K : Int), .int .i64 fq, .int .i64 st.s.last] 46)) := (Below.refl _ _).alloc (Nat.le_refl _) _
  have HB3 := hide (fun n => below_drewN (bstep hb2 bA) n)
  have k0 : AtF x (nth P.v 0) (nth P.v 1) wr.heap.size y w2.heap.size (L : Int) (K : Int) (w2.alloc (.cells #[.int .i64 (L : Int), .int .i64 (K : Int), .int .i64 fq, .int .i64 st.s.last] 46)).drew := by
    have hy3 := (hy2.below bA).below (Below.refl _ _).drew
    have hp3 := (hp2.next bA).next (Below.refl _ _).drew
    exact ⟨hp3.c2, hp3.c3, hy3.c0, hy3.c1, hy3.c2, hy3.c3, hy3.c4, hy3.c5, by simp, by simp⟩
  have HK := hide (fun (W : World) (hW : Below (w2.alloc (.cells #[.int .i64 (L : Int), .int .i64 (K : Int), .int .i64 fq, .int .i64 st.s.last] 46)).drew.heap.size (w2.alloc (.cells #[.int .i64 (L : Int), .int .i64 (K : Int), .int .i64 fq, .int .i64 st.s.last] 46)).drew W) => show AtF x (nth P.v 0) (nth P.v 1) wr.heap.size y w2.heap.size (L : Int) (K : Int) W ∧ Below wr.heap.size wr W from by
    have hy3 := ((hy2.below bA).below (Below.refl _ _).drew).below hW
    have hp3 := ((hp2.next bA).next (Below.refl _ _).drew).next hW
    exact ⟨⟨hp3.c2, hp3.c3, hy3.c0, hy3.c1, hy3.c2, hy3.c3, hy3.c4, hy3.c5, (hW.cell (p := ⟨w2.heap.size, 0, none⟩) (by simp)).trans k0.2.2.2.2.2.2.2.2.1, (hW.cell (p := ⟨w2.heap.size, 1, none⟩) (by simp)).trans k0.2.2.2.2.2.2.2.2.2⟩, bstep (bstep hb2 bA).drew hW⟩)
  generalize nth P.v 0 = M0 at *
  generalize nth P.v 1 = M1 at *
  have hyc := hy2
  obtain ⟨_, y0, y1, y2, y3, y4, y5⟩ := hyc
  clear hp2 hy2 hb2 bA HW B2 HB2
  have e0 : (M0 != 0) = true := by simpa using hM0
  have e4 : decide (M0 ≤ (L : Int)) = false := decide_eq_false (fun z => hA ⟨hM0, z⟩)
  have e3 : fullB P st.s.l y = false := by rw [unhide HFu, hM1, e4]; simp
  have E3 := hide e3
  subst hM1
  clear hA e3 HFu PZ HK k0
  go_wp2_with fail
  go_quiet (fail)
  go_wp2_with fail
  go_ret
  exact ⟨by rw [unhide E3]; rfl, unhide HB3 _⟩
end
end Go.Proofs.YtmccpkpeimejhahGreatDoor.Dk
