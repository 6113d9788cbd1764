/-
  Contract of the document's vault: Do.
  Contract of the document's vault: Compact.
  Contract of the document's vault: Crash.
-/
import Derived.Test.YtphhebdmfdjfeabGreatDoorJointRowSaStepsV
import Derived.Test.YtphhebdmfdjfeabGreatDoorJointWalkD3WalkD4WalkO1WalkO2
import Derived.Test.YtphhebdmfdjfeabGreatDoorJointWalkT4WalkT5WalkT6
import Derived.Test.YtphhebdmfdjfeabGreatDoorJointWorksDWorksEWorksGPapHPapFWorksF
import Derived.Test.YtphhebdmfdjfeabGreatDoorJointRowVaWalkW1WalkW2WalkW3
import Derived.Test.YtphhebdmfdjfeabGreatDoorJointWalkO3WalkO4WalkRest
import Derived.Test.YtphhebdmfdjfeabGreatDoorJointWalkL2WalkL3
import Derived.Test.YtphhebdmfdjfeabGreatDoorJointWalkW4WalkW5WalkW6
import Derived.Deep.RegionHeld3
namespace Go.Proofs.YtphhebdmfdjfeabGreatDoor.Dk
open Go.RowKit

theorem VOk.some {m size : Int} {es : List Pap} {s : Sto} (h : VOk m es s) {r : Rc} (h0 : (logP es m size r).1 = 0) : 0 < (logP es m size r).2.length := by
  obtain ⟨recs, h1, _⟩ := h.safe
  have h2 := h1.append h.tidy h0
  cases hl : (logP es m size r).2 with
  | cons y ys => simp
  | nil =>
    rw [hl] at h2
    rcases h2 with ⟨_, z⟩ | ⟨pre, e, A, L, j, z, _⟩
    · simp at z
    · have : lsyncL ([] : List Pap) = [] := rfl
      rw [this] at z
      have := congrArg List.length z
      simp at this
theorem sync_lens (es : List Pap) (n : Int) : (syncL es n).length = es.length := by unfold syncL; split <;> simp
theorem sync_ns (es : List Pap) (n : Int) (k : Nat) : (pa (syncL es n) k).n = (pa es k).n := by
  unfold syncL
  split
  · rename_i hi
    by_cases e : ix es n = k
    · subst e
      simp [pa, hi]
    · simp [pa, e]
  · rfl

set_option maxHeartbeats 400000 in
theorem sync_here (B p : Nat) (m : Int) (v : Value) (es : List Pap) (n : Int) (w : World) (hk : Keeps w B p m v es) (h100 : es.length ≤ 100) (hh : ix es n < es.length) :
    Calls Tryz.prog 16 #[.pointer (some ⟨p, 0, none⟩), .int .i64 n] w fun e w' => e = .returned (.int .i64 0) ∧ Keeps w' B p m v (syncL es n) ∧ Chg (foot p v) w w' := by
  have Hk := hide hk
  clear hk
  have Ha := hide (atI_there hh)
  have HR : Hid (syncL es n = es.set (ix es n) { pa es (ix es n) with sure := ((pa es (ix es n)).text.size : Int) }) := hide (by unfold syncL; rw [if_pos hh])
  generalize ix es n = q at hh Ha HR
  obtain ⟨g, cap, rfl, c1, c2, c3, c4⟩ := (unhide Hk).arr.there (by omega)
  unfold maxLen at c2
  go_enter Tryz.func16, Tryz.ntmps16
  go_wp2_with fail
  refine (at_any B p m _ es n _ (unhide Hk) h100).mono ?_
  rintro e w1 ⟨rfl, hb1⟩
  rw [unhide Ha]
  have k1 := (unhide Hk).below hb1
  have d1 := k1.cell
  have d2 := k1.arr.text hh
  have d3 := k1.arr.sure hh
  have d4 := World.ownsRow.frozenAt k1.arr (q * 3 + 1)
  have K1 := hide k1
  clear k1
  go_wp2_with fail
  go_region
  have HU := hide ((unhide K1).sure hh ((pa es q).text.size : Int))
  go_wp2_with fail
  go_ret
  refine ⟨rfl, ?_⟩
  rw [unhide HR]
  have k1 := (unhide HU).1
  rw [List.length_set] at k1
  exact ⟨k1.below (Below.refl _ _).drew, (Chg.of_below hb1).trans ((unhide HU).2.trans (Chg.of_below (Below.refl _ _).drew))⟩
/-- the last file is synced: what is seen of it stays -/
theorem Rn.synced {F0 Cs : Nat → Prop} {w wr : World} {B x p c : Nat} {m size : Int} {es : List Pap} {s : Sto} (h : Rn F0 Cs w wr B x p c m size es s) {k : Nat} (hk : k + 1 = es.length) (ht : Tidy m es) : ∃ g cap, wr.cell? ⟨x, 0, none⟩ = some (.pointer (some ⟨p, 0, none⟩)) ∧ wr.cell? ⟨p, 1, none⟩ = some (.slice (some ⟨g, 0, none⟩) es.length cap) ∧ wr.cell? ⟨g, k * 3, none⟩ = some (.int .i64 (pa es k).n) ∧ es.length ≤ cap ∧ cap ≤ maxLen ∧
    Calls Tryz.prog 16 #[.pointer (some ⟨p, 0, none⟩), .int .i64 (pa es k).n] wr fun e w' => (e = .returned (.int .i64 0) ∧ w'.cell? ⟨p, 1, none⟩ = some (.slice (some ⟨g, 0, none⟩) es.length cap) ∧ w'.cell? ⟨g, k * 3, none⟩ = some (.int .i64 (pa es k).n)) ∧ Rn F0 Cs w w' B x p c m size (lsyncL es) s ∧ Stay Cs wr w' := by
  have hfew := ht.few
  obtain ⟨v, G, h1, h2, h3, h4⟩ := h
  obtain ⟨g, cap, hv, f1, f2, _⟩ := h1.disk.arr.there (by omega)
  have hd := h1.disk.cell
  have ha := h1.disk.arr
  rw [hv] at hd ha
  have hh : ix es (pa es k).n < es.length := by
    have := has_pa ht (show k < es.length by omega)
    unfold hasE at this
    apply Classical.byContradiction
    intro z
    rw [if_neg z] at this
    cases this
  refine ⟨g, cap, h1.c0, hd, ha.num (by omega), f1, f2, ?_⟩
  refine ((sync_here B p m v es (pa es k).n wr h1.disk (by omega) hh).mono ?_)
  rintro e w' ⟨he, k7, c7⟩
  have hd7 := k7.cell
  have ha7 := k7.arr
  rw [hv] at hd7 ha7
  rw [← sync_lens es (pa es k).n] at ha7
  have hn7 := ha7.num (k := k) (by rw [sync_lens]; omega)
  rw [sync_ns] at hn7
  rw [lsync_last hk]
  obtain ⟨v', a1, a2, a3⟩ := h1.upd ⟨v, k7, c7, fun _ z => .inl z⟩
  have hr := h2.size
  refine ⟨⟨he, hd7, hn7⟩, ⟨v', G, a1, rn_more h2 a2 (fun i hi z => ?_), fun k hk => ?_, fun k hk => ⟨Nat.lt_of_lt_of_le (h4 k hk).1 a2.size, fun z => ?_⟩⟩, a2.size, fun k hk => a2.block k (h4 k hk).1 (fun z => (h4 k hk).2 (.inr (.inl z)))⟩
  · rcases h3 i (.inr (.inl z)) with y | y
    · exact y
    · omega
  · rcases hk with z | z | z
    · exact h3 k (.inl z)
    · rcases a3 k z with y | y
      · exact h3 k (.inr (.inl y))
      · exact .inr (Nat.le_trans hr y)
    · exact h3 k (.inr (.inr z))
  · rcases z with z | z | z
    · exact (h4 k hk).2 (.inl z)
    · rcases a3 k z with y | y
      · exact (h4 k hk).2 (.inr (.inl y))
      · have := (h4 k hk).1; omega
    · exact (h4 k hk).2 (.inr (.inr z))
abbrev At3 (x p g k l cap : Nat) (n : Int) (w : World) : Prop := w.cell? ⟨x, 0, none⟩ = some (.pointer (some ⟨p, 0, none⟩)) ∧ w.cell? ⟨p, 1, none⟩ = some (.slice (some ⟨g, 0, none⟩) l cap) ∧ w.cell? ⟨g, k * 3, none⟩ = some (.int .i64 n)
abbrev At8 (x p b : Nat) (size : Int) (r : Rc) (w : World) : Prop := w.cell? ⟨x, 2, none⟩ = some (.int .i64 size) ∧ At7 x 0 p b r w

set_option maxRecDepth 100000 in
set_option maxHeartbeats 2000000 in
theorem sdo_any {w : World} {B x p : Nat} {F : Nat → Prop} {m size : Int} {es : List Pap} {s : Sto} (r : Rc) (hr : Small r) (h : Saf p w B x F m size es s) (hv : VOk m es s) (hm : m ≤ 65536) (hB : B ≤ w.heap.size) :
    Calls Tryz.prog 33 #[.pointer (some ⟨x, 0, none⟩), .agg #[.int .i64 r.k, .int .i64 r.q, .int .i64 r.t, .string r.s, .string r.h, .string r.d]] w fun e w' => e = .returned (.int .i64 (doE es s m size r)) ∧ DidV (Saf p) w w' B x F m size (doL es s m size r) (doS es s m size r) := by
  obtain ⟨c, r0, hfin⟩ := h.begin
  have HF := hide hfin
  have HV := hide hv
  have hal : Below w.heap.size w (w.alloc (.cells #[.int .i64 r.k, .int .i64 r.q, .int .i64 r.t, .string r.s, .string r.h, .string r.d] 43)) := (Below.refl _ _).alloc (Nat.le_refl _) _
  obtain ⟨w1, hw1⟩ : ∃ W, W = w.alloc (.cells #[.int .i64 r.k, .int .i64 r.q, .int .i64 r.t, .string r.s, .string r.h, .string r.d] 43) := ⟨_, rfl⟩
  have R1 := hide (r0.mine (Cs' := fun k => k = w.heap.size) hal (fun k hk => .inr ⟨by omega, by subst hk; simp⟩))
  have C1 := hide (RB.new w r.k r.q r.t r.s r.h r.d 43)
  rw [← hw1] at R1 C1
  have R2 := hide ((unhide R1).below (Below.refl _ _).drew)
  have C2 := hide ((unhide C1).next (Below.refl _ _).drew)
  have k2 := at7 (unhide C2) (unhide R2).cells.2.1
  have PT := hide (show Calls Tryz.prog 26 #[.pointer (some ⟨c, 0, none⟩), .agg #[.int .i64 r.k, .int .i64 r.q, .int .i64 r.t, .string r.s, .string r.h, .string r.d]] _ fun e w' => e = .returned (.int .i64 (tryE s r)) ∧ Below _ _ w' from by
    obtain ⟨v, G, h1, _⟩ := unhide R2
    exact ctry_any r hr h1.chest hv.ok)
  obtain ⟨E, hE⟩ : ∃ E, tryE s r = E := ⟨_, rfl⟩
  rw [hE] at PT
  have HE := hide hE
  clear h r0 hfin hv hal R1 C1 hE
  go_enter Tryz.func33, Tryz.ntmps33
  go_wp2_with fail
  rw [← hw1]
  clear hw1
  go_region_held3 (At7 x 1 c w.heap.size r) (first | assumption | go_keep)
    (first
      | (go_at_call 26; refine (unhide PT).mono ?_; rintro e w3 ⟨rfl, b3⟩; have R3 := hide ((unhide R2).below b3); have C3 := hide ((unhide C2).next b3); have k3 := at7 (unhide C3) (unhide R3).cells.2.1; clear b3))
  clear k2 k3 PT R2 C2
  by_cases h0 : E = 0
  · have HT := hide ((unhide HE).trans h0)
    subst h0
    have R4 := hide ((unhide R3).below (Below.refl _ _).drew)
    have C4 := hide ((unhide C3).next (Below.refl _ _).drew)
    have k4 : At8 x p w.heap.size size r _ := ⟨(unhide R4).cells.2.2.1, at7 (unhide C4) (unhide R4).cells.1⟩
    have PA := hide ((unhide R4).upd (Q := fun e _ => e = .returned (.int .i64 (logR es m size r).1)) (es' := (logR es m size r).2) (fun v hk => logged_any B p m size v es r _ hk (unhide HV).tidy hm hr (Nat.le_trans hB (unhide R4).room)))
    rw [← (unhide HV).sured.log] at PA
    obtain ⟨E2, hE2⟩ : ∃ E, (logP es m size r).1 = E := ⟨_, rfl⟩
    rw [hE2] at PA
    have HE2 := hide hE2
    clear HE R3 C3 hE2
    go_wp2_with fail
    go_region_held3 (At8 x p w.heap.size size r) (first | assumption | go_keep)
      (first
        | (go_at_call 13; refine (unhide PA).mono ?_; rintro e w5 ⟨rfl, r5, s5⟩; have R5 := hide r5; have C5 := hide (rb_stays (unhide C4) s5 rfl); have k5 : At8 x p w.heap.size size r w5 := ⟨(unhide R5).cells.2.2.1, at7 (unhide C5) (unhide R5).cells.1⟩; clear r5 s5))
    clear k4 k5 PA R4 C4
    by_cases h1 : E2 = 0
    · have hpos := (unhide HV).some ((unhide HE2).trans h1)
      obtain ⟨e1, e2, e3⟩ := do_all (unhide HT) ((unhide HE2).trans h1)
      subst h1
      have HR := hide (And.intro e1 (And.intro e2 (And.intro e3 (unhide HT))))
      have ht5 := (unhide HV).tidy.logp size r
      generalize (logP es m size r).2 = es5 at *
      obtain ⟨k, hk⟩ : ∃ k, k + 1 = es5.length := ⟨es5.length - 1, by omega⟩
      have hfew := ht5.few
      have R6 := hide ((unhide R5).below (Below.refl _ _).drew)
      have C6 := hide ((unhide C5).next (Below.refl _ _).drew)
      obtain ⟨g, cap, z0, z1, z2, z3, z4, PS0⟩ := (unhide R6).synced hk ht5
      have PS := hide PS0
      unfold maxLen at z4
      obtain ⟨N, hN⟩ : ∃ N, es5.length = N := ⟨_, rfl⟩
      obtain ⟨n, hn⟩ : ∃ n, (pa es5 k).n = n := ⟨_, rfl⟩
      rw [hN, hn] at PS
      rw [hN] at z1 z3 hk hfew
      rw [hn] at z2
      have k6 : At3 x p g k N cap n _ := ⟨z0, z1, z2⟩
      have hw : IntKind.i64.wrap ((N : Int) - 1) = (k : Int) := by rw [IntKind.wrap_i64]; omega
      have hk2 : k < N := by omega
      clear e1 e2 e3 HE2 HT z0 z1 z2 ht5 R5 C5 hk hpos hN hn PS0
      go_wp2_with fail
      go_region_held3 (At3 x p g k N cap n) (first | assumption | go_keep)
        (first
          | (go_at_call 16; refine (unhide PS).mono ?_; rintro e w7 ⟨⟨rfl, q1, q2⟩, r7, s7⟩; have k7 : At3 x p g k N cap n w7 := ⟨r7.cells.1, q1, q2⟩; have R7 := hide r7; have C7 := hide (rb_stays (unhide C6) s7 rfl); clear r7 s7 q1 q2))
      have R8 := hide ((unhide R7).below (Below.refl _ _).drew)
      have C8 := hide ((unhide C7).next (Below.refl _ _).drew)
      have k8 := at7 (unhide C8) (unhide R8).cells.2.1
      have PD := hide ((unhide R8).did (fun G hG => capply_any r hr hG (unhide HV).ok (Nat.le_trans hB (unhide R8).room)))
      rw [show tryE s r = 0 from (unhide HR).2.2.2] at PD
      clear k6 k7 PS R6 C6 R7 C7 hw hk2 z3 z4 hfew
      go_wp2_with fail
      go_region_held3 (At7 x 1 c w.heap.size r) (first | assumption | go_keep)
        (first
          | (go_at_call 29; refine (unhide PD).mono ?_; rintro e w9 ⟨rfl, r9, s9⟩; have R9 := hide r9; have C9 := hide (rb_stays (unhide C8) s9 rfl); have k9 := at7 (unhide C9) (unhide R9).cells.2.1; clear r9 s9))
      clear k8 k9 PD R8 C8
      go_wp2_with fail
      go_ret
      obtain ⟨e1, e2, e3, _⟩ := unhide HR
      rw [e1, e2, e3]
      exact ⟨rfl, unhide HF _ _ _ _ _ (unhide R9)⟩
    · obtain ⟨e1, e2, e3⟩ := do_log (unhide HT) (by rw [unhide HE2]; exact h1)
      have e4 := logP_kept (es := es) (m := m) (size := size) (r := r) (by rw [unhide HE2]; exact h1)
      have R6 : Hid (Rn F (fun k => k = w.heap.size) w w5 B x p c m size es s) := by
        have := R5
        rw [e4] at this
        exact this
      rw [unhide HE2] at e1
      have HR := hide (And.intro e1 (And.intro e2 e3))
      have e5 : (E2 != 0) = true := by simpa using h1
      clear e1 e2 e3 e4 HE2 HT R5
      go_wp2_with fail
      go_ret
      obtain ⟨e1, e2, e3⟩ := unhide HR
      rw [e1, e2, e3]
      exact ⟨rfl, unhide HF _ _ _ _ _ (unhide R6)⟩
  · obtain ⟨e1, e2, e3⟩ := do_try (es := es) (m := m) (size := size) (s := s) (r := r) (by rw [unhide HE]; exact h0)
    rw [unhide HE] at e1
    have HR := hide (And.intro e1 (And.intro e2 e3))
    have e5 : (E != 0) = true := by simpa using h0
    clear e1 e2 e3 HE
    go_wp2_with fail
    go_ret
    obtain ⟨e1, e2, e3⟩ := unhide HR
    rw [e1, e2, e3]
    exact ⟨rfl, unhide HF _ _ _ _ _ (unhide R3)⟩
end Go.Proofs.YtphhebdmfdjfeabGreatDoor.Dk

namespace Go.Proofs.YtphhebdmfdjfeabGreatDoor.Dk
open Go.RowKit

/-- a block of one's own, new behind w, is written -/
theorem Rn.mineown {F0 Cs Cs' A : Nat → Prop} {w wr w' : World} {B x p c : Nat} {m size : Int} {es : List Pap} {s : Sto} (h : Rn F0 Cs w wr B x p c m size es s) (hc : Chg A wr w') (hA : ∀ k, A k → Cs k ∧ w.heap.size ≤ k) (hn : ∀ k, Cs' k → Cs k ∨ wr.heap.size ≤ k ∧ k < w'.heap.size) : Rn F0 Cs' w w' B x p c m size es s := by
  obtain ⟨v, G, h1, h2, h3, h4⟩ := h
  refine ⟨v, G, h1.chg hc (fun k hk z => (h4 k (hA k z).1).2 hk), rn_more h2 hc (fun i hi z => by have := (hA i z).2; omega), h3, fun k hk => ?_⟩
  rcases hn k hk with y | y
  · exact ⟨Nat.lt_of_lt_of_le (h4 k y).1 hc.size, (h4 k y).2⟩
  · exact ⟨y.2, fun z => by have := (h1.own k z).2; omega⟩
/-- what is seen of the chest -/
theorem Rn.chest {F0 Cs : Nat → Prop} {w wr : World} {B x p c : Nat} {m size : Int} {es : List Pap} {s : Sto} (h : Rn F0 Cs w wr B x p c m size es s) : ∃ v, wr.cell? ⟨c, 0, none⟩ = some v ∧ wr.cell? ⟨c, 1, none⟩ = some (.int .i64 s.last) ∧ ArrR wr B v s.l := by
  obtain ⟨_, _, h1, _⟩ := h
  obtain ⟨v, _, h2, h3, _, _, h6, _⟩ := h1.chest
  exact ⟨v, h2, h3, h6⟩
abbrev At2s (x p : Nat) (size : Int) (w : World) : Prop := w.cell? ⟨x, 0, none⟩ = some (.pointer (some ⟨p, 0, none⟩)) ∧ w.cell? ⟨x, 2, none⟩ = some (.int .i64 size)

set_option maxRecDepth 100000 in
set_option maxHeartbeats 2000000 in
theorem scompact_any {w : World} {B x p : Nat} {F : Nat → Prop} {m size : Int} {es : List Pap} {s : Sto} (h : Saf p w B x F m size es s) (hv : VOk m es s) (hm : m ≤ 65536) (hB : B ≤ w.heap.size) :
    Calls Tryz.prog 39 #[.pointer (some ⟨x, 0, none⟩)] w fun e w' => e = .returned (.int .i64 (compE es s m size)) ∧ DidV (Saf p) w w' B x F m size (compF es s m size) s := by
  obtain ⟨c, r0, hfin⟩ := h.begin
  have HF := hide hfin
  have hlast := hv.ok.last
  have hfew := hv.ok.few
  have PW := hide (fun (Cs : Nat → Prop) (wr : World) (hr : Rn F Cs w wr B x p c m size es s) (a : Option Addr) (k : Nat) (hsl : SlR wr a (compL s)) => hr.upd (es' := compF es s m size) (Q := fun e _ => e = .returned (.int .i64 (compE es s m size))) (fun v hk => rewritten_any B p m size v es (compL s) a k wr hk hv.tidy hm hsl (comp_small hv.ok) (by have := comp_len hv.ok; omega) (Nat.le_trans hB hr.room)))
  obtain ⟨x0, x1, x2, xl⟩ := r0.cells
  obtain ⟨v0, d0, d1, ha0⟩ := r0.chest
  obtain ⟨v1, w1, hrun1, a1, c1, l1⟩ := append_arr w w.heap.size B (.slice none 0 0) v0 [] s.l (ArrR.empty _ _) ha0 (by simp; omega) (Nat.le_refl _)
  rw [List.nil_append] at a1
  have R1 := hide (r0.mineown (Cs' := fun k => v1.ownBlock = some k) c1 (fun k hk => by simp [Value.ownBlock] at hk) (fun k hk => .inr (World.ownsRow.lt a1 k hk)))
  have A1 := hide a1
  have HRun := hide hrun1
  obtain ⟨a0, cap0, rfl, _, _, _⟩ := ha0.shape
  obtain ⟨n, hn⟩ : ∃ n, s.last = n := ⟨_, rfl⟩
  obtain ⟨y0, y1, y2, yl⟩ := (unhide R1).cells
  obtain ⟨v9, e0, e1, _⟩ := (unhide R1).chest
  obtain ⟨aa, cap1, hv1, b1, b2, sl1⟩ := a1.shape
  rw [hn] at d1 e1 hlast
  have HN := hide hn
  have HS1 := hide sl1
  clear h r0 hfin hv ha0 c1 l1 hrun1 hn sl1 a1
  subst hv1
  have PQ := hide (fun (Cs : Nat → Prop) (wr : World) (hr : Rn F Cs w wr B x p c m size es s) (a : Option Addr) (k : Nat) (hsl : SlR wr a (compL s)) => And.intro (show At2s x p size wr.drew from ⟨(hr.below (Below.refl _ _).drew).cells.1, (hr.below (Below.refl _ _).drew).cells.2.2.1⟩) (unhide PW Cs wr.drew (hr.below (Below.refl _ _).drew) a k (hsl.below (Below.refl _ _).drew)))
  clear PW
  by_cases h0 : n = 0
  · subst h0
    obtain ⟨k2, PR0⟩ := unhide PQ _ _ (unhide R1) aa cap1 (by rw [compL_none (unhide HN)]; exact unhide HS1)
    rw [compL_none (unhide HN)] at PR0
    have PR := hide PR0
    clear PQ HS1 A1 R1 PR0 HN
    go_enter Tryz.func39, Tryz.ntmps39
    go_wp2_with (at_builtin; refine Lib.wpList_append_run _ rfl _ _ _ _ rfl _ _ rfl rfl _ _ (unhide HRun) ?_)
    go_region_held3 (At2s x p size) (first | assumption | go_keep)
      (first
        | (go_at_call 19; refine (unhide PR).mono ?_; rintro e w3 ⟨rfl, r3, _⟩; have k3 : At2s x p size w3 := ⟨r3.cells.1, r3.cells.2.2.1⟩))
    have D3 := hide (unhide HF _ _ _ _ _ r3)
    clear PR r3 k2 k3
    go_wp2_with fail
    go_ret
    exact ⟨rfl, unhide D3⟩
  · have hp : 0 < s.last := by rw [unhide HN]; omega
    have hne : decide (0 < n) = true := decide_eq_true (by omega)
    obtain ⟨v8, w8, hrun, A8, C8, L8⟩ := mark_one (w0 := w) (n := n) (unhide A1) hfew (unhide R1).room
    have R8 := (unhide R1).mineown (Cs' := fun k => v8.ownBlock = some k) C8 (fun k hk => ⟨hk, (World.ownsRow.lt (unhide A1) k hk).1⟩) L8
    obtain ⟨a8, cap8, rfl, _, _, hsl8⟩ := A8.shape
    rw [← unhide HN, ← compL_some hp] at hsl8
    obtain ⟨k2, PR0⟩ := unhide PQ _ _ R8 a8 cap8 hsl8
    rw [compL_some hp, unhide HN, show (s.l ++ [markR n]).length = s.l.length + 1 by simp] at PR0
    have PR := hide PR0
    have HRun2 := hide hrun
    have hp2 : 0 < n := by omega
    clear PQ HS1 A1 R1 PR0 HN hp R8 A8 C8 L8 hsl8 hrun h0 hlast
    go_enter Tryz.func39, Tryz.ntmps39
    go_wp2_with (at_builtin; first | (refine Lib.wpList_append_run _ rfl _ _ _ _ rfl _ _ rfl rfl _ _ (unhide HRun) ?_; clear HRun) | (refine Lib.wpList_append_run _ rfl _ _ _ _ rfl _ _ rfl rfl _ _ (unhide HRun2) ?_; clear HRun2))
    go_region_held3 (At2s x p size) (first | assumption | go_keep)
      (first
        | (go_at_call 19; refine (unhide PR).mono ?_; rintro e w3 ⟨rfl, r3, _⟩; have k3 : At2s x p size w3 := ⟨r3.cells.1, r3.cells.2.2.1⟩))
    have D3 := hide (unhide HF _ _ _ _ _ r3)
    clear PR r3 k2 k3
    go_wp2_with fail
    go_ret
    exact ⟨rfl, unhide D3⟩
end Go.Proofs.YtphhebdmfdjfeabGreatDoor.Dk

namespace Go.Proofs.YtphhebdmfdjfeabGreatDoor.Dk
open Go.RowKit


/-- the document's vault behind the log's opening: a new chest; the row of records -/
def Rs (F : Nat → Prop) (ov : Value) (w wr : World) (B x p c : Nat) (m size : Int) (es : List Pap) (l : List Rc) (s : Sto) : Prop :=
  Rn F (fun k => ov.ownBlock = some k) w wr B x p c m size es s ∧ ArrR wr w.heap.size ov l
theorem Stay.arr {Cs : Nat → Prop} {w w' : World} {B : Nat} {v : Value} {l : List Rc} (h : Stay Cs w w') (a : ArrR w B v l) (hn : ∀ g, v.ownBlock = some g → Cs g) : ArrR w' B v l := by
  refine ⟨a.1, ?_⟩
  rcases a.2 with q | ⟨g, cap, cur, h1, h2, h3, r⟩
  · exact .inl q
  · refine .inr ⟨g, cap, cur, h1, h2, ?_, r⟩
    rw [h.2 g (hn g (by rw [h1]; rfl))]
    exact h3
/-- the log is opened, and told; a new chest is laid -/
theorem Rn.renew {F : Nat → Prop} {w w1 w2 : World} {B x p c : Nat} {m size : Int} {es : List Pap} {s : Sto} {v ov : Value} {G : Nat → Prop} {l : List Rc} (h1 : Sa w1 B x p c v G m size es s) (h2 : Chg F w w1) (h3 : ∀ k, saF x p v G k → F k ∨ w.heap.size ≤ k) (ht : Told w1 w2 B p m v ov es l) (hB : B ≤ w1.heap.size) :
    Rs F ov w ((w2.alloc (.cells #[.slice none 0 0, .int .i64 0] 65)).setCell ⟨x, 1, none⟩ (.pointer (some ⟨w2.heap.size, 0, none⟩))) B x p w2.heap.size m size es l ⟨[], 0⟩ ∧ w2.cell? ⟨x, 1, none⟩ = some (.pointer (some ⟨c, 0, none⟩)) ∧ w2.frozen? ⟨x, 1, none⟩ = false ∧ x < w2.heap.size := by
  obtain ⟨v', t1, t2, t3, t4, t5⟩ := ht
  have hx1 := h1.lt
  have hx2 : x < w2.heap.size := Nat.lt_of_lt_of_le h1.lt t3.size
  have e : ∀ j, w2.cell? ⟨x, j, none⟩ = w1.cell? ⟨x, j, none⟩ := fun j => t3.cell (p := ⟨x, j, none⟩) h1.lt h1.xd
  have ef : w2.frozen? ⟨x, 1, none⟩ = false := by rw [t3.frozen (p := ⟨x, 1, none⟩) h1.lt h1.xd]; exact h1.free
  have hb : Below w2.heap.size w2 (w2.alloc (.cells #[.slice none 0 0, .int .i64 0] 65)) := (Below.refl _ _).alloc (Nat.le_refl _) _
  have hg : ∀ k, foot p v' k → foot p v k ∨ w1.heap.size ≤ k := fun k hk => by
    rcases hk with z | z
    · exact .inl (.inl z)
    · rcases t4 k z with y | y
      · exact .inl (.inr y)
      · exact .inr y
  have hxd : ¬ foot p v' x := fun z => by
    rcases hg x z with y | y
    · exact h1.xd y
    · omega
  have cs : Chg (fun k => k = x) (w2.alloc (.cells #[.slice none 0 0, .int .i64 0] 65)) ((w2.alloc (.cells #[.slice none 0 0, .int .i64 0] 65)).setCell ⟨x, 1, none⟩ (.pointer (some ⟨w2.heap.size, 0, none⟩))) := (Chg.refl _ _).setCell (A := fun k => k = x) (p := ⟨x, 1, none⟩) (.inl rfl) _
  have hxo : ov.ownBlock ≠ some x := fun z => by have := (World.ownsRow.lt t1 x z).1; omega
  refine ⟨⟨⟨v', fun k => k = w2.heap.size, ⟨(t2.below hb).chg cs (fun k hk z => by subst z; exact hxd hk), ?_, h1.base, ?_, ?_, ?_, ?_, ?_, fun k hk z => ?_, hxd, fun z => by omega⟩, ?_, fun k hk => ?_, fun k hk => ?_⟩, ?_⟩, (e 1).trans h1.c1, ef, hx2⟩
  · refine Che.chg (A := fun k => k = x) ⟨.slice none 0 0, ⟨Nat.le_trans hB t3.size, by simp⟩, by simp, by simp, by simp, by simp, ArrR.empty _ _, by simp [Value.ownBlock], fun k => by simp [Value.ownBlock]⟩ cs (fun k hk z => by omega)
  · exact Nat.lt_of_lt_of_le (Nat.lt_of_lt_of_le hx2 hb.size) cs.size
  · rw [World.cell?_setCell_other _ _ _ _ (by simp), hb.cell (p := ⟨x, 0, none⟩) hx2, e]; exact h1.c0
  · refine World.cell?_setCell_same _ _ _ (u := .pointer (some ⟨c, 0, none⟩)) ?_
    rw [hb.cell (p := ⟨x, 1, none⟩) hx2, e]; exact h1.c1
  · rw [World.cell?_setCell_other _ _ _ _ (by simp), hb.cell (p := ⟨x, 2, none⟩) hx2, e]; exact h1.c2
  · rw [World.frozen?_setCell, hb.frozen (p := ⟨x, 1, none⟩) hx2]; exact ef
  · have := (t2.foot_in hk).2; omega
  · have hF : Chg F w w2 := rn_more h2 t3 (fun i hi z => by
      rcases h3 i (.inr (.inl z)) with y | y
      · exact y
      · omega)
    refine rn_more (hF.trans (Chg.of_below hb)) cs (fun i hi z => ?_)
    subst z
    rcases h3 i (.inl rfl) with y | y
    · exact y
    · omega
  · rcases hk with z | z | z
    · exact h3 k (.inl z)
    · rcases hg k z with y | y
      · exact h3 k (.inr (.inl y))
      · exact .inr (Nat.le_trans h2.size y)
    · right
      subst z
      exact Nat.le_trans h2.size t3.size
  · have hl := World.ownsRow.lt t1 k hk
    refine ⟨Nat.lt_of_lt_of_le (Nat.lt_of_lt_of_le hl.2 hb.size) cs.size, fun z => ?_⟩
    rcases z with z | z | z
    · subst z; exact hxo hk
    · exact t5 k hk z
    · omega
  · exact ((t1.below hb).chg cs (fun k hk z => by subst z; exact hxo hk)).low h2.size
theorem Rs.apply {F : Nat → Prop} {ov : Value} {w wr : World} {B x p c : Nat} {m size : Int} {es : List Pap} {l : List Rc} {s : Sto} (h : Rs F ov w wr B x p c m size es l s) (hk : s.Ok) (hB : B ≤ w.heap.size) (r : Rc) (hr : Small r) :
    Calls Tryz.prog 29 #[.pointer (some ⟨c, 0, none⟩), .agg #[.int .i64 r.k, .int .i64 r.q, .int .i64 r.t, .string r.s, .string r.h, .string r.d]] wr fun e w' => e = .returned (.int .i64 (tryE s r)) ∧ Rs F ov w w' B x p c m size es l (aplS s r) := by
  refine (h.1.did (fun G hG => capply_any r hr hG hk (Nat.le_trans hB h.1.room))).mono ?_
  rintro e w' ⟨he, h1, h2⟩
  exact ⟨he, h1, h2.arr h.2 (fun _ z => z)⟩
theorem Rs.below {F : Nat → Prop} {ov : Value} {w wr w' : World} {B x p c : Nat} {m size : Int} {es : List Pap} {l : List Rc} {s : Sto} (h : Rs F ov w wr B x p c m size es l s) (hb : Below wr.heap.size wr w') : Rs F ov w w' B x p c m size es l s := ⟨h.1.below hb, h.2.below hb⟩

theorem Rs.sl {F : Nat → Prop} {a : Option Addr} {n cap : Nat} {w wr : World} {B x p c : Nat} {m size : Int} {es : List Pap} {l : List Rc} {s : Sto} (h : Rs F (.slice a n cap) w wr B x p c m size es l s) : SlR wr a l := by
  obtain ⟨a', cap', e, _, _, hs⟩ := h.2.shape
  rw [(Value.slice.inj e).1]
  exact hs
abbrev At7o (x j c b o : Nat) (r : Rc) (w : World) : Prop := w.cell? ⟨x, j, none⟩ = some (.pointer (some ⟨c, 0, none⟩)) ∧ w.cell? ⟨b, o, none⟩ = some (.int .i64 r.k) ∧ w.cell? ⟨b, o + 1, none⟩ = some (.int .i64 r.q) ∧ w.cell? ⟨b, o + 2, none⟩ = some (.int .i64 r.t) ∧ w.cell? ⟨b, o + 3, none⟩ = some (.string r.s) ∧ w.cell? ⟨b, o + 4, none⟩ = some (.string r.h) ∧ w.cell? ⟨b, o + 5, none⟩ = some (.string r.d)
theorem Rs.at7 {F : Nat → Prop} {b o n cap : Nat} {w wr : World} {B x p c : Nat} {m size : Int} {es : List Pap} {l : List Rc} {s : Sto} (h : Rs F (.slice (some ⟨b, o, none⟩) n cap) w wr B x p c m size es l s) {k : Nat} (hk : k < l.length) {r : Rc} (hr : r = rc l k) : At7o x 1 c b (o + k * 6) r wr := by
  obtain ⟨b', o', e, h6⟩ := h.sl k hk
  cases e
  rw [← hr] at h6
  exact ⟨h.1.cells.2.1, h6.c0, h6.c1, h6.c2, h6.c3, h6.c4, h6.c5⟩

set_option maxRecDepth 100000 in
set_option maxHeartbeats 2000000 in
theorem scrash_any {w : World} {B x p : Nat} {F : Nat → Prop} {m size : Int} {es : List Pap} {s : Sto} (keep : Int) (h : Saf p w B x F m size es s) (hv : VOk m es s) (hm : m ≤ 65536) (hB : B ≤ w.heap.size) :
    Calls Tryz.prog 37 #[.pointer (some ⟨x, 0, none⟩), .int .i64 keep] w fun e w' => e = .returned (.tuple #[]) ∧ DidV (Saf p) w w' B x F m size es s := by
  obtain ⟨c, r0, hfin⟩ := h.begin
  have HF := hide hfin
  have HV := hide hv
  have hfew := hv.tidy.few
  have x0 := r0.cells.1
  have PC : Hid (Calls Tryz.prog 21 #[.pointer (some ⟨p, 0, none⟩), .int .i64 keep] w fun e w' => e = .returned (.tuple #[]) ∧ Rn F (fun _ => False) w w' B x p c m size es s ∧ Stay (fun _ => False) w w') := hide (r0.upd (es' := es) (Q := fun e _ => e = .returned (.tuple #[])) (fun v hk => by
    have := crash_any B p m v es keep w hk (by omega) (hv.tidy.sound (by omega))
    rw [(hv.crash keep).1] at this
    exact this))
  clear h r0 hfin hv
  go_enter Tryz.func37, Tryz.ntmps37
  go_wp2_with fail
  refine (unhide PC).mono ?_
  rintro e w1 ⟨rfl, r1, _⟩
  have hr1 := r1.room
  have y0 := r1.cells.1
  obtain ⟨v, G, h1, h2, h3, _⟩ := r1
  have PO := hide (opened_any B p m v es w1 h1.disk (unhide HV).tidy hm (Nat.le_trans hB hr1))
  have hcr := (unhide HV).crash keep
  rw [hcr.2.1] at PO
  have hlen : (openL es).1.length ≤ 200000 := by
    have := openL_len es
    have := (unhide HV).tidy.fits
    omega
  have hsm := openL_small es
  have HS : Hid (fillV (openL es).1 = s) := hide hcr.2.2
  obtain ⟨l, hl⟩ : ∃ l, l = (openL es).1 := ⟨_, rfl⟩
  rw [← hl] at PO hlen hsm HS
  have HM := hide hsm
  have HN := hide (fun w2 ov (ht : Told w1 w2 B p m v ov es l) => Rn.renew h1 h2 h3 ht (Nat.le_trans hB hr1))
  clear PC hcr hl hsm h1 h2 h3
  go_wp2_with fail
  refine (unhide PO).mono ?_
  rintro e w2 ⟨ov, rfl, t2⟩
  obtain ⟨n2, n3, n4, n5⟩ := unhide HN w2 ov t2
  have R3 : Hid (Rs F ov w _ B x p w2.heap.size m size es l (fillV (l.take 0))) := hide n2
  obtain ⟨a, cap, hov, a1, a2, _⟩ := n2.2.shape
  obtain ⟨c2, hc2⟩ : ∃ c, c = w2.heap.size := ⟨_, rfl⟩
  clear PO HN n2 t2
  subst hov
  go_wp2_with fail
  rw [World.setCell_alloc_past _ _ _ _ n5, ← hc2] at R3
  rw [← hc2]
  clear hc2
  go_loopw [5] (fun iv wr => ∃ (k : Nat), iv = .int .i64 k ∧ k ≤ l.length ∧ Hid (Rs F (.slice a l.length cap) w wr B x p c2 m size es l (fillV (l.take k)))) (fun iv _ => l.length - (intOf iv).toNat)
  case atStart => exact ⟨0, rfl, Nat.zero_le _, R3⟩
  case round =>
    clear R3
    obtain ⟨k, rfl, hkl, R4⟩ := hrel
    by_cases hlt : k < l.length
    · obtain ⟨ga, o, rfl, _⟩ := (unhide R4).sl k hlt
      have hsm := rc_small (unhide HM) hlt
      have hft := fillV_take hlt
      obtain ⟨r, hr⟩ : ∃ r, r = rc l k := ⟨_, rfl⟩
      rw [← hr] at hsm hft
      have R5 := hide ((unhide R4).below (Below.refl _ _).drew)
      have k5 := (unhide R5).at7 hlt hr
      have PA := hide ((unhide R5).apply (fillV_ok _) hB r hsm)
      rw [← hft] at PA
      have HK := hide (fun w' s' (h : Rs F (.slice (some ⟨ga, o, none⟩) l.length cap) w w' B x p c2 m size es l s') => h.at7 hlt hr)
      clear hr hft R4 R5
      go_wp2_with fail
      go_region_held3 (At7o x 1 c2 ga (o + k * 6) r) (first | assumption | go_keep)
        (first
          | (go_at_call 29; refine (unhide PA).mono ?_; rintro e w6 ⟨rfl, r6⟩; have k6 := unhide HK w6 _ r6; have R6 := hide r6; clear r6))
      clear k5 k6 PA HK
      go_wp2_with fail
      refine ⟨⟨k + 1, by go_num, by omega, R6⟩, ?_⟩
      simp [intOf]; omega
    · obtain rfl : k = l.length := by omega
      have D3 := hide (unhide HF _ _ _ _ _ (unhide R4).1)
      rw [List.take_length, unhide HS] at D3
      clear R4 hlt
      go_wp2_with fail
      go_end0
      exact ⟨rfl, unhide D3⟩
end Go.Proofs.YtphhebdmfdjfeabGreatDoor.Dk
