/-
  The program's stream: makeRoom.
  The program's stream: roll, add.
  The program's stream: add.
  The program's stream: Publish.
-/
import Derived.Test.YtohjipnkoiifhagGreatDoorJointOsAOsCOsKOsK2OsEOsB
import Derived.Test.YtohjipnkoiifhagGreatDoorJointOsDOsD2OsFOsGOsF1OsF2OsF3
import Derived.Deep.LoopGhost
import Derived.Deep.RegionHeld3
namespace Go.Proofs.YtohjipnkoiifhagGreatDoor.Dk
open Go.RowKit

/-- room in the making: what it will come to is R -/
def Mk (Has : World → Nat → Nat → (Nat → Prop) → Int → List Pap → Prop) (SH : World → Nat → Nat → (Nat → Prop) → Sto → Prop) (F0 Cs : Nat → Prop) (w wr W : World) (B x : Nat) (a : Option Addr) (c : Nat) (mb : Option Nat) (P : Pn.Pln) (m size now : Int) (y : Po) (b : Nat) (ids : List Kn) (R : Int × List Pap × Sto) (es : List Pap) (s : Sto) : Prop :=
  Rst Has SH F0 (fun k => Cs k ∨ k = b) w W B x a c mb P m size ⟨es, s, ids⟩ ∧ Fit P m size ⟨es, s, ids⟩ ∧ PoB W b y ∧ Stay Cs wr W ∧ roomR P m size now y es s = R ∧ (pv P 5 = 1 → (crowdB P s.l y || fullB P s.l y) = false)
section
variable {Has : World → Nat → Nat → (Nat → Prop) → Int → List Pap → Prop} {SH : World → Nat → Nat → (Nat → Prop) → Sto → Prop} {F0 Cs Cs' : Nat → Prop} {w wr wo W W' : World} {B x : Nat} {a : Option Addr} {c : Nat} {mb : Option Nat} {P : Pn.Pln} {m size now : Int} {y : Po} {b : Nat} {ids : List Kn} {R : Int × List Pap × Sto} {es : List Pap} {s : Sto} {st : Str}
theorem Rst.fewer (U : Und Has SH) (h : Rst Has SH F0 Cs w wr B x a c mb P m size st) (hC : ∀ k, Cs' k → Cs k) : Rst Has SH F0 Cs' w wr B x a c mb P m size st := h.mine U.H U.S (Below.refl _ _) (fun k hk => .inl (hC k hk))
theorem Mk.below (U : Und Has SH) (h : Mk Has SH F0 Cs w wr W B x a c mb P m size now y b ids R es s) (hb : Below W.heap.size W W') : Mk Has SH F0 Cs w wr W' B x a c mb P m size now y b ids R es s :=
  ⟨h.1.below U.H U.S hb, h.2.1, h.2.2.1.below hb, h.2.2.2.1.trans ((h.1.fewer U (fun _ hk => .inl hk)).stay hb), h.2.2.2.2⟩
/-- a message is erased -/
theorem Mk.erase (U : Und Has SH) (V : SWorks SH) (h : Mk Has SH F0 Cs w wr W B x a c mb P m size now y b ids R es s) (hB : B ≤ w.heap.size) (hz : ¬ (pv P 1 ≠ 0 ∧ pv P 1 < (szP y : Int))) (hc : ¬ (crowdB P s.l y || fullB P s.l y) = false) (f : ByteArray) (hs : f.size ≤ 140737488355328) (hok : errS true f = 0) (hq : nxQ f s.l = goQ P s.l y) :
    ∃ D : Int, (D ≠ 0 → R = (D, es, s)) ∧ Calls Tryz.prog 69 #[.pointer (some ⟨x, 0, none⟩), .int .i64 now, .string f] W fun e w' => e = .returned (.int .i64 D) ∧ (D ≠ 0 → Mk Has SH F0 Cs w wr w' B x a c mb P m size now y b ids R es s) ∧ (D = 0 → ∃ es' s', Mk Has SH F0 Cs w wr w' B x a c mb P m size now y b ids R es' s' ∧ s'.l.length < s.l.length ∧ s'.l.Sublist s.l) := by
  have hp := ppos_of h.2.1.plan
  have hd : pv P 5 ≠ 1 := fun z => hc (h.2.2.2.2.2 z)
  have he := erasefirst_any U V h.1 h.2.1 hB now f hs hok
  rw [show (⟨es, s, ids⟩ : Str).s = s from rfl, show (⟨es, s, ids⟩ : Str).es = es from rfl, hq] at he
  have hfit := h.2.1.did (eraR (goQ P s.l y) now)
  refine ⟨doE es s m size (eraR (goQ P s.l y) now), fun hD => by rw [← h.2.2.2.2.1]; exact room_bad hc hd hD, he.mono ?_⟩
  rintro e w' ⟨rfl, r1, s1⟩
  have hst : Stay Cs W w' := s1.fewer (fun k hk => .inl hk)
  have hpo : PoB w' b y := h.2.2.1.stay s1 (.inr rfl)
  refine ⟨rfl, fun hD => ?_, fun hD => ?_⟩
  · have e1 : doL es s m size (eraR (goQ P s.l y) now) = es := by unfold doL; rw [if_neg hD]
    have e2 : doS es s m size (eraR (goQ P s.l y) now) = s := by unfold doS; rw [if_neg hD]
    unfold doT at r1
    simp only [e1, e2] at r1
    exact ⟨r1, h.2.1, hpo, h.2.2.2.1.trans hst, h.2.2.2.2⟩
  · exact ⟨_, _, ⟨r1, hfit, hpo, h.2.2.2.1.trans hst, (room_on hp hz hc hd hD).symm.trans h.2.2.2.2.1, fun z => absurd z hd⟩, era_less hD (go_in hp hz hc), era_sub hD⟩

set_option maxRecDepth 100000 in
set_option maxHeartbeats 4000000 in
/-- room is made; where new messages are thrown away there is room -/
theorem makeroom_any (U : Und Has SH) (T : STells SH) (V : SWorks SH) (h : Rst Has SH F0 Cs w wo B x a c mb P m size st) (hf : Fit P m size st) (hB : B ≤ w.heap.size) (y : Po) (hy : SmallO y) (hok : errS false y.s = 0) (hz : ¬ (pv P 1 ≠ 0 ∧ pv P 1 < (szP y : Int))) (hd : pv P 5 = 1 → (crowdB P st.s.l y || fullB P st.s.l y) = false)
    (IF : ∀ (Cs' : Nat → Prop) (W : World) (s' : Str), Rst Has SH F0 Cs' w W B x a c mb P m size s' → Fit P m size s' → Calls Tryz.prog 68 #[.pointer (some ⟨x, 0, none⟩), poV y] W fun e w' => e = .returned (.bool (fullB P s'.s.l y)) ∧ Below W.heap.size W w') :
    Calls Tryz.prog 37 #[.pointer (some ⟨x, 0, none⟩), .int .i64 now, poV y] wo fun e w' => e = .returned (.int .i64 (roomR P m size now y st.es st.s).1) ∧ Rst Has SH F0 Cs w w' B x a c mb P m size ⟨(roomR P m size now y st.es st.s).2.1, (roomR P m size now y st.es st.s).2.2, st.ids⟩ ∧ Stay Cs wo w' := by
  have b0 : Below wo.heap.size wo (wo.alloc (poO y)) := (Below.refl _ _).alloc (Nat.le_refl _) _
  obtain ⟨R, hR⟩ : ∃ R, roomR P m size now y st.es st.s = R := ⟨_, rfl⟩
  have hM0 : Hid (Mk Has SH F0 Cs w wo (wo.alloc (poO y)) B x a c mb P m size now y wo.heap.size st.ids R st.es st.s) := hide ⟨h.mine U.H U.S b0 (fun k hk => by
    rcases hk with z | z
    · exact .inl z
    · exact .inr ⟨by omega, by subst z; simp⟩), hf, PoB.new wo y, h.stay b0, hR, hd⟩
  rw [hR]
  have PSub : Hid (∀ (W : World) (es : List Pap) (s : Sto), Mk Has SH F0 Cs w wo W B x a c mb P m size now y wo.heap.size st.ids R es s → Calls Tryz.prog 67 #[.pointer (some ⟨x, 0, none⟩), poV y] W fun e w' => e = .returned (.bool (crowdB P s.l y)) ∧ Below W.heap.size W w') := hide (fun W es s hm => subfull_any U T hm.1 hm.2.1 hB y hy hok)
  have PFul : Hid (∀ (W : World) (es : List Pap) (s : Sto), Mk Has SH F0 Cs w wo W B x a c mb P m size now y wo.heap.size st.ids R es s → Calls Tryz.prog 68 #[.pointer (some ⟨x, 0, none⟩), poV y] W fun e w' => e = .returned (.bool (fullB P s.l y)) ∧ Below W.heap.size W w') := hide (fun W es s hm => IF _ W _ hm.1 hm.2.1)
  have PEr1 := hide (fun (W : World) (es : List Pap) (s : Sto) (hm : Mk Has SH F0 Cs w wo W B x a c mb P m size now y wo.heap.size st.ids R es s) (hc : crowdB P s.l y = true) => hm.erase U V hB hz (by rw [hc]; simp) y.s hy.s (subject_filter hok) (by
    unfold goQ
    rw [if_pos hc]
    exact nx_subject hm.2.1.vok.ok hok))
  have PEr2 := hide (fun (W : World) (es : List Pap) (s : Sto) (hm : Mk Has SH F0 Cs w wo W B x a c mb P m size now y wo.heap.size st.ids R es s) (hc : crowdB P s.l y = false) (hfu : fullB P s.l y = true) => hm.erase U V hB hz (by rw [hfu]; simp) ⟨#[62]⟩ (by decide) gt_right (by
    unfold goQ
    rw [if_neg (by rw [hc]; simp)]
    exact nx_all hm.2.1.vok.ok))
  have HMb := hide (fun (W W' : World) (es : List Pap) (s : Sto) (hm : Mk Has SH F0 Cs w wo W B x a c mb P m size now y wo.heap.size st.ids R es s) (hb : Below W.heap.size W W') => hm.below U hb)
  have HEnd : Hid (∀ (W : World) (es : List Pap) (s : Sto), Mk Has SH F0 Cs w wo W B x a c mb P m size now y wo.heap.size st.ids R es s → R.2.1 = es → R.2.2 = s → Rst Has SH F0 Cs w W B x a c mb P m size ⟨R.2.1, R.2.2, st.ids⟩ ∧ Stay Cs wo W) := hide (fun W es s hm h1 h2 => by
    rw [h1, h2]
    exact ⟨hm.1.fewer U (fun k hk => .inl hk), hm.2.2.2.1⟩)
  obtain ⟨n0, hn0⟩ : ∃ n0, n0 = st.s.l.length := ⟨_, rfl⟩
  have HN0 := hide hn0
  obtain ⟨W0, hW0⟩ : ∃ W0, W0 = wo.alloc (poO y) := ⟨_, rfl⟩
  rw [← hW0] at hM0
  clear h hf hB hy hok hz hd IF b0 hR hn0
  go_enter Tryz.func37, Tryz.ntmps37
  go_wp2_with fail
  rw [← hW0]
  clear hW0
  go_loopg [] n0 (fun k W => ∃ (es : List Pap) (s : Sto), Hid (Mk Has SH F0 Cs w wo W B x a c mb P m size now y wo.heap.size st.ids R es s) ∧ Hid (k = s.l.length))
  case atStart => exact ⟨_, _, hM0, HN0⟩
  case round =>
    clear hM0 HN0
    obtain ⟨es, s, HM, HN⟩ := hrel
    obtain ⟨hlt, y0, y1, y2, y3, y4, y5⟩ := (unhide HM).2.2.1
    have PS := hide (unhide PSub _ _ _ (unhide HM))
    obtain ⟨C, hC⟩ : ∃ C, crowdB P s.l y = C := ⟨_, rfl⟩
    rw [hC] at PS
    have HC := hide hC
    clear hC
    go_wp2_with fail
    refine (unhide PS).mono ?_
    rintro e w1 ⟨rfl, b1⟩
    have HM1 := hide (unhide HMb _ _ _ _ (unhide HM) b1)
    clear PS b1 HM y0 y1 y2 y3 y4 y5 hlt
    cases C with
    | true =>
      obtain ⟨D, hD1, hD2⟩ := unhide PEr1 _ _ _ (unhide HM1) (unhide HC)
      have PE := hide hD2
      have HD := hide hD1
      have y0 := (unhide HM1).2.2.1.c0
      clear hD1 hD2
      go_wp2_with fail
      refine (unhide PE).mono ?_
      rintro e w2 ⟨rfl, k1, k2⟩
      have K1 := hide k1
      have K2 := hide k2
      clear PE k1 k2 HM1 y0
      by_cases h0 : D = 0
      · obtain ⟨es', s', hm', hl', _⟩ := unhide K2 h0
        have HM2 := hide hm'
        have HL := hide hl'
        subst h0
        clear hm' hl' K1 K2 HD
        go_wp2_with fail
        go_roundg s'.l.length
        case measure => have := unhide HL; have := unhide HN; omega
        case rel => exact ⟨_, _, HM2, hide rfl⟩
      · have e5 : (D != 0) = true := by simpa using h0
        have hr := unhide HD h0
        have HE := hide (unhide HEnd _ _ _ (unhide K1 h0) (by rw [hr]) (by rw [hr]))
        have HR := hide (show R.1 = D from by rw [hr])
        clear K1 K2 HD hr
        go_wp2_with fail
        go_ret
        rw [unhide HR]
        exact ⟨rfl, unhide HE⟩
    | false =>
      obtain ⟨n1, hn1⟩ : ∃ n1, n1 = s.l.length := ⟨_, rfl⟩
      have HN1 := hide hn1
      clear hn1 HN
      go_wp2_with fail
      go_loopg [] n1 (fun k W => ∃ (es : List Pap) (s : Sto), Hid (Mk Has SH F0 Cs w wo W B x a c mb P m size now y wo.heap.size st.ids R es s) ∧ Hid (k = s.l.length) ∧ Hid (crowdB P s.l y = false))
      case atStart => exact ⟨_, _, HM1, HN1, HC⟩
      case round =>
        clear HM1 HN1 HC
        obtain ⟨es, s, HM, HN, HC⟩ := hrel
        obtain ⟨hlt, y0, y1, y2, y3, y4, y5⟩ := (unhide HM).2.2.1
        have PS := hide (unhide PFul _ _ _ (unhide HM))
        obtain ⟨C, hC⟩ : ∃ C, fullB P s.l y = C := ⟨_, rfl⟩
        rw [hC] at PS
        have HF := hide hC
        clear hC
        go_wp2_with fail
        refine (unhide PS).mono ?_
        rintro e w1 ⟨rfl, b1⟩
        have HM1 := hide (unhide HMb _ _ _ _ (unhide HM) b1)
        clear PS b1 HM y0 y1 y2 y3 y4 y5 hlt
        cases C with
        | true =>
          obtain ⟨D, hD1, hD2⟩ := unhide PEr2 _ _ _ (unhide HM1) (unhide HC) (unhide HF)
          have PE := hide hD2
          have HD := hide hD1
          clear hD1 hD2
          go_wp2_with fail
          refine (unhide PE).mono ?_
          rintro e w2 ⟨rfl, k1, k2⟩
          have K1 := hide k1
          have K2 := hide k2
          clear PE k1 k2 HM1
          by_cases h0 : D = 0
          · obtain ⟨es', s', hm', hl', hs'⟩ := unhide K2 h0
            have HM2 := hide hm'
            have HL := hide hl'
            have HC2 := hide (crowd_kept hs' (unhide HC))
            subst h0
            clear hm' hl' hs' K1 K2 HD
            go_wp2_with fail
            go_roundg s'.l.length
            case measure => have := unhide HL; have := unhide HN; omega
            case rel => exact ⟨_, _, HM2, hide rfl, HC2⟩
          · have e5 : (D != 0) = true := by simpa using h0
            have hr := unhide HD h0
            have HE := hide (unhide HEnd _ _ _ (unhide K1 h0) (by rw [hr]) (by rw [hr]))
            have HR := hide (show R.1 = D from by rw [hr])
            clear K1 K2 HD hr
            go_wp2_with fail
            go_ret
            rw [unhide HR]
            exact ⟨rfl, unhide HE⟩
        | false =>
          have hr : R = (0, es, s) := (unhide HM1).2.2.2.2.1.symm.trans (room_no (by rw [unhide HC, unhide HF]; rfl))
          have HE := hide (unhide HEnd _ _ _ (unhide HM1) (by rw [hr]) (by rw [hr]))
          have HR := hide (show R.1 = 0 from by rw [hr])
          clear hr HM1
          go_wp2_with fail
          go_ret
          rw [unhide HR]
          exact ⟨rfl, unhide HE⟩
end
end Go.Proofs.YtohjipnkoiifhagGreatDoor.Dk

namespace Go.Proofs.YtohjipnkoiifhagGreatDoor.Dk
open Go.RowKit

/-- what is rolled up -/
def rolE (m size now : Int) (y : Po) (q : Int) (st : Str) : Int := if y.ro = 0 then 0 else doE st.es st.s m size (purR q now (rollF y))
def rolT (m size now : Int) (y : Po) (q : Int) (st : Str) : Str := if y.ro = 0 then st else doT m size st (purR q now (rollF y))
/-- a record that stands in memory -/
abbrev At6 (g : Nat) (r : Rc) (w : World) : Prop := w.cell? ⟨g, 0, none⟩ = some (.int .i64 r.k) ∧ w.cell? ⟨g, 1, none⟩ = some (.int .i64 r.q) ∧ w.cell? ⟨g, 2, none⟩ = some (.int .i64 r.t) ∧ w.cell? ⟨g, 3, none⟩ = some (.string r.s) ∧ w.cell? ⟨g, 4, none⟩ = some (.string r.h) ∧ w.cell? ⟨g, 5, none⟩ = some (.string r.d)
section
variable {Has : World → Nat → Nat → (Nat → Prop) → Int → List Pap → Prop} {SH : World → Nat → Nat → (Nat → Prop) → Sto → Prop} {F0 Cs : Nat → Prop} {w wr w' : World} {B x : Nat} {a : Option Addr} {c : Nat} {mb : Option Nat} {P : Pn.Pln} {m size : Int} {st : Str}

set_option maxRecDepth 100000 in
set_option maxHeartbeats 2000000 in
theorem roll_any (U : Und Has SH) (h : Rst Has SH F0 Cs w wr B x a c mb P m size st) (hf : Fit P m size st) (hB : B ≤ w.heap.size) (now q : Int) (y : Po) (hy : SmallO y) (hr : 0 ≤ y.ro ∧ y.ro ≤ 2) :
    Calls Tryz.prog 71 #[.pointer (some ⟨x, 0, none⟩), .int .i64 now, .int .i64 q, poV y] wr fun e w' => e = .returned (.int .i64 (rolE m size now y q st)) ∧ Rst Has SH F0 Cs w w' B x a c mb P m size (rolT m size now y q st) ∧ Stay Cs wr w' := by
  have b0 : Below wr.heap.size wr (wr.alloc (poO y)) := (Below.refl _ _).alloc (Nat.le_refl _) _
  have r0 := h.below U.H U.S b0
  have s0 := h.stay b0
  have hx := h.lt
  obtain ⟨_, y0, y1, y2, y3, y4, y5⟩ := PoB.new wr y
  by_cases h1 : y.ro = 1
  · have e1 : (y.ro == 1) = true := by rw [beq_iff_eq]; exact h1
    have e2 : decide (y.ro = 1) = true := decide_eq_true h1
    have hF : rollF y = y.s := by unfold rollF; rw [if_pos h1]
    have HR := hide (show rolE m size now y q st = doE st.es st.s m size (purR q now y.s) ∧ rolT m size now y q st = doT m size st (purR q now y.s) from by
      unfold rolE rolT
      rw [hF, if_neg (by omega), if_neg (by omega)]
      exact ⟨rfl, rfl⟩)
    have PP := hide (tpurge_any U r0 hf hB now q y.s hy.s)
    have S0 := hide s0
    generalize doE st.es st.s m size (purR q now y.s) = D at *
    generalize doT m size st (purR q now y.s) = st' at *
    clear h hf r0 s0 h1 hr hF b0 hy
    go_enter Tryz.func71, Tryz.ntmps71
    go_wp2_with fail
    refine (unhide PP).mono ?_
    rintro e w1 ⟨rfl, r1, s1⟩
    have B1 := hide (And.intro r1 ((unhide S0).trans s1))
    clear PP r1 s1
    go_wp2_with fail
    go_ret
    rw [(unhide HR).1, (unhide HR).2]
    exact ⟨rfl, unhide B1⟩
  · have e1 : (y.ro == 1) = false := by rw [beq_eq_false_iff_ne]; exact h1
    have e2 : decide (y.ro = 1) = false := decide_eq_false h1
    by_cases h2 : y.ro = 2
    · have e3 : (y.ro == 2) = true := by rw [beq_iff_eq]; exact h2
      have e4 : decide (y.ro = 2) = true := decide_eq_true h2
      have hF : rollF y = ⟨#[62]⟩ := by unfold rollF; rw [if_neg h1]
      have HR := hide (show rolE m size now y q st = doE st.es st.s m size (purR q now ⟨#[62]⟩) ∧ rolT m size now y q st = doT m size st (purR q now ⟨#[62]⟩) from by
        unfold rolE rolT
        rw [hF, if_neg (by omega), if_neg (by omega)]
        exact ⟨rfl, rfl⟩)
      have PP := hide (tpurge_any U r0 hf hB now q ⟨#[62]⟩ (by decide))
      have S0 := hide s0
      generalize doE st.es st.s m size (purR q now ⟨#[62]⟩) = D at *
      generalize doT m size st (purR q now ⟨#[62]⟩) = st' at *
      clear h hf r0 s0 h1 h2 hr hF b0 hy
      go_enter Tryz.func71, Tryz.ntmps71
      go_wp2_with fail
      refine (unhide PP).mono ?_
      rintro e w1 ⟨rfl, r1, s1⟩
      have B1 := hide (And.intro r1 ((unhide S0).trans s1))
      clear PP r1 s1
      go_wp2_with fail
      go_ret
      rw [(unhide HR).1, (unhide HR).2]
      exact ⟨rfl, unhide B1⟩
    · have e3 : (y.ro == 2) = false := by rw [beq_eq_false_iff_ne]; exact h2
      have e4 : decide (y.ro = 2) = false := decide_eq_false h2
      have h3 : y.ro = 0 := by omega
      have HR := hide (show rolE m size now y q st = 0 ∧ rolT m size now y q st = st from by
        unfold rolE rolT
        rw [if_pos h3, if_pos h3]
        exact ⟨rfl, rfl⟩)
      have B1 := hide (And.intro r0 s0)
      clear h hf r0 s0 h1 h2 h3 hr b0 hy
      go_enter Tryz.func71, Tryz.ntmps71
      go_wp2_with fail
      go_ret
      rw [(unhide HR).1, (unhide HR).2]
      exact ⟨rfl, unhide B1⟩
theorem Fit.more {ids' : List Kn} (h : Fit P m size st) (hq : ∀ k ∈ ids', 1 ≤ k.q) : Fit P m size ⟨st.es, st.s, ids'⟩ := ⟨h.plan, h.vok, h.room, h.size, hq⟩
theorem Rst.few (h : Rst Has SH F0 Cs w wr B x a c mb P m size st) : (st.ids.length : Int) ≤ st.s.last := by
  obtain ⟨FV, h1, _⟩ := h
  exact h1.few
end
end Go.Proofs.YtohjipnkoiifhagGreatDoor.Dk

namespace Go.Proofs.YtohjipnkoiifhagGreatDoor.Dk
open Go.RowKit

section
variable {Has : World → Nat → Nat → (Nat → Prop) → Int → List Pap → Prop} {SH : World → Nat → Nat → (Nat → Prop) → Sto → Prop} {F0 Cs : Nat → Prop} {w wr w' : World} {B x : Nat} {a : Option Addr} {c : Nat} {mb : Option Nat} {P : Pn.Pln} {m size : Int} {st : Str}
theorem At6.stay {g : Nat} {r : Rc} {W W' : World} {D : Nat → Prop} (h : At6 g r W) (s : Stay D W W') (hg : D g) : At6 g r W' := ⟨(s.cell hg).trans h.1, (s.cell hg).trans h.2.1, (s.cell hg).trans h.2.2.1, (s.cell hg).trans h.2.2.2.1, (s.cell hg).trans h.2.2.2.2.1, (s.cell hg).trans h.2.2.2.2.2⟩
theorem doT_bad {r : Rc} (h : doE st.es st.s m size r ≠ 0) : doT m size st r = st := by
  unfold doT doL doS
  rw [if_neg h, if_neg h]
theorem put_bad {now : Int} {y : Po} (h : doE st.es st.s m size (msgR (st.s.last + 1) now y) ≠ 0) : putP m size now y st.ids st.es st.s = ((0, false, doE st.es st.s m size (msgR (st.s.last + 1) now y)), st) := by
  unfold putP
  rw [if_pos h]
theorem put_rolled {now : Int} {y : Po} {st1 : Str} (h : doE st.es st.s m size (msgR (st.s.last + 1) now y) = 0) (h1 : st1 = ⟨(doT m size st (msgR (st.s.last + 1) now y)).es, (doT m size st (msgR (st.s.last + 1) now y)).s, idsK st.ids y.i now (st.s.last + 1)⟩) :
    putP m size now y st.ids st.es st.s = ((if rolE m size now y (st.s.last + 1) st1 = 0 then st.s.last + 1 else 0, false, rolE m size now y (st.s.last + 1) st1), rolT m size now y (st.s.last + 1) st1) := by
  subst h1
  unfold putP rolE rolT
  rw [if_neg (by rw [h]; simp)]
  by_cases c1 : y.ro = 0
  · rw [if_pos c1, if_pos c1, if_pos c1]
    rfl
  · rw [if_neg c1, if_neg c1, if_neg c1]
    unfold doT idsK idsP
    simp only
    by_cases c2 : doE (doL st.es st.s m size (msgR (st.s.last + 1) now y)) (doS st.es st.s m size (msgR (st.s.last + 1) now y)) m size (purR (st.s.last + 1) now (rollF y)) = 0
    · rw [if_neg (by rw [c2]; simp), if_pos c2, c2]
    · rw [if_pos c2, if_neg c2]
      have e1 : doL (doL st.es st.s m size (msgR (st.s.last + 1) now y)) (doS st.es st.s m size (msgR (st.s.last + 1) now y)) m size (purR (st.s.last + 1) now (rollF y)) = doL st.es st.s m size (msgR (st.s.last + 1) now y) := by
        rw [doL, if_neg c2]
      have e2 : doS (doL st.es st.s m size (msgR (st.s.last + 1) now y)) (doS st.es st.s m size (msgR (st.s.last + 1) now y)) m size (purR (st.s.last + 1) now (rollF y)) = doS st.es st.s m size (msgR (st.s.last + 1) now y) := by
        rw [doS, if_neg c2]
      rw [e1, e2]

set_option maxRecDepth 100000 in
set_option maxHeartbeats 4000000 in
theorem add_any (U : Und Has SH) (h : Rst Has SH F0 Cs w wr B x a c mb P m size st) (hf : Fit P m size st) (hB : B ≤ w.heap.size) (now : Int) (y : Po) (hy : SmallO y) (hr : 0 ≤ y.ro ∧ y.ro ≤ 2) (hno : y.i.size ≠ 0 → pv P 7 ≠ 0 → ¬ 0 < seenQ st.ids y.i (now - pv P 7)) :
    Calls Tryz.prog 38 #[.pointer (some ⟨x, 0, none⟩), .int .i64 now, poV y] wr fun e w' => e = .returned (.tuple #[.int .i64 (putP m size now y st.ids st.es st.s).1.1, .int .i64 (putP m size now y st.ids st.es st.s).1.2.2]) ∧ (∃ mb', Rst Has SH F0 Cs w w' B x a c mb' P m size (putP m size now y st.ids st.es st.s).2) ∧ Stay Cs wr w' := by
  have b0 : Below wr.heap.size wr (wr.alloc (poO y)) := (Below.refl _ _).alloc (Nat.le_refl _) _
  have hk := hf.vok.ok
  have hlast := hk.last
  have r0 := h.mine U.H U.S (Cs' := fun k => Cs k ∨ k = wr.heap.size) b0 (fun k hk => by
    rcases hk with z | z
    · exact .inl z
    · exact .inr ⟨by omega, by subst z; simp⟩)
  have p0 := PoB.new wr y
  have s0 := h.stay b0
  have P1 := hide (tstore_any r0)
  have P2 := hide (fun (W : World) (q : Nat) (G : Nat → Prop) (hS : SH W B q G st.s) (hW : B ≤ W.heap.size) => U.S.sees.sums hS hk hW)
  have hBr := Nat.le_trans hB r0.room
  have R0 := hide r0
  have HP := hide (fun (W : World) (hW : Below (wr.alloc (poO y)).heap.size (wr.alloc (poO y)) W) => p0.below hW)
  have S0 := hide s0
  have hsl : ∀ x0 x1 x2 x3 : Value, ∀ W : World, (Instr.field 37 (.agg #[x0, x1, x2, x3]) 3).run Tryz.prog W = .ok x3 W := fun _ _ _ _ _ => by kernel_rfl
  have hms : Small (msgR (st.s.last + 1) now y) := ⟨hy.s, hy.h, hy.d⟩
  have HF := hide hf
  have HFew := hide h.few
  have HY := hide hy
  have HRo := hide hr
  have HNo := hide hno
  obtain ⟨r, hrr⟩ : ∃ r, msgR (st.s.last + 1) now y = r := ⟨_, rfl⟩
  have HRR := hide hrr
  obtain ⟨l0, l1⟩ := hlast
  obtain ⟨last, hla⟩ : ∃ last, st.s.last = last := ⟨_, rfl⟩
  have HLa := hide hla
  rw [hla] at P2 l0 l1
  rw [hrr] at hms
  generalize (st.s.l.length : Int) = n1 at P2
  generalize (byteN st.s.l : Int) = n2 at P2
  generalize firstQ st.s.l = n3 at P2
  clear h hf hk r0 p0 b0 s0 hy hr hno hrr hla
  go_enter Tryz.func38, Tryz.ntmps38
  go_wp2_with fail
  refine (unhide P1).mono ?_
  rintro e w1 ⟨q, G, rfl, h1, b1⟩
  have P3 := hide (unhide P2 w1 q G h1 (Nat.le_trans hBr b1.size))
  have B1 := hide b1
  clear P1 P2 h1 b1
  go_wp2_with fail
  refine (unhide P3).mono ?_
  rintro e w2 ⟨rfl, b2⟩
  have B2 := hide (bstep (unhide B1) b2)
  obtain ⟨hpl, z0, z1, z2, z3, z4, z5⟩ := unhide HP w2 (unhide B2)
  clear P3 b2 B1
  have er : r = ⟨1, last + 1, now, y.s, y.h, y.d⟩ := by rw [← unhide HRR, unhide HLa]; rfl
  have bA : Below w2.heap.size w2 (w2.alloc (.cells #[.int .i64 1, .int .i64 (last + 1), .int .i64 now, .string y.s, .string y.h, .string y.d] 30)) := (Below.refl _ _).alloc (Nat.le_refl _) _
  have bA2 : Below w2.heap.size w2 (w2.alloc (.cells #[.int .i64 1, .int .i64 (last + 1), .int .i64 now, .string y.s, .string y.h, .string y.d] 30)).drew := bA.drew
  have R3 := hide ((((unhide R0).below U.H U.S (unhide B2)).mine U.H U.S (Cs' := fun k => (Cs k ∨ k = wr.heap.size) ∨ k = w2.heap.size) bA2 (fun k hk => by
    rcases hk with z | z
    · exact .inl z
    · exact .inr ⟨by omega, by subst z; simp⟩)))
  have S3 := hide (((unhide S0).trans ⟨(unhide B2).size, fun k hk => ((unhide R0).stay (unhide B2)).2 k (.inl hk)⟩).trans ⟨bA2.size, fun k hk => (((unhide R0).below U.H U.S (unhide B2)).stay bA2).2 k (.inl hk)⟩)
  have k3 : At6 w2.heap.size r (w2.alloc (.cells #[.int .i64 1, .int .i64 (last + 1), .int .i64 now, .string y.s, .string y.h, .string y.d] 30)).drew := by
    rw [er]
    exact ⟨by simp, by simp, by simp, by simp, by simp, by simp⟩
  have PO3 := hide ((unhide HP w2 (unhide B2)).below bA2)
  have PD := hide ((unhide R3).vdo U (unhide HF) hB r hms)
  have HK3 := hide k3
  clear er bA bA2 z4 z5 z1
  go_wp2_with fail
  go_region_held3 (At6 w2.heap.size r) (first | assumption | go_keep)
    (first
      | (go_at_call 8; refine (unhide PD).mono ?_; rintro e w4 ⟨rfl, r4, s4⟩; have k4 := At6.stay (unhide HK3) s4 (.inr rfl); have R4 := hide r4; have S4 := hide s4; clear r4 s4))
  have PO4 := hide ((unhide PO3).stay (unhide S4) (.inl (.inr rfl)))
  have SS4 := hide ((unhide S3).trans ((unhide S4).fewer (fun k hk => .inl (.inl hk))))
  clear k3 k4 HK3 PD R3 S3 S4 PO3 hpl z0 z2 z3
  obtain ⟨E, hE⟩ : ∃ E, doE st.es st.s m size r = E := ⟨_, rfl⟩
  rw [hE]
  have HE := hide hE
  clear hE
  by_cases h0 : E = 0
  · have hz := (unhide HE).trans h0
    have hzm : doE st.es st.s m size (msgR (st.s.last + 1) now y) = 0 := by rw [unhide HRR]; exact hz
    have hl1 : (doT m size st r).s.last = last + 1 := by
      show (doS st.es st.s m size r).last = last + 1
      rw [← unhide HRR, msg_did hzm, unhide HLa]
    have F4 := hide ((unhide HF).did r)
    have PK := hide (know_any U (unhide R4) (unhide F4) hB y.i (unhide HY).i (last + 1) now (fun u v => by have t := unhide HNo u v; show ¬ 0 < seenQ st.ids y.i (now - pv P 7); omega) (by rw [hl1, ← unhide HLa]; have := unhide HFew; show (st.ids.length : Int) + 1 ≤ _; omega))
    have y1 := (unhide PO4).c1
    obtain ⟨st2, hst2⟩ : ∃ st2, st2 = (⟨(doT m size st r).es, (doT m size st r).s, idsK (doT m size st r).ids y.i now (last + 1)⟩ : Str) := ⟨_, rfl⟩
    rw [← hst2] at PK
    have F5 := hide (show Fit P m size st2 from by
      rw [hst2]
      refine (unhide F4).more (fun k hk => ?_)
      have hk' : k ∈ idsP st.ids y now (last + 1) := hk
      exact ids_low (unhide HF).seqs (by omega) k hk')
    have HPut := hide (put_rolled (now := now) (y := y) (st1 := st2) hzm (by rw [hst2, unhide HRR, unhide HLa]; rfl))
    rw [unhide HLa] at HPut
    subst h0
    clear hz hzm hl1 hst2 F4 HE
    go_wp2_with fail
    refine (unhide PK).mono ?_
    rintro e w5 ⟨rfl, ⟨mb5, r5⟩, s5⟩
    have PO5 := hide ((unhide PO4).stay s5 (.inl (.inr rfl)))
    have SS5 := hide ((unhide SS4).trans (s5.fewer (fun k hk => .inl (.inl hk))))
    have PR := hide (roll_any U r5 (unhide F5) hB now (last + 1) y (unhide HY) (unhide HRo))
    obtain ⟨_, v0, v1, v2, v3, v4, v5⟩ := unhide PO5
    obtain ⟨D, hD⟩ : ∃ D, rolE m size now y (last + 1) st2 = D := ⟨_, rfl⟩
    rw [hD] at PR HPut
    clear PK R4 PO4 SS4 y1 r5 s5 hD
    go_wp2_with fail
    refine (unhide PR).mono ?_
    rintro e w6 ⟨rfl, r6, s6⟩
    have E6 := hide (show (∃ mb', Rst Has SH F0 Cs w w6 B x a c mb' P m size (putP m size now y st.ids st.es st.s).2) ∧ Stay Cs wr w6 from ⟨⟨mb5, by rw [unhide HPut]; exact r6.fewer U (fun k hk => .inl (.inl hk))⟩, (unhide SS5).trans (s6.fewer (fun k hk => .inl (.inl hk)))⟩)
    clear PR r6 s6 SS5 PO5 v0 v1 v2 v3 v4 v5
    by_cases hD0 : D = 0
    · have HQ := hide (show (putP m size now y st.ids st.es st.s).1.1 = last + 1 ∧ (putP m size now y st.ids st.es st.s).1.2.2 = 0 from by rw [unhide HPut, if_pos hD0]; exact ⟨rfl, hD0⟩)
      subst hD0
      clear HPut
      go_wp2_with fail
      go_ret2
      rw [(unhide HQ).1, (unhide HQ).2]
      exact ⟨rfl, unhide E6⟩
    · have HQ := hide (show (putP m size now y st.ids st.es st.s).1.1 = 0 ∧ (putP m size now y st.ids st.es st.s).1.2.2 = D from by rw [unhide HPut, if_neg hD0]; exact ⟨rfl, rfl⟩)
      have e5 : (D != 0) = true := by simpa using hD0
      clear HPut
      go_wp2_with fail
      go_ret2
      rw [(unhide HQ).1, (unhide HQ).2]
      exact ⟨rfl, unhide E6⟩
  · have hb := doT_bad (by rw [unhide HE]; exact h0 : doE st.es st.s m size r ≠ 0)
    have hp := put_bad (now := now) (y := y) (by rw [unhide HRR, unhide HE]; exact h0 : doE st.es st.s m size (msgR (st.s.last + 1) now y) ≠ 0)
    rw [unhide HRR, unhide HE] at hp
    have E6 := hide (show (∃ mb', Rst Has SH F0 Cs w w4 B x a c mb' P m size (putP m size now y st.ids st.es st.s).2) ∧ Stay Cs wr w4 from ⟨⟨mb, by rw [hp, ← hb]; exact (unhide R4).fewer U (fun k hk => .inl (.inl hk))⟩, unhide SS4⟩)
    have HQ := hide (show (putP m size now y st.ids st.es st.s).1.1 = 0 ∧ (putP m size now y st.ids st.es st.s).1.2.2 = E from by rw [hp]; exact ⟨rfl, rfl⟩)
    have e5 : (E != 0) = true := by simpa using h0
    clear hb hp HE R4 SS4 PO4
    go_wp2_with fail
    go_ret2
    rw [(unhide HQ).1, (unhide HQ).2]
    exact ⟨rfl, unhide E6⟩
end
end Go.Proofs.YtohjipnkoiifhagGreatDoor.Dk

namespace Go.Proofs.YtohjipnkoiifhagGreatDoor.Dk
open Go.RowKit

section
variable {Has : World → Nat → Nat → (Nat → Prop) → Int → List Pap → Prop} {SH : World → Nat → Nat → (Nat → Prop) → Sto → Prop} {F0 Cs : Nat → Prop} {w wr w' : World} {B x : Nat} {a : Option Addr} {c : Nat} {mb : Option Nat} {P : Pn.Pln} {m size : Int} {st : Str}
theorem pub_pre {now : Int} {y : Po} (h : preE P now y ≠ 0) : pubP P m size now y st = ((0, false, preE P now y), st) := by unfold pubP; rw [if_pos h]
theorem pub_again {now : Int} {y : Po} (h : preE P now y = 0) (h1 : againB P now y st.ids = true) : pubP P m size now y st = ((seenQ st.ids y.i (now - pv P 7), true, 0), st) := by unfold pubP; rw [if_neg (by rw [h]; simp), if_pos h1]
theorem pub_chk {now : Int} {y : Po} (h : preE P now y = 0) (h1 : againB P now y st.ids = false) (h2 : chkS P st.s y ≠ 0) : pubP P m size now y st = ((0, false, chkS P st.s y), st) := by
  unfold pubP
  rw [if_neg (by rw [h]; simp), if_neg (by rw [h1]; simp)]
  unfold chkS chkF at h2 ⊢
  by_cases c1 : y.x ≠ -1 ∧ y.x ≠ st.s.last
  · rw [if_pos c1, if_pos c1]
  · rw [if_neg c1] at h2 ⊢
    rw [if_neg c1]
    have hr : roomE P m size now y st.es st.s = (8, st.es, st.s) := by
      unfold roomE
      by_cases c2 : pv P 1 ≠ 0 ∧ pv P 1 < (szP y : Int)
      · rw [if_pos c2]
      · rw [if_neg c2] at h2 ⊢
        by_cases c3 : pv P 5 = 1 ∧ (crowdB P st.s.l y || fullB P st.s.l y) = true
        · exact room_new (by rw [c3.2]; simp) c3.1
        · rw [if_neg c3] at h2
          exact absurd rfl h2
    have h8 : (if pv P 1 ≠ 0 ∧ pv P 1 < (szP y : Int) then (8 : Int) else if pv P 5 = 1 ∧ (crowdB P st.s.l y || fullB P st.s.l y) = true then 8 else 0) = 8 := by
      by_cases c2 : pv P 1 ≠ 0 ∧ pv P 1 < (szP y : Int)
      · rw [if_pos c2]
      · rw [if_neg c2] at h2 ⊢
        by_cases c3 : pv P 5 = 1 ∧ (crowdB P st.s.l y || fullB P st.s.l y) = true
        · rw [if_pos c3]
        · rw [if_neg c3] at h2
          exact absurd rfl h2
    rw [hr, h8]
    rfl
theorem chk_ok {y : Po} (h : chkS P st.s y = 0) : ¬ (y.x ≠ -1 ∧ y.x ≠ st.s.last) ∧ ¬ (pv P 1 ≠ 0 ∧ pv P 1 < (szP y : Int)) ∧ (pv P 5 = 1 → (crowdB P st.s.l y || fullB P st.s.l y) = false) := by
  unfold chkS chkF at h
  by_cases c1 : y.x ≠ -1 ∧ y.x ≠ st.s.last
  · rw [if_pos c1] at h; exact absurd h (by decide)
  · rw [if_neg c1] at h
    by_cases c2 : pv P 1 ≠ 0 ∧ pv P 1 < (szP y : Int)
    · rw [if_pos c2] at h; exact absurd h (by decide)
    · rw [if_neg c2] at h
      refine ⟨c1, c2, fun z => ?_⟩
      cases hc : (crowdB P st.s.l y || fullB P st.s.l y) with
      | false => rfl
      | true => rw [if_pos ⟨z, hc⟩] at h; exact absurd h (by decide)
theorem pub_go {now : Int} {y : Po} (h : preE P now y = 0) (h1 : againB P now y st.ids = false) (h2 : chkS P st.s y = 0) : pubP P m size now y st = if (roomR P m size now y st.es st.s).1 ≠ 0 then ((0, false, (roomR P m size now y st.es st.s).1), ⟨(roomR P m size now y st.es st.s).2.1, (roomR P m size now y st.es st.s).2.2, st.ids⟩) else putP m size now y st.ids (roomR P m size now y st.es st.s).2.1 (roomR P m size now y st.es st.s).2.2 := by
  obtain ⟨c1, c2, _⟩ := chk_ok h2
  have hr : roomE P m size now y st.es st.s = roomR P m size now y st.es st.s := by unfold roomE roomR; rw [if_neg c2]
  unfold pubP
  rw [if_neg (by rw [h]; simp), if_neg (by rw [h1]; simp), if_neg c1, hr]
theorem pre_ok {now : Int} {y : Po} (h : preE P now y = 0) : (0 ≤ now ∧ now ≤ 1099511627776) ∧ (0 ≤ y.ro ∧ y.ro ≤ 2) ∧ errS false y.s = 0 := by
  by_cases hg : inI now 0 1099511627776 = true ∧ -1 ≤ y.x ∧ 0 ≤ y.ro ∧ y.ro ≤ 2
  · refine ⟨by simpa [inI] using hg.1, ⟨hg.2.2.1, hg.2.2.2⟩, ?_⟩
    rw [pre_good hg] at h
    by_cases c1 : errS false y.s = 0
    · exact c1
    · rw [if_pos c1] at h; exact absurd h c1
  · rw [pre_bad hg] at h; exact absurd h (by decide)
theorem Rst.sees (h : Rst Has SH F0 Cs w wr B x a c mb P m size st) : PBx wr x P a c ∧ SlS wr a P.f ∧ SmallP P := by
  obtain ⟨FV, h1, _⟩ := h
  exact ⟨h1.plan, h1.row, h1.small⟩
theorem Fit.room' {now : Int} {y : Po} (h : Fit P m size st) : Fit P m size ⟨(roomR P m size now y st.es st.s).2.1, (roomR P m size now y st.es st.s).2.2, st.ids⟩ := ⟨h.plan, VOk.room _ h.vok, h.room, h.size, h.seqs⟩

set_option maxRecDepth 100000 in
set_option maxHeartbeats 4000000 in
theorem publish_any (U : Und Has SH) (T : STells SH) (V : SWorks SH) (h : Rst Has SH F0 Cs w wr B x a c mb P m size st) (hf : Fit P m size st) (hB : B ≤ w.heap.size) (now : Int) (y : Po) (hy : SmallO y) :
    Calls Tryz.prog 18 #[.pointer (some ⟨x, 0, none⟩), .int .i64 now, poV y] wr fun e w' => e = .returned (.tuple #[.int .i64 (pubP P m size now y st).1.1, .bool (pubP P m size now y st).1.2.1, .int .i64 (pubP P m size now y st).1.2.2]) ∧ (∃ mb', Rst Has SH F0 Cs w w' B x a c mb' P m size (pubP P m size now y st).2) ∧ Stay Cs wr w' := by
  have b0 : Below wr.heap.size wr (wr.alloc (poO y)) := (Below.refl _ _).alloc (Nat.le_refl _) _
  have r0 := h.mine U.H U.S (Cs' := fun k => Cs k ∨ k = wr.heap.size) b0 (fun k hk => by
    rcases hk with z | z
    · exact .inl z
    · exact .inr ⟨by omega, by subst z; simp⟩)
  have p0 := PoB.new wr y
  have s0 := h.stay b0
  have hse := r0.sees
  have P1 := hide (checkpost_any hf.plan hse.2.2 hse.1 hse.2.1 now y hy)
  have HW := hide (fun (W : World) (hW : Below (wr.alloc (poO y)).heap.size (wr.alloc (poO y)) W) => show Rst Has SH F0 (fun k => Cs k ∨ k = wr.heap.size) w W B x a c mb P m size st ∧ PoB W wr.heap.size y ∧ Stay Cs wr W from ⟨r0.below U.H U.S hW, p0.below hW, s0.trans ⟨hW.size, fun k hk => (r0.stay hW).2 k (.inl hk)⟩⟩)
  have HEnd := hide (fun (W : World) (hW : Below (wr.alloc (poO y)).heap.size (wr.alloc (poO y)) W) => show (∃ mb', Rst Has SH F0 Cs w W B x a c mb' P m size st) ∧ Stay Cs wr W from ⟨⟨mb, (r0.below U.H U.S hW).fewer U (fun k hk => .inl hk)⟩, s0.trans ⟨hW.size, fun k hk => (r0.stay hW).2 k (.inl hk)⟩⟩)
  have hx0 := r0.lt
  obtain ⟨_, y0, y1, y2, y3, y4, y5⟩ := p0
  obtain ⟨E, hE⟩ : ∃ E, preE P now y = E := ⟨_, rfl⟩
  rw [hE] at P1
  have HE := hide hE
  have HF := hide hf
  have HY := hide hy
  clear h hf hy r0 b0 s0 hse hE
  go_enter Tryz.func18, Tryz.ntmps18
  go_wp2_with fail
  refine (unhide P1).mono ?_
  rintro e w1 ⟨rfl, b1⟩
  have B1 := hide b1
  clear P1 b1 y0 y1 y2 y3 y4 y5
  by_cases h0 : E = 0
  · have hpre := (unhide HE).trans h0
    obtain ⟨hn, hro, hok⟩ := pre_ok hpre
    have HPre := hide hpre
    have HRo := hide hro
    have HOk := hide hok
    have q1 := unhide HW w1 (unhide B1)
    have P2 := hide (isknown_any q1.1 (unhide HF) now hn y.i (unhide HY).i)
    obtain ⟨ha, hb⟩ := again_kn (now := now) (y := y) q1.1.map.2 (unhide HF).seqs
    rw [← ha] at P2
    have HA := hide hb
    have z1 := q1.2.1.c1
    subst h0
    clear hpre hn hro hok q1 HE ha hb
    obtain ⟨K, hK⟩ : ∃ K, knQ (lastK (mids P st.ids) y.i) (now - pv P 7) = K := ⟨_, rfl⟩
    rw [hK] at P2 HA
    obtain ⟨A, hA⟩ : ∃ A, againB P now y st.ids = A := ⟨_, rfl⟩
    rw [hA] at P2 HA
    have HAA := hide hA
    clear hK hA
    go_wp2_with fail
    refine (unhide P2).mono ?_
    rintro e w2 ⟨rfl, b2⟩
    have B2 := hide (bstep (unhide B1) b2)
    clear P2 b2 z1
    cases A with
    | true =>
      have HQ := hide (pub_again (m := m) (size := size) (unhide HPre) (unhide HAA))
      have HS := hide (unhide HA rfl)
      have HZ := hide (unhide HEnd w2 (unhide B2))
      clear HA HEnd HW
      go_wp2_with fail
      go_ret3
      rw [unhide HQ]
      exact ⟨by rw [unhide HS]; rfl, unhide HZ⟩
    | false =>
      have q2 := unhide HW w2 (unhide B2)
      have P3 := hide (checkstate_any U T q2.1 (unhide HF) hB y (unhide HY) (unhide HOk) (fun W hW => isfull_any U hW (unhide HF) hB y (unhide HY)))
      obtain ⟨_, y0, y1, y2, y3, y4, y5⟩ := q2.2.1
      obtain ⟨E2, hE2⟩ : ∃ E, chkS P st.s y = E := ⟨_, rfl⟩
      rw [hE2] at P3
      have HE2 := hide hE2
      clear q2 hE2 HA
      go_wp2_with fail
      refine (unhide P3).mono ?_
      rintro e w3 ⟨rfl, b3⟩
      have B3 := hide (bstep (unhide B2) b3)
      clear P3 b3 y0 y1 y2 y3 y4 y5
      by_cases h2 : E2 = 0
      · have hc := (unhide HE2).trans h2
        obtain ⟨_, hc2, hc3⟩ := chk_ok hc
        have HG := hide (pub_go (m := m) (size := size) (unhide HPre) (unhide HAA) hc)
        have q3 := unhide HW w3 (unhide B3)
        have P4 := hide (makeroom_any (now := now) U T V q3.1 (unhide HF) hB y (unhide HY) (unhide HOk) hc2 hc3 (fun Cs' W s' hW hf' => isfull_any U hW hf' hB y (unhide HY)))
        have F4 := hide ((unhide HF).room' (now := now) (y := y))
        obtain ⟨es4, he4⟩ : ∃ z, (roomR P m size now y st.es st.s).2.1 = z := ⟨_, rfl⟩
        obtain ⟨s4, hs4⟩ : ∃ z, (roomR P m size now y st.es st.s).2.2 = z := ⟨_, rfl⟩
        obtain ⟨D, hD⟩ : ∃ z, (roomR P m size now y st.es st.s).1 = z := ⟨_, rfl⟩
        rw [he4, hs4, hD] at P4 HG
        rw [he4, hs4] at F4
        have S3 := hide q3.2.2
        have PO3 := hide q3.2.1
        obtain ⟨_, y0, y1, y2, y3, y4, y5⟩ := q3.2.1
        subst h2
        clear hc hc2 hc3 q3 he4 hs4 hD HE2 HEnd HW
        go_wp2_with fail
        refine (unhide P4).mono ?_
        rintro e w4 ⟨rfl, r4, t4⟩
        have R4 := hide r4
        have S4 := hide ((unhide S3).trans (t4.fewer (fun k hk => .inl hk)))
        have PO4 := hide ((unhide PO3).stay t4 (.inr rfl))
        clear P4 r4 t4 y0 y1 y2 y3 y4 y5
        by_cases h4 : D = 0
        · have HG2 := unhide HG
          rw [if_neg (by rw [h4]; simp)] at HG2
          have HG3 := hide HG2
          have P5 := hide (add_any U (unhide R4) (unhide F4) hB now y (unhide HY) (unhide HRo) (fun u v z => by
            have hz := unhide HAA
            unfold againB at hz
            have z' : 0 < seenQ st.ids y.i (now - pv P 7) := z
            rw [decide_eq_true u, decide_eq_true v, decide_eq_true z'] at hz
            cases hz))
          obtain ⟨_, y0, y1, y2, y3, y4, y5⟩ := unhide PO4
          rw [← HG2] at P5
          subst h4
          clear HG2 HG R4
          go_wp2_with fail
          refine (unhide P5).mono ?_
          rintro e w5 ⟨rfl, ⟨mb5, r5⟩, t5⟩
          have HZ := hide (show (∃ mb', Rst Has SH F0 Cs w w5 B x a c mb' P m size (pubP P m size now y st).2) ∧ Stay Cs wr w5 from ⟨⟨mb5, r5.fewer U (fun k hk => .inl hk)⟩, (unhide S4).trans (t5.fewer (fun k hk => .inl hk))⟩)
          have HB := hide (show (pubP P m size now y st).1.2.1 = false from by
            rw [unhide HG3]
            unfold putP
            split
            · rfl
            · split
              · rfl
              · split
                · rfl
                · rfl)
          clear P5 r5 t5 HG3
          go_wp2_with fail
          go_ret3
          rw [unhide HB]
          exact ⟨rfl, unhide HZ⟩
        · have HG2 := unhide HG
          rw [if_pos h4] at HG2
          have HG3 := hide HG2
          have e5 : (D != 0) = true := by simpa using h4
          have HZ := hide (show (∃ mb', Rst Has SH F0 Cs w w4 B x a c mb' P m size ⟨es4, s4, st.ids⟩) ∧ Stay Cs wr w4 from ⟨⟨mb, (unhide R4).fewer U (fun k hk => .inl hk)⟩, unhide S4⟩)
          clear HG2 HG R4
          go_wp2_with fail
          go_ret3
          rw [unhide HG3]
          exact ⟨rfl, unhide HZ⟩
      · have HQ := hide (pub_chk (m := m) (size := size) (unhide HPre) (unhide HAA) (by rw [unhide HE2]; exact h2))
        rw [unhide HE2] at HQ
        have e5 : (E2 != 0) = true := by simpa using h2
        have HZ := hide (unhide HEnd w3 (unhide B3))
        clear HEnd HW HE2
        go_wp2_with fail
        go_ret3
        rw [unhide HQ]
        exact ⟨rfl, unhide HZ⟩
  · have HQ := hide (pub_pre (m := m) (size := size) (st := st) (by rw [unhide HE]; exact h0 : preE P now y ≠ 0))
    rw [unhide HE] at HQ
    have e5 : (E != 0) = true := by simpa using h0
    have HZ := hide (unhide HEnd w1 (unhide B1))
    clear HE HEnd HW
    go_wp2_with fail
    go_ret3
    rw [unhide HQ]
    exact ⟨rfl, unhide HZ⟩
end
end Go.Proofs.YtohjipnkoiifhagGreatDoor.Dk
