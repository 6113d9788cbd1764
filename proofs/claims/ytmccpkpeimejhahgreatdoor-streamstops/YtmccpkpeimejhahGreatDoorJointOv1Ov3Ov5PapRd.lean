/-
  The program's vault: beReady and open, over any disk, any log and any store.
  The program's vault: Do, over any disk, any log and any store.
  The program's vault: Store, Used, over any disk, any log and any store.
  A stream, pure: a post that is refused ahead of all writing changes nothing. No program.
-/
import Derived.Test.YtmccpkpeimejhahGreatDoorJointOvRPlainIPapCPapE
import Derived.Test.YtmccpkpeimejhahGreatDoorJointWalkL3WalkL5PapFPapS
import Derived.Deep.RegionHeld3
import Derived.StillTailTactics
import Derived.Test.YtmccpkpeimejhahGreatDoorJointPapRfPapRcPapRgOsM
namespace Go.Proofs.YtmccpkpeimejhahGreatDoor.Dk
open Go.RowKit

theorem scan_small : ∀ (f : Nat) (l : List UInt8), ∀ x ∈ (scan f l).1, Small x
  | 0, _, x, h => by cases h
  | f + 1, l, x, h => by
    by_cases h0 : l.length = 0
    · rw [scan, if_pos h0] at h; cases h
    · by_cases hd : (Pk.dec l).2.2 = 0
      · rw [scan_ok h0 hd] at h
        rcases List.mem_cons.1 h with y | y
        · rw [y]; exact Small.dec hd
        · exact scan_small f _ x y
      · rw [scan_bad h0 hd] at h; cases h
theorem openL_small : ∀ es : List Pap, ∀ x ∈ (openL es).1, Small x
  | [], x, h => by cases h
  | e :: r, x, h => by
    cases hs : scanT e.text with
    | mk rs o =>
      have h1 : ∀ x ∈ rs, Small x := fun x hx => scan_small _ _ x (by unfold scanT at hs; rw [hs]; exact hx)
      cases o with
      | none =>
        rw [openL_whole hs] at h
        rcases List.mem_append.1 h with y | y
        · exact h1 x y
        · exact openL_small r x y
      | some k => rw [openL_cut hs] at h; exact h1 x h
theorem rc_small {l : List Rc} (h : ∀ x ∈ l, Small x) {k : Nat} (hk : k < l.length) : Small (rc l k) := by rw [rc_get hk]; exact h _ (List.getElem_mem hk)
theorem fillV_take {l : List Rc} {k : Nat} (h : k < l.length) : fillV (l.take (k + 1)) = aplS (fillV (l.take k)) (rc l k) := by
  rw [List.take_succ_eq_append_getElem h, fillV_snoc, rc_get h]
/-- a new store on its way, behind w -/
def Mad (SH : World → Nat → Nat → (Nat → Prop) → Sto → Prop) (w wr : World) (c : Nat) (s : Sto) : Prop := ∃ G, SH wr w.heap.size c G s ∧ Below w.heap.size w wr
section
variable {SH : World → Nat → Nat → (Nat → Prop) → Sto → Prop} {w wr w' : World} {c : Nat} {s s' : Sto}
theorem Mad.bl (h : Mad SH w wr c s) : Below w.heap.size w wr := by obtain ⟨G, _, h2⟩ := h; exact h2
theorem Mad.room (h : Mad SH w wr c s) : w.heap.size ≤ wr.heap.size := h.bl.size
theorem Mad.below (S : SVault SH) (h : Mad SH w wr c s) (hb : Below wr.heap.size wr w') : Mad SH w w' c s := by
  have hr := h.room
  obtain ⟨G, h1, h2⟩ := h
  exact ⟨G, S.chg (A := fun _ => False) h1 (Chg.of_below hb) (fun _ _ z => z), h2.trans (hb.mono hr)⟩
theorem Mad.apply (S : SVault SH) (h : Mad SH w wr c s) (hk : s.Ok) (r : Rc) (hr : Small r) :
    Calls Tryz.prog 51 #[.pointer (some ⟨c, 0, none⟩), .agg #[.int .i64 r.k, .int .i64 r.q, .int .i64 r.t, .string r.s, .string r.h, .string r.d]] wr fun e w' => e = .returned (.int .i64 (tryE s r)) ∧ Mad SH w w' c (aplS s r) := by
  have hro := h.room
  obtain ⟨G, h1, h2⟩ := h
  refine (S.apply r hr h1 hk hro).mono ?_
  rintro e w' ⟨he, G', a1, a2, _⟩
  exact ⟨he, G', a1, h2.trans (a2.below hro (fun k hk z => by have := (S.own h1 k z).1; omega))⟩
end

section
variable {Has : World → Nat → Nat → (Nat → Prop) → Int → List Pap → Prop} {SH : World → Nat → Nat → (Nat → Prop) → Sto → Prop} {w w1 wr : World} {B x o q g c : Nat} {F F' : Nat → Prop} {m size : Int} {es : List Pap} {s : Sto}
/-- what open leaves -/
def Opd (Has : World → Nat → Nat → (Nat → Prop) → Int → List Pap → Prop) (SH : World → Nat → Nat → (Nat → Prop) → Sto → Prop) (w w' : World) (B x o q : Nat) (F : Nat → Prop) (m size : Int) (es : List Pap) (s : Sto) : Prop :=
  ∃ g c FL G, Va Has SH w' B x o q g c FL G m size es s ∧ Chg (fun k => F k ∨ k = x) w w' ∧ (∀ k, FL k ∨ G k → F k ∨ w.heap.size ≤ k) ∧ Sid o x w w'
theorem Mad.opd (H : More Has) (S : SVault SH) (hx : B ≤ x ∧ x < w.heap.size) (hB : B ≤ w.heap.size) (hF : ¬ F x) (hc : Chg F w w1) (hF' : ∀ k, F' k → F k ∨ w.heap.size ≤ k) (hl : LHof Has g size w1 B q F' m es) (hs : Mad SH w1 wr c s) {u2 u3 : Value}
    (c0 : w.cell? ⟨x, o, none⟩ = some (.pointer (some ⟨q, 0, none⟩))) (c1 : w.cell? ⟨x, o + 1, none⟩ = some (.int .i64 size)) (c2 : w.cell? ⟨x, o + 2, none⟩ = some u2) (c3 : w.cell? ⟨x, o + 3, none⟩ = some u3) (fr : ∀ j, w.frozen? ⟨x, j, none⟩ = false) :
    Opd Has SH w ((wr.setCell ⟨x, o + 2, none⟩ (.pointer (some ⟨g, 0, none⟩))).setCell ⟨x, o + 3, none⟩ (.pointer (some ⟨c, 0, none⟩))) B x o q F m size es s := by
  obtain ⟨G, h1, h2⟩ := hs
  have hx1 : x < w1.heap.size := Nat.lt_of_lt_of_le hx.2 hc.size
  have hxr : x < wr.heap.size := Nat.lt_of_lt_of_le hx1 h2.size
  have hfl : ¬ F' x := fun z => by
    rcases hF' x z with y | y
    · exact hF y
    · omega
  have hgx : ¬ G x := fun z => by have := (S.own h1 x z).1; omega
  have e : ∀ j, wr.cell? ⟨x, j, none⟩ = w.cell? ⟨x, j, none⟩ := fun j => (h2.cell (p := ⟨x, j, none⟩) hx1).trans (hc.cell (p := ⟨x, j, none⟩) hx.2 hF)
  have ef : ∀ j, wr.frozen? ⟨x, j, none⟩ = false := fun j => by
    rw [h2.frozen (p := ⟨x, j, none⟩) hx1, hc.frozen (p := ⟨x, j, none⟩) hx.2 hF]; exact fr j
  have cs : Chg (fun k => k = x) wr ((wr.setCell ⟨x, o + 2, none⟩ (.pointer (some ⟨g, 0, none⟩))).setCell ⟨x, o + 3, none⟩ (.pointer (some ⟨c, 0, none⟩))) := ((Chg.refl _ _).setCell (A := fun k => k = x) (p := ⟨x, o + 2, none⟩) (.inl rfl) _).setCell (A := fun k => k = x) (p := ⟨x, o + 3, none⟩) (.inl rfl) _
  have hlr := (LHof.looks H g size).chg (A := fun _ => False) hl (Chg.of_below h2) (fun _ _ z => z)
  refine ⟨g, c, F', G, ⟨(LHof.looks H g size).chg hlr cs (fun k hk z => by subst z; exact hfl hk), S.low (S.chg h1 cs (fun k hk z => by subst z; exact hgx hk)) (Nat.le_trans hB hc.size), hx.1, Nat.lt_of_lt_of_le hxr cs.size, ?_, ?_, ?_, ?_, fun j => ?_, fun k hk z => ?_, hfl, hgx⟩, ?_, fun k hk => ?_, fun j hj => ?_⟩
  · rw [World.cell?_setCell_other _ _ _ _ (by simp), World.cell?_setCell_other _ _ _ _ (by simp), e]; exact c0
  · rw [World.cell?_setCell_other _ _ _ _ (by simp), World.cell?_setCell_other _ _ _ _ (by simp), e]; exact c1
  · rw [World.cell?_setCell_other _ _ _ _ (by simp)]
    exact World.cell?_setCell_same _ _ _ ((e (o + 2)).trans c2)
  · refine World.cell?_setCell_same _ _ _ (u := u3) ?_
    rw [World.cell?_setCell_other _ _ _ _ (by simp), e]; exact c3
  · rw [World.frozen?_setCell, World.frozen?_setCell]; exact ef j
  · have := ((LHof.looks H g size).own hl k hk).2
    have := (S.own h1 k z).1
    omega
  · refine chg_more (A := fun k => F k ∨ k = x) ((hc.mono (fun k _ z => .inl z)).trans (Chg.of_below (A := fun k => F k ∨ k = x) h2)) cs (fun i _ z => .inr z)
  · rcases hk with z | z
    · exact hF' k z
    · right
      have := (S.own h1 k z).1
      have := hc.size
      omega
  · rw [World.cell?_setCell_other _ _ _ _ (by simp <;> omega), World.cell?_setCell_other _ _ _ _ (by simp <;> omega), e]

set_option maxRecDepth 100000 in
set_option maxHeartbeats 1000000 in
theorem vready_any {w : World} {x o : Nat} {u : Addr} (c0 : w.cell? ⟨x, o, none⟩ = some (.pointer (some u))) :
    Calls Tryz.prog 44 #[.pointer (some ⟨x, o, none⟩)] w fun e w' => e = .returned (.tuple #[]) ∧ w' = w := by
  go_enter Tryz.func44, Tryz.ntmps44
  go_wp2_with fail
  go_end0
  exact ⟨rfl, rfl⟩

/-- the first two cells of a vault -/
abbrev At2 (x o q : Nat) (size : Int) (w : World) : Prop := w.cell? ⟨x, o, none⟩ = some (.pointer (some ⟨q, 0, none⟩)) ∧ w.cell? ⟨x, o + 1, none⟩ = some (.int .i64 size)
theorem At2.below {w w' : World} (h : At2 x o q size w) (hx : x < w.heap.size) (hb : Below w.heap.size w w') : At2 x o q size w' := ⟨(hb.cell (p := ⟨x, o, none⟩) hx).trans h.1, (hb.cell (p := ⟨x, o + 1, none⟩) hx).trans h.2⟩
theorem At2.chg {w w' : World} (h : At2 x o q size w) (hx : x < w.heap.size) (hc : Chg F w w') (hn : ¬ F x) : At2 x o q size w' := ⟨(hc.cell (p := ⟨x, o, none⟩) hx hn).trans h.1, (hc.cell (p := ⟨x, o + 1, none⟩) hx hn).trans h.2⟩

set_option maxRecDepth 100000 in
set_option maxHeartbeats 1000000 in
theorem vopen_bad {w : World} (hz : inI size 1 4096 = false) (hx : x < w.heap.size) (c0 : w.cell? ⟨x, o, none⟩ = some (.pointer (some ⟨q, 0, none⟩))) (c1 : w.cell? ⟨x, o + 1, none⟩ = some (.int .i64 size)) :
    Calls Tryz.prog 31 #[.pointer (some ⟨x, o, none⟩)] w fun e w' => e = .returned (.int .i64 1) ∧ Below w.heap.size w w' := by
  have bd : Below w.heap.size w w.drew := (Below.refl _ _).drew
  have k0 : At2 x o q size w.drew := At2.below ⟨c0, c1⟩ hx bd
  have P := hide (lopen_bad (w := w.drew) (q := q) (B := w.drew.heap.size) size hz (Nat.le_refl _))
  have HX := hide (fun w1 (b : Below w.drew.heap.size w.drew w1) => k0.below (Nat.lt_of_lt_of_le hx bd.size) b)
  have HB := hide (fun w1 (b : Below w.drew.heap.size w.drew w1) => bd.trans (b.mono bd.size))
  clear hz bd
  go_enter Tryz.func31, Tryz.ntmps31
  go_wp2_with fail
  go_region_held3 (At2 x o q size) (first | assumption | go_keep)
    (first
      | (go_at_call 49; refine (unhide P).mono ?_; rintro e w1 ⟨⟨a, k, rfl⟩, b1⟩; have k1 := unhide HX w1 b1))
  have B1 := hide (unhide HB w1 b1)
  clear P HX HB b1 k0 k1
  go_wp2_with fail
  go_ret
  exact ⟨rfl, unhide B1⟩

set_option maxRecDepth 100000 in
set_option maxHeartbeats 1000000 in
theorem vopen_any (H : More Has) (L : LWorks Has (LHof Has)) (S : SVault SH) {u2 u3 : Value} (hz : inI size 1 4096 = true) (h : Has w B q F m es) (ht : Tidy m es) (hm : m ≤ 65536) (hB : B ≤ w.heap.size) (hx : B ≤ x ∧ x < w.heap.size) (hF : ¬ F x) (c0 : w.cell? ⟨x, o, none⟩ = some (.pointer (some ⟨q, 0, none⟩))) (c1 : w.cell? ⟨x, o + 1, none⟩ = some (.int .i64 size)) (c2 : w.cell? ⟨x, o + 2, none⟩ = some u2) (c3 : w.cell? ⟨x, o + 3, none⟩ = some u3) (fr : ∀ j, w.frozen? ⟨x, j, none⟩ = false) :
    Calls Tryz.prog 31 #[.pointer (some ⟨x, o, none⟩)] w fun e w' => e = .returned (.int .i64 0) ∧ Opd Has SH w w' B x o q F m size (openL es).2 (fillV (openL es).1) := by
  have bd : Below w.heap.size w w.drew := (Below.refl _ _).drew
  have cd : Chg F w w.drew := Chg.of_below bd
  have k0 : At2 x o q size w.drew := At2.below ⟨c0, c1⟩ hx.2 bd
  have P := hide (L.good size hz (H.works.chg (A := fun _ => False) h (Chg.of_below bd) (fun _ _ z => z)) ht hm (Nat.le_trans hB bd.size))
  have hlen : (openL es).1.length ≤ 200000 := by
    have := openL_len es
    have := ht.fits
    omega
  have hsm := openL_small es
  have HO : Hid (∀ (w1 wr : World) (g c : Nat) (F' : Nat → Prop), Chg F w w1 → (∀ k, F' k → F k ∨ w.drew.heap.size ≤ k) → LHof Has g size w1 B q F' m (openL es).2 → Mad SH w1 wr c (fillV (openL es).1) → Opd Has SH w ((wr.setCell ⟨x, o + 2, none⟩ (.pointer (some ⟨g, 0, none⟩))).setCell ⟨x, o + 3, none⟩ (.pointer (some ⟨c, 0, none⟩))) B x o q F m size (openL es).2 (fillV (openL es).1)) := hide (fun w1 wr g c F' hc hF' hl hs => hs.opd H S hx hB hF hc hF' hl c0 c1 c2 c3 fr)
  obtain ⟨es2, he2⟩ : ∃ z, z = (openL es).2 := ⟨_, rfl⟩
  obtain ⟨l, he1⟩ : ∃ z, z = (openL es).1 := ⟨_, rfl⟩
  rw [← he2, ← he1] at P HO ⊢
  rw [← he1] at hlen hsm
  clear he1 he2
  have HX := hide (fun w1 (hc : Chg F w w1) => And.intro (hc.cell (p := ⟨x, o + 2, none⟩) hx.2 hF) (And.intro (hc.cell (p := ⟨x, o + 3, none⟩) hx.2 hF) (And.intro (hc.frozen (p := ⟨x, o + 2, none⟩) hx.2 hF) (hc.frozen (p := ⟨x, o + 3, none⟩) hx.2 hF))))
  have HY := hide (fun w1 (hc : Chg F w.drew w1) => And.intro (cd.trans hc) (k0.chg (Nat.lt_of_lt_of_le hx.2 bd.size) hc hF))
  have f2 := fr (o + 2)
  have f3 := fr (o + 3)
  have hx2 := hx.2
  have HM := hide hsm
  clear h ht hz hF hx hsm fr bd cd
  go_enter Tryz.func31, Tryz.ntmps31
  go_wp2_with fail
  go_region_held3 (At2 x o q size) (first | assumption | go_keep)
    (first
      | (go_at_call 49; refine (unhide P).mono ?_; rintro e w1 ⟨g, a, k, F', rfl, hsl, ha, hl, hc0, hF'⟩; obtain ⟨hc, k1⟩ := unhide HY w1 hc0))
  obtain ⟨d2, d3, e2, e3⟩ := unhide HX w1 hc
  rw [c2] at d2
  rw [c3] at d3
  rw [f2] at e2
  rw [f3] at e3
  have hx1 : x < w1.heap.size := Nat.lt_of_lt_of_le hx2 hc.size
  have HSl := hide hsl
  have HO1 := hide (fun wr c => unhide HO w1 wr g c F' hc hF' hl)
  clear P HO HX HY hsl ha hl hc hc0 k0 k1 hF' c0 c1 c2 c3 f2 f3 hx2
  go_wp2_with fail
  refine (S.new w1).mono ?_
  rintro e w2 ⟨c, G, rfl, h2, b2⟩
  have M2 : Hid (Mad SH w1 w2 c (fillV (l.take 0))) := hide ⟨G, h2, b2⟩
  clear h2 b2
  go_wp2_with fail
  go_loopw [28] (fun iv wr => ∃ (k : Nat), iv = .int .i64 k ∧ k ≤ l.length ∧ Hid (Mad SH w1 wr c (fillV (l.take k)))) (fun iv _ => l.length - (intOf iv).toNat)
  case atStart => exact ⟨0, rfl, Nat.zero_le _, M2⟩
  case round =>
    clear M2
    obtain ⟨k, rfl, hkl, M2⟩ := hrel
    by_cases hlt : k < l.length
    · obtain ⟨ga, o, rfl, s6⟩ := unhide HSl k hlt
      have s7 : Six wr ga (o + k * 6) (rc l k) := s6.below (unhide M2).bl s6.lt
      have hsm := rc_small (unhide HM) hlt
      have hft := fillV_take hlt
      obtain ⟨r, hr⟩ : ∃ r, r = rc l k := ⟨_, rfl⟩
      rw [← hr] at s7 hsm hft
      obtain ⟨_, x0, x1, x2, x3, x4, x5⟩ := s7
      have M3 := hide ((unhide M2).below S ((Below.refl _ _).alloc (Nat.le_refl _) (.cells #[.int .i64 r.k, .int .i64 r.q, .int .i64 r.t, .string r.s, .string r.h, .string r.d] 42)))
      have PA := hide ((unhide M3).apply S (fillV_ok _) r hsm)
      rw [← hft] at PA
      clear hr hft s6 M2 M3
      go_wp2_with fail
      refine (unhide PA).mono ?_
      rintro e w4 ⟨rfl, m4⟩
      have M4 := hide m4
      clear m4 PA x0 x1 x2 x3 x4 x5
      go_wp2_with fail
      refine ⟨⟨k + 1, by go_num, by omega, M4⟩, ?_⟩
      simp [intOf]; omega
    · obtain rfl : k = l.length := by omega
      have M3 : Hid (Mad SH w1 wr c (fillV l)) := by
        have := M2
        rw [List.take_length] at this
        exact this
      have hb := (unhide M3).bl
      have g2 := (hb.cell (p := ⟨x, o + 2, none⟩) hx1).trans d2
      have g3 := (hb.cell (p := ⟨x, o + 3, none⟩) hx1).trans d3
      have k2 := (hb.frozen (p := ⟨x, o + 2, none⟩) hx1).trans e2
      have k3 := (hb.frozen (p := ⟨x, o + 3, none⟩) hx1).trans e3
      have hxr := Nat.lt_of_lt_of_le hx1 hb.size
      have HE := hide (unhide HO1 wr c (unhide M3))
      clear M2 M3 hlt hb d2 d3 e2 e3 HO1
      go_wp2_with fail
      go_ret
      exact ⟨rfl, unhide HE⟩
end
end Go.Proofs.YtmccpkpeimejhahGreatDoor.Dk

namespace Go.Proofs.YtmccpkpeimejhahGreatDoor.Dk
open Go.RowKit

/-- a pointer and a record that stand in memory -/
abbrev At7 (x j c b : Nat) (r : Rc) (w : World) : Prop := w.cell? ⟨x, j, none⟩ = some (.pointer (some ⟨c, 0, none⟩)) ∧ w.cell? ⟨b, 0, none⟩ = some (.int .i64 r.k) ∧ w.cell? ⟨b, 1, none⟩ = some (.int .i64 r.q) ∧ w.cell? ⟨b, 2, none⟩ = some (.int .i64 r.t) ∧ w.cell? ⟨b, 3, none⟩ = some (.string r.s) ∧ w.cell? ⟨b, 4, none⟩ = some (.string r.h) ∧ w.cell? ⟨b, 5, none⟩ = some (.string r.d)
theorem at7 {w : World} {x j c b : Nat} {r : Rc} (h : RB w b r.k r.q r.t r.s r.h r.d) (h0 : w.cell? ⟨x, j, none⟩ = some (.pointer (some ⟨c, 0, none⟩))) : At7 x j c b r w := ⟨h0, h.c0, h.c1, h.c2, h.c3, h.c4, h.c5⟩
theorem rb_stays {Cs : Nat → Prop} {w w' : World} {b : Nat} {k q t : Int} {s h d : ByteArray} (r : RB w b k q t s h d) (hs : Stay Cs w w') (hb : Cs b) : RB w' b k q t s h d :=
  ⟨Nat.lt_of_lt_of_le r.lt hs.1, by rw [hs.cell hb]; exact r.c0, by rw [hs.cell hb]; exact r.c1, by rw [hs.cell hb]; exact r.c2, by rw [hs.cell hb]; exact r.c3, by rw [hs.cell hb]; exact r.c4, by rw [hs.cell hb]; exact r.c5, fun j => by rw [World.frozen?_of_block (w := w) (hs.2 b hb)]; exact r.fr j⟩
theorem logP_kept {es : List Pap} {m size : Int} {r : Rc} (h : (logP es m size r).1 ≠ 0) : (logP es m size r).2 = es := by
  by_cases z : (logR es m size r).1 = 0
  · rw [logP_ok z] at h; exact absurd z h
  · rw [logP_not z]
theorem do_try {es : List Pap} {s : Sto} {m size : Int} {r : Rc} (h : tryE s r ≠ 0) : doE es s m size r = tryE s r ∧ doL es s m size r = es ∧ doS es s m size r = s := by
  have e : doE es s m size r = tryE s r := by unfold doE; rw [if_pos h]
  refine ⟨e, ?_, ?_⟩
  · unfold doL; rw [e, if_neg h]
  · unfold doS; rw [e, if_neg h]
theorem do_log {es : List Pap} {s : Sto} {m size : Int} {r : Rc} (h : tryE s r = 0) (h1 : (logP es m size r).1 ≠ 0) : doE es s m size r = (logP es m size r).1 ∧ doL es s m size r = es ∧ doS es s m size r = s := by
  have e : doE es s m size r = (logP es m size r).1 := by unfold doE; rw [if_neg (by rw [h]; simp)]
  refine ⟨e, ?_, ?_⟩
  · unfold doL; rw [e, if_neg h1]
  · unfold doS; rw [e, if_neg h1]
theorem do_all {es : List Pap} {s : Sto} {m size : Int} {r : Rc} (h : tryE s r = 0) (h1 : (logP es m size r).1 = 0) : doE es s m size r = 0 ∧ doL es s m size r = lsyncL (logP es m size r).2 ∧ doS es s m size r = aplS s r := by
  have e : doE es s m size r = 0 := by unfold doE; rw [if_neg (by rw [h]; simp)]; exact h1
  refine ⟨e, ?_, ?_⟩
  · unfold doL; rw [e, if_pos rfl]
  · unfold doS; rw [e, if_pos rfl]

section
variable {Has : World → Nat → Nat → (Nat → Prop) → Int → List Pap → Prop} {SH : World → Nat → Nat → (Nat → Prop) → Sto → Prop} {w : World} {B x o : Nat} {F : Nat → Prop} {m size : Int} {es : List Pap} {s : Sto}

set_option maxRecDepth 100000 in
set_option maxHeartbeats 2000000 in
theorem vdo_any (H : More Has) (L : LWorks Has (LHof Has)) (S : SVault SH) (r : Rc) (hr : Small r) (h : VHof Has SH o w B x F m size es s) (hv : VOk m es s) (hm : m ≤ 65536) (hz : inI size 1 4096 = true) (hB : B ≤ w.heap.size) :
    Calls Tryz.prog 41 #[.pointer (some ⟨x, o, none⟩), .agg #[.int .i64 r.k, .int .i64 r.q, .int .i64 r.t, .string r.s, .string r.h, .string r.d]] w fun e w' => e = .returned (.int .i64 (doE es s m size r)) ∧ DidO Has SH o w w' B x F m size (doL es s m size r) (doS es s m size r) := by
  obtain ⟨q, g, c, r0, hfin⟩ := h.begin
  have HF := hide hfin
  have HV := hide hv
  have HZ := hide hz
  have hal : Below w.heap.size w (w.alloc (.cells #[.int .i64 r.k, .int .i64 r.q, .int .i64 r.t, .string r.s, .string r.h, .string r.d] 42)) := (Below.refl _ _).alloc (Nat.le_refl _) _
  have R1 := hide (r0.mine H S (Cs' := fun k => k = w.heap.size) hal (fun k hk => .inr ⟨by omega, by subst hk; simp⟩))
  have C1 := hide (RB.new w r.k r.q r.t r.s r.h r.d 42)
  have PB := hide (vready_any (unhide R1).cells.1)
  clear h r0 hfin hv hal hz
  go_enter Tryz.func41, Tryz.ntmps41
  go_wp2_with fail
  refine (unhide PB).mono ?_
  rintro e w1 ⟨rfl, rfl⟩
  generalize w.alloc (.cells #[.int .i64 r.k, .int .i64 r.q, .int .i64 r.t, .string r.s, .string r.h, .string r.d] 42) = w1 at *
  have R2 := hide ((unhide R1).below H S (Below.refl _ _).drew)
  have C2 := hide ((unhide C1).next (Below.refl _ _).drew)
  have k2 := at7 (unhide C2) (unhide R2).cells.2.2.2.1
  have PT := hide (show Calls Tryz.prog 60 #[.pointer (some ⟨c, 0, none⟩), .agg #[.int .i64 r.k, .int .i64 r.q, .int .i64 r.t, .string r.s, .string r.h, .string r.d]] _ fun e w' => e = .returned (.int .i64 (tryE s r)) ∧ Below _ _ w' from by
    obtain ⟨FL, G, h1, _⟩ := unhide R2
    exact S.tries r hr h1.chest (unhide HV).ok (Nat.le_trans hB (unhide R2).room))
  obtain ⟨E, hE⟩ : ∃ E, tryE s r = E := ⟨_, rfl⟩
  rw [hE] at PT
  have HE := hide hE
  clear PB R1 C1 hE
  go_wp2_with fail
  go_region_held3 (At7 x (o + 3) c w.heap.size r) (first | assumption | go_keep)
    (first
      | (go_at_call 60; refine (unhide PT).mono ?_; rintro e w3 ⟨rfl, b3⟩; have R3 := hide ((unhide R2).below H S b3); have C3 := hide ((unhide C2).next b3); have k3 := at7 (unhide C3) (unhide R3).cells.2.2.2.1; clear b3))
  clear k2 k3 PT R2 C2
  by_cases h0 : E = 0
  · have HT := hide ((unhide HE).trans h0)
    subst h0
    have R4 := hide ((unhide R3).below H S (Below.refl _ _).drew)
    have C4 := hide ((unhide C3).next (Below.refl _ _).drew)
    have k4 := at7 (unhide C4) (unhide R4).cells.2.2.1
    have PA := hide ((unhide R4).upd S (fun FL hFL _ => L.append r hr (unhide HZ) hFL (unhide HV).tidy hm (Nat.le_trans hB (unhide R4).room)))
    obtain ⟨E2, hE2⟩ : ∃ E, (logP es m size r).1 = E := ⟨_, rfl⟩
    rw [hE2] at PA
    have HE2 := hide hE2
    clear HE R3 C3 hE2
    go_wp2_with fail
    go_region_held3 (At7 x (o + 2) g w.heap.size r) (first | assumption | go_keep)
      (first
        | (go_at_call 61; refine (unhide PA).mono ?_; rintro e w5 ⟨rfl, r5, s5⟩; have R5 := hide r5; have C5 := hide (rb_stays (unhide C4) s5 rfl); have k5 := at7 (unhide C5) (unhide R5).cells.2.2.1; clear r5 s5))
    clear k4 k5 PA R4 C4
    by_cases h1 : E2 = 0
    · obtain ⟨e1, e2, e3⟩ := do_all (unhide HT) ((unhide HE2).trans h1)
      subst h1
      have HR := hide (And.intro e1 (And.intro e2 e3))
      have x2 := (unhide R5).cells.2.2.1
      have PS := hide ((unhide R5).upd S (fun FL hFL _ => L.sync (unhide HZ) hFL ((unhide HV).tidy.logp size r) hm (Nat.le_trans hB (unhide R5).room)))
      clear e1 e2 e3 HE2 HT
      go_wp2_with fail
      refine (unhide PS).mono ?_
      rintro e w6 ⟨rfl, r6, s6⟩
      have R6 := hide (r6.below H S (Below.refl _ _).drew)
      have C6 := hide ((rb_stays (unhide C5) s6 rfl).next (Below.refl _ _).drew)
      have k6 := at7 (unhide C6) (unhide R6).cells.2.2.2.1
      have PD := hide ((unhide R6).did H (fun G hG => S.apply r hr hG (unhide HV).ok (Nat.le_trans hB (unhide R6).room)))
      clear PS R5 C5 x2 r6 s6
      go_wp2_with fail
      go_region_held3 (At7 x (o + 3) c w.heap.size r) (first | assumption | go_keep)
        (first
          | (go_at_call 51; refine (unhide PD).mono ?_; rintro e w7 ⟨rfl, r7, s7⟩; have R7 := hide r7; have C7 := hide (rb_stays (unhide C6) s7 rfl); have k7 := at7 (unhide C7) (unhide R7).cells.2.2.2.1; clear r7 s7))
      clear k6 k7 PD R6 C6
      go_wp2_with fail
      go_ret
      obtain ⟨e1, e2, e3⟩ := unhide HR
      rw [e1, e2, e3]
      exact ⟨rfl, unhide HF _ _ _ _ _ _ (unhide R7)⟩
    · obtain ⟨e1, e2, e3⟩ := do_log (unhide HT) (by rw [unhide HE2]; exact h1)
      have e4 := logP_kept (es := es) (m := m) (size := size) (r := r) (by rw [unhide HE2]; exact h1)
      have R6 : Hid (Rv Has SH F (fun k => k = w.heap.size) w w5 B x o q g c m size es s) := by
        have := R5
        rw [e4] at this
        exact this
      rw [unhide HE2] at e1
      have HR := hide (And.intro e1 (And.intro e2 e3))
      have e5 : (E2 != 0) = true := by simpa using h1
      clear e1 e2 e3 e4 HE2 HT R5
      go_wp2_with fail
      go_ret
      obtain ⟨e1, e2, e3⟩ := unhide HR
      rw [e1, e2, e3]
      exact ⟨rfl, unhide HF _ _ _ _ _ _ (unhide R6)⟩
  · obtain ⟨e1, e2, e3⟩ := do_try (es := es) (m := m) (size := size) (s := s) (r := r) (by rw [unhide HE]; exact h0)
    rw [unhide HE] at e1
    have HR := hide (And.intro e1 (And.intro e2 e3))
    have e5 : (E != 0) = true := by simpa using h0
    clear e1 e2 e3 HE
    go_wp2_with fail
    go_ret
    obtain ⟨e1, e2, e3⟩ := unhide HR
    rw [e1, e2, e3]
    exact ⟨rfl, unhide HF _ _ _ _ _ _ (unhide R3)⟩
end
end Go.Proofs.YtmccpkpeimejhahGreatDoor.Dk

namespace Go.Proofs.YtmccpkpeimejhahGreatDoor.Dk
open Go.RowKit

section
variable {Has : World → Nat → Nat → (Nat → Prop) → Int → List Pap → Prop} {SH : World → Nat → Nat → (Nat → Prop) → Sto → Prop} {w : World} {B x o : Nat} {F : Nat → Prop} {m size : Int} {es : List Pap} {s : Sto}

set_option maxRecDepth 100000 in
set_option maxHeartbeats 1000000 in
theorem vstore_any (h : VHof Has SH o w B x F m size es s) :
    Calls Tryz.prog 24 #[.pointer (some ⟨x, o, none⟩)] w fun e w' => ∃ q F0, e = .returned (.pointer (some ⟨q, 0, none⟩)) ∧ SH w' B q F0 s ∧ (∀ k, F0 k → F k) ∧ Below w.heap.size w w' := by
  obtain ⟨q, g, c, FL, G, h1, h2⟩ := h
  have PB := hide (vready_any h1.c0)
  have x3 := h1.c3
  have HE := hide (show SH w B c G s ∧ (∀ k, G k → F k) ∧ Below w.heap.size w w from ⟨h1.chest, fun k hk => (h2 k).2 (.inr (.inr hk)), Below.refl _ _⟩)
  clear h1 h2
  go_enter Tryz.func24, Tryz.ntmps24
  go_wp2_with fail
  refine (unhide PB).mono ?_
  rintro e w1 ⟨rfl, rfl⟩
  go_wp2_with fail
  go_ret
  exact ⟨c, G, rfl, unhide HE⟩

end
end Go.Proofs.YtmccpkpeimejhahGreatDoor.Dk

namespace Go.Proofs.YtmccpkpeimejhahGreatDoor.Dk
open Go

/-- the blocks bear low numbers -/
def Low (es : List Pap) : Prop := ∀ e ∈ es, 0 ≤ e.n ∧ e.n < (es.length : Int)
theorem Low.nil : Low [] := fun e h => by cases h
theorem last_in {es : List Pap} (h : es.length ≠ 0) : lastP es ∈ es := pa_mem (by omega)
theorem Low.sync {es : List Pap} (h : Low es) (n : Int) : Low (syncL es n) := by
  unfold syncL
  split
  · rename_i hi
    intro e he
    rw [List.length_set]
    rcases List.mem_or_eq_of_mem_set he with y | y
    · exact h e y
    · rw [y]; exact h (pa es (ix es n)) (pa_mem hi)
  · exact h
theorem Low.lsync {es : List Pap} (h : Low es) : Low (lsyncL es) := by
  unfold lsyncL
  split
  · exact h
  · exact h.sync _
theorem Low.app {es : List Pap} (h : Low es) {m n : Int} {s : ByteArray} (hn : 0 ≤ n ∧ n ≤ (es.length : Int)) : Low (appL es m n s) := by
  unfold appL
  split
  · exact h
  · split
    · exact h
    · split
      · rename_i hi
        intro e he
        rw [List.length_set]
        rcases List.mem_or_eq_of_mem_set he with y | y
        · exact h e y
        · rw [y]; exact h (pa es (ix es n)) (pa_mem hi)
      · intro e he
        have hl : (insL es (low es n) ⟨n, 0, s⟩).length = es.length + 1 := by
          unfold insL
          rw [List.length_append, List.length_cons, List.length_take, List.length_drop]
          have : low es n ≤ es.length := by unfold low; exact List.findIdx_le_length
          omega
        rw [hl]
        rcases mem_ins he with y | y
        · rw [y]; exact ⟨hn.1, by show n < ((es.length + 1 : Nat) : Int); omega⟩
        · have := h e y; exact ⟨this.1, by omega⟩
theorem Low.size_sync (es : List Pap) (n : Int) : (syncL es n).length = es.length := by
  unfold syncL
  split
  · rw [List.length_set]
  · rfl
theorem Low.log {es : List Pap} (h : Low es) (m size : Int) (r : Rc) : Low (logP es m size r).2 := by
  unfold logP
  split
  · unfold logR
    split
    · exact h
    · split
      · exact h.app ⟨Int.le_refl _, by omega⟩
      · rename_i hne
        have hl := h _ (last_in hne)
        split
        · exact (h.sync _).app ⟨by omega, by rw [Low.size_sync]; omega⟩
        · exact h.app ⟨hl.1, by omega⟩
  · exact h
theorem Low.did {es : List Pap} (h : Low es) (s : Sto) (m size : Int) (r : Rc) : Low (doL es s m size r) := by
  unfold doL
  split
  · exact (h.log m size r).lsync
  · exact h
/-- the one error of a log whose blocks bear low numbers: no room -/
theorem log_err {es : List Pap} (h : Low es) (hf : es.length ≤ 20) {m size : Int} {r : Rc} (hc : chkR r = 0) : (logP es m size r).1 = 0 ∨ (logP es m size r).1 = 8 := by
  have key : ∀ (es' : List Pap) (n : Int), 0 ≤ n → n ≤ 1099511627776 → appE es' m n (codT r) = 0 ∨ appE es' m n (codT r) = 8 := fun es' n h1 h2 => by
    unfold appE
    rw [if_neg (by unfold inI; rw [decide_eq_true h1, decide_eq_true h2]; decide)]
    split
    · exact .inr rfl
    · exact .inl rfl
  have hR : (logR es m size r).1 = 0 ∨ (logR es m size r).1 = 8 := by
    unfold logR
    rw [if_neg (by rw [hc]; simp)]
    split
    · exact key es 0 (by omega) (by omega)
    · rename_i hne
      have hl := h _ (last_in hne)
      split
      · exact key (syncL es (lastP es).n) ((lastP es).n + 1) (by omega) (by omega)
      · exact key es (lastP es).n (by omega) (by omega)
  unfold logP
  split
  · exact hR
  · exact hR
theorem do_err {es : List Pap} (h : Low es) (hf : es.length ≤ 20) {s : Sto} {m size : Int} {r : Rc} (hc : chkR r = 0) (ht : tryE s r = 0 ∨ tryE s r = 8) : doE es s m size r = 0 ∨ doE es s m size r = 8 := by
  unfold doE
  split
  · exact ht
  · exact log_err h hf hc
theorem errS_errOf (wild : Bool) (s : ByteArray) : errS wild s = Pl.errOf wild (Pl.pcs s.data.toList) := rfl
/-- a post that passes is a record -/
theorem msg_chk {p : Pn.Pln} {now : Int} {x : Po} {q : Int} (h : preE p now x = 0) (hq : 1 ≤ q ∧ q ≤ 1099511627776) : chkR (msgR q now x) = 0 := by
  unfold preE at h
  by_cases a : (inI now 0 1099511627776 && (decide (-1 ≤ x.x) && inI x.ro 0 2)) = false
  · rw [if_pos a] at h; cases h
  · rw [if_neg a] at h
    by_cases b : errS false x.s = 0
    · rw [if_neg (by rw [b]; simp)] at h
      by_cases c : takesP p x.s = false
      · rw [if_pos c] at h; cases h
      · rw [if_neg c] at h
        have a : (inI now 0 1099511627776 && (decide (-1 ≤ x.x) && inI x.ro 0 2)) = true := by simpa using a
        simp only [inI, Bool.and_eq_true, decide_eq_true_eq] at a
        have d : ¬ 256 < x.h.size + x.d.size := fun z => by
          rw [decide_eq_true z] at h
          simp at h
        have e : ∀ y : ByteArray, y.data.toList.length = y.size := fun y => by simp
        unfold chkR msgR Rc.pk Pk.chk
        rw [if_neg (by
          have : Pk.inB 1 q now = true := Pk.inB_iff.2 ⟨by decide, by decide, hq.1, hq.2, a.1.1, a.1.2⟩
          rw [this]; decide), if_pos rfl, if_neg (by rw [← errS_errOf, b]; simp), if_neg (by simp only [e]; exact d)]
    · rw [if_pos b] at h; exact absurd h b
theorem pur_chk {q now : Int} {f : ByteArray} (hq : 1 ≤ q ∧ q ≤ 1099511627776) (hn : 0 ≤ now ∧ now ≤ 1099511627776) (hf : errS true f = 0) : chkR (purR q now f) = 0 := by
  unfold chkR purR Rc.pk Pk.chk
  rw [if_neg (by
    have : Pk.inB 3 q now = true := Pk.inB_iff.2 ⟨by decide, by decide, hq.1, hq.2, hn.1, hn.2⟩
    rw [this]; decide), if_neg (by show ¬ (3 : Int) = 1; decide), if_pos rfl, if_neg (by rw [← errS_errOf, hf]; simp), if_pos (by simp [noB])]
theorem msg_try {s : Sto} {q now : Int} {x : Po} (hc : chkR (msgR q now x) = 0) (hq : s.last < q) : tryE s (msgR q now x) = 0 ∨ tryE s (msgR q now x) = 8 := by
  unfold tryE
  rw [if_neg (by rw [hc]; simp), if_neg (by intro z; have := z.1; cases this), if_neg (by intro z; exact z rfl), if_neg (by show ¬ q ≤ s.last; omega)]
  split
  · exact .inr rfl
  · exact .inl rfl
theorem Low.room {p : Pn.Pln} {m size now : Int} {x : Po} : ∀ (k : Nat) {es : List Pap} {s : Sto}, Low es → Low (roomF p m size now x k es s).2.1
  | 0, _, _, h => h
  | k + 1, es, s, h => by
    unfold roomF
    split
    · exact h
    · split
      · exact h
      · split
        · exact h
        · exact Low.room k (h.did _ _ _ _)
theorem Low.pub {p : Pn.Pln} {m size now : Int} {x : Po} {st : Str} (h : Low st.es) : Low (pubP p m size now x st).2.es := by
  have hr : Low (roomE p m size now x st.es st.s).2.1 := by
    unfold roomE
    split
    · exact h
    · exact Low.room _ h
  unfold pubP
  split
  · exact h
  · split
    · exact h
    · split
      · exact h
      · split
        · exact hr
        · unfold putP
          split
          · exact hr
          · split
            · exact hr.did _ _ _ _
            · split
              · exact hr.did _ _ _ _
              · exact (hr.did _ _ _ _).did _ _ _ _
/-- where new ones are thrown away room takes nothing; else its one error is that there is no room -/
theorem room_err {p : Pn.Pln} {m size now : Int} {x : Po} (hp : PPos p) (hn : 0 ≤ now ∧ now ≤ 1099511627776) (hz : ¬ (pv p 1 ≠ 0 ∧ pv p 1 < (szP x : Int))) : ∀ (k : Nat) {es : List Pap} {s : Sto}, VOk m es s → Low es →
    (pv p 5 = 1 → (roomF p m size now x k es s).2.2 = s) ∧ ((roomF p m size now x k es s).1 = 0 ∨ (roomF p m size now x k es s).1 = 8)
  | 0, _, _, _, _ => ⟨fun _ => rfl, .inl rfl⟩
  | k + 1, es, s, hv, hl => by
    unfold roomF
    by_cases a : (crowdB p s.l x || fullB p s.l x) = false
    · rw [if_pos a]; exact ⟨fun _ => rfl, .inl rfl⟩
    · rw [if_neg a]
      by_cases b : pv p 5 = 1
      · rw [if_pos b]; exact ⟨fun _ => rfl, .inr rfl⟩
      · rw [if_neg b]
        obtain ⟨r, hr, e⟩ := go_in hp hz a
        have ht := era_try (now := now) hv.ok ⟨r, hr, e⟩ hn
        have hc : chkR (eraR (goQ p s.l x) now) = 0 := era_chk (by rw [← e]; exact hv.ok.seq hr) hn
        have hd := do_err (m := m) (size := size) hl hv.tidy.few hc (.inl ht)
        by_cases c : doE es s m size (eraR (goQ p s.l x) now) = 0
        · rw [if_neg (by rw [c]; simp)]
          obtain ⟨_, i2⟩ := room_err hp hn hz k (hv.did (size := size) (eraR (goQ p s.l x) now)) (hl.did s m size (eraR (goQ p s.l x) now))
          exact ⟨fun z => absurd z b, i2⟩
        · rw [if_pos c]
          exact ⟨fun z => absurd z b, hd⟩
/-- what is refused ahead of all writing changes nothing -/
theorem pub_refuses {p : Pn.Pln} {m size now : Int} {x : Po} {st : Str} (hp : PPos p) (hv : VOk m st.es st.s) (hl : Low st.es) (hq : st.s.last < 1099511627776) (h0 : (pubP p m size now x st).1.2.2 ≠ 0) (h8 : ¬ ((pubP p m size now x st).1.2.2 = 8 ∧ (pv p 5 ≠ 1 ∨ x.ro ≠ 0))) : (pubP p m size now x st).2.s.l = st.s.l := by
  unfold pubP at h0 h8 ⊢
  by_cases a : preE p now x = 0
  · rw [if_neg (by rw [a]; simp)] at h0 h8 ⊢
    by_cases b : againB p now x st.ids = true
    · rw [if_pos b]
    · rw [if_neg b] at h0 h8 ⊢
      by_cases c : x.x ≠ -1 ∧ x.x ≠ st.s.last
      · rw [if_pos c]
      · rw [if_neg c] at h0 h8 ⊢
        have hn : 0 ≤ now ∧ now ≤ 1099511627776 := by
          have h := a
          unfold preE at h
          by_cases z : (inI now 0 1099511627776 && (decide (-1 ≤ x.x) && inI x.ro 0 2)) = false
          · rw [if_pos z] at h; cases h
          · have z : (inI now 0 1099511627776 && (decide (-1 ≤ x.x) && inI x.ro 0 2)) = true := by simpa using z
            simp only [inI, Bool.and_eq_true, decide_eq_true_eq] at z
            exact ⟨z.1.1, z.1.2⟩
        have hsub : errS true x.s = 0 := by
          have h := a
          unfold preE at h
          by_cases z : (inI now 0 1099511627776 && (decide (-1 ≤ x.x) && inI x.ro 0 2)) = false
          · rw [if_pos z] at h; cases h
          · rw [if_neg z] at h
            by_cases y : errS false x.s = 0
            · exact subject_filter y
            · rw [if_pos y] at h; exact absurd h y
        have hv1 := hv.roomE (p := p) (size := size) (now := now) (x := x)
        have hs1 := (roomE_sub (p := p) (m := m) (size := size) (now := now) (x := x) (es := st.es) (s := st.s)).2
        have hL : Low (roomE p m size now x st.es st.s).2.1 ∧ (pv p 5 = 1 → (roomE p m size now x st.es st.s).2.2 = st.s) ∧ ((roomE p m size now x st.es st.s).1 = 0 ∨ (roomE p m size now x st.es st.s).1 = 8 ∧ (pv p 5 ≠ 1 ∨ (roomE p m size now x st.es st.s).2.2 = st.s)) := by
          unfold roomE
          by_cases z : pv p 1 ≠ 0 ∧ pv p 1 < (szP x : Int)
          · rw [if_pos z]; exact ⟨hl, fun _ => rfl, .inr ⟨rfl, .inr rfl⟩⟩
          · rw [if_neg z]
            obtain ⟨r1, r2⟩ := room_err (size := size) hp hn z (st.s.l.length + 1) hv hl
            refine ⟨Low.room _ hl, r1, ?_⟩
            rcases r2 with y | y
            · exact .inl y
            · by_cases d : pv p 5 = 1
              · exact .inr ⟨y, .inr (r1 d)⟩
              · exact .inr ⟨y, .inl d⟩
        obtain ⟨hL1, hL2, hL3⟩ := hL
        by_cases d : (roomE p m size now x st.es st.s).1 = 0
        · rw [if_neg (by rw [d]; simp)] at h0 h8 ⊢
          clear hL3 d
          generalize (roomE p m size now x st.es st.s).2.1 = es at *
          generalize (roomE p m size now x st.es st.s).2.2 = s at *
          have hs0 : 0 ≤ s.last := hv1.ok.last.1
          have hc := msg_chk (q := s.last + 1) a ⟨by omega, by omega⟩
          have hd := do_err (m := m) (size := size) hL1 hv1.tidy.few hc (msg_try (s := s) (q := s.last + 1) hc (by omega))
          unfold putP at h0 h8 ⊢
          by_cases e : doE es s m size (msgR (s.last + 1) now x) = 0
          · rw [if_neg (by rw [e]; simp)] at h0 h8 ⊢
            by_cases f : x.ro = 0
            · rw [if_pos f] at h0
              exact absurd rfl h0
            · rw [if_neg f] at h0 h8 ⊢
              have hcp : chkR (purR (s.last + 1) now (rollF x)) = 0 := pur_chk ⟨by omega, by omega⟩ hn (by
                unfold rollF
                split
                · exact hsub
                · exact gt_text.1)
              have hdp := do_err (m := m) (size := size) (hL1.did s m size (msgR (s.last + 1) now x)) (hv1.did (size := size) (msgR (s.last + 1) now x)).tidy.few (s := doS es s m size (msgR (s.last + 1) now x)) hcp (.inl (by rw [purge_try rfl]; exact hcp))
              by_cases g : doE (doL es s m size (msgR (s.last + 1) now x)) (doS es s m size (msgR (s.last + 1) now x)) m size (purR (s.last + 1) now (rollF x)) = 0
              · rw [if_neg (by rw [g]; simp)] at h0
                exact absurd rfl h0
              · rw [if_pos g] at h8
                rcases hdp with y | y
                · exact absurd y g
                · exact absurd ⟨y, .inr f⟩ h8
          · rw [if_pos e] at h0 h8 ⊢
            rcases hd with y | y
            · exact absurd y e
            · by_cases z : pv p 5 = 1
              · show s.l = st.s.l
                rw [hL2 z]
              · exact absurd ⟨y, .inl z⟩ h8
        · rw [if_pos d] at h0 h8 ⊢
          rcases hL3 with y | ⟨y, z⟩
          · exact absurd y d
          · rcases z with z | z
            · exact absurd ⟨y, .inl z⟩ h8
            · show (roomE p m size now x st.es st.s).2.2.l = st.s.l
              rw [z]
  · rw [if_pos a]
end Go.Proofs.YtmccpkpeimejhahGreatDoor.Dk
