/-
  The program's log: Open, over what is asked of any disk.
  The program's vault: beReady and open, over any disk, any log and any store.
  The program's vault: Do, over any disk, any log and any store.
  The program's vault: Store, Used, over any disk, any log and any store.
  The program's vault: New, over any disk, any log and any store.
-/
import Derived.Test.YtohjipnkoiifhagGreatDoorWalkL2
import Derived.StillTailTactics
import Derived.Test.YtohjipnkoiifhagGreatDoorJointOvRWorksSPapRaPapRbPapRfPapRcRowPvWorksROsPPapRdRowPtRowPu
import Derived.Deep.RegionHeld3
namespace Go.Proofs.YtohjipnkoiifhagGreatDoor.Dk
open Go.RowKit

theorem ArrR.own0 {w : World} {B : Nat} {v : Value} {l : List Rc} (h : ArrR w B v l) {a : Option Addr} {c : Nat} (hv : v = .slice a l.length c) {z : Addr} (hz : a = some z) : v.ownBlock = some z.block := by
  rcases h.2 with ⟨h1, _⟩ | ⟨g, cap, cur, h1, _⟩
  · rw [hv] at h1; rw [(Value.slice.inj h1).1] at hz; cases hz
  · rw [hv] at h1
    have e := (Value.slice.inj h1).1
    rw [hz] at e
    obtain rfl := Option.some.inj e
    rw [hv, hz]; rfl
theorem Opn.opened {Has : World → Nat → Nat → (Nat → Prop) → Int → List Pap → Prop} (H : Works Has) {w w1 w' : World} {B q : Nat} {F : Nat → Prop} {m size : Int} {es0 es : List Pap} {ov : Value} {a0 : Option Addr} {out : List Rc} {ns : List Int} (h0 : Has w B q F m es0) (hb : Below w.heap.size w w1) (hg1 : w.heap.size < w1.heap.size) (hB : B ≤ w.heap.size)
    (c0 : w1.cell? ⟨w.heap.size, 0, none⟩ = some (.pointer (some ⟨q, 0, none⟩))) (c1 : w1.cell? ⟨w.heap.size, 1, none⟩ = some (.int .i64 size)) (h : Opn Has w1 w' B q F m ov a0 es out ns) :
    ∃ a c F', ov = .slice a out.length c ∧ SlR w' a out ∧ (∀ z, a = some z → w.heap.size ≤ z.block ∧ z.block < w'.heap.size ∧ ¬ F' z.block) ∧ LHof Has w.heap.size size w' B q F' m es ∧ Chg F w w' ∧ ∀ k, F' k → F k ∨ w.heap.size ≤ k := by
  obtain ⟨⟨F', r1, r2, r3, r4⟩, hA, _, _⟩ := h
  have hF : ¬ F w.heap.size := fun z => by have := (H.own h0 _ z).2; omega
  have hF' : ¬ F' w.heap.size := fun z => by
    rcases r3 _ z with y | y
    · exact hF y
    · omega
  obtain ⟨a, c, hv, _, _, hs⟩ := hA.shape
  refine ⟨a, c, fun k => F' k ∨ k = w.heap.size, hv, hs, fun z hz => ?_, ⟨F', r1, ⟨hB, Nat.lt_of_lt_of_le hg1 r2.size⟩, hF', ?_, ?_, fun k => Iff.rfl⟩, (Chg.of_below hb).trans r2, fun k hk => ?_⟩
  · have ho := hA.own0 hv hz
    have hl := World.ownsRow.lt hA _ ho
    refine ⟨by omega, hl.2, fun y => ?_⟩
    rcases y with y | y
    · exact (r4 _ (.inl ho)).2 y
    · omega
  · rw [r2.cell (p := ⟨w.heap.size, 0, none⟩) hg1 hF]; exact c0
  · rw [r2.cell (p := ⟨w.heap.size, 1, none⟩) hg1 hF]; exact c1
  · rcases hk with y | y
    · rcases r3 k y with z | z
      · exact .inl z
      · exact .inr (by omega)
    · exact .inr (by omega)

set_option maxRecDepth 100000 in
set_option maxHeartbeats 1000000 in
theorem lopen_bad {w : World} {q B : Nat} (size : Int) (hz : inI size 1 4096 = false) (hB : B ≤ w.heap.size) :
    Calls Tryz.prog 40 #[.pointer (some ⟨q, 0, none⟩), .int .i64 size] w fun e w' => (∃ a c, e = .returned (.tuple #[.pointer none, .slice a 0 c, .int .i64 1])) ∧ Below B w w' := by
  by_cases h1 : size < 1
  · have hd : decide (size < 1) = true := decide_eq_true h1
    go_enter Tryz.func40, Tryz.ntmps40
    go_wp2_with fail
    go_ret3
    exact ⟨⟨_, _, rfl⟩, (Below.refl _ _).mono hB⟩
  · have hd : decide (size < 1) = false := decide_eq_false h1
    have h2 : 4096 < size := by
      simp [inI] at hz; omega
    have hd2 : decide (4096 < size) = true := decide_eq_true h2
    clear hz
    go_enter Tryz.func40, Tryz.ntmps40
    go_wp2_with fail
    go_ret3
    exact ⟨⟨_, _, rfl⟩, (Below.refl _ _).mono hB⟩

set_option maxRecDepth 100000 in
set_option maxHeartbeats 1000000 in
theorem lopen_any {Has : World → Nat → Nat → (Nat → Prop) → Int → List Pap → Prop} (H : More Has) (HS : Lists Has) {w : World} {B q : Nat} {F : Nat → Prop} {m : Int} {es : List Pap} (size : Int) (hz : inI size 1 4096 = true) (h : Has w B q F m es) (ht : Tidy m es) (hm : m ≤ 65536) (hB : B ≤ w.heap.size) :
    Calls Tryz.prog 40 #[.pointer (some ⟨q, 0, none⟩), .int .i64 size] w fun e w' => ∃ g a c F', e = .returned (.tuple #[.pointer (some ⟨g, 0, none⟩), .slice a (openL es).1.length c, .int .i64 0]) ∧ SlR w' a (openL es).1 ∧ (∀ z, a = some z → w.heap.size ≤ z.block ∧ z.block < w'.heap.size ∧ ¬ F' z.block) ∧ LHof Has g size w' B q F' m (openL es).2 ∧ Chg F w w' ∧ ∀ k, F' k → F k ∨ w.heap.size ≤ k := by
  have hz2 : 1 ≤ size ∧ size ≤ 4096 := by simpa [inI] using hz
  have hd : decide (size < 1) = false := decide_eq_false (by omega)
  have hd2 : decide (4096 < size) = false := decide_eq_false (by omega)
  have HH := hide h
  have HT := hide ht
  clear h ht hz hz2
  have hb0 : Below w.heap.size w (w.alloc (.cells #[.pointer (some ⟨q, 0, none⟩), .int .i64 size] 95)) := (Below.refl _ _).alloc (Nat.le_refl _) _
  have hS := heap_alloc_new w (.cells #[.pointer (some ⟨q, 0, none⟩), .int .i64 size] 95)
  have c0 := (cell_of_row _ w.heap.size 0 _ _ _ hS).trans (show _ = some (Value.pointer (some ⟨q, 0, none⟩)) from rfl)
  have c1 := (cell_of_row _ w.heap.size 1 _ _ _ hS).trans (show _ = some (Value.int .i64 size) from rfl)
  have PR := hide (lread_any H HS (H.works.chg (A := fun _ => False) (unhide HH) (Chg.of_below hb0) (fun _ _ z => z)) (unhide HT) hm (Nat.le_trans hB hb0.size))
  have HO := hide (fun w' ov a => Opn.opened (w' := w') (ov := ov) (a0 := a) (es := (openL es).2) (out := (openL es).1) (ns := numL es) H.works (unhide HH) hb0 (by simp) hB c0 c1)
  clear hb0 hS c0 c1
  go_enter Tryz.func40, Tryz.ntmps40
  go_wp2_with fail
  refine (unhide PR).mono ?_
  rintro e w2 ⟨ov, a0, rfl, o2⟩
  obtain ⟨a, c, F', rfl, o3⟩ := unhide HO _ _ _ o2
  have O3 := hide o3
  clear o2 o3 HO PR
  go_wp2_with fail
  go_ret3
  exact ⟨w.heap.size, a, c, F', rfl, unhide O3⟩
end Go.Proofs.YtohjipnkoiifhagGreatDoor.Dk

namespace Go.Proofs.YtohjipnkoiifhagGreatDoor.Dk
open Go.RowKit

theorem scan_small : ∀ (f : Nat) (l : List UInt8), ∀ x ∈ (scan f l).1, Small x
  | 0, _, x, h => by cases h
  | f + 1, l, x, h => by
    by_cases h0 : l.length = 0
    · rw [scan, if_pos h0] at h; cases h
    · by_cases hd : (Pk.dec l).2.2 = 0
      · rw [scan_ok h0 hd] at h
        rcases List.mem_cons.1 h with y | y
        · rw [y]; exact Small.dec hd
        · exact scan_small f _ x y
      · rw [scan_bad h0 hd] at h; cases h
theorem openL_small : ∀ es : List Pap, ∀ x ∈ (openL es).1, Small x
  | [], x, h => by cases h
  | e :: r, x, h => by
    cases hs : scanT e.text with
    | mk rs o =>
      have h1 : ∀ x ∈ rs, Small x := fun x hx => scan_small _ _ x (by unfold scanT at hs; rw [hs]; exact hx)
      cases o with
      | none =>
        rw [openL_whole hs] at h
        rcases List.mem_append.1 h with y | y
        · exact h1 x y
        · exact openL_small r x y
      | some k => rw [openL_cut hs] at h; exact h1 x h
theorem rc_small {l : List Rc} (h : ∀ x ∈ l, Small x) {k : Nat} (hk : k < l.length) : Small (rc l k) := by rw [rc_get hk]; exact h _ (List.getElem_mem hk)
theorem fillV_take {l : List Rc} {k : Nat} (h : k < l.length) : fillV (l.take (k + 1)) = aplS (fillV (l.take k)) (rc l k) := by
  rw [List.take_succ_eq_append_getElem h, fillV_snoc, rc_get h]
/-- a new store on its way, behind w -/
def Mad (SH : World → Nat → Nat → (Nat → Prop) → Sto → Prop) (w wr : World) (c : Nat) (s : Sto) : Prop := ∃ G, SH wr w.heap.size c G s ∧ Below w.heap.size w wr
section
variable {SH : World → Nat → Nat → (Nat → Prop) → Sto → Prop} {w wr w' : World} {c : Nat} {s s' : Sto}
theorem Mad.bl (h : Mad SH w wr c s) : Below w.heap.size w wr := by obtain ⟨G, _, h2⟩ := h; exact h2
theorem Mad.room (h : Mad SH w wr c s) : w.heap.size ≤ wr.heap.size := h.bl.size
theorem Mad.below (S : SVault SH) (h : Mad SH w wr c s) (hb : Below wr.heap.size wr w') : Mad SH w w' c s := by
  have hr := h.room
  obtain ⟨G, h1, h2⟩ := h
  exact ⟨G, S.chg (A := fun _ => False) h1 (Chg.of_below hb) (fun _ _ z => z), h2.trans (hb.mono hr)⟩
theorem Mad.apply (S : SVault SH) (h : Mad SH w wr c s) (hk : s.Ok) (r : Rc) (hr : Small r) :
    Calls Tryz.prog 27 #[.pointer (some ⟨c, 0, none⟩), .agg #[.int .i64 r.k, .int .i64 r.q, .int .i64 r.t, .string r.s, .string r.h, .string r.d]] wr fun e w' => e = .returned (.int .i64 (tryE s r)) ∧ Mad SH w w' c (aplS s r) := by
  have hro := h.room
  obtain ⟨G, h1, h2⟩ := h
  refine (S.apply r hr h1 hk hro).mono ?_
  rintro e w' ⟨he, G', a1, a2, _⟩
  exact ⟨he, G', a1, h2.trans (a2.below hro (fun k hk z => by have := (S.own h1 k z).1; omega))⟩
end

section
variable {Has : World → Nat → Nat → (Nat → Prop) → Int → List Pap → Prop} {SH : World → Nat → Nat → (Nat → Prop) → Sto → Prop} {w w1 wr : World} {B x o q g c : Nat} {F F' : Nat → Prop} {m size : Int} {es : List Pap} {s : Sto}
/-- what open leaves -/
def Opd (Has : World → Nat → Nat → (Nat → Prop) → Int → List Pap → Prop) (SH : World → Nat → Nat → (Nat → Prop) → Sto → Prop) (w w' : World) (B x o q : Nat) (F : Nat → Prop) (m size : Int) (es : List Pap) (s : Sto) : Prop :=
  ∃ g c FL G, Va Has SH w' B x o q g c FL G m size es s ∧ Chg (fun k => F k ∨ k = x) w w' ∧ (∀ k, FL k ∨ G k → F k ∨ w.heap.size ≤ k) ∧ Sid o x w w'
theorem Mad.opd (H : More Has) (S : SVault SH) (hx : B ≤ x ∧ x < w.heap.size) (hB : B ≤ w.heap.size) (hF : ¬ F x) (hc : Chg F w w1) (hF' : ∀ k, F' k → F k ∨ w.heap.size ≤ k) (hl : LHof Has g size w1 B q F' m es) (hs : Mad SH w1 wr c s) {u2 u3 : Value}
    (c0 : w.cell? ⟨x, o, none⟩ = some (.pointer (some ⟨q, 0, none⟩))) (c1 : w.cell? ⟨x, o + 1, none⟩ = some (.int .i64 size)) (c2 : w.cell? ⟨x, o + 2, none⟩ = some u2) (c3 : w.cell? ⟨x, o + 3, none⟩ = some u3) (fr : ∀ j, w.frozen? ⟨x, j, none⟩ = false) :
    Opd Has SH w ((wr.setCell ⟨x, o + 2, none⟩ (.pointer (some ⟨g, 0, none⟩))).setCell ⟨x, o + 3, none⟩ (.pointer (some ⟨c, 0, none⟩))) B x o q F m size es s := by
  obtain ⟨G, h1, h2⟩ := hs
  have hx1 : x < w1.heap.size := Nat.lt_of_lt_of_le hx.2 hc.size
  have hxr : x < wr.heap.size := Nat.lt_of_lt_of_le hx1 h2.size
  have hfl : ¬ F' x := fun z => by
    rcases hF' x z with y | y
    · exact hF y
    · omega
  have hgx : ¬ G x := fun z => by have := (S.own h1 x z).1; omega
  have e : ∀ j, wr.cell? ⟨x, j, none⟩ = w.cell? ⟨x, j, none⟩ := fun j => (h2.cell (p := ⟨x, j, none⟩) hx1).trans (hc.cell (p := ⟨x, j, none⟩) hx.2 hF)
  have ef : ∀ j, wr.frozen? ⟨x, j, none⟩ = false := fun j => by
    rw [h2.frozen (p := ⟨x, j, none⟩) hx1, hc.frozen (p := ⟨x, j, none⟩) hx.2 hF]; exact fr j
  have cs : Chg (fun k => k = x) wr ((wr.setCell ⟨x, o + 2, none⟩ (.pointer (some ⟨g, 0, none⟩))).setCell ⟨x, o + 3, none⟩ (.pointer (some ⟨c, 0, none⟩))) := ((Chg.refl _ _).setCell (A := fun k => k = x) (p := ⟨x, o + 2, none⟩) (.inl rfl) _).setCell (A := fun k => k = x) (p := ⟨x, o + 3, none⟩) (.inl rfl) _
  have hlr := (LHof.looks H g size).chg (A := fun _ => False) hl (Chg.of_below h2) (fun _ _ z => z)
  refine ⟨g, c, F', G, ⟨(LHof.looks H g size).chg hlr cs (fun k hk z => by subst z; exact hfl hk), S.low (S.chg h1 cs (fun k hk z => by subst z; exact hgx hk)) (Nat.le_trans hB hc.size), hx.1, Nat.lt_of_lt_of_le hxr cs.size, ?_, ?_, ?_, ?_, fun j => ?_, fun k hk z => ?_, hfl, hgx⟩, ?_, fun k hk => ?_, fun j hj => ?_⟩
  · rw [World.cell?_setCell_other _ _ _ _ (by simp), World.cell?_setCell_other _ _ _ _ (by simp), e]; exact c0
  · rw [World.cell?_setCell_other _ _ _ _ (by simp), World.cell?_setCell_other _ _ _ _ (by simp), e]; exact c1
  · rw [World.cell?_setCell_other _ _ _ _ (by simp)]
    exact World.cell?_setCell_same _ _ _ ((e (o + 2)).trans c2)
  · refine World.cell?_setCell_same _ _ _ (u := u3) ?_
    rw [World.cell?_setCell_other _ _ _ _ (by simp), e]; exact c3
  · rw [World.frozen?_setCell, World.frozen?_setCell]; exact ef j
  · have := ((LHof.looks H g size).own hl k hk).2
    have := (S.own h1 k z).1
    omega
  · refine chg_more (A := fun k => F k ∨ k = x) ((hc.mono (fun k _ z => .inl z)).trans (Chg.of_below (A := fun k => F k ∨ k = x) h2)) cs (fun i _ z => .inr z)
  · rcases hk with z | z
    · exact hF' k z
    · right
      have := (S.own h1 k z).1
      have := hc.size
      omega
  · rw [World.cell?_setCell_other _ _ _ _ (by simp <;> omega), World.cell?_setCell_other _ _ _ _ (by simp <;> omega), e]

set_option maxRecDepth 100000 in
set_option maxHeartbeats 1000000 in
theorem vready_any {w : World} {x o : Nat} {u : Addr} (c0 : w.cell? ⟨x, o, none⟩ = some (.pointer (some u))) :
    Calls Tryz.prog 22 #[.pointer (some ⟨x, o, none⟩)] w fun e w' => e = .returned (.tuple #[]) ∧ w' = w := by
  go_enter Tryz.func22, Tryz.ntmps22
  go_wp2_with fail
  go_end0
  exact ⟨rfl, rfl⟩

/-- the first two cells of a vault -/
abbrev At2 (x o q : Nat) (size : Int) (w : World) : Prop := w.cell? ⟨x, o, none⟩ = some (.pointer (some ⟨q, 0, none⟩)) ∧ w.cell? ⟨x, o + 1, none⟩ = some (.int .i64 size)
theorem At2.below {w w' : World} (h : At2 x o q size w) (hx : x < w.heap.size) (hb : Below w.heap.size w w') : At2 x o q size w' := ⟨(hb.cell (p := ⟨x, o, none⟩) hx).trans h.1, (hb.cell (p := ⟨x, o + 1, none⟩) hx).trans h.2⟩
theorem At2.chg {w w' : World} (h : At2 x o q size w) (hx : x < w.heap.size) (hc : Chg F w w') (hn : ¬ F x) : At2 x o q size w' := ⟨(hc.cell (p := ⟨x, o, none⟩) hx hn).trans h.1, (hc.cell (p := ⟨x, o + 1, none⟩) hx hn).trans h.2⟩

set_option maxRecDepth 100000 in
set_option maxHeartbeats 1000000 in
theorem vopen_bad {w : World} (hz : inI size 1 4096 = false) (hx : x < w.heap.size) (c0 : w.cell? ⟨x, o, none⟩ = some (.pointer (some ⟨q, 0, none⟩))) (c1 : w.cell? ⟨x, o + 1, none⟩ = some (.int .i64 size)) :
    Calls Tryz.prog 21 #[.pointer (some ⟨x, o, none⟩)] w fun e w' => e = .returned (.int .i64 1) ∧ Below w.heap.size w w' := by
  have bd : Below w.heap.size w w.drew := (Below.refl _ _).drew
  have k0 : At2 x o q size w.drew := At2.below ⟨c0, c1⟩ hx bd
  have P := hide (lopen_bad (w := w.drew) (q := q) (B := w.drew.heap.size) size hz (Nat.le_refl _))
  have HX := hide (fun w1 (b : Below w.drew.heap.size w.drew w1) => k0.below (Nat.lt_of_lt_of_le hx bd.size) b)
  have HB := hide (fun w1 (b : Below w.drew.heap.size w.drew w1) => bd.trans (b.mono bd.size))
  clear hz bd
  go_enter Tryz.func21, Tryz.ntmps21
  go_wp2_with fail
  go_region_held3 (At2 x o q size) (first | assumption | go_keep)
    (first
      | (go_at_call 40; refine (unhide P).mono ?_; rintro e w1 ⟨⟨a, k, rfl⟩, b1⟩; have k1 := unhide HX w1 b1))
  have B1 := hide (unhide HB w1 b1)
  clear P HX HB b1 k0 k1
  go_wp2_with fail
  go_ret
  exact ⟨rfl, unhide B1⟩

set_option maxRecDepth 100000 in
set_option maxHeartbeats 1000000 in
theorem vopen_any (H : More Has) (L : LWorks Has (LHof Has)) (S : SVault SH) {u2 u3 : Value} (hz : inI size 1 4096 = true) (h : Has w B q F m es) (ht : Tidy m es) (hm : m ≤ 65536) (hB : B ≤ w.heap.size) (hx : B ≤ x ∧ x < w.heap.size) (hF : ¬ F x) (c0 : w.cell? ⟨x, o, none⟩ = some (.pointer (some ⟨q, 0, none⟩))) (c1 : w.cell? ⟨x, o + 1, none⟩ = some (.int .i64 size)) (c2 : w.cell? ⟨x, o + 2, none⟩ = some u2) (c3 : w.cell? ⟨x, o + 3, none⟩ = some u3) (fr : ∀ j, w.frozen? ⟨x, j, none⟩ = false) :
    Calls Tryz.prog 21 #[.pointer (some ⟨x, o, none⟩)] w fun e w' => e = .returned (.int .i64 0) ∧ Opd Has SH w w' B x o q F m size (openL es).2 (fillV (openL es).1) := by
  have bd : Below w.heap.size w w.drew := (Below.refl _ _).drew
  have cd : Chg F w w.drew := Chg.of_below bd
  have k0 : At2 x o q size w.drew := At2.below ⟨c0, c1⟩ hx.2 bd
  have P := hide (L.good size hz (H.works.chg (A := fun _ => False) h (Chg.of_below bd) (fun _ _ z => z)) ht hm (Nat.le_trans hB bd.size))
  have hlen : (openL es).1.length ≤ 200000 := by
    have := openL_len es
    have := ht.fits
    omega
  have hsm := openL_small es
  have HO : Hid (∀ (w1 wr : World) (g c : Nat) (F' : Nat → Prop), Chg F w w1 → (∀ k, F' k → F k ∨ w.drew.heap.size ≤ k) → LHof Has g size w1 B q F' m (openL es).2 → Mad SH w1 wr c (fillV (openL es).1) → Opd Has SH w ((wr.setCell ⟨x, o + 2, none⟩ (.pointer (some ⟨g, 0, none⟩))).setCell ⟨x, o + 3, none⟩ (.pointer (some ⟨c, 0, none⟩))) B x o q F m size (openL es).2 (fillV (openL es).1)) := hide (fun w1 wr g c F' hc hF' hl hs => hs.opd H S hx hB hF hc hF' hl c0 c1 c2 c3 fr)
  obtain ⟨es2, he2⟩ : ∃ z, z = (openL es).2 := ⟨_, rfl⟩
  obtain ⟨l, he1⟩ : ∃ z, z = (openL es).1 := ⟨_, rfl⟩
  rw [← he2, ← he1] at P HO ⊢
  rw [← he1] at hlen hsm
  clear he1 he2
  have HX := hide (fun w1 (hc : Chg F w w1) => And.intro (hc.cell (p := ⟨x, o + 2, none⟩) hx.2 hF) (And.intro (hc.cell (p := ⟨x, o + 3, none⟩) hx.2 hF) (And.intro (hc.frozen (p := ⟨x, o + 2, none⟩) hx.2 hF) (hc.frozen (p := ⟨x, o + 3, none⟩) hx.2 hF))))
  have HY := hide (fun w1 (hc : Chg F w.drew w1) => And.intro (cd.trans hc) (k0.chg (Nat.lt_of_lt_of_le hx.2 bd.size) hc hF))
  have f2 := fr (o + 2)
  have f3 := fr (o + 3)
  have hx2 := hx.2
  have HM := hide hsm
  clear h ht hz hF hx hsm fr bd cd
  go_enter Tryz.func21, Tryz.ntmps21
  go_wp2_with fail
  go_region_held3 (At2 x o q size) (first | assumption | go_keep)
    (first
      | (go_at_call 40; refine (unhide P).mono ?_; rintro e w1 ⟨g, a, k, F', rfl, hsl, ha, hl, hc0, hF'⟩; obtain ⟨hc, k1⟩ := unhide HY w1 hc0))
  obtain ⟨d2, d3, e2, e3⟩ := unhide HX w1 hc
  rw [c2] at d2
  rw [c3] at d3
  rw [f2] at e2
  rw [f3] at e3
  have hx1 : x < w1.heap.size := Nat.lt_of_lt_of_le hx2 hc.size
  have HSl := hide hsl
  have HO1 := hide (fun wr c => unhide HO w1 wr g c F' hc hF' hl)
  clear P HO HX HY hsl ha hl hc hc0 k0 k1 hF' c0 c1 c2 c3 f2 f3 hx2
  go_wp2_with fail
  refine (S.new w1).mono ?_
  rintro e w2 ⟨c, G, rfl, h2, b2⟩
  have M2 : Hid (Mad SH w1 w2 c (fillV (l.take 0))) := hide ⟨G, h2, b2⟩
  clear h2 b2
  go_wp2_with fail
  go_loopw [28] (fun iv wr => ∃ (k : Nat), iv = .int .i64 k ∧ k ≤ l.length ∧ Hid (Mad SH w1 wr c (fillV (l.take k)))) (fun iv _ => l.length - (intOf iv).toNat)
  case atStart => exact ⟨0, rfl, Nat.zero_le _, M2⟩
  case round =>
    clear M2
    obtain ⟨k, rfl, hkl, M2⟩ := hrel
    by_cases hlt : k < l.length
    · obtain ⟨ga, o, rfl, s6⟩ := unhide HSl k hlt
      have s7 : Six wr ga (o + k * 6) (rc l k) := s6.below (unhide M2).bl s6.lt
      have hsm := rc_small (unhide HM) hlt
      have hft := fillV_take hlt
      obtain ⟨r, hr⟩ : ∃ r, r = rc l k := ⟨_, rfl⟩
      rw [← hr] at s7 hsm hft
      obtain ⟨_, x0, x1, x2, x3, x4, x5⟩ := s7
      have M3 := hide ((unhide M2).below S ((Below.refl _ _).alloc (Nat.le_refl _) (.cells #[.int .i64 r.k, .int .i64 r.q, .int .i64 r.t, .string r.s, .string r.h, .string r.d] 30)))
      have PA := hide ((unhide M3).apply S (fillV_ok _) r hsm)
      rw [← hft] at PA
      clear hr hft s6 M2 M3
      go_wp2_with fail
      refine (unhide PA).mono ?_
      rintro e w4 ⟨rfl, m4⟩
      have M4 := hide m4
      clear m4 PA x0 x1 x2 x3 x4 x5
      go_wp2_with fail
      refine ⟨⟨k + 1, by go_num, by omega, M4⟩, ?_⟩
      simp [intOf]; omega
    · obtain rfl : k = l.length := by omega
      have M3 : Hid (Mad SH w1 wr c (fillV l)) := by
        have := M2
        rw [List.take_length] at this
        exact this
      have hb := (unhide M3).bl
      have g2 := (hb.cell (p := ⟨x, o + 2, none⟩) hx1).trans d2
      have g3 := (hb.cell (p := ⟨x, o + 3, none⟩) hx1).trans d3
      have k2 := (hb.frozen (p := ⟨x, o + 2, none⟩) hx1).trans e2
      have k3 := (hb.frozen (p := ⟨x, o + 3, none⟩) hx1).trans e3
      have hxr := Nat.lt_of_lt_of_le hx1 hb.size
      have HE := hide (unhide HO1 wr c (unhide M3))
      clear M2 M3 hlt hb d2 d3 e2 e3 HO1
      go_wp2_with fail
      go_ret
      exact ⟨rfl, unhide HE⟩
end
end Go.Proofs.YtohjipnkoiifhagGreatDoor.Dk

namespace Go.Proofs.YtohjipnkoiifhagGreatDoor.Dk
open Go.RowKit

/-- a pointer and a record that stand in memory -/
abbrev At7 (x j c b : Nat) (r : Rc) (w : World) : Prop := w.cell? ⟨x, j, none⟩ = some (.pointer (some ⟨c, 0, none⟩)) ∧ w.cell? ⟨b, 0, none⟩ = some (.int .i64 r.k) ∧ w.cell? ⟨b, 1, none⟩ = some (.int .i64 r.q) ∧ w.cell? ⟨b, 2, none⟩ = some (.int .i64 r.t) ∧ w.cell? ⟨b, 3, none⟩ = some (.string r.s) ∧ w.cell? ⟨b, 4, none⟩ = some (.string r.h) ∧ w.cell? ⟨b, 5, none⟩ = some (.string r.d)
theorem at7 {w : World} {x j c b : Nat} {r : Rc} (h : RB w b r.k r.q r.t r.s r.h r.d) (h0 : w.cell? ⟨x, j, none⟩ = some (.pointer (some ⟨c, 0, none⟩))) : At7 x j c b r w := ⟨h0, h.c0, h.c1, h.c2, h.c3, h.c4, h.c5⟩
theorem rb_stays {Cs : Nat → Prop} {w w' : World} {b : Nat} {k q t : Int} {s h d : ByteArray} (r : RB w b k q t s h d) (hs : Stay Cs w w') (hb : Cs b) : RB w' b k q t s h d :=
  ⟨Nat.lt_of_lt_of_le r.lt hs.1, by rw [hs.cell hb]; exact r.c0, by rw [hs.cell hb]; exact r.c1, by rw [hs.cell hb]; exact r.c2, by rw [hs.cell hb]; exact r.c3, by rw [hs.cell hb]; exact r.c4, by rw [hs.cell hb]; exact r.c5, fun j => by rw [World.frozen?_of_block (w := w) (hs.2 b hb)]; exact r.fr j⟩
theorem logP_kept {es : List Pap} {m size : Int} {r : Rc} (h : (logP es m size r).1 ≠ 0) : (logP es m size r).2 = es := by
  by_cases z : (logR es m size r).1 = 0
  · rw [logP_ok z] at h; exact absurd z h
  · rw [logP_not z]
theorem do_try {es : List Pap} {s : Sto} {m size : Int} {r : Rc} (h : tryE s r ≠ 0) : doE es s m size r = tryE s r ∧ doL es s m size r = es ∧ doS es s m size r = s := by
  have e : doE es s m size r = tryE s r := by unfold doE; rw [if_pos h]
  refine ⟨e, ?_, ?_⟩
  · unfold doL; rw [e, if_neg h]
  · unfold doS; rw [e, if_neg h]
theorem do_log {es : List Pap} {s : Sto} {m size : Int} {r : Rc} (h : tryE s r = 0) (h1 : (logP es m size r).1 ≠ 0) : doE es s m size r = (logP es m size r).1 ∧ doL es s m size r = es ∧ doS es s m size r = s := by
  have e : doE es s m size r = (logP es m size r).1 := by unfold doE; rw [if_neg (by rw [h]; simp)]
  refine ⟨e, ?_, ?_⟩
  · unfold doL; rw [e, if_neg h1]
  · unfold doS; rw [e, if_neg h1]
theorem do_all {es : List Pap} {s : Sto} {m size : Int} {r : Rc} (h : tryE s r = 0) (h1 : (logP es m size r).1 = 0) : doE es s m size r = 0 ∧ doL es s m size r = lsyncL (logP es m size r).2 ∧ doS es s m size r = aplS s r := by
  have e : doE es s m size r = 0 := by unfold doE; rw [if_neg (by rw [h]; simp)]; exact h1
  refine ⟨e, ?_, ?_⟩
  · unfold doL; rw [e, if_pos rfl]
  · unfold doS; rw [e, if_pos rfl]

section
variable {Has : World → Nat → Nat → (Nat → Prop) → Int → List Pap → Prop} {SH : World → Nat → Nat → (Nat → Prop) → Sto → Prop} {w : World} {B x o : Nat} {F : Nat → Prop} {m size : Int} {es : List Pap} {s : Sto}

set_option maxRecDepth 100000 in
set_option maxHeartbeats 2000000 in
theorem vdo_any (H : More Has) (L : LWorks Has (LHof Has)) (S : SVault SH) (r : Rc) (hr : Small r) (h : VHof Has SH o w B x F m size es s) (hv : VOk m es s) (hm : m ≤ 65536) (hz : inI size 1 4096 = true) (hB : B ≤ w.heap.size) :
    Calls Tryz.prog 8 #[.pointer (some ⟨x, o, none⟩), .agg #[.int .i64 r.k, .int .i64 r.q, .int .i64 r.t, .string r.s, .string r.h, .string r.d]] w fun e w' => e = .returned (.int .i64 (doE es s m size r)) ∧ DidO Has SH o w w' B x F m size (doL es s m size r) (doS es s m size r) := by
  obtain ⟨q, g, c, r0, hfin⟩ := h.begin
  have HF := hide hfin
  have HV := hide hv
  have HZ := hide hz
  have hal : Below w.heap.size w (w.alloc (.cells #[.int .i64 r.k, .int .i64 r.q, .int .i64 r.t, .string r.s, .string r.h, .string r.d] 30)) := (Below.refl _ _).alloc (Nat.le_refl _) _
  have R1 := hide (r0.mine H S (Cs' := fun k => k = w.heap.size) hal (fun k hk => .inr ⟨by omega, by subst hk; simp⟩))
  have C1 := hide (RB.new w r.k r.q r.t r.s r.h r.d 30)
  have PB := hide (vready_any (unhide R1).cells.1)
  clear h r0 hfin hv hal hz
  go_enter Tryz.func8, Tryz.ntmps8
  go_wp2_with fail
  refine (unhide PB).mono ?_
  rintro e w1 ⟨rfl, rfl⟩
  generalize w.alloc (.cells #[.int .i64 r.k, .int .i64 r.q, .int .i64 r.t, .string r.s, .string r.h, .string r.d] 30) = w1 at *
  have R2 := hide ((unhide R1).below H S (Below.refl _ _).drew)
  have C2 := hide ((unhide C1).next (Below.refl _ _).drew)
  have k2 := at7 (unhide C2) (unhide R2).cells.2.2.2.1
  have PT := hide (show Calls Tryz.prog 24 #[.pointer (some ⟨c, 0, none⟩), .agg #[.int .i64 r.k, .int .i64 r.q, .int .i64 r.t, .string r.s, .string r.h, .string r.d]] _ fun e w' => e = .returned (.int .i64 (tryE s r)) ∧ Below _ _ w' from by
    obtain ⟨FL, G, h1, _⟩ := unhide R2
    exact S.tries r hr h1.chest (unhide HV).ok (Nat.le_trans hB (unhide R2).room))
  obtain ⟨E, hE⟩ : ∃ E, tryE s r = E := ⟨_, rfl⟩
  rw [hE] at PT
  have HE := hide hE
  clear PB R1 C1 hE
  go_wp2_with fail
  go_region_held3 (At7 x (o + 3) c w.heap.size r) (first | assumption | go_keep)
    (first
      | (go_at_call 24; refine (unhide PT).mono ?_; rintro e w3 ⟨rfl, b3⟩; have R3 := hide ((unhide R2).below H S b3); have C3 := hide ((unhide C2).next b3); have k3 := at7 (unhide C3) (unhide R3).cells.2.2.2.1; clear b3))
  clear k2 k3 PT R2 C2
  by_cases h0 : E = 0
  · have HT := hide ((unhide HE).trans h0)
    subst h0
    have R4 := hide ((unhide R3).below H S (Below.refl _ _).drew)
    have C4 := hide ((unhide C3).next (Below.refl _ _).drew)
    have k4 := at7 (unhide C4) (unhide R4).cells.2.2.1
    have PA := hide ((unhide R4).upd S (fun FL hFL _ => L.append r hr (unhide HZ) hFL (unhide HV).tidy hm (Nat.le_trans hB (unhide R4).room)))
    obtain ⟨E2, hE2⟩ : ∃ E, (logP es m size r).1 = E := ⟨_, rfl⟩
    rw [hE2] at PA
    have HE2 := hide hE2
    clear HE R3 C3 hE2
    go_wp2_with fail
    go_region_held3 (At7 x (o + 2) g w.heap.size r) (first | assumption | go_keep)
      (first
        | (go_at_call 25; refine (unhide PA).mono ?_; rintro e w5 ⟨rfl, r5, s5⟩; have R5 := hide r5; have C5 := hide (rb_stays (unhide C4) s5 rfl); have k5 := at7 (unhide C5) (unhide R5).cells.2.2.1; clear r5 s5))
    clear k4 k5 PA R4 C4
    by_cases h1 : E2 = 0
    · obtain ⟨e1, e2, e3⟩ := do_all (unhide HT) ((unhide HE2).trans h1)
      subst h1
      have HR := hide (And.intro e1 (And.intro e2 e3))
      have x2 := (unhide R5).cells.2.2.1
      have PS := hide ((unhide R5).upd S (fun FL hFL _ => L.sync (unhide HZ) hFL ((unhide HV).tidy.logp size r) hm (Nat.le_trans hB (unhide R5).room)))
      clear e1 e2 e3 HE2 HT
      go_wp2_with fail
      refine (unhide PS).mono ?_
      rintro e w6 ⟨rfl, r6, s6⟩
      have R6 := hide (r6.below H S (Below.refl _ _).drew)
      have C6 := hide ((rb_stays (unhide C5) s6 rfl).next (Below.refl _ _).drew)
      have k6 := at7 (unhide C6) (unhide R6).cells.2.2.2.1
      have PD := hide ((unhide R6).did H (fun G hG => S.apply r hr hG (unhide HV).ok (Nat.le_trans hB (unhide R6).room)))
      clear PS R5 C5 x2 r6 s6
      go_wp2_with fail
      go_region_held3 (At7 x (o + 3) c w.heap.size r) (first | assumption | go_keep)
        (first
          | (go_at_call 27; refine (unhide PD).mono ?_; rintro e w7 ⟨rfl, r7, s7⟩; have R7 := hide r7; have C7 := hide (rb_stays (unhide C6) s7 rfl); have k7 := at7 (unhide C7) (unhide R7).cells.2.2.2.1; clear r7 s7))
      clear k6 k7 PD R6 C6
      go_wp2_with fail
      go_ret
      obtain ⟨e1, e2, e3⟩ := unhide HR
      rw [e1, e2, e3]
      exact ⟨rfl, unhide HF _ _ _ _ _ _ (unhide R7)⟩
    · obtain ⟨e1, e2, e3⟩ := do_log (unhide HT) (by rw [unhide HE2]; exact h1)
      have e4 := logP_kept (es := es) (m := m) (size := size) (r := r) (by rw [unhide HE2]; exact h1)
      have R6 : Hid (Rv Has SH F (fun k => k = w.heap.size) w w5 B x o q g c m size es s) := by
        have := R5
        rw [e4] at this
        exact this
      rw [unhide HE2] at e1
      have HR := hide (And.intro e1 (And.intro e2 e3))
      have e5 : (E2 != 0) = true := by simpa using h1
      clear e1 e2 e3 e4 HE2 HT R5
      go_wp2_with fail
      go_ret
      obtain ⟨e1, e2, e3⟩ := unhide HR
      rw [e1, e2, e3]
      exact ⟨rfl, unhide HF _ _ _ _ _ _ (unhide R6)⟩
  · obtain ⟨e1, e2, e3⟩ := do_try (es := es) (m := m) (size := size) (s := s) (r := r) (by rw [unhide HE]; exact h0)
    rw [unhide HE] at e1
    have HR := hide (And.intro e1 (And.intro e2 e3))
    have e5 : (E != 0) = true := by simpa using h0
    clear e1 e2 e3 HE
    go_wp2_with fail
    go_ret
    obtain ⟨e1, e2, e3⟩ := unhide HR
    rw [e1, e2, e3]
    exact ⟨rfl, unhide HF _ _ _ _ _ _ (unhide R3)⟩
end
end Go.Proofs.YtohjipnkoiifhagGreatDoor.Dk

namespace Go.Proofs.YtohjipnkoiifhagGreatDoor.Dk
open Go.RowKit

section
variable {Has : World → Nat → Nat → (Nat → Prop) → Int → List Pap → Prop} {SH : World → Nat → Nat → (Nat → Prop) → Sto → Prop} {w : World} {B x o : Nat} {F : Nat → Prop} {m size : Int} {es : List Pap} {s : Sto}

set_option maxRecDepth 100000 in
set_option maxHeartbeats 1000000 in
theorem vstore_any (h : VHof Has SH o w B x F m size es s) :
    Calls Tryz.prog 11 #[.pointer (some ⟨x, o, none⟩)] w fun e w' => ∃ q F0, e = .returned (.pointer (some ⟨q, 0, none⟩)) ∧ SH w' B q F0 s ∧ (∀ k, F0 k → F k) ∧ Below w.heap.size w w' := by
  obtain ⟨q, g, c, FL, G, h1, h2⟩ := h
  have PB := hide (vready_any h1.c0)
  have x3 := h1.c3
  have HE := hide (show SH w B c G s ∧ (∀ k, G k → F k) ∧ Below w.heap.size w w from ⟨h1.chest, fun k hk => (h2 k).2 (.inr (.inr hk)), Below.refl _ _⟩)
  clear h1 h2
  go_enter Tryz.func11, Tryz.ntmps11
  go_wp2_with fail
  refine (unhide PB).mono ?_
  rintro e w1 ⟨rfl, rfl⟩
  go_wp2_with fail
  go_ret
  exact ⟨c, G, rfl, unhide HE⟩

set_option maxRecDepth 100000 in
set_option maxHeartbeats 1000000 in
theorem vused_any (H : More Has) (S : SVault SH) (h : VHof Has SH o w B x F m size es s) (hv : VOk m es s) (hm : m ≤ 65536) (hB : B ≤ w.heap.size) :
    Calls Tryz.prog 10 #[.pointer (some ⟨x, o, none⟩)] w fun e w' => e = .returned (.int .i64 (used es : Int)) ∧ DidO Has SH o w w' B x F m size es s := by
  obtain ⟨q, g, c, r0, hfin⟩ := h.begin
  have HF := hide hfin
  have PB := hide (vready_any r0.cells.1)
  have x0 := r0.cells.1
  have PU := hide (r0.upd S (es' := es) (Q := fun e _ => e = .returned (.int .i64 (used es : Int))) (fun FL hFL _ => (LHof.looks H g size).used hFL hv.tidy hm hB))
  clear h r0 hfin hv
  go_enter Tryz.func10, Tryz.ntmps10
  go_wp2_with fail
  refine (unhide PB).mono ?_
  rintro e w1 ⟨rfl, rfl⟩
  go_wp2_with fail
  refine (unhide PU).mono ?_
  rintro e w2 ⟨rfl, r2, _⟩
  have R2 := hide (unhide HF _ _ _ _ _ _ r2)
  clear PU r2
  go_wp2_with fail
  go_ret
  exact ⟨rfl, unhide R2⟩
end
end Go.Proofs.YtohjipnkoiifhagGreatDoor.Dk

namespace Go.Proofs.YtohjipnkoiifhagGreatDoor.Dk
open Go.RowKit

section
variable {Has : World → Nat → Nat → (Nat → Prop) → Int → List Pap → Prop} {SH : World → Nat → Nat → (Nat → Prop) → Sto → Prop}
/-- a vault in the making: its block -/
theorem vault_blk (w : World) (q : Nat) (size : Int) : ∃ W, W = w.alloc (.cells #[.pointer (some ⟨q, 0, none⟩), .int .i64 size, .pointer none, .pointer none] 67) ∧ Below w.heap.size w W ∧ w.heap.size < W.heap.size ∧ W.cell? ⟨w.heap.size, 0, none⟩ = some (.pointer (some ⟨q, 0, none⟩)) ∧ W.cell? ⟨w.heap.size, 1, none⟩ = some (.int .i64 size) ∧ W.cell? ⟨w.heap.size, 2, none⟩ = some (.pointer none) ∧ W.cell? ⟨w.heap.size, 3, none⟩ = some (.pointer none) ∧ ∀ j, W.frozen? ⟨w.heap.size, j, none⟩ = false := by
  have hS := heap_alloc_new w (.cells #[.pointer (some ⟨q, 0, none⟩), .int .i64 size, .pointer none, .pointer none] 67)
  refine ⟨_, rfl, (Below.refl _ _).alloc (Nat.le_refl _) _, by simp, (cell_of_row _ w.heap.size 0 _ _ _ hS).trans rfl, (cell_of_row _ w.heap.size 1 _ _ _ hS).trans rfl, (cell_of_row _ w.heap.size 2 _ _ _ hS).trans rfl, (cell_of_row _ w.heap.size 3 _ _ _ hS).trans rfl, fun j => World.frozen?_alloc_new _ _ _ j⟩

set_option maxRecDepth 100000 in
set_option maxHeartbeats 1000000 in
theorem vnew_bad (N : News Has) (w : World) (m size : Int) (h : (inI m 1 65536 && inI size 1 4096) = false) :
    Calls Tryz.prog 6 #[.int .i64 m, .int .i64 size] w fun e w' => e = .returned (.tuple #[.pointer none, .int .i64 1]) ∧ Below w.heap.size w w' := by
  by_cases hm : inI m 1 65536 = false
  · have P := hide (N.bad w m hm)
    clear h hm
    go_enter Tryz.func6, Tryz.ntmps6
    go_wp2_with fail
    refine (unhide P).mono ?_
    rintro e w1 ⟨rfl, b1⟩
    have B1 := hide b1
    clear b1 P
    go_wp2_with fail
    go_ret2
    exact ⟨rfl, unhide B1⟩
  · have hm1 : inI m 1 65536 = true := by simpa using hm
    have hz : inI size 1 4096 = false := by rw [hm1] at h; simpa using h
    have P := hide (N.good w m hm1)
    have HZ := hide hz
    clear h hm hm1 hz
    go_enter Tryz.func6, Tryz.ntmps6
    go_wp2_with fail
    refine (unhide P).mono ?_
    rintro e w1 ⟨q, F, rfl, h1, b1⟩
    obtain ⟨W, hW, bW, hl, d0, d1, dd⟩ := vault_blk w1 q size
    have PO := hide (vopen_bad (unhide HZ) hl d0 d1)
    rw [hW] at PO bW
    have B2 := hide (b1.trans (bW.mono b1.size))
    have hs2 := Nat.le_trans b1.size bW.size
    clear P h1 b1 bW hW hl d0 d1 dd W
    go_wp2_with fail
    refine (unhide PO).mono ?_
    rintro e w2 ⟨rfl, b2⟩
    have B3 := hide ((unhide B2).trans (b2.mono hs2))
    clear PO b2
    go_wp2_with fail
    go_ret2
    exact ⟨rfl, unhide B3⟩

set_option maxRecDepth 100000 in
set_option maxHeartbeats 1000000 in
theorem vnew_good (H : More Has) (N : News Has) (L : LWorks Has (LHof Has)) (S : SVault SH) (w : World) (m size : Int) (hm : inI m 1 65536 = true) (hz : inI size 1 4096 = true) :
    Calls Tryz.prog 6 #[.int .i64 m, .int .i64 size] w fun e w' => ∃ p F, e = .returned (.tuple #[.pointer (some ⟨p, 0, none⟩), .int .i64 0]) ∧ VHof Has SH 0 w' w.heap.size p F m size [] ⟨[], 0⟩ ∧ Below w.heap.size w w' := by
  have hm2 : 1 ≤ m ∧ m ≤ 65536 := by simpa [inI] using hm
  have P := hide (N.good w m hm)
  have HZ := hide hz
  have HM := hide hm2
  clear hm hz hm2
  go_enter Tryz.func6, Tryz.ntmps6
  go_wp2_with fail
  refine (unhide P).mono ?_
  rintro e w1 ⟨q, F, rfl, h1, b1⟩
  obtain ⟨W, hW, bW, hl, d0, d1, d2, d3, fr⟩ := vault_blk w1 q size
  have hF : ¬ F w1.heap.size := fun z => by have := (H.works.own h1 _ z).2; omega
  have PO := hide (vopen_any (B := w.heap.size) H L S (unhide HZ) (H.works.chg (A := fun _ => False) h1 (Chg.of_below bW) (fun _ _ z => z)) (Tidy.nil (by have := (unhide HM).1; omega)) (unhide HM).2 (Nat.le_trans b1.size bW.size) ⟨b1.size, hl⟩ hF d0 d1 d2 d3 fr)
  have HO := hide (fun w' (h : Opd Has SH W w' w.heap.size w1.heap.size 0 q F m size (openL []).2 (fillV (openL []).1)) => show ∃ F, VHof Has SH 0 w' w.heap.size w1.heap.size F m size [] ⟨[], 0⟩ ∧ Below w.heap.size w w' from by
    obtain ⟨g, c, FL, G, v1, v2, _⟩ := h
    refine ⟨_, ⟨q, g, c, FL, G, v1, fun k => Iff.rfl⟩, (b1.trans (bW.mono b1.size)).trans (v2.below (Nat.le_trans b1.size bW.size) (fun k hk z => ?_))⟩
    have := b1.size
    rcases z with z | z
    · have := (H.works.own h1 k z).1; omega
    · omega)
  rw [hW] at PO HO
  clear P h1 b1 bW hW hl hF d0 d1 d2 d3 fr W
  go_wp2_with fail
  refine (unhide PO).mono ?_
  rintro e w2 ⟨rfl, o2⟩
  obtain ⟨F2, v2, b2⟩ := unhide HO _ o2
  have B2 := hide (And.intro v2 b2)
  clear PO HO o2 v2 b2
  go_wp2_with fail
  go_ret2
  exact ⟨_, F2, rfl, unhide B2⟩
end
end Go.Proofs.YtohjipnkoiifhagGreatDoor.Dk
