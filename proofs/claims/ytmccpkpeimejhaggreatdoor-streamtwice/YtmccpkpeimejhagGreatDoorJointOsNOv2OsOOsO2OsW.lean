/-
  The program's stream: copyOf (a plan with texts of its own).
  The program's vault: New, over any disk, any log and any store.
  The program's stream: New.
  The program's stream: New, the walks.
  The program's stream does what is asked of a stream.
-/
import Derived.Test.YtmccpkpeimejhagGreatDoorJointPapRcPapRgOsMRowPvWorksR
import Derived.Test.YtmccpkpeimejhagGreatDoorJointWalkY2RowZRowPrWalkY3PapPd
import Derived.Test.YtmccpkpeimejhagGreatDoorJointOsF2OsF3OsQRowPtRowPu
import Derived.Test.YtmccpkpeimejhagGreatDoorJointWalkClWalkN4WalkC5WalkC6WalkC7
import Derived.Test.YtmccpkpeimejhagGreatDoorJointOsROsPOv1Ov3Ov5
import Derived.Test.YtmccpkpeimejhagGreatDoorJointPapRdOsAOsCOsKOsK2
import Derived.Test.YtmccpkpeimejhagGreatDoorJointPapPwWalkY4RowTcPapLPapM
import Derived.Deep.RegionHeld3
namespace Go.Proofs.YtmccpkpeimejhagGreatDoor
open Go.RowKit

theorem results_plan1 {fn : Func} {t : Tmp} {tmps : Array Value} {w : World} {b : Nat} {n : ByteArray} {a : Option Addr} {l c : Nat} {x0 x1 x2 x3 x4 x5 x6 x7 : Int} (hf : fn.results = #[.cell t 43]) (ha : tmps.getD t undef = .pointer (some ⟨b, 0, none⟩)) (r : PB w b n a l c x0 x1 x2 x3 x4 x5 x6 x7) :
    (results fn tmps).run Tryz.prog w = .ok (.agg #[.string n, .slice a l c, .int .i64 x0, .int .i64 x1, .int .i64 x2, .int .i64 x3, .int .i64 x4, .int .i64 x5, .int .i64 x6, .int .i64 x7]) w := by
  have ha' : tmps[t]?.getD undef = .pointer (some ⟨b, 0, none⟩) := by simpa using ha
  simp [results, hf, ha', asAddr, load_plan r]
theorem puts_chg {A : Nat → Prop} {b : Nat} (hA : A b) {w : World} : ∀ (vs : List Value) (W : World) (o : Nat), Dk.Chg A w W → Dk.Chg A w (puts W b o vs)
  | [], _, _, h => h
  | v :: vs, _, o, h => puts_chg hA vs _ (o + 1) (h.setCell (p := ⟨b, o, none⟩) (.inl hA) v)
theorem txts_low {w : World} {B B' : Nat} {v : Value} {l : List ByteArray} (h : Txts w B v l) (hB : B' ≤ B) : Txts w B' v l := by
  refine ⟨h.1, ?_⟩
  rcases h.2 with q | ⟨g, cap, cur, h1, h2, r⟩
  · exact .inl q
  · exact .inr ⟨g, cap, cur, h1, Nat.le_trans hB h2, r⟩
theorem take_tk {l : List ByteArray} {k : Nat} (h : k < l.length) : l.take (k + 1) = l.take k ++ [tk l k] := by
  rw [List.take_succ_eq_append_getElem h]
  unfold tk
  rw [List.getElem?_eq_getElem h]
  rfl
theorem PB.side {w : World} {b k j : Nat} {n : ByteArray} {a : Option Addr} {l c : Nat} {x0 x1 x2 x3 x4 x5 x6 x7 : Int} (h : PB w b n a l c x0 x1 x2 x3 x4 x5 x6 x7) (hk : k ≠ b) (v : Value) : PB (w.setCell ⟨k, j, none⟩ v) b n a l c x0 x1 x2 x3 x4 x5 x6 x7 := by
  have e : ∀ i, (w.setCell ⟨k, j, none⟩ v).cell? ⟨b, i, none⟩ = w.cell? ⟨b, i, none⟩ := fun i => World.cell?_setCell_other _ _ _ _ (by intro z; injection z; omega)
  exact ⟨by have := h.lt; simpa [World.setCell] using this, (e 0).trans h.c0, (e 1).trans h.c1, (e 2).trans h.c2, (e 3).trans h.c3, (e 4).trans h.c4, (e 5).trans h.c5, (e 6).trans h.c6, (e 7).trans h.c7, (e 8).trans h.c8, (e 9).trans h.c9⟩

set_option maxRecDepth 100000 in
set_option maxHeartbeats 4000000 in
theorem pcopy_any (n : ByteArray) (a : Option Addr) (l : List ByteArray) (c : Nat) (x0 x1 x2 x3 x4 x5 x6 x7 : Int) (w : World) (hn : n.size ≤ 140737488355328) (hsl : SlS w a l) (hz : ∀ k, k < l.length → (tk l k).size ≤ 140737488355328) (hl : l.length ≤ 100) :
    Calls Tryz.prog 33 #[planV n a l.length c x0 x1 x2 x3 x4 x5 x6 x7] w fun e w' => ∃ a' c', e = .returned (planV n a' l.length c' x0 x1 x2 x3 x4 x5 x6 x7) ∧ Txts w' w.heap.size (.slice a' l.length c') l ∧ Below w.heap.size w w' := by
  obtain ⟨W, hW⟩ : ∃ W, W = (w.alloc (.cells #[.string n, .slice a l.length c, .int .i64 x0, .int .i64 x1, .int .i64 x2, .int .i64 x3, .int .i64 x4, .int .i64 x5, .int .i64 x6, .int .i64 x7] 43)).alloc (.cells #[.string ⟨#[]⟩, .slice none 0 0, .int .i64 0, .int .i64 0, .int .i64 0, .int .i64 0, .int .i64 0, .int .i64 0, .int .i64 0, .int .i64 0] 43) := ⟨_, rfl⟩
  have hs1 : (w.alloc (.cells #[.string n, .slice a l.length c, .int .i64 x0, .int .i64 x1, .int .i64 x2, .int .i64 x3, .int .i64 x4, .int .i64 x5, .int .i64 x6, .int .i64 x7] 43)).heap.size = w.heap.size + 1 := by simp
  have hsz : W.heap.size = w.heap.size + 2 := by rw [hW]; simp
  have hb : Below w.heap.size w W := by rw [hW]; exact ((Below.refl _ _).alloc (Nat.le_refl _) _).alloc (by simp) _
  have hb1 : Below (w.alloc (.cells #[.string n, .slice a l.length c, .int .i64 x0, .int .i64 x1, .int .i64 x2, .int .i64 x3, .int .i64 x4, .int .i64 x5, .int .i64 x6, .int .i64 x7] 43)).heap.size (w.alloc (.cells #[.string n, .slice a l.length c, .int .i64 x0, .int .i64 x1, .int .i64 x2, .int .i64 x3, .int .i64 x4, .int .i64 x5, .int .i64 x6, .int .i64 x7] 43)) W := by rw [hW]; exact (Below.refl _ _).alloc (Nat.le_refl _) _
  have p0 := (PB.new w n a l.length c x0 x1 x2 x3 x4 x5 x6 x7 43).next hb1
  have p1 : PB W (w.heap.size + 1) ⟨#[]⟩ none 0 0 0 0 0 0 0 0 0 0 := by
    have := PB.new (w.alloc (.cells #[.string n, .slice a l.length c, .int .i64 x0, .int .i64 x1, .int .i64 x2, .int .i64 x3, .int .i64 x4, .int .i64 x5, .int .i64 x6, .int .i64 x7] 43)) ⟨#[]⟩ none 0 0 0 0 0 0 0 0 0 0 43
    rw [← hW, hs1] at this
    exact this
  have f0 : ∀ j, W.frozen? ⟨w.heap.size, j, none⟩ = false := fun j => by
    rw [hb1.frozen (p := ⟨w.heap.size, j, none⟩) (by simp)]
    exact World.frozen?_alloc_new _ _ _ j
  have f1 : ∀ j, W.frozen? ⟨w.heap.size + 1, j, none⟩ = false := fun j => by
    rw [hW, ← hs1]
    exact World.frozen?_alloc_new _ _ _ j
  have HP : Hid (∀ W2, Below W.heap.size W W2 → PB W2 w.heap.size n a l.length c x0 x1 x2 x3 x4 x5 x6 x7 ∧ PB W2 (w.heap.size + 1) ⟨#[]⟩ none 0 0 0 0 0 0 0 0 0 0 ∧ (∀ j, W2.frozen? ⟨w.heap.size, j, none⟩ = false) ∧ (∀ j, W2.frozen? ⟨w.heap.size + 1, j, none⟩ = false) ∧ SlS W2 a l ∧ Below w.heap.size w W2) := hide (fun W2 h2 => ⟨p0.next h2, p1.next h2, fun j => (h2.frozen (p := ⟨w.heap.size, j, none⟩) p0.lt).trans (f0 j), fun j => (h2.frozen (p := ⟨w.heap.size + 1, j, none⟩) p1.lt).trans (f1 j), (hsl.next hb).next h2, bstep hb h2⟩)
  have d1 := p0.c1
  have HZ := hide hz
  have hWle : W.heap.size ≤ W.heap.size := Nat.le_refl _
  have X0 : Hid (Txts W W.heap.size (.slice none 0 0) (l.take 0) ∧ Below W.heap.size W W) := hide ⟨Txts.nil W _, Below.refl _ _⟩
  have PCl : Hid (∀ (t : ByteArray) (X : World), t.size ≤ 140737488355328 → Calls Tryz.prog 58 #[.string t] X fun e w' => e = .returned (.string t) ∧ Below X.heap.size X w') := hide (fun t X ht => clone_any t X (by omega))
  clear hsl hz p0 p1 f0 f1 hb hb1 hs1
  go_enter Tryz.func33, Tryz.ntmps33
  go_wp2_with fail
  rw [← hW]
  clear hW
  go_loopw [3, 9] (fun sv iv wr => ∃ (k : Nat), iv = .int .i64 k ∧ k ≤ l.length ∧ Hid (Txts wr W.heap.size sv (l.take k) ∧ Below W.heap.size W wr)) (fun _ iv _ => l.length - (intOf iv).toNat)
  case atStart => exact ⟨0, rfl, Nat.zero_le _, X0⟩
  case round =>
    clear X0
    obtain ⟨k, rfl, hk, X⟩ := hrel
    by_cases hlt : k < l.length
    · obtain ⟨_, _, _, _, q4, _⟩ := unhide HP wr (unhide X).2
      obtain ⟨ba, o, rfl, hba, hcell⟩ := q4 k hlt
      obtain ⟨av, cv, hv, hcv, _⟩ := (unhide X).1.shape
      rw [List.length_take, Nat.min_eq_left hk] at hv hcv
      have ht := take_tk hlt
      have PC := hide (unhide PCl (tk l k) wr (unhide HZ k hlt))
      generalize tk l k = t at *
      have HT := hide ht
      subst hv
      clear q4 ht
      go_wp2_with fail
      refine (unhide PC).mono ?_
      rintro e w1 ⟨rfl, b1⟩
      have X1 : Hid (Txts w1 W.heap.size (.slice av k cv) (l.take k) ∧ Below W.heap.size W w1) := hide ⟨(unhide X).1.below b1, (unhide X).2.trans (b1.mono (unhide X).2.size)⟩
      obtain ⟨v8, w8, hrun, T8, B8⟩ := txt_more (unhide X1).1 (unhide X1).2 t (by rw [List.length_take]; omega) (unhide X1).2.size
      have HRun := hide hrun
      have X8 : Hid (Txts w8 W.heap.size v8 (l.take (k + 1)) ∧ Below W.heap.size W w8) := hide ⟨by rw [unhide HT]; exact T8, B8⟩
      clear PC b1 X X1 hrun T8 B8 HT hcell
      go_wp2_with (at_builtin; refine Lib.wpList_append_run _ rfl _ _ _ _ rfl _ _ rfl rfl _ _ (unhide HRun) ?_)
      refine ⟨⟨k + 1, by go_num, by omega, X8⟩, ?_⟩
      simp [intOf]; omega
    · obtain rfl : k = l.length := by omega
      have X2 : Hid (Txts wr W.heap.size u3 l ∧ Below W.heap.size W wr) := hide (by have := unhide X; rwa [List.take_length] at this)
      obtain ⟨av, cv, hv, hcv, _⟩ := (unhide X2).1.shape
      have n0 := (unhide HP wr (unhide X2).2).1.c0
      have PC := hide (unhide PCl n wr hn)
      subst hv
      clear X hlt
      go_wp2_with fail
      refine (unhide PC).mono ?_
      rintro e w1 ⟨rfl, b1⟩
      have X3 : Hid (Txts w1 W.heap.size (.slice av l.length cv) l ∧ Below W.heap.size W w1) := hide ⟨(unhide X2).1.below b1, (unhide X2).2.trans (b1.mono (unhide X2).2.size)⟩
      obtain ⟨pa, pb, g0, g1, _, bw⟩ := unhide HP w1 (unhide X3).2
      have PA := hide pa
      have PB' := hide pb
      have BW := hide bw
      have G0 := hide g0
      have G1 := hide g1
      obtain ⟨la, a0, a1, a2, a3, a4, a5, a6, a7, a8, a9⟩ := pa
      obtain ⟨lb, c0, c1, c2, c3, c4, c5, c6, c7, c8, c9⟩ := pb
      have s0 := g0 0
      have s1 := g0 1
      have t0 := g1 0
      have t1 := g1 1
      have t2 := g1 2
      have t3 := g1 3
      have t4 := g1 4
      have t5 := g1 5
      have t6 := g1 6
      have t7 := g1 7
      have t8 := g1 8
      have t9 := g1 9
      have hne : w.heap.size ≠ w.heap.size + 1 := by omega
      clear PC b1 X2 n0 g0 g1 bw
      go_wp2_with fail
      have hfin := (((unhide PB').side (k := w.heap.size) (j := 0) (by omega) (.string n)).side (k := w.heap.size) (j := 1) (by omega) (.slice av l.length cv)).puts n av l.length cv x0 x1 x2 x3 x4 x5 x6 x7
      (try simp only [Exit.inBlock, Exit.then])
      refine bodyPost_ret (results_plan1 (b := w.heap.size + 1) rfl rfl hfin) rfl ?_
      refine ⟨av, cv, rfl, ?_, ?_⟩
      · refine txts_low (Txts.chg (A := fun k => k = w.heap.size ∨ k = w.heap.size + 1) (unhide X3).1 (puts_chg (b := w.heap.size + 1) (.inr rfl) [.string n, .slice av l.length cv, .int .i64 x0, .int .i64 x1, .int .i64 x2, .int .i64 x3, .int .i64 x4, .int .i64 x5, .int .i64 x6, .int .i64 x7] _ 0 (((Dk.Chg.refl _ _).setCell (p := ⟨w.heap.size, 0, none⟩) (.inl (.inl rfl)) _).setCell (p := ⟨w.heap.size, 1, none⟩) (.inl (.inl rfl)) _)) (fun g hg z => by omega)) (by omega)
      · exact puts_below (b := w.heap.size + 1) (by omega) [.string n, .slice av l.length cv, .int .i64 x0, .int .i64 x1, .int .i64 x2, .int .i64 x3, .int .i64 x4, .int .i64 x5, .int .i64 x6, .int .i64 x7] _ 0 (((unhide BW).setCell (p := ⟨w.heap.size, 0, none⟩) (Nat.le_refl _) _).setCell (p := ⟨w.heap.size, 1, none⟩) (Nat.le_refl _) _)
end Go.Proofs.YtmccpkpeimejhagGreatDoor

namespace Go.Proofs.YtmccpkpeimejhagGreatDoor.Dk
open Go.RowKit

section
variable {Has : World → Nat → Nat → (Nat → Prop) → Int → List Pap → Prop} {SH : World → Nat → Nat → (Nat → Prop) → Sto → Prop}
/-- a vault in the making: its block -/
theorem vault_blk (w : World) (q : Nat) (size : Int) : ∃ W, W = w.alloc (.cells #[.pointer (some ⟨q, 0, none⟩), .int .i64 size, .pointer none, .pointer none] 67) ∧ Below w.heap.size w W ∧ w.heap.size < W.heap.size ∧ W.cell? ⟨w.heap.size, 0, none⟩ = some (.pointer (some ⟨q, 0, none⟩)) ∧ W.cell? ⟨w.heap.size, 1, none⟩ = some (.int .i64 size) ∧ W.cell? ⟨w.heap.size, 2, none⟩ = some (.pointer none) ∧ W.cell? ⟨w.heap.size, 3, none⟩ = some (.pointer none) ∧ ∀ j, W.frozen? ⟨w.heap.size, j, none⟩ = false := by
  have hS := heap_alloc_new w (.cells #[.pointer (some ⟨q, 0, none⟩), .int .i64 size, .pointer none, .pointer none] 67)
  refine ⟨_, rfl, (Below.refl _ _).alloc (Nat.le_refl _) _, by simp, (cell_of_row _ w.heap.size 0 _ _ _ hS).trans rfl, (cell_of_row _ w.heap.size 1 _ _ _ hS).trans rfl, (cell_of_row _ w.heap.size 2 _ _ _ hS).trans rfl, (cell_of_row _ w.heap.size 3 _ _ _ hS).trans rfl, fun j => World.frozen?_alloc_new _ _ _ j⟩

set_option maxRecDepth 100000 in
set_option maxHeartbeats 1000000 in
theorem vnew_bad (N : News Has) (w : World) (m size : Int) (h : (inI m 1 65536 && inI size 1 4096) = false) :
    Calls Tryz.prog 6 #[.int .i64 m, .int .i64 size] w fun e w' => e = .returned (.tuple #[.pointer none, .int .i64 1]) ∧ Below w.heap.size w w' := by
  by_cases hm : inI m 1 65536 = false
  · have P := hide (N.bad w m hm)
    clear h hm
    go_enter Tryz.func6, Tryz.ntmps6
    go_wp2_with fail
    refine (unhide P).mono ?_
    rintro e w1 ⟨rfl, b1⟩
    have B1 := hide b1
    clear b1 P
    go_wp2_with fail
    go_ret2
    exact ⟨rfl, unhide B1⟩
  · have hm1 : inI m 1 65536 = true := by simpa using hm
    have hz : inI size 1 4096 = false := by rw [hm1] at h; simpa using h
    have P := hide (N.good w m hm1)
    have HZ := hide hz
    clear h hm hm1 hz
    go_enter Tryz.func6, Tryz.ntmps6
    go_wp2_with fail
    refine (unhide P).mono ?_
    rintro e w1 ⟨q, F, rfl, h1, b1⟩
    obtain ⟨W, hW, bW, hl, d0, d1, dd⟩ := vault_blk w1 q size
    have PO := hide (vopen_bad (unhide HZ) hl d0 d1)
    rw [hW] at PO bW
    have B2 := hide (b1.trans (bW.mono b1.size))
    have hs2 := Nat.le_trans b1.size bW.size
    clear P h1 b1 bW hW hl d0 d1 dd W
    go_wp2_with fail
    refine (unhide PO).mono ?_
    rintro e w2 ⟨rfl, b2⟩
    have B3 := hide ((unhide B2).trans (b2.mono hs2))
    clear PO b2
    go_wp2_with fail
    go_ret2
    exact ⟨rfl, unhide B3⟩

set_option maxRecDepth 100000 in
set_option maxHeartbeats 1000000 in
theorem vnew_good (H : More Has) (N : News Has) (L : LWorks Has (LHof Has)) (S : SVault SH) (w : World) (m size : Int) (hm : inI m 1 65536 = true) (hz : inI size 1 4096 = true) :
    Calls Tryz.prog 6 #[.int .i64 m, .int .i64 size] w fun e w' => ∃ p F, e = .returned (.tuple #[.pointer (some ⟨p, 0, none⟩), .int .i64 0]) ∧ VHof Has SH 0 w' w.heap.size p F m size [] ⟨[], 0⟩ ∧ Below w.heap.size w w' := by
  have hm2 : 1 ≤ m ∧ m ≤ 65536 := by simpa [inI] using hm
  have P := hide (N.good w m hm)
  have HZ := hide hz
  have HM := hide hm2
  clear hm hz hm2
  go_enter Tryz.func6, Tryz.ntmps6
  go_wp2_with fail
  refine (unhide P).mono ?_
  rintro e w1 ⟨q, F, rfl, h1, b1⟩
  obtain ⟨W, hW, bW, hl, d0, d1, d2, d3, fr⟩ := vault_blk w1 q size
  have hF : ¬ F w1.heap.size := fun z => by have := (H.works.own h1 _ z).2; omega
  have PO := hide (vopen_any (B := w.heap.size) H L S (unhide HZ) (H.works.chg (A := fun _ => False) h1 (Chg.of_below bW) (fun _ _ z => z)) (Tidy.nil (by have := (unhide HM).1; omega)) (unhide HM).2 (Nat.le_trans b1.size bW.size) ⟨b1.size, hl⟩ hF d0 d1 d2 d3 fr)
  have HO := hide (fun w' (h : Opd Has SH W w' w.heap.size w1.heap.size 0 q F m size (openL []).2 (fillV (openL []).1)) => show ∃ F, VHof Has SH 0 w' w.heap.size w1.heap.size F m size [] ⟨[], 0⟩ ∧ Below w.heap.size w w' from by
    obtain ⟨g, c, FL, G, v1, v2, _⟩ := h
    refine ⟨_, ⟨q, g, c, FL, G, v1, fun k => Iff.rfl⟩, (b1.trans (bW.mono b1.size)).trans (v2.below (Nat.le_trans b1.size bW.size) (fun k hk z => ?_))⟩
    have := b1.size
    rcases z with z | z
    · have := (H.works.own h1 k z).1; omega
    · omega)
  rw [hW] at PO HO
  clear P h1 b1 bW hW hl hF d0 d1 d2 d3 fr W
  go_wp2_with fail
  refine (unhide PO).mono ?_
  rintro e w2 ⟨rfl, o2⟩
  obtain ⟨F2, v2, b2⟩ := unhide HO _ o2
  have B2 := hide (And.intro v2 b2)
  clear PO HO o2 v2 b2
  go_wp2_with fail
  go_ret2
  exact ⟨_, F2, rfl, unhide B2⟩
end
end Go.Proofs.YtmccpkpeimejhagGreatDoor.Dk

namespace Go.Proofs.YtmccpkpeimejhagGreatDoor.Dk
open Go.RowKit

theorem eight_nth {v : List Int} (h : v.length = 8) : v = [nth v 0, nth v 1, nth v 2, nth v 3, nth v 4, nth v 5, nth v 6, nth v 7] := by
  match v, h with
  | [_, _, _, _, _, _, _, _], _ => rfl
abbrev plO (P : Pn.Pln) (a : Option Addr) (c : Nat) : Obj := .cells #[.string P.n, .slice a P.f.length c, .int .i64 (nth P.v 0), .int .i64 (nth P.v 1), .int .i64 (nth P.v 2), .int .i64 (nth P.v 3), .int .i64 (nth P.v 4), .int .i64 (nth P.v 5), .int .i64 (nth P.v 6), .int .i64 (nth P.v 7)] 43
theorem pcheck_any (P : Pn.Pln) (a : Option Addr) (c : Nat) (w : World) (hs : SmallP P) (hsl : SlS w a P.f) (hc : P.f.length ≤ c) (hG : BndIs w) :
    Calls Tryz.prog 32 #[plV P a c] w fun e w' => e = .returned (.int .i64 (Pn.planE P)) ∧ Below w.heap.size w w' := by
  have h := plcheck_any P.n a P.f c (nth P.v 0) (nth P.v 1) (nth P.v 2) (nth P.v 3) (nth P.v 4) (nth P.v 5) (nth P.v 6) (nth P.v 7) w hs.name hsl hs.each hs.many hc hG
  rw [← eight_nth hs.nums] at h
  exact h
theorem tcopy_any (P : Pn.Pln) (a : Option Addr) (c : Nat) (w : World) (hs : SmallP P) (hsl : SlS w a P.f) (hl : P.f.length ≤ 100) :
    Calls Tryz.prog 33 #[plV P a c] w fun e w' => ∃ a' c', e = .returned (plV P a' c') ∧ Txts w' w.heap.size (.slice a' P.f.length c') P.f ∧ Below w.heap.size w w' :=
  pcopy_any P.n a P.f c (nth P.v 0) (nth P.v 1) (nth P.v 2) (nth P.v 3) (nth P.v 4) (nth P.v 5) (nth P.v 6) (nth P.v 7) w hs.name hsl hs.each hl
/-- a plan and a vault that stand in memory -/
abbrev At14 (b : Nat) (P : Pn.Pln) (a : Option Addr) (c : Nat) (v q g k : Nat) (size : Int) (w : World) : Prop :=
  (w.cell? ⟨b, 0, none⟩ = some (.string P.n) ∧ w.cell? ⟨b, 1, none⟩ = some (.slice a P.f.length c) ∧ w.cell? ⟨b, 2, none⟩ = some (.int .i64 (nth P.v 0)) ∧ w.cell? ⟨b, 3, none⟩ = some (.int .i64 (nth P.v 1)) ∧ w.cell? ⟨b, 4, none⟩ = some (.int .i64 (nth P.v 2)) ∧ w.cell? ⟨b, 5, none⟩ = some (.int .i64 (nth P.v 3)) ∧ w.cell? ⟨b, 6, none⟩ = some (.int .i64 (nth P.v 4)) ∧ w.cell? ⟨b, 7, none⟩ = some (.int .i64 (nth P.v 5)) ∧ w.cell? ⟨b, 8, none⟩ = some (.int .i64 (nth P.v 6)) ∧ w.cell? ⟨b, 9, none⟩ = some (.int .i64 (nth P.v 7))) ∧
  w.cell? ⟨v, 0, none⟩ = some (.pointer (some ⟨q, 0, none⟩)) ∧ w.cell? ⟨v, 1, none⟩ = some (.int .i64 size) ∧ w.cell? ⟨v, 2, none⟩ = some (.pointer (some ⟨g, 0, none⟩)) ∧ w.cell? ⟨v, 3, none⟩ = some (.pointer (some ⟨k, 0, none⟩))
theorem at14 {b : Nat} {P : Pn.Pln} {a : Option Addr} {c v q g k : Nat} {size : Int} {w : World} (h : PBx w b P a c) (h0 : w.cell? ⟨v, 0, none⟩ = some (.pointer (some ⟨q, 0, none⟩))) (h1 : w.cell? ⟨v, 1, none⟩ = some (.int .i64 size)) (h2 : w.cell? ⟨v, 2, none⟩ = some (.pointer (some ⟨g, 0, none⟩))) (h3 : w.cell? ⟨v, 3, none⟩ = some (.pointer (some ⟨k, 0, none⟩))) : At14 b P a c v q g k size w := ⟨⟨h.c0, h.c1, h.c2, h.c3, h.c4, h.c5, h.c6, h.c7, h.c8, h.c9⟩, h0, h1, h2, h3⟩
theorem At14.alloc {b : Nat} {P : Pn.Pln} {a : Option Addr} {c v q g k : Nat} {size : Int} {w : World} {o : Obj} (h : At14 b P a c v q g k size w) (hb : b < w.heap.size) (hv : v < w.heap.size) : At14 b P a c v q g k size (w.alloc o) := by
  have e : ∀ i, (w.alloc o).cell? ⟨b, i, none⟩ = w.cell? ⟨b, i, none⟩ := fun i => World.cell?_alloc_past _ _ _ hb
  have f : ∀ i, (w.alloc o).cell? ⟨v, i, none⟩ = w.cell? ⟨v, i, none⟩ := fun i => World.cell?_alloc_past _ _ _ hv
  unfold At14
  rw [e, e, e, e, e, e, e, e, e, e, f, f, f, f]
  exact h
section
variable {Has : World → Nat → Nat → (Nat → Prop) → Int → List Pap → Prop} {SH : World → Nat → Nat → (Nat → Prop) → Sto → Prop} {w W : World} {B x v q g k : Nat} {FL G : Nat → Prop} {a : Option Addr} {c : Nat} {P : Pn.Pln} {m size : Int}
/-- the stream's block is made -/
theorem sm_new (U : Und Has SH) (hs : SmallP P) (hB : B ≤ W.heap.size) (hv : Va Has SH W B v 0 q g k FL G m size [] ⟨[], 0⟩) (ht : Txts W B (.slice a P.f.length c) P.f) (hn : ∀ z, a = some z → ¬ vaF v FL G z.block ∧ z.block < W.heap.size) :
    Stm Has SH (W.alloc (.cells #[.string P.n, .slice a P.f.length c, .int .i64 (nth P.v 0), .int .i64 (nth P.v 1), .int .i64 (nth P.v 2), .int .i64 (nth P.v 3), .int .i64 (nth P.v 4), .int .i64 (nth P.v 5), .int .i64 (nth P.v 6), .int .i64 (nth P.v 7), .pointer (some ⟨q, 0, none⟩), .int .i64 size, .pointer (some ⟨g, 0, none⟩), .pointer (some ⟨k, 0, none⟩), .map none] 80)) B W.heap.size (vaF W.heap.size FL G) a c none P m size noStr := by
  obtain ⟨o, ho⟩ : ∃ o, o = Obj.cells #[.string P.n, .slice a P.f.length c, .int .i64 (nth P.v 0), .int .i64 (nth P.v 1), .int .i64 (nth P.v 2), .int .i64 (nth P.v 3), .int .i64 (nth P.v 4), .int .i64 (nth P.v 5), .int .i64 (nth P.v 6), .int .i64 (nth P.v 7), .pointer (some ⟨q, 0, none⟩), .int .i64 size, .pointer (some ⟨g, 0, none⟩), .pointer (some ⟨k, 0, none⟩), .map none] 80 := ⟨_, rfl⟩
  have bb : Below W.heap.size W (W.alloc o) := (Below.refl _ _).alloc (Nat.le_refl _) _
  have hsz : (W.alloc o).heap.size = W.heap.size + 1 := by simp
  have hnew : ∀ j u, #[Value.string P.n, .slice a P.f.length c, .int .i64 (nth P.v 0), .int .i64 (nth P.v 1), .int .i64 (nth P.v 2), .int .i64 (nth P.v 3), .int .i64 (nth P.v 4), .int .i64 (nth P.v 5), .int .i64 (nth P.v 6), .int .i64 (nth P.v 7), .pointer (some ⟨q, 0, none⟩), .int .i64 size, .pointer (some ⟨g, 0, none⟩), .pointer (some ⟨k, 0, none⟩), .map none][j]? = some u → (W.alloc o).cell? ⟨W.heap.size, j, none⟩ = some u := fun j u hu => by
    rw [ho]
    exact (cell_of_row _ W.heap.size j _ _ _ (heap_alloc_new W _)).trans hu
  have hfr : ∀ j, (W.alloc o).frozen? ⟨W.heap.size, j, none⟩ = false := fun j => by
    rw [ho]
    exact World.frozen?_alloc_new _ _ _ j
  have hv' := hv.below U.H U.S bb
  have hlo : ∀ i, vaF v FL G i → i < W.heap.size := fun i hi => (hv.own U.H U.S i hi).2
  rw [← ho]
  obtain ⟨a', c', hac, hcap, hsl⟩ := (ht.below bb).shape
  have hac2 := Value.slice.inj hac
  have ea : a' = a := hac2.1.symm
  have ec : c' = c := hac2.2.2.symm
  subst ea ec
  have e : mids P noStr.ids = [] := by unfold mids noStr; split <;> rfl
  have hvh : VHof Has SH 10 (W.alloc o) B W.heap.size (vaF W.heap.size FL G) m size noStr.es noStr.s := ⟨q, g, k, FL, G, ⟨hv'.log, hv'.chest, hB, by omega, hnew 10 _ rfl, hnew 11 _ rfl, hnew 12 _ rfl, hnew 13 _ rfl, hfr, hv'.ap, (fun z => by have := hlo _ (.inr (.inl z)); omega), (fun z => by have := hlo _ (.inr (.inr z)); omega)⟩, fun _ => Iff.rfl⟩
  refine ⟨hvh, ⟨by omega, hnew 0 _ rfl, hnew 1 _ rfl, hnew 2 _ rfl, hnew 3 _ rfl, hnew 4 _ rfl, hnew 5 _ rfl, hnew 6 _ rfl, hnew 7 _ rfl, hnew 8 _ rfl, hnew 9 _ rfl⟩, hnew 14 _ rfl, hsl, fun z hz => ⟨?_, ?_, fun y => ?_⟩, hcap, by rw [e]; exact KMap.none _, fun b hb => (by cases hb), by rw [e]; exact Lasts.nil, ?_, hs⟩
  · exact (World.ownsRow.lt ht z.block (by rw [hz]; rfl)).1
  · have := (hn z hz).2
    omega
  · rcases y with y | y
    · have := (hn z hz).2
      omega
    · exact (hn z hz).1 (.inr y)
  · show ((0 : Nat) : Int) ≤ 0
    simp
end
end Go.Proofs.YtmccpkpeimejhagGreatDoor.Dk

namespace Go.Proofs.YtmccpkpeimejhagGreatDoor.Dk
open Go.RowKit

section
variable {Has : World → Nat → Nat → (Nat → Prop) → Int → List Pap → Prop} {SH : World → Nat → Nat → (Nat → Prop) → Sto → Prop}

set_option maxRecDepth 100000 in
set_option maxHeartbeats 1000000 in
theorem tnew_wrong (w : World) (P : Pn.Pln) (a : Option Addr) (c : Nat) (m size : Int) (hs : SmallP P) (hsl : SlS w a P.f) (hc : P.f.length ≤ c) (hG : BndIs w) (hp : Pn.planE P ≠ 0) :
    Calls Tryz.prog 16 #[plV P a c, .int .i64 m, .int .i64 size] w fun e w' => e = .returned (.tuple #[.pointer none, .int .i64 (Pn.planE P)]) ∧ Below w.heap.size w w' := by
  have b0 : Below w.heap.size w (w.alloc (plO P a c)) := (Below.refl _ _).alloc (Nat.le_refl _) _
  have P1 := hide (pcheck_any P a c (w.alloc (plO P a c)) hs (hsl.next b0) hc (hG.next b0))
  obtain ⟨_, c0, c1, c2, c3, c4, c5, c6, c7, c8, c9⟩ := PB.new w P.n a P.f.length c (nth P.v 0) (nth P.v 1) (nth P.v 2) (nth P.v 3) (nth P.v 4) (nth P.v 5) (nth P.v 6) (nth P.v 7) 43
  have B0 := hide b0
  unfold plV at P1 ⊢
  generalize Pn.planE P = E at *
  have e5 : (E != 0) = true := by simpa using hp
  clear hs hsl hc hG hp b0
  go_enter Tryz.func16, Tryz.ntmps16
  go_wp2_with fail
  refine (unhide P1).mono ?_
  rintro e w1 ⟨rfl, b1⟩
  have B1 := hide (bstep (unhide B0) b1)
  clear P1 b1 c0 c1 c2 c3 c4 c5 c6 c7 c8 c9
  go_wp2_with fail
  go_ret2
  exact ⟨rfl, unhide B1⟩

set_option maxRecDepth 100000 in
set_option maxHeartbeats 1000000 in
theorem tnew_bad (N : News Has) (w : World) (P : Pn.Pln) (a : Option Addr) (c : Nat) (m size : Int) (hs : SmallP P) (hsl : SlS w a P.f) (hc : P.f.length ≤ c) (hG : BndIs w) (hp : Pn.planE P = 0) (hb : (inI m 1 65536 && inI size 1 4096) = false) :
    Calls Tryz.prog 16 #[plV P a c, .int .i64 m, .int .i64 size] w fun e w' => e = .returned (.tuple #[.pointer none, .int .i64 1]) ∧ Below w.heap.size w w' := by
  have b0 : Below w.heap.size w (w.alloc (plO P a c)) := (Below.refl _ _).alloc (Nat.le_refl _) _
  have P1 := hide (pcheck_any P a c (w.alloc (plO P a c)) hs (hsl.next b0) hc (hG.next b0))
  have P2 := hide (fun W => vnew_bad N W m size hb)
  obtain ⟨_, c0, c1, c2, c3, c4, c5, c6, c7, c8, c9⟩ := PB.new w P.n a P.f.length c (nth P.v 0) (nth P.v 1) (nth P.v 2) (nth P.v 3) (nth P.v 4) (nth P.v 5) (nth P.v 6) (nth P.v 7) 43
  have B0 := hide b0
  unfold plV at P1 ⊢
  rw [hp] at P1
  clear hs hsl hc hG hp hb b0
  go_enter Tryz.func16, Tryz.ntmps16
  go_wp2_with fail
  refine (unhide P1).mono ?_
  rintro e w1 ⟨rfl, b1⟩
  have B1 := hide (bstep (unhide B0) b1)
  clear P1 b1 c0 c1 c2 c3 c4 c5 c6 c7 c8 c9
  go_wp2_with fail
  refine (unhide P2 _).mono ?_
  rintro e w2 ⟨rfl, b2⟩
  have B2 := hide (bstep (unhide B1) b2)
  clear P2 b2
  go_wp2_with fail
  go_ret2
  exact ⟨rfl, unhide B2⟩

set_option maxRecDepth 100000 in
set_option maxHeartbeats 4000000 in
theorem tnew_good (U : Und Has SH) (N : News Has) (w : World) (P : Pn.Pln) (a : Option Addr) (c : Nat) (m size : Int) (hs : SmallP P) (hsl : SlS w a P.f) (hc : P.f.length ≤ c) (hG : BndIs w) (hp : Pn.planE P = 0) (hm : inI m 1 65536 = true) (hz : inI size 1 4096 = true) :
    Calls Tryz.prog 16 #[plV P a c, .int .i64 m, .int .i64 size] w fun e w' => ∃ p F B0, e = .returned (.tuple #[.pointer (some ⟨p, 0, none⟩), .int .i64 0]) ∧ (w.heap.size ≤ B0 ∧ B0 ≤ w'.heap.size ∧ RHof Has SH w' B0 p F P m size noStr) ∧ Below w.heap.size w w' := by
  have b0 : Below w.heap.size w (w.alloc (plO P a c)) := (Below.refl _ _).alloc (Nat.le_refl _) _
  have P1 := hide (pcheck_any P a c (w.alloc (plO P a c)) hs (hsl.next b0) hc (hG.next b0))
  have P2 := hide (fun W => vnew_good U.H N U.L U.S W m size hm hz)
  have hl : P.f.length ≤ 100 := by
    have := (Pn.plan_ok hp).2.1
    omega
  have pb := PB.new w P.n a P.f.length c (nth P.v 0) (nth P.v 1) (nth P.v 2) (nth P.v 3) (nth P.v 4) (nth P.v 5) (nth P.v 6) (nth P.v 7) 43
  have HP : Hid (∀ W, Below (w.alloc (plO P a c)).heap.size (w.alloc (plO P a c)) W → PBx W w.heap.size P a c ∧ SlS W a P.f ∧ Below w.heap.size w W) := hide (fun W hW => ⟨pb.next hW, (hsl.next b0).next hW, bstep b0 hW⟩)
  have PC := hide (fun (W : World) (h : SlS W a P.f) => tcopy_any P a c W hs h hl)
  obtain ⟨_, c0, c1, c2, c3, c4, c5, c6, c7, c8, c9⟩ := pb
  have HS := hide hs
  rw [hp] at P1
  unfold plV at P1 PC ⊢
  clear hs hsl hc hG hp hm hz b0
  go_enter Tryz.func16, Tryz.ntmps16
  go_wp2_with fail
  refine (unhide P1).mono ?_
  rintro e w1 ⟨rfl, b1⟩
  have B1 := hide b1
  clear P1 b1 c0 c1 c2 c3 c4 c5 c6 c7 c8 c9
  go_wp2_with fail
  refine (unhide P2 w1).mono ?_
  rintro e w2 ⟨v, F, rfl, ⟨q, g, k, FL, G, hv, hF⟩, b2⟩
  have B2 := hide (bstep (unhide B1) b2)
  have hd : Below w2.heap.size w2 w2.drew := (Below.refl _ _).drew
  have B3 := hide (bstep (unhide B2) hd)
  obtain ⟨p3, s3, _⟩ := unhide HP _ (unhide B3)
  have V3 := hide (hv.below U.H U.S hd)
  have k3 : At14 w.heap.size P a c v q g k size w2.drew := at14 p3 (unhide V3).c0 (unhide V3).c1 (unhide V3).c2 (unhide V3).c3
  have P3 := hide (unhide PC _ s3)
  have hB12 := b2.size
  have hvl := hv.lt
  clear P2 b2 hd p3 s3 hv hF PC
  go_wp2_with fail
  go_region_held3 (At14 w.heap.size P a c v q g k size) (first | with_reducible assumption | exact At14.alloc k4 h4a h4b)
    (first
      | (go_at_call 33; refine (unhide P3).mono ?_; rintro e w4 ⟨a4, c4, rfl, t4, b4⟩; have B4 := hide (bstep (unhide B3) b4); have V4 := hide ((unhide V3).below U.H U.S b4); have k4 : At14 w.heap.size P a c v q g k size w4 := at14 (unhide HP _ (unhide B4)).1 (unhide V4).c0 (unhide V4).c1 (unhide V4).c2 (unhide V4).c3; have T4 := hide t4; have BB4 := hide b4; have h4a : w.heap.size < w4.heap.size := (unhide HP _ (unhide B4)).1.lt; have h4b : v < w4.heap.size := (unhide V4).lt; clear t4 b4))
  have hle : w1.heap.size ≤ w2.drew.heap.size := hB12
  have hl4 := (unhide BB4).size
  have ht := unhide T4
  have sm := sm_new U (unhide HS) (B := w1.heap.size) (Nat.le_trans hle hl4) (unhide V4) (txts_low ht hle) (fun z hz => by
    have h1 := World.ownsRow.lt ht z.block (by rw [hz]; rfl)
    refine ⟨fun y => ?_, h1.2⟩
    have h2 := ((unhide V3).own U.H U.S _ y).2
    omega)
  have HE := hide (show ∃ F, RHof Has SH _ w1.heap.size w4.heap.size F P m size noStr from ⟨_, _, a4, c4, none, sm, fun k => Iff.rfl⟩)
  have HB := hide (bstep (unhide HP _ (unhide B4)).2.2 ((Below.refl w4.heap.size w4).alloc (Nat.le_refl _) (.cells #[.string P.n, .slice a4 P.f.length c4, .int .i64 (nth P.v 0), .int .i64 (nth P.v 1), .int .i64 (nth P.v 2), .int .i64 (nth P.v 3), .int .i64 (nth P.v 4), .int .i64 (nth P.v 5), .int .i64 (nth P.v 6), .int .i64 (nth P.v 7), .pointer (some ⟨q, 0, none⟩), .int .i64 size, .pointer (some ⟨g, 0, none⟩), .pointer (some ⟨k, 0, none⟩), .map none] 80)))
  have HL := hide (show w.heap.size ≤ w1.heap.size ∧ w1.heap.size ≤ w4.heap.size + 1 from ⟨(unhide HP _ (unhide B1)).2.2.size, by omega⟩)
  clear k3 k4 P3 V3 V4 T4 BB4 hle hl4 ht sm h4a h4b
  go_wp2_with fail
  go_ret2
  obtain ⟨F5, h5⟩ := unhide HE
  exact ⟨w4.heap.size, F5, w1.heap.size, rfl, ⟨(unhide HL).1, by simpa using (unhide HL).2, h5⟩, unhide HB⟩
end
end Go.Proofs.YtmccpkpeimejhagGreatDoor.Dk

namespace Go.Proofs.YtmccpkpeimejhagGreatDoor.Dk
open Go.RowKit

/-- the program's stream, from a block on that may lie lower -/
def RHx (Has : World → Nat → Nat → (Nat → Prop) → Int → List Pap → Prop) (SH : World → Nat → Nat → (Nat → Prop) → Sto → Prop) (w : World) (B x : Nat) (F : Nat → Prop) (P : Pn.Pln) (m size : Int) (st : Str) : Prop := ∃ B0, B ≤ B0 ∧ B0 ≤ w.heap.size ∧ RHof Has SH w B0 x F P m size st
section
variable {Has : World → Nat → Nat → (Nat → Prop) → Int → List Pap → Prop} {SH : World → Nat → Nat → (Nat → Prop) → Sto → Prop} {w w' : World} {B B0 x : Nat} {F : Nat → Prop} {P : Pn.Pln} {m size : Int} {st st' : Str}
theorem RHx.did (h : DidR (RHof Has SH) w w' B0 x F P m size st') (hB : B ≤ B0) (hw : B0 ≤ w.heap.size) : DidR (RHx Has SH) w w' B x F P m size st' := by
  obtain ⟨F', h1, h2, h3⟩ := h
  exact ⟨F', ⟨B0, hB, Nat.le_trans hw h2.size, h1⟩, h2, h3⟩

set_option maxRecDepth 100000 in
set_option maxHeartbeats 1000000 in
theorem rstore_any (h : RHof Has SH w B x F P m size st) :
    Calls Tryz.prog 17 #[.pointer (some ⟨x, 0, none⟩)] w fun e w' => ∃ q G, e = .returned (.pointer (some ⟨q, 0, none⟩)) ∧ SH w' B q G st.s ∧ (∀ k, G k → F k) ∧ Below w.heap.size w w' := by
  obtain ⟨FV, a, c, mb, h1, h2⟩ := h
  have P1 := hide (vstore_any h1.vault)
  have HF := hide (fun k (hk : FV k) => (h2 k).2 (.inl hk))
  clear h1 h2
  go_enter Tryz.func17, Tryz.ntmps17
  go_wp2_with fail
  refine (unhide P1).mono ?_
  rintro e w1 ⟨q, G, rfl, h1, h2, b1⟩
  have B1 := hide (show SH w1 B q G st.s ∧ (∀ k, G k → F k) ∧ Below w.heap.size w w1 from ⟨h1, fun k hk => unhide HF k (h2 k hk), b1⟩)
  clear P1 h1 h2 b1
  go_wp2_with fail
  go_ret
  exact ⟨q, G, rfl, unhide B1⟩
theorem rworks_of (U : Und Has SH) (N : News Has) (T : STells SH) (V : SWorks SH) : RWorks BndIs (RHx Has SH) SH where
  own := fun h k hk => by
    obtain ⟨B0, h1, _, FV, a, c, mb, h3, h4⟩ := h
    have := h3.own U.H U.S k ((h4 k).1 hk)
    exact ⟨Nat.le_trans h1 this.1, this.2⟩
  chg := fun h hc hn => by
    obtain ⟨B0, h1, h2, FV, a, c, mb, h3, h4⟩ := h
    exact ⟨B0, h1, Nat.le_trans h2 hc.size, FV, a, c, mb, h3.chg U.H U.S hc (fun k hk => hn k ((h4 k).2 hk)), h4⟩
  wrong := fun w P a c m size hs hsl hc hG hp => tnew_wrong w P a c m size hs hsl hc hG hp
  bad := fun w P a c m size hs hsl hc hG hp hb => tnew_bad N w P a c m size hs hsl hc hG hp hb
  good := fun w P a c m size hs hsl hc hG hp hm hz => (tnew_good U N w P a c m size hs hsl hc hG hp hm hz).mono (by
    rintro e w' ⟨p, F, B0, he, ⟨h1, h2, h3⟩, hb⟩
    exact ⟨p, F, he, ⟨B0, h1, h2, h3⟩, hb⟩)
  publish := fun now x hx h hf _ => by
    obtain ⟨B0, h1, h2, h3⟩ := h
    obtain ⟨a, c, mb, r, hfin⟩ := h3.begin
    refine (publish_any U T V r hf h2 now x hx).mono ?_
    rintro e w' ⟨he, ⟨mb', r'⟩, _⟩
    exact ⟨he, RHx.did (hfin _ _ _ _ r') h1 h2⟩
  store := fun h _ _ => by
    obtain ⟨B0, h1, h2, h3⟩ := h
    refine (rstore_any h3).mono ?_
    rintro e w' ⟨q, G, he, hs, hg, hb⟩
    exact ⟨q, G, he, U.S.low hs h1, hg, hb⟩
theorem rstops_of (U : Und Has SH) : RStops (RHx Has SH) where
  true' := trivial
end
end Go.Proofs.YtmccpkpeimejhagGreatDoor.Dk
