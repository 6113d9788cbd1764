/-
  The four numbers of a store's sums in a block. No walk.
  A store's sums that are handed back: four cells are read as one value. No walk.
  The program's store: Sums.
  The program's store does what is asked of the store of a vault.
-/
import Derived.Test.YtmccpkpeimejhahGreatDoorJointWalkN2WalkN3RowBWalkC1
import Derived.Laws.Rows
import Derived.Test.YtmccpkpeimejhahGreatDoorJointWalkX3RowYWalkX5WalkX6a
import Derived.Test.YtmccpkpeimejhahGreatDoorJointOvRPlainIPapCPapE
import Derived.Test.YtmccpkpeimejhahGreatDoorJointWalkX1WalkX2WorksTaWalkX4
import Derived.Test.YtmccpkpeimejhahGreatDoorJointWalkX6WalkX7WalkX8WalkX9a
namespace Go.Proofs.YtmccpkpeimejhahGreatDoor.Dk
open Go.RowKit

/-- the four numbers of a store's sums in a block -/
structure SB (w : World) (b : Nat) (x0 x1 x2 x3 : Int) : Prop where
  lt : b < w.heap.size
  c0 : w.cell? ⟨b, 0, none⟩ = some (.int .i64 x0)
  c1 : w.cell? ⟨b, 1, none⟩ = some (.int .i64 x1)
  c2 : w.cell? ⟨b, 2, none⟩ = some (.int .i64 x2)
  c3 : w.cell? ⟨b, 3, none⟩ = some (.int .i64 x3)
  fr : ∀ j, w.frozen? ⟨b, j, none⟩ = false
theorem SB.below {w w' : World} {b n : Nat} {x0 x1 x2 x3 : Int} (r : SB w b x0 x1 x2 x3) (hb : Below n w w') (hn : b < n) : SB w' b x0 x1 x2 x3 :=
  ⟨Nat.lt_of_lt_of_le r.lt hb.size, by rw [hb.cell (p := ⟨b, 0, none⟩) hn]; exact r.c0, by rw [hb.cell (p := ⟨b, 1, none⟩) hn]; exact r.c1, by rw [hb.cell (p := ⟨b, 2, none⟩) hn]; exact r.c2, by rw [hb.cell (p := ⟨b, 3, none⟩) hn]; exact r.c3, fun j => by rw [hb.frozen (p := ⟨b, j, none⟩) hn]; exact r.fr j⟩
theorem SB.next {w w' : World} {b : Nat} {x0 x1 x2 x3 : Int} (r : SB w b x0 x1 x2 x3) (hb : Below w.heap.size w w') : SB w' b x0 x1 x2 x3 := r.below hb r.lt
theorem SB.alloc {w : World} {b : Nat} {x0 x1 x2 x3 : Int} (r : SB w b x0 x1 x2 x3) (o : Obj) : SB (w.alloc o) b x0 x1 x2 x3 := r.next ((Below.refl _ _).alloc (Nat.le_refl _) o)
theorem SB.new (w : World) (x0 x1 x2 x3 : Int) (T : TypeId) : SB (w.alloc (.cells #[.int .i64 x0, .int .i64 x1, .int .i64 x2, .int .i64 x3] T)) w.heap.size x0 x1 x2 x3 :=
  ⟨by simp, by simp, by simp, by simp, by simp, fun j => World.frozen?_alloc_new _ _ _ j⟩
theorem SB.set0 {w : World} {b : Nat} {x0 x1 x2 x3 : Int} (r : SB w b x0 x1 x2 x3) (y : Int) : SB (w.setCell ⟨b, 0, none⟩ (.int .i64 y)) b y x1 x2 x3 :=
  ⟨by simpa using r.lt, same_cell r.c0, by rw [cell_other' _ _ _ _ (by intro e; injection e; omega)]; exact r.c1, by rw [cell_other' _ _ _ _ (by intro e; injection e; omega)]; exact r.c2, by rw [cell_other' _ _ _ _ (by intro e; injection e; omega)]; exact r.c3, fun j => by simpa using r.fr j⟩
theorem SB.set1 {w : World} {b : Nat} {x0 x1 x2 x3 : Int} (r : SB w b x0 x1 x2 x3) (y : Int) : SB (w.setCell ⟨b, 1, none⟩ (.int .i64 y)) b x0 y x2 x3 :=
  ⟨by simpa using r.lt, by rw [cell_other' _ _ _ _ (by intro e; injection e; omega)]; exact r.c0, same_cell r.c1, by rw [cell_other' _ _ _ _ (by intro e; injection e; omega)]; exact r.c2, by rw [cell_other' _ _ _ _ (by intro e; injection e; omega)]; exact r.c3, fun j => by simpa using r.fr j⟩
theorem SB.set2 {w : World} {b : Nat} {x0 x1 x2 x3 : Int} (r : SB w b x0 x1 x2 x3) (y : Int) : SB (w.setCell ⟨b, 2, none⟩ (.int .i64 y)) b x0 x1 y x3 :=
  ⟨by simpa using r.lt, by rw [cell_other' _ _ _ _ (by intro e; injection e; omega)]; exact r.c0, by rw [cell_other' _ _ _ _ (by intro e; injection e; omega)]; exact r.c1, same_cell r.c2, by rw [cell_other' _ _ _ _ (by intro e; injection e; omega)]; exact r.c3, fun j => by simpa using r.fr j⟩
theorem SB.set3 {w : World} {b : Nat} {x0 x1 x2 x3 : Int} (r : SB w b x0 x1 x2 x3) (y : Int) : SB (w.setCell ⟨b, 3, none⟩ (.int .i64 y)) b x0 x1 x2 y :=
  ⟨by simpa using r.lt, by rw [cell_other' _ _ _ _ (by intro e; injection e; omega)]; exact r.c0, by rw [cell_other' _ _ _ _ (by intro e; injection e; omega)]; exact r.c1, by rw [cell_other' _ _ _ _ (by intro e; injection e; omega)]; exact r.c2, same_cell r.c3, fun j => by simpa using r.fr j⟩
theorem SB.other {w : World} {b c i : Nat} {x0 x1 x2 x3 : Int} {v : Value} (r : SB w b x0 x1 x2 x3) (hc : c ≠ b) : SB (w.setCell ⟨c, i, none⟩ v) b x0 x1 x2 x3 :=
  ⟨by simpa using r.lt, by rw [cell_other' _ _ _ _ (by intro e; injection e; omega)]; exact r.c0, by rw [cell_other' _ _ _ _ (by intro e; injection e; omega)]; exact r.c1, by rw [cell_other' _ _ _ _ (by intro e; injection e; omega)]; exact r.c2, by rw [cell_other' _ _ _ _ (by intro e; injection e; omega)]; exact r.c3, fun j => by simpa using r.fr j⟩
end Go.Proofs.YtmccpkpeimejhahGreatDoor.Dk

namespace Go.Proofs.YtmccpkpeimejhahGreatDoor.Dk
open Go.RowKit

theorem load_sum {w : World} {b : Nat} {x0 x1 x2 x3 : Int} (r : SB w b x0 x1 x2 x3) : (loadVar 46 ⟨b, 0, none⟩).run Tryz.prog w = .ok (.agg #[.int .i64 x0, .int .i64 x1, .int .i64 x2, .int .i64 x3]) w := by
  have hl : (loadCells ⟨b, 0, none⟩ 4).run Tryz.prog w = .ok #[.int .i64 x0, .int .i64 x1, .int .i64 x2, .int .i64 x3] w :=
    run_loadCells_list (P := Tryz.prog) w ⟨b, 0, none⟩ [.int .i64 x0, .int .i64 x1, .int .i64 x2, .int .i64 x3] (fun j v hv => by
      rw [addp, Nat.zero_add]
      match j, hv with
      | 0, hv => rw [r.c0]; simpa using hv
      | 1, hv => rw [r.c1]; simpa using hv
      | 2, hv => rw [r.c2]; simpa using hv
      | 3, hv => rw [r.c3]; simpa using hv)
  have hz : Tryz.t46.size = 4 := by kernel_rfl
  simp [loadVar, isAgg, sizeOf]
  rw [hz, hl]
  rfl
theorem results_sum {fn : Func} {a : Tmp} {tmps : Array Value} {w : World} {b : Nat} {x0 x1 x2 x3 : Int} (hf : fn.results = #[.cell a 46]) (ha : tmps.getD a undef = .pointer (some ⟨b, 0, none⟩)) (r : SB w b x0 x1 x2 x3) :
    (results fn tmps).run Tryz.prog w = .ok (.agg #[.int .i64 x0, .int .i64 x1, .int .i64 x2, .int .i64 x3]) w := by
  have ha' : tmps[a]?.getD undef = .pointer (some ⟨b, 0, none⟩) := by simpa using ha
  simp [results, hf, ha', asAddr, load_sum r]
end Go.Proofs.YtmccpkpeimejhahGreatDoor.Dk

namespace Go.Proofs.YtmccpkpeimejhahGreatDoor.Dk
open Go.RowKit

theorem byteN_take {l : List Rc} {k : Nat} (h : k < l.length) : byteN (l.take (k + 1)) = byteN (l.take k) + ((rc l k).s.size + (rc l k).h.size + (rc l k).d.size) := by
  rw [List.take_succ_eq_append_getElem h, ← rc_get h, byteN_append]
  rfl
theorem firstQ_rc {l : List Rc} (h : 0 < l.length) : firstQ l = (rc l 0).q := by
  cases l with
  | nil => cases h
  | cons x l => rfl
theorem byteN_front (l : List Rc) (k : Nat) : byteN (l.take k) ≤ byteN l := by
  have := byteN_append (l.take k) (l.drop k)
  rw [List.take_append_drop] at this
  omega

set_option maxRecDepth 100000 in
set_option maxHeartbeats 1000000 in
theorem ssum_any {w : World} {B q : Nat} {v u : Value} {l : List Rc} {es : List Ent} {last : Int} (h : Sho w B q v u l es last) (h200 : l.length ≤ 200) (hm : ∀ x ∈ l, x.s.size ≤ 135 ∧ x.h.size + x.d.size ≤ 256) :
    Calls Tryz.prog 12 #[.pointer (some ⟨q, 0, none⟩)] w fun e w' => e = .returned (.agg #[.int .i64 (l.length : Int), .int .i64 (byteN l : Int), .int .i64 (firstQ l), .int .i64 last]) ∧ Below w.heap.size w w' := by
  obtain ⟨a, cap, rfl, c1, c2, hsl⟩ := h.msgs.shape
  have hql := h.lt
  have S0 := hide (SB.new w 0 0 0 0 46)
  have B0 := hide ((Below.refl w.heap.size w).alloc (Nat.le_refl _) (.cells #[.int .i64 0, .int .i64 0, .int .i64 0, .int .i64 0] 46))
  have HC := hide (And.intro h.c0 h.c2)
  have d0 : (w.alloc (.cells #[.int .i64 0, .int .i64 0, .int .i64 0, .int .i64 0] 46)).cell? ⟨q, 0, none⟩ = some (.slice a l.length cap) := by rw [(unhide B0).cell (p := ⟨q, 0, none⟩) hql]; exact h.c0
  have d1 : (w.alloc (.cells #[.int .i64 0, .int .i64 0, .int .i64 0, .int .i64 0] 46)).cell? ⟨q, 2, none⟩ = some (.int .i64 last) := by rw [(unhide B0).cell (p := ⟨q, 2, none⟩) hql]; exact h.c2
  have HSl := hide hsl
  have HM := hide hm
  clear h hsl hm
  go_enter Tryz.func12, Tryz.ntmps12
  go_wp2_with fail
  go_region
  have L0 : Hid (SB ((w.alloc (.cells #[.int .i64 0, .int .i64 0, .int .i64 0, .int .i64 0] 46)).alloc (.cells #[.int .i64 (l.length : Int), .int .i64 0, .int .i64 0, .int .i64 last] 46)).drew w.heap.size 0 0 0 0 ∧ SB ((w.alloc (.cells #[.int .i64 0, .int .i64 0, .int .i64 0, .int .i64 0] 46)).alloc (.cells #[.int .i64 (l.length : Int), .int .i64 0, .int .i64 0, .int .i64 last] 46)).drew (w.heap.size + 1) (l.length : Int) 0 0 last ∧ Below w.heap.size w ((w.alloc (.cells #[.int .i64 0, .int .i64 0, .int .i64 0, .int .i64 0] 46)).alloc (.cells #[.int .i64 (l.length : Int), .int .i64 0, .int .i64 0, .int .i64 last] 46)).drew) := hide (by
    have x1 := SB.new (w.alloc (.cells #[.int .i64 0, .int .i64 0, .int .i64 0, .int .i64 0] 46)) (l.length : Int) 0 0 last 46
    rw [World.size_alloc] at x1
    exact ⟨((unhide S0).alloc _).next (Below.refl _ _).drew, x1.next (Below.refl _ _).drew, (bstep (unhide B0) ((Below.refl _ _).alloc (Nat.le_refl _) _)).drew⟩)
  have e0 : ((w.alloc (.cells #[.int .i64 0, .int .i64 0, .int .i64 0, .int .i64 0] 46)).alloc (.cells #[.int .i64 (l.length : Int), .int .i64 0, .int .i64 0, .int .i64 last] 46)).drew.cell? ⟨q, 0, none⟩ = some (.slice a l.length cap) := by rw [(unhide L0).2.2.cell (p := ⟨q, 0, none⟩) hql]; exact (unhide HC).1
  clear S0 B0 d0 d1
  generalize ((w.alloc (.cells #[.int .i64 0, .int .i64 0, .int .i64 0, .int .i64 0] 46)).alloc (.cells #[.int .i64 (l.length : Int), .int .i64 0, .int .i64 0, .int .i64 last] 46)).drew = W0 at *
  have hby : byteN l ≤ 78200 := by
    have := byteN_le (fun r hr => unhide HM r hr)
    omega
  go_wp2_with fail
  go_loopw [21] (fun kv wr => ∃ (k : Nat), kv = .int .i64 k ∧ k ≤ l.length ∧ Hid (SB wr w.heap.size 0 0 0 0 ∧ SB wr (w.heap.size + 1) (l.length : Int) (byteN (l.take k) : Int) 0 last ∧ Below w.heap.size w wr)) (fun kv _ => l.length - (intOf kv).toNat)
  case atStart => exact ⟨0, rfl, Nat.zero_le _, L0⟩
  case round =>
    clear L0 e0
    obtain ⟨k, rfl, hk, HP⟩ := hrel
    have hob := (unhide HP).2.1.lt
    by_cases hlt : k < l.length
    · obtain ⟨b, o, rfl, s6⟩ := unhide HSl k hlt
      have s7 := s6.below (unhide HP).2.2 s6.lt
      have hb1 := byteN_take hlt
      have hb2 := byteN_front l (k + 1)
      generalize rc l k = y at *
      obtain ⟨_, x0, x1, x2, x3, x4, x5⟩ := s7
      obtain ⟨nb, hnb⟩ : ∃ nb, nb = byteN (l.take k) := ⟨_, rfl⟩
      obtain ⟨q0, q1, q2, q3, qf⟩ := And.intro (unhide HP).2.1.c0 (And.intro (unhide HP).2.1.c1 (And.intro (unhide HP).2.1.c2 (And.intro (unhide HP).2.1.c3 ((unhide HP).2.1.fr 1))))
      rw [← hnb] at hb1 q1
      have hne : ¬ w.heap.size + 1 = wr.heap.size := by omega
      have hw1 : IntKind.i64.wrap ((y.s.size : Int) + (y.h.size : Int)) = (y.s.size : Int) + (y.h.size : Int) := by rw [IntKind.wrap_i64]; omega
      have hw2 : IntKind.i64.wrap ((y.s.size : Int) + (y.h.size : Int) + (y.d.size : Int)) = (y.s.size : Int) + (y.h.size : Int) + (y.d.size : Int) := by rw [IntKind.wrap_i64]; omega
      have hw3 : IntKind.i64.wrap ((nb : Int) + ((y.s.size : Int) + (y.h.size : Int) + (y.d.size : Int))) = (nb : Int) + ((y.s.size : Int) + (y.h.size : Int) + (y.d.size : Int)) := by rw [IntKind.wrap_i64]; omega
      have HY : Hid (SB ((wr.setCell ⟨w.heap.size + 1, 1, none⟩ (.int .i64 ((nb : Int) + ((y.s.size : Int) + (y.h.size : Int) + (y.d.size : Int))))).alloc (.cells #[.int .i64 y.k, .int .i64 y.q, .int .i64 y.t, .string y.s, .string y.h, .string y.d] 42)) w.heap.size 0 0 0 0 ∧ SB ((wr.setCell ⟨w.heap.size + 1, 1, none⟩ (.int .i64 ((nb : Int) + ((y.s.size : Int) + (y.h.size : Int) + (y.d.size : Int))))).alloc (.cells #[.int .i64 y.k, .int .i64 y.q, .int .i64 y.t, .string y.s, .string y.h, .string y.d] 42)) (w.heap.size + 1) (l.length : Int) (byteN (l.take (k + 1)) : Int) 0 last ∧ Below w.heap.size w ((wr.setCell ⟨w.heap.size + 1, 1, none⟩ (.int .i64 ((nb : Int) + ((y.s.size : Int) + (y.h.size : Int) + (y.d.size : Int))))).alloc (.cells #[.int .i64 y.k, .int .i64 y.q, .int .i64 y.t, .string y.s, .string y.h, .string y.d] 42))) := hide (by
        have hbs := (unhide HP).2.2.setCell (p := ⟨w.heap.size + 1, 1, none⟩) (Nat.le_succ _) (.int .i64 ((nb : Int) + ((y.s.size : Int) + (y.h.size : Int) + (y.d.size : Int))))
        refine ⟨((unhide HP).1.other (by omega)).alloc _, ?_, hbs.alloc hbs.size _⟩
        have := ((unhide HP).2.1.set1 ((nb : Int) + ((y.s.size : Int) + (y.h.size : Int) + (y.d.size : Int)))).alloc (.cells #[.int .i64 y.k, .int .i64 y.q, .int .i64 y.t, .string y.s, .string y.h, .string y.d] 42)
        rw [hb1, show ((nb + (y.s.size + y.h.size + y.d.size) : Nat) : Int) = (nb : Int) + ((y.s.size : Int) + (y.h.size : Int) + (y.d.size : Int)) by omega]
        exact this)
      clear hb1 hb2 hnb s6 q0 q2 q3
      go_wp2_with fail
      refine ⟨⟨k + 1, by go_num, by omega, HY⟩, ?_⟩
      simp [intOf]; omega
    · obtain rfl : k = l.length := by omega
      rw [List.take_length] at HP
      have d0 := ((unhide HP).2.2.cell (p := ⟨q, 0, none⟩) hql).trans (unhide HC).1
      obtain ⟨_, q0, q1, q2, q3, qf⟩ := (unhide HP).2.1
      obtain ⟨_, x0, x1, x2, x3, fz⟩ := (unhide HP).1
      have f0 := fz 0
      have f1 := fz 1
      have f2 := fz 2
      have f3 := fz 3
      clear fz hlt hk
      obtain ⟨N, hN⟩ : ∃ N, N = l.length := ⟨_, rfl⟩
      by_cases h0 : 0 < l.length
      · obtain ⟨b, o, rfl, s6⟩ := unhide HSl 0 h0
        have s7 := s6.below (unhide HP).2.2 s6.lt
        have z1 : wr.cell? ⟨b, o + 1, none⟩ = some (.int .i64 (firstQ l)) := by rw [firstQ_rc h0]; simpa using s7.c1
        have g2 := qf 2
        clear qf s6 s7
        go_wp2_with fail
        refine bodyPost_ret (results_sum rfl rfl ((((((unhide HP).1.other (c := w.heap.size + 1) (i := 2) (v := .int .i64 (firstQ l)) (by omega)).set0 _).set1 _).set2 _).set3 _)) rfl ?_
        exact ⟨rfl, (((((unhide HP).2.2.setCell (p := ⟨w.heap.size + 1, 2, none⟩) (Nat.le_succ _) _).setCell (p := ⟨w.heap.size, 0, none⟩) (Nat.le_refl _) _).setCell (p := ⟨w.heap.size, 1, none⟩) (Nat.le_refl _) _).setCell (p := ⟨w.heap.size, 2, none⟩) (Nat.le_refl _) _).setCell (p := ⟨w.heap.size, 3, none⟩) (Nat.le_refl _) _⟩
      · have e0 : l = [] := List.length_eq_zero_iff.1 (by omega)
        subst e0
        clear qf
        go_wp2_with fail
        refine bodyPost_ret (results_sum rfl rfl (((((unhide HP).1.set0 _).set1 _).set2 _).set3 _)) rfl ?_
        exact ⟨rfl, ((((unhide HP).2.2.setCell (p := ⟨w.heap.size, 0, none⟩) (Nat.le_refl _) _).setCell (p := ⟨w.heap.size, 1, none⟩) (Nat.le_refl _) _).setCell (p := ⟨w.heap.size, 2, none⟩) (Nat.le_refl _) _).setCell (p := ⟨w.heap.size, 3, none⟩) (Nat.le_refl _) _⟩
end Go.Proofs.YtmccpkpeimejhahGreatDoor.Dk

namespace Go.Proofs.YtmccpkpeimejhahGreatDoor.Dk
open Go.RowKit

theorem arr_low {w : World} {B B' : Nat} {v : Value} {l : List Ent} (h : Go.Proofs.YtmccpkpeimejhahGreatDoor.Arr w B v l) (hB : B' ≤ B) : Go.Proofs.YtmccpkpeimejhahGreatDoor.Arr w B' v l := by
  refine ⟨h.1, ?_⟩
  rcases h.2 with q | ⟨g, cap, cur, h1, h2, r⟩
  · exact .inl q
  · exact .inr ⟨g, cap, cur, h1, Nat.le_trans hB h2, r⟩
theorem SHas.low {w : World} {B B' q : Nat} {F : Nat → Prop} {s : Sto} (h : SHas w B q F s) (hB : B' ≤ B) : SHas w B' q F s := by
  obtain ⟨v, u, es, h1, h2, h3⟩ := h
  exact ⟨v, u, es, ⟨h1.c0, h1.c1, h1.c2, h1.free, Nat.le_trans hB h1.base, h1.lt, h1.msgs.low hB, arr_low h1.cnts hB, h1.av, h1.au, h1.apart⟩, h2, h3⟩
theorem svault : SVault SHas where
  own := fun h => h.own
  chg := fun h hc hn => h.chg hc hn
  low := fun h hB => h.low hB
  new := fun w => (snew_any w).mono (by
    rintro e w' ⟨rfl, h, hb⟩
    exact ⟨_, _, rfl, ⟨_, _, [], h, Cnt.nil, rfl⟩, hb⟩)
  tries := fun r hm h hk hB => by
    obtain ⟨v, u, es, h1, h2, rfl⟩ := h
    exact stry_any r hm h1 h2 hk
  apply := fun r hm h hk hB => by
    obtain ⟨v, u, es, h1, h2, rfl⟩ := h
    refine (sapply_any r hm h1 h2 hk hB).mono ?_
    rintro e w' ⟨he, es', m, c⟩
    exact ⟨he, SHas.did m c⟩
  sees := {
    all := fun h hk hB => by
      obtain ⟨v, u, es, h1, h2, rfl⟩ := h
      exact sall_any h1 hk.few (fun x hx => Small.of (hk.msg x hx).2)
    sums := fun h hk hB => by
      obtain ⟨v, u, es, h1, h2, rfl⟩ := h
      exact ssum_any h1 hk.few (fun x hx => hk.small hx) }
end Go.Proofs.YtmccpkpeimejhahGreatDoor.Dk
