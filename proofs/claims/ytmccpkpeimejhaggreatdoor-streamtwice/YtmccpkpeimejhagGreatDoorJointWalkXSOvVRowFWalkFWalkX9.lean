/-
  The program's store: Sums.
  The program's store does what is asked of the store of a vault.
  The entries that a filter takes, one by one. No walk.
  Contract of index.Find: the entries that the filter takes, in the order of the index.
  The program's store: Subjects.
-/
import Derived.Test.YtmccpkpeimejhagGreatDoorJointWalkX3RowYWalkX5WalkX6aWalkX6
import Derived.Test.YtmccpkpeimejhagGreatDoorJointWalkX7WalkX8WalkX9aRowSRowU
import Derived.Test.YtmccpkpeimejhagGreatDoorJointPapTPapVaRowVWorksVOvR
import Derived.Test.YtmccpkpeimejhagGreatDoorJointRowXWalkX1WalkX2WorksTaWalkX4
import Derived.Test.YtmccpkpeimejhagGreatDoorJointWalkSplitWalk2Plain2Plain5PlainK
import Derived.Test.YtmccpkpeimejhagGreatDoorJointWalkI1WalkI2WalkI3WalkI4WalkI5
import Derived.Test.YtmccpkpeimejhagGreatDoorJointPapPcPapPeWalkY1Walk5aWalk5
namespace Go.Proofs.YtmccpkpeimejhagGreatDoor.Dk
open Go.RowKit

theorem byteN_take {l : List Rc} {k : Nat} (h : k < l.length) : byteN (l.take (k + 1)) = byteN (l.take k) + ((rc l k).s.size + (rc l k).h.size + (rc l k).d.size) := by
  rw [List.take_succ_eq_append_getElem h, ← rc_get h, byteN_append]
  rfl
theorem firstQ_rc {l : List Rc} (h : 0 < l.length) : firstQ l = (rc l 0).q := by
  cases l with
  | nil => cases h
  | cons x l => rfl
theorem byteN_front (l : List Rc) (k : Nat) : byteN (l.take k) ≤ byteN l := by
  have := byteN_append (l.take k) (l.drop k)
  rw [List.take_append_drop] at this
  omega

set_option maxRecDepth 100000 in
set_option maxHeartbeats 1000000 in
theorem ssum_any {w : World} {B q : Nat} {v u : Value} {l : List Rc} {es : List Ent} {last : Int} (h : Sho w B q v u l es last) (h200 : l.length ≤ 200) (hm : ∀ x ∈ l, x.s.size ≤ 135 ∧ x.h.size + x.d.size ≤ 256) :
    Calls Tryz.prog 13 #[.pointer (some ⟨q, 0, none⟩)] w fun e w' => e = .returned (.agg #[.int .i64 (l.length : Int), .int .i64 (byteN l : Int), .int .i64 (firstQ l), .int .i64 last]) ∧ Below w.heap.size w w' := by
  obtain ⟨a, cap, rfl, c1, c2, hsl⟩ := h.msgs.shape
  have hql := h.lt
  have S0 := hide (SB.new w 0 0 0 0 37)
  have B0 := hide ((Below.refl w.heap.size w).alloc (Nat.le_refl _) (.cells #[.int .i64 0, .int .i64 0, .int .i64 0, .int .i64 0] 37))
  have HC := hide (And.intro h.c0 h.c2)
  have d0 : (w.alloc (.cells #[.int .i64 0, .int .i64 0, .int .i64 0, .int .i64 0] 37)).cell? ⟨q, 0, none⟩ = some (.slice a l.length cap) := by rw [(unhide B0).cell (p := ⟨q, 0, none⟩) hql]; exact h.c0
  have d1 : (w.alloc (.cells #[.int .i64 0, .int .i64 0, .int .i64 0, .int .i64 0] 37)).cell? ⟨q, 2, none⟩ = some (.int .i64 last) := by rw [(unhide B0).cell (p := ⟨q, 2, none⟩) hql]; exact h.c2
  have HSl := hide hsl
  have HM := hide hm
  clear h hsl hm
  go_enter Tryz.func13, Tryz.ntmps13
  go_wp2_with fail
  go_region
  have L0 : Hid (SB ((w.alloc (.cells #[.int .i64 0, .int .i64 0, .int .i64 0, .int .i64 0] 37)).alloc (.cells #[.int .i64 (l.length : Int), .int .i64 0, .int .i64 0, .int .i64 last] 37)).drew w.heap.size 0 0 0 0 ∧ SB ((w.alloc (.cells #[.int .i64 0, .int .i64 0, .int .i64 0, .int .i64 0] 37)).alloc (.cells #[.int .i64 (l.length : Int), .int .i64 0, .int .i64 0, .int .i64 last] 37)).drew (w.heap.size + 1) (l.length : Int) 0 0 last ∧ Below w.heap.size w ((w.alloc (.cells #[.int .i64 0, .int .i64 0, .int .i64 0, .int .i64 0] 37)).alloc (.cells #[.int .i64 (l.length : Int), .int .i64 0, .int .i64 0, .int .i64 last] 37)).drew) := hide (by
    have x1 := SB.new (w.alloc (.cells #[.int .i64 0, .int .i64 0, .int .i64 0, .int .i64 0] 37)) (l.length : Int) 0 0 last 37
    rw [World.size_alloc] at x1
    exact ⟨((unhide S0).alloc _).next (Below.refl _ _).drew, x1.next (Below.refl _ _).drew, (bstep (unhide B0) ((Below.refl _ _).alloc (Nat.le_refl _) _)).drew⟩)
  have e0 : ((w.alloc (.cells #[.int .i64 0, .int .i64 0, .int .i64 0, .int .i64 0] 37)).alloc (.cells #[.int .i64 (l.length : Int), .int .i64 0, .int .i64 0, .int .i64 last] 37)).drew.cell? ⟨q, 0, none⟩ = some (.slice a l.length cap) := by rw [(unhide L0).2.2.cell (p := ⟨q, 0, none⟩) hql]; exact (unhide HC).1
  clear S0 B0 d0 d1
  generalize ((w.alloc (.cells #[.int .i64 0, .int .i64 0, .int .i64 0, .int .i64 0] 37)).alloc (.cells #[.int .i64 (l.length : Int), .int .i64 0, .int .i64 0, .int .i64 last] 37)).drew = W0 at *
  have hby : byteN l ≤ 78200 := by
    have := byteN_le (fun r hr => unhide HM r hr)
    omega
  go_wp2_with fail
  go_loopw [21] (fun kv wr => ∃ (k : Nat), kv = .int .i64 k ∧ k ≤ l.length ∧ Hid (SB wr w.heap.size 0 0 0 0 ∧ SB wr (w.heap.size + 1) (l.length : Int) (byteN (l.take k) : Int) 0 last ∧ Below w.heap.size w wr)) (fun kv _ => l.length - (intOf kv).toNat)
  case atStart => exact ⟨0, rfl, Nat.zero_le _, L0⟩
  case round =>
    clear L0 e0
    obtain ⟨k, rfl, hk, HP⟩ := hrel
    have hob := (unhide HP).2.1.lt
    by_cases hlt : k < l.length
    · obtain ⟨b, o, rfl, s6⟩ := unhide HSl k hlt
      have s7 := s6.below (unhide HP).2.2 s6.lt
      have hb1 := byteN_take hlt
      have hb2 := byteN_front l (k + 1)
      generalize rc l k = y at *
      obtain ⟨_, x0, x1, x2, x3, x4, x5⟩ := s7
      obtain ⟨nb, hnb⟩ : ∃ nb, nb = byteN (l.take k) := ⟨_, rfl⟩
      obtain ⟨q0, q1, q2, q3, qf⟩ := And.intro (unhide HP).2.1.c0 (And.intro (unhide HP).2.1.c1 (And.intro (unhide HP).2.1.c2 (And.intro (unhide HP).2.1.c3 ((unhide HP).2.1.fr 1))))
      rw [← hnb] at hb1 q1
      have hne : ¬ w.heap.size + 1 = wr.heap.size := by omega
      have hw1 : IntKind.i64.wrap ((y.s.size : Int) + (y.h.size : Int)) = (y.s.size : Int) + (y.h.size : Int) := by rw [IntKind.wrap_i64]; omega
      have hw2 : IntKind.i64.wrap ((y.s.size : Int) + (y.h.size : Int) + (y.d.size : Int)) = (y.s.size : Int) + (y.h.size : Int) + (y.d.size : Int) := by rw [IntKind.wrap_i64]; omega
      have hw3 : IntKind.i64.wrap ((nb : Int) + ((y.s.size : Int) + (y.h.size : Int) + (y.d.size : Int))) = (nb : Int) + ((y.s.size : Int) + (y.h.size : Int) + (y.d.size : Int)) := by rw [IntKind.wrap_i64]; omega
      have HY : Hid (SB ((wr.setCell ⟨w.heap.size + 1, 1, none⟩ (.int .i64 ((nb : Int) + ((y.s.size : Int) + (y.h.size : Int) + (y.d.size : Int))))).alloc (.cells #[.int .i64 y.k, .int .i64 y.q, .int .i64 y.t, .string y.s, .string y.h, .string y.d] 30)) w.heap.size 0 0 0 0 ∧ SB ((wr.setCell ⟨w.heap.size + 1, 1, none⟩ (.int .i64 ((nb : Int) + ((y.s.size : Int) + (y.h.size : Int) + (y.d.size : Int))))).alloc (.cells #[.int .i64 y.k, .int .i64 y.q, .int .i64 y.t, .string y.s, .string y.h, .string y.d] 30)) (w.heap.size + 1) (l.length : Int) (byteN (l.take (k + 1)) : Int) 0 last ∧ Below w.heap.size w ((wr.setCell ⟨w.heap.size + 1, 1, none⟩ (.int .i64 ((nb : Int) + ((y.s.size : Int) + (y.h.size : Int) + (y.d.size : Int))))).alloc (.cells #[.int .i64 y.k, .int .i64 y.q, .int .i64 y.t, .string y.s, .string y.h, .string y.d] 30))) := hide (by
        have hbs := (unhide HP).2.2.setCell (p := ⟨w.heap.size + 1, 1, none⟩) (Nat.le_succ _) (.int .i64 ((nb : Int) + ((y.s.size : Int) + (y.h.size : Int) + (y.d.size : Int))))
        refine ⟨((unhide HP).1.other (by omega)).alloc _, ?_, hbs.alloc hbs.size _⟩
        have := ((unhide HP).2.1.set1 ((nb : Int) + ((y.s.size : Int) + (y.h.size : Int) + (y.d.size : Int)))).alloc (.cells #[.int .i64 y.k, .int .i64 y.q, .int .i64 y.t, .string y.s, .string y.h, .string y.d] 30)
        rw [hb1, show ((nb + (y.s.size + y.h.size + y.d.size) : Nat) : Int) = (nb : Int) + ((y.s.size : Int) + (y.h.size : Int) + (y.d.size : Int)) by omega]
        exact this)
      clear hb1 hb2 hnb s6 q0 q2 q3
      go_wp2_with fail
      refine ⟨⟨k + 1, by go_num, by omega, HY⟩, ?_⟩
      simp [intOf]; omega
    · obtain rfl : k = l.length := by omega
      rw [List.take_length] at HP
      have d0 := ((unhide HP).2.2.cell (p := ⟨q, 0, none⟩) hql).trans (unhide HC).1
      obtain ⟨_, q0, q1, q2, q3, qf⟩ := (unhide HP).2.1
      obtain ⟨_, x0, x1, x2, x3, fz⟩ := (unhide HP).1
      have f0 := fz 0
      have f1 := fz 1
      have f2 := fz 2
      have f3 := fz 3
      clear fz hlt hk
      obtain ⟨N, hN⟩ : ∃ N, N = l.length := ⟨_, rfl⟩
      by_cases h0 : 0 < l.length
      · obtain ⟨b, o, rfl, s6⟩ := unhide HSl 0 h0
        have s7 := s6.below (unhide HP).2.2 s6.lt
        have z1 : wr.cell? ⟨b, o + 1, none⟩ = some (.int .i64 (firstQ l)) := by rw [firstQ_rc h0]; simpa using s7.c1
        have g2 := qf 2
        clear qf s6 s7
        go_wp2_with fail
        refine bodyPost_ret (results_sum rfl rfl ((((((unhide HP).1.other (c := w.heap.size + 1) (i := 2) (v := .int .i64 (firstQ l)) (by omega)).set0 _).set1 _).set2 _).set3 _)) rfl ?_
        exact ⟨rfl, (((((unhide HP).2.2.setCell (p := ⟨w.heap.size + 1, 2, none⟩) (Nat.le_succ _) _).setCell (p := ⟨w.heap.size, 0, none⟩) (Nat.le_refl _) _).setCell (p := ⟨w.heap.size, 1, none⟩) (Nat.le_refl _) _).setCell (p := ⟨w.heap.size, 2, none⟩) (Nat.le_refl _) _).setCell (p := ⟨w.heap.size, 3, none⟩) (Nat.le_refl _) _⟩
      · have e0 : l = [] := List.length_eq_zero_iff.1 (by omega)
        subst e0
        clear qf
        go_wp2_with fail
        refine bodyPost_ret (results_sum rfl rfl (((((unhide HP).1.set0 _).set1 _).set2 _).set3 _)) rfl ?_
        exact ⟨rfl, ((((unhide HP).2.2.setCell (p := ⟨w.heap.size, 0, none⟩) (Nat.le_refl _) _).setCell (p := ⟨w.heap.size, 1, none⟩) (Nat.le_refl _) _).setCell (p := ⟨w.heap.size, 2, none⟩) (Nat.le_refl _) _).setCell (p := ⟨w.heap.size, 3, none⟩) (Nat.le_refl _) _⟩
end Go.Proofs.YtmccpkpeimejhagGreatDoor.Dk

namespace Go.Proofs.YtmccpkpeimejhagGreatDoor.Dk
open Go.RowKit

theorem arr_low {w : World} {B B' : Nat} {v : Value} {l : List Ent} (h : Go.Proofs.YtmccpkpeimejhagGreatDoor.Arr w B v l) (hB : B' ≤ B) : Go.Proofs.YtmccpkpeimejhagGreatDoor.Arr w B' v l := by
  refine ⟨h.1, ?_⟩
  rcases h.2 with q | ⟨g, cap, cur, h1, h2, r⟩
  · exact .inl q
  · exact .inr ⟨g, cap, cur, h1, Nat.le_trans hB h2, r⟩
theorem SHas.low {w : World} {B B' q : Nat} {F : Nat → Prop} {s : Sto} (h : SHas w B q F s) (hB : B' ≤ B) : SHas w B' q F s := by
  obtain ⟨v, u, es, h1, h2, h3⟩ := h
  exact ⟨v, u, es, ⟨h1.c0, h1.c1, h1.c2, h1.free, Nat.le_trans hB h1.base, h1.lt, h1.msgs.low hB, arr_low h1.cnts hB, h1.av, h1.au, h1.apart⟩, h2, h3⟩
theorem svault : SVault SHas where
  own := fun h => h.own
  chg := fun h hc hn => h.chg hc hn
  low := fun h hB => h.low hB
  new := fun w => (snew_any w).mono (by
    rintro e w' ⟨rfl, h, hb⟩
    exact ⟨_, _, rfl, ⟨_, _, [], h, Cnt.nil, rfl⟩, hb⟩)
  tries := fun r hm h hk hB => by
    obtain ⟨v, u, es, h1, h2, rfl⟩ := h
    exact stry_any r hm h1 h2 hk
  apply := fun r hm h hk hB => by
    obtain ⟨v, u, es, h1, h2, rfl⟩ := h
    refine (sapply_any r hm h1 h2 hk hB).mono ?_
    rintro e w' ⟨he, es', m, c⟩
    exact ⟨he, SHas.did m c⟩
  sees := {
    all := fun h hk hB => by
      obtain ⟨v, u, es, h1, h2, rfl⟩ := h
      exact sall_any h1 hk.few (fun x hx => Small.of (hk.msg x hx).2)
    sums := fun h hk hB => by
      obtain ⟨v, u, es, h1, h2, rfl⟩ := h
      exact ssum_any h1 hk.few (fun x hx => hk.small hx) }
end Go.Proofs.YtmccpkpeimejhagGreatDoor.Dk

namespace Go.Proofs.YtmccpkpeimejhagGreatDoor
open Go.RowKit

theorem find_succ (es : List Ent) (f : ByteArray) (k : Nat) (hk : k < es.length) : findL (es.take (k + 1)) f = findL (es.take k) f ++ (if matchB f (en es k).1 then [en es k] else []) := by
  unfold findL
  rw [List.take_succ_eq_append_getElem hk, List.filter_append, ← en_get hk]
  cases h : matchB f (en es k).1 <;> simp [h]
theorem find_len (es : List Ent) (f : ByteArray) (k : Nat) : (findL (es.take k) f).length ≤ es.length := by
  unfold findL
  exact Nat.le_trans (List.length_filter_le _ _) (by rw [List.length_take]; omega)
theorem ret_ve {v : Value} {a b : Int} (h : b = a) : Ending.returned (.tuple #[v, .int .i64 a]) = .returned (.tuple #[v, .int .i64 b]) := by rw [h]
theorem two_row (w : World) (x : Ent) : ∀ j u, (cel [x])[j]? = some u → (w.alloc (.cells #[.string x.1, .int .i64 x.2] 59)).cell? ((⟨w.heap.size, 0, none⟩ : Addr).add j) = some u := by
  intro j u hj
  rw [Addr.add_lit, Nat.zero_add]
  exact (one_row (heap_alloc_new w _)).1 j u hj
end Go.Proofs.YtmccpkpeimejhagGreatDoor

namespace Go.Proofs.YtmccpkpeimejhagGreatDoor
open Go.RowKit

set_option maxHeartbeats 2000000 in
theorem find_any {o : Nat} (B p : Nat) (v : Value) (es : List Ent) (f : ByteArray) (w : World) (hk : KeepsO o w B p v es) (hg : Good es) (hs : f.size ≤ 140737488355328) :
    Calls Tryz.prog 39 #[.pointer (some ⟨p, o, none⟩), .string f] w fun e w' => ∃ v', e = .returned (.tuple #[v', .int .i64 (errS true f)]) ∧ Arr w' w.heap.size v' (if errS true f = 0 then findL es f else []) ∧ Below w.heap.size w w' := by
  have Hk := hide hk
  have Hg := hide hg
  clear hk hg
  by_cases he : errS true f = 0
  · rw [if_pos he]
    have h100 := (unhide Hg).2.1
    have He := hide he
    clear he
    obtain ⟨a, cap, rfl, c1, c2, c3⟩ := (unhide Hk).arr.shape
    clear c3 c2
    go_enter Tryz.func39, Tryz.ntmps39
    go_wp2_with fail
    refine (filter_any f _ hs).mono ?_
    rintro e w1 ⟨rfl, hb1⟩
    rw [unhide He]
    have k1 := (unhide Hk).below hb1
    have d0 := k1.cell
    have K1 := hide k1
    have Hb1 := hide hb1
    clear hb1 k1
    go_wp2_with fail
    clear d0
    go_loopw [7, 22] (fun ov kv wr => ∃ (k : Nat), kv = .int .i64 k ∧ k ≤ es.length ∧ Hid (Arr wr w.heap.size ov (findL (es.take k) f)) ∧ Hid (KeepsO o wr B p (.slice a es.length cap) es) ∧ Hid (Below w.heap.size w wr)) (fun _ kv _ => es.length - (intOf kv).toNat)
    case atStart => exact ⟨0, rfl, Nat.zero_le _, hide (Arr.empty _ _), K1, Hb1⟩
    case round =>
      obtain ⟨k, rfl, hkl, A3, K3, Hb3⟩ := hrel
      obtain ⟨ao, co, rfl, _⟩ := (unhide A3).shape
      by_cases hlt : k < es.length
      · obtain ⟨g, cap', e0, f1, f2, f3, f4⟩ := (unhide K3).arr.there (by omega)
        obtain ⟨rfl, _, rfl⟩ := Value.slice.inj e0
        clear e0
        have d2 := (unhide K3).arr.text hlt
        have d3 := (unhide K3).arr.num hlt
        obtain ⟨g1, g2⟩ := (unhide Hg).2.2 (en es k) (en_mem hlt)
        have Hs := hide (find_succ es f k hlt)
        have Hl := hide (find_len es f k)
        have hb0 : Below wr.heap.size wr (wr.alloc (.cells #[.string (en es k).1, .int .i64 (en es k).2] 59)) := (Below.refl _ _).alloc (Nat.le_refl _) _
        have Hb0 := hide hb0
        clear hb0
        go_wp2_with fail
        refine (match_any f (en es k).1 _ hs g2).mono ?_
        rintro e w5 ⟨rfl, b5⟩
        have r0 := one_row (heap_alloc_new wr (.cells #[.string (en es k).1, .int .i64 (en es k).2] 59))
        have d4 : w5.cell? ⟨wr.heap.size, 0, none⟩ = some (.string (en es k).1) := by rw [b5.cell (p := ⟨wr.heap.size, 0, none⟩) (by simp)]; exact r0.1 0 _ rfl
        have d5 : w5.cell? ⟨wr.heap.size, 1, none⟩ = some (.int .i64 (en es k).2) := by rw [b5.cell (p := ⟨wr.heap.size, 1, none⟩) (by simp)]; exact r0.1 1 _ rfl
        have K5 := ((unhide K3).below (unhide Hb0)).below b5
        have A5 := ((unhide A3).below (unhide Hb0)).below b5
        have Hb5 := hide (bstep (bstep (unhide Hb3) (unhide Hb0)) b5)
        clear d2 d3 r0
        cases hm : matchB f (en es k).1 with
        | true =>
          have Hm := hide hm
          have K5' := hide K5
          have A5' := hide A5
          clear hm K5 A5
          go_wp2_with fail
          refine (copyE_any (en es k).1 (en es k).2 _ g2).mono ?_
          rintro e w6 ⟨rfl, b6⟩
          have K6 := (unhide K5').below b6
          have A6 := (unhide A5').below b6
          have Hb6 := hide (bstep (unhide Hb5) b6)
          clear K5' A5' Hb5 b5 d4 d5
          have hb6 : Below w6.heap.size w6 (w6.alloc (.cells #[.string (en es k).1, .int .i64 (en es k).2] 59)) := (Below.refl _ _).alloc (Nat.le_refl _) _
          obtain ⟨v', w', hr, r1, r2, r3⟩ := append_blk _ w.heap.size 55 _ _ [en es k] (A6.below hb6) ⟨w6.heap.size, 0, none⟩ 1 (two_row w6 (en es k)) (by have := unhide Hl; simp; omega) (by have := (unhide Hb6).size; have := hb6.size; omega)
          have hown : ∀ k2, (Value.slice ao (findL (es.take k) f).length co).ownBlock = some k2 → w.heap.size ≤ k2 := fun k2 h2 => (A6.lt k2 h2).1
          have r2' := Chg.of_grown r2
          have hb7 : Below w.heap.size _ w' := r2'.below (by have := (unhide Hb6).size; have := hb6.size; omega) (fun k2 h2 h3 => by have := hown k2 h3; omega)
          have K7 := hide ((K6.below hb6).chg r2' (fun k2 h2 h3 => by
            have q1 := hown k2 h3
            rcases h2 with h2 | h2
            · have := (unhide Hk).lt; omega
            · have := ((unhide Hk).arr.lt k2 h2).2; omega))
          have Hb7 := hide ((bstep (unhide Hb6) hb6).trans hb7)
          have A7 : Hid (Arr w' w.heap.size v' (findL (es.take (k + 1)) f)) := hide (by rw [unhide Hs, unhide Hm, if_pos rfl]; exact r1)
          clear hb6 b6 K6 A6 r1 r2 r2' r3 hb7 hown
          go_wp2_with (at_builtin; refine Lib.wpList_append_run _ rfl _ _ _ _ rfl _ _ rfl rfl _ _ hr ?_)
          refine ⟨⟨k + 1, by go_num, by omega, A7, K7, Hb7⟩, ?_⟩
          simp [intOf]; omega
        | false =>
          have A7 : Hid (Arr w5 w.heap.size (.slice ao (findL (es.take k) f).length co) (findL (es.take (k + 1)) f)) := hide (by rw [unhide Hs, hm, if_neg (by simp), List.append_nil]; exact A5)
          have K7 := hide K5
          clear hm K5 A5
          go_wp2_with fail
          refine ⟨⟨k + 1, by go_num, by omega, A7, K7, Hb5⟩, ?_⟩
          simp [intOf]; omega
      · go_wp2_with fail
        go_ret2
        refine ⟨_, ret_ve (unhide He), ?_, unhide Hb3⟩
        have := unhide A3
        rw [List.take_of_length_le (by omega)] at this
        rw [List.take_of_length_le (by omega)]
        exact this
  · rw [if_neg he]
    go_enter Tryz.func39, Tryz.ntmps39
    go_wp2_with fail
    refine (filter_any f _ hs).mono ?_
    rintro e w1 ⟨rfl, hb1⟩
    go_wp2_with fail
    go_ret2
    exact ⟨_, rfl, Arr.empty _ _, hb1⟩

end Go.Proofs.YtmccpkpeimejhagGreatDoor

namespace Go.Proofs.YtmccpkpeimejhagGreatDoor.Dk
open Go.RowKit

set_option maxHeartbeats 400000 in
theorem ssub_any {w : World} {B q : Nat} {v u : Value} {l : List Rc} {es : List Ent} {last : Int} (f : ByteArray) (hf : f.size ≤ 140737488355328) (h : Sho w B q v u l es last) (hg : Good es) :
    Calls Tryz.prog 19 #[.pointer (some ⟨q, 0, none⟩), .string f] w fun e w' => ∃ v', e = .returned (.tuple #[v', .int .i64 (errS true f)]) ∧ Arr w' w.heap.size v' (foundL es f) ∧ Below w.heap.size w w' := by
  go_enter Tryz.func19, Tryz.ntmps19
  go_wp2_with fail
  refine (find_any B q u es f _ h.keeps hg hf).mono ?_
  rintro e w1 ⟨v', rfl, a1, b1⟩
  go_wp2_with fail
  go_ret2
  exact ⟨v', rfl, a1, b1⟩
end Go.Proofs.YtmccpkpeimejhagGreatDoor.Dk
