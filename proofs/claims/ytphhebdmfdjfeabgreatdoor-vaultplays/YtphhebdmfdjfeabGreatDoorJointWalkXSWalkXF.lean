/-
  The program's store: Sums.
  Going through records by slices.Backward and slices.All, as a range over a function does.
-/
import Derived.Test.YtphhebdmfdjfeabGreatDoorJointWalkX4WalkX5
import Derived.Test.YtphhebdmfdjfeabGreatDoorJointRowGRowBRowSRowURowVRowE
import Derived.Test.YtphhebdmfdjfeabGreatDoorJointWalkC3WalkC6WalkG1rWorksSWorksTaWorksTWorksYPapW
import Derived.Test.YtphhebdmfdjfeabGreatDoorJointBase0RowZPlainPlainNPlainRecPlainSPlainR2PapDPapLPapMPapGPapN
import Derived.RangeFuncNested
import Derived.RangeFuncBound
import Derived.RangeFuncCalls
import Derived.RangeFuncLeaves
import Derived.Shelf.Abstract
import Derived.Shelf.RegionOpen
import Derived.WalkKit
import Derived.OwnWalkIn
import Derived.TacticsInMore
import Derived.LoopNIn
import Derived.LoopIn
namespace Go.Proofs.YtphhebdmfdjfeabGreatDoor.Dk
open Go.RowKit

theorem byteN_take {l : List Rc} {k : Nat} (h : k < l.length) : byteN (l.take (k + 1)) = byteN (l.take k) + ((rc l k).s.size + (rc l k).h.size + (rc l k).d.size) := by
  rw [List.take_succ_eq_append_getElem h, ← rc_get h, byteN_append]
  rfl
theorem firstQ_rc {l : List Rc} (h : 0 < l.length) : firstQ l = (rc l 0).q := by
  cases l with
  | nil => cases h
  | cons x l => rfl
theorem byteN_front (l : List Rc) (k : Nat) : byteN (l.take k) ≤ byteN l := by
  have := byteN_append (l.take k) (l.drop k)
  rw [List.take_append_drop] at this
  omega

set_option maxRecDepth 100000 in
set_option maxHeartbeats 1000000 in
theorem ssum_any {w : World} {B q : Nat} {v u : Value} {l : List Rc} {es : List Ent} {last : Int} (h : Sho w B q v u l es last) (h200 : l.length ≤ 200) (hm : ∀ x ∈ l, x.s.size ≤ 135 ∧ x.h.size + x.d.size ≤ 256) :
    Calls Tryz.prog 72 #[.pointer (some ⟨q, 0, none⟩)] w fun e w' => e = .returned (.agg #[.int .i64 (l.length : Int), .int .i64 (byteN l : Int), .int .i64 (firstQ l), .int .i64 last]) ∧ Below w.heap.size w w' := by
  obtain ⟨a, cap, rfl, c1, c2, hsl⟩ := h.msgs.shape
  have hql := h.lt
  have S0 := hide (SB.new w 0 0 0 0 110)
  have B0 := hide ((Below.refl w.heap.size w).alloc (Nat.le_refl _) (.cells #[.int .i64 0, .int .i64 0, .int .i64 0, .int .i64 0] 110))
  have HC := hide (And.intro h.c0 h.c2)
  have d0 : (w.alloc (.cells #[.int .i64 0, .int .i64 0, .int .i64 0, .int .i64 0] 110)).cell? ⟨q, 0, none⟩ = some (.slice a l.length cap) := by rw [(unhide B0).cell (p := ⟨q, 0, none⟩) hql]; exact h.c0
  have d1 : (w.alloc (.cells #[.int .i64 0, .int .i64 0, .int .i64 0, .int .i64 0] 110)).cell? ⟨q, 2, none⟩ = some (.int .i64 last) := by rw [(unhide B0).cell (p := ⟨q, 2, none⟩) hql]; exact h.c2
  have HSl := hide hsl
  have HM := hide hm
  clear h hsl hm
  go_enter Tryz.func72, Tryz.ntmps72
  go_wp2_with fail
  go_region
  have L0 : Hid (SB ((w.alloc (.cells #[.int .i64 0, .int .i64 0, .int .i64 0, .int .i64 0] 110)).alloc (.cells #[.int .i64 (l.length : Int), .int .i64 0, .int .i64 0, .int .i64 last] 110)).drew w.heap.size 0 0 0 0 ∧ SB ((w.alloc (.cells #[.int .i64 0, .int .i64 0, .int .i64 0, .int .i64 0] 110)).alloc (.cells #[.int .i64 (l.length : Int), .int .i64 0, .int .i64 0, .int .i64 last] 110)).drew (w.heap.size + 1) (l.length : Int) 0 0 last ∧ Below w.heap.size w ((w.alloc (.cells #[.int .i64 0, .int .i64 0, .int .i64 0, .int .i64 0] 110)).alloc (.cells #[.int .i64 (l.length : Int), .int .i64 0, .int .i64 0, .int .i64 last] 110)).drew) := hide (by
    have x1 := SB.new (w.alloc (.cells #[.int .i64 0, .int .i64 0, .int .i64 0, .int .i64 0] 110)) (l.length : Int) 0 0 last 110
    rw [World.size_alloc] at x1
    exact ⟨((unhide S0).alloc _).next (Below.refl _ _).drew, x1.next (Below.refl _ _).drew, (bstep (unhide B0) ((Below.refl _ _).alloc (Nat.le_refl _) _)).drew⟩)
  have e0 : ((w.alloc (.cells #[.int .i64 0, .int .i64 0, .int .i64 0, .int .i64 0] 110)).alloc (.cells #[.int .i64 (l.length : Int), .int .i64 0, .int .i64 0, .int .i64 last] 110)).drew.cell? ⟨q, 0, none⟩ = some (.slice a l.length cap) := by rw [(unhide L0).2.2.cell (p := ⟨q, 0, none⟩) hql]; exact (unhide HC).1
  clear S0 B0 d0 d1
  generalize ((w.alloc (.cells #[.int .i64 0, .int .i64 0, .int .i64 0, .int .i64 0] 110)).alloc (.cells #[.int .i64 (l.length : Int), .int .i64 0, .int .i64 0, .int .i64 last] 110)).drew = W0 at *
  have hby : byteN l ≤ 78200 := by
    have := byteN_le (fun r hr => unhide HM r hr)
    omega
  go_wp2_with fail
  go_loopw [21] (fun kv wr => ∃ (k : Nat), kv = .int .i64 k ∧ k ≤ l.length ∧ Hid (SB wr w.heap.size 0 0 0 0 ∧ SB wr (w.heap.size + 1) (l.length : Int) (byteN (l.take k) : Int) 0 last ∧ Below w.heap.size w wr)) (fun kv _ => l.length - (intOf kv).toNat)
  case atStart => exact ⟨0, rfl, Nat.zero_le _, L0⟩
  case round =>
    clear L0 e0
    obtain ⟨k, rfl, hk, HP⟩ := hrel
    have hob := (unhide HP).2.1.lt
    by_cases hlt : k < l.length
    · obtain ⟨b, o, rfl, s6⟩ := unhide HSl k hlt
      have s7 := s6.below (unhide HP).2.2 s6.lt
      have hb1 := byteN_take hlt
      have hb2 := byteN_front l (k + 1)
      generalize rc l k = y at *
      obtain ⟨_, x0, x1, x2, x3, x4, x5⟩ := s7
      obtain ⟨nb, hnb⟩ : ∃ nb, nb = byteN (l.take k) := ⟨_, rfl⟩
      obtain ⟨q0, q1, q2, q3, qf⟩ := And.intro (unhide HP).2.1.c0 (And.intro (unhide HP).2.1.c1 (And.intro (unhide HP).2.1.c2 (And.intro (unhide HP).2.1.c3 ((unhide HP).2.1.fr 1))))
      rw [← hnb] at hb1 q1
      have hne : ¬ w.heap.size + 1 = wr.heap.size := by omega
      have hw1 : IntKind.i64.wrap ((y.s.size : Int) + (y.h.size : Int)) = (y.s.size : Int) + (y.h.size : Int) := by rw [IntKind.wrap_i64]; omega
      have hw2 : IntKind.i64.wrap ((y.s.size : Int) + (y.h.size : Int) + (y.d.size : Int)) = (y.s.size : Int) + (y.h.size : Int) + (y.d.size : Int) := by rw [IntKind.wrap_i64]; omega
      have hw3 : IntKind.i64.wrap ((nb : Int) + ((y.s.size : Int) + (y.h.size : Int) + (y.d.size : Int))) = (nb : Int) + ((y.s.size : Int) + (y.h.size : Int) + (y.d.size : Int)) := by rw [IntKind.wrap_i64]; omega
      have HY : Hid (SB ((wr.setCell ⟨w.heap.size + 1, 1, none⟩ (.int .i64 ((nb : Int) + ((y.s.size : Int) + (y.h.size : Int) + (y.d.size : Int))))).alloc (.cells #[.int .i64 y.k, .int .i64 y.q, .int .i64 y.t, .string y.s, .string y.h, .string y.d] 43)) w.heap.size 0 0 0 0 ∧ SB ((wr.setCell ⟨w.heap.size + 1, 1, none⟩ (.int .i64 ((nb : Int) + ((y.s.size : Int) + (y.h.size : Int) + (y.d.size : Int))))).alloc (.cells #[.int .i64 y.k, .int .i64 y.q, .int .i64 y.t, .string y.s, .string y.h, .string y.d] 43)) (w.heap.size + 1) (l.length : Int) (byteN (l.take (k + 1)) : Int) 0 last ∧ Below w.heap.size w ((wr.setCell ⟨w.heap.size + 1, 1, none⟩ (.int .i64 ((nb : Int) + ((y.s.size : Int) + (y.h.size : Int) + (y.d.size : Int))))).alloc (.cells #[.int .i64 y.k, .int .i64 y.q, .int .i64 y.t, .string y.s, .string y.h, .string y.d] 43))) := hide (by
        have hbs := (unhide HP).2.2.setCell (p := ⟨w.heap.size + 1, 1, none⟩) (Nat.le_succ _) (.int .i64 ((nb : Int) + ((y.s.size : Int) + (y.h.size : Int) + (y.d.size : Int))))
        refine ⟨((unhide HP).1.other (by omega)).alloc _, ?_, hbs.alloc hbs.size _⟩
        have := ((unhide HP).2.1.set1 ((nb : Int) + ((y.s.size : Int) + (y.h.size : Int) + (y.d.size : Int)))).alloc (.cells #[.int .i64 y.k, .int .i64 y.q, .int .i64 y.t, .string y.s, .string y.h, .string y.d] 43)
        rw [hb1, show ((nb + (y.s.size + y.h.size + y.d.size) : Nat) : Int) = (nb : Int) + ((y.s.size : Int) + (y.h.size : Int) + (y.d.size : Int)) by omega]
        exact this)
      clear hb1 hb2 hnb s6 q0 q2 q3
      go_wp2_with fail
      refine ⟨⟨k + 1, by go_num, by omega, HY⟩, ?_⟩
      simp [intOf]; omega
    · obtain rfl : k = l.length := by omega
      rw [List.take_length] at HP
      have d0 := ((unhide HP).2.2.cell (p := ⟨q, 0, none⟩) hql).trans (unhide HC).1
      obtain ⟨_, q0, q1, q2, q3, qf⟩ := (unhide HP).2.1
      obtain ⟨_, x0, x1, x2, x3, fz⟩ := (unhide HP).1
      have f0 := fz 0
      have f1 := fz 1
      have f2 := fz 2
      have f3 := fz 3
      clear fz hlt hk
      obtain ⟨N, hN⟩ : ∃ N, N = l.length := ⟨_, rfl⟩
      by_cases h0 : 0 < l.length
      · obtain ⟨b, o, rfl, s6⟩ := unhide HSl 0 h0
        have s7 := s6.below (unhide HP).2.2 s6.lt
        have z1 : wr.cell? ⟨b, o + 1, none⟩ = some (.int .i64 (firstQ l)) := by rw [firstQ_rc h0]; simpa using s7.c1
        have g2 := qf 2
        clear qf s6 s7
        go_wp2_with fail
        refine bodyPost_ret (results_sum rfl rfl ((((((unhide HP).1.other (c := w.heap.size + 1) (i := 2) (v := .int .i64 (firstQ l)) (by omega)).set0 _).set1 _).set2 _).set3 _)) rfl ?_
        exact ⟨rfl, (((((unhide HP).2.2.setCell (p := ⟨w.heap.size + 1, 2, none⟩) (Nat.le_succ _) _).setCell (p := ⟨w.heap.size, 0, none⟩) (Nat.le_refl _) _).setCell (p := ⟨w.heap.size, 1, none⟩) (Nat.le_refl _) _).setCell (p := ⟨w.heap.size, 2, none⟩) (Nat.le_refl _) _).setCell (p := ⟨w.heap.size, 3, none⟩) (Nat.le_refl _) _⟩
      · have e0 : l = [] := List.length_eq_zero_iff.1 (by omega)
        subst e0
        clear qf
        go_wp2_with fail
        refine bodyPost_ret (results_sum rfl rfl (((((unhide HP).1.set0 _).set1 _).set2 _).set3 _)) rfl ?_
        exact ⟨rfl, ((((unhide HP).2.2.setCell (p := ⟨w.heap.size, 0, none⟩) (Nat.le_refl _) _).setCell (p := ⟨w.heap.size, 1, none⟩) (Nat.le_refl _) _).setCell (p := ⟨w.heap.size, 2, none⟩) (Nat.le_refl _) _).setCell (p := ⟨w.heap.size, 3, none⟩) (Nat.le_refl _) _⟩
end Go.Proofs.YtphhebdmfdjfeabGreatDoor.Dk

namespace Go.Proofs.YtphhebdmfdjfeabGreatDoor.Dk
open Go.RowKit Go.Shelf
attribute [local go_sem] Oper.semAt_some

/-- a record whose texts can be -/
abbrev Sm := { r : Rc // Small r }
def encR (x : Int × Sm) : Array Value := #[.int .i64 x.1, .agg #[.int .i64 x.2.1.k, .int .i64 x.2.1.q, .int .i64 x.2.1.t, .string x.2.1.s, .string x.2.1.h, .string x.2.1.d]]
/-- blocks that stay as they are -/
def StayX (Cs : Nat → Prop) (w w' : World) : Prop := w.heap.size ≤ w'.heap.size ∧ ∀ k, Cs k → w'.heap[k]? = w.heap[k]?
theorem StayX.refl (Cs : Nat → Prop) (w : World) : StayX Cs w w := ⟨Nat.le_refl _, fun _ _ => rfl⟩
theorem StayX.trans {Cs : Nat → Prop} {a b c : World} (h : StayX Cs a b) (k : StayX Cs b c) : StayX Cs a c := ⟨Nat.le_trans h.1 k.1, fun i hi => (k.2 i hi).trans (h.2 i hi)⟩
theorem StayX.cell {Cs : Nat → Prop} {w w' : World} (h : StayX Cs w w') {C j : Nat} (hC : Cs C) : w'.cell? ⟨C, j, none⟩ = w.cell? ⟨C, j, none⟩ := World.cell?_of_block (w := w) (h.2 C hC)
theorem StayX.six {Cs : Nat → Prop} {w w' : World} (h : StayX Cs w w') {b o : Nat} {r : Rc} (hC : Cs b) (s : Six w b o r) : Six w' b o r :=
  ⟨Nat.lt_of_lt_of_le s.lt h.1, (h.cell hC).trans s.c0, (h.cell hC).trans s.c1, (h.cell hC).trans s.c2, (h.cell hC).trans s.c3, (h.cell hC).trans s.c4, (h.cell hC).trans s.c5⟩
theorem StayX.recs {Cs : Nat → Prop} {w w' : World} (h : StayX Cs w w') {a : Option Addr} {l : List Rc} (s : SlR w a l) (hC : ∀ z, a = some z → Cs z.block) : SlR w' a l := fun k hk => by
  obtain ⟨b, o, e, s6⟩ := s k hk
  exact ⟨b, o, e, h.six (hC _ e) s6⟩
theorem StayX.put {Cs : Nat → Prop} {w : World} (hC : ∀ k, Cs k → k < w.heap.size) (W : World) (l : Nat) (o o' : Obj) (hl : w.heap.size ≤ l) (h : W.heap[l]? = some o) : StayX Cs W (W.putObj l o') := by
  have hlt := (Array.getElem?_eq_some_iff.1 h).1
  have hg := grownBy_putObj' W l o'
  exact ⟨hg.size, fun k hk => by
    have := hC k hk
    exact hg.block k (by omega) (fun e => by have := Option.some.inj e; omega)⟩
/-- a front of a list -/
def Front (zs : List Rc) (pre : List (Int × Sm)) : Prop := ∃ t, zs = pre.map (fun x => x.2.1) ++ t

set_option maxRecDepth 100000 in
set_option maxHeartbeats 2000000 in
theorem backR_in (F : Fence) (n : Nat) (hf : F.fn 155) (hro : F.round = none) (hn : 1 ≤ n) (l Bs : Nat) (Cs : Nat → Prop) (a : Option Addr) (zs : List Rc) (cap : Nat) (hz : ∀ k, k < zs.length → Small (rc zs k)) (hlen : zs.length ≤ 1000) (hCB : Cs Bs) (hCa : ∀ z, a = some z → Cs z.block) (J Jx : List (Int × Sm) → World → Prop)
    (hY : ∀ pre x W, J pre W → pre.length < zs.length → YieldAt F (n - 1) Tryz.prog l (encR x) W fun e W' =>
      (e = .returned (.bool true) ∧ J (pre ++ [x]) W' ∧ StayX Cs W W') ∨ (e = .returned (.bool false) ∧ Jx (pre ++ [x]) W'))
    (W : World) (hBs : W.cell? ⟨Bs, 0, none⟩ = some (.slice a zs.length cap)) (hc : SlR W a zs) (h0 : J [] W) :
    CallsIn F n Tryz.prog 155 #[.func (.yield l) #[] #[], .pointer (some ⟨Bs, 0, none⟩)] W fun e W' => (∃ v, e = .returned v) ∧
      ((∃ ys : List (Int × Sm), ys.map (fun x => x.2.1) = zs.reverse ∧ J ys W') ∨ (∃ pre : List (Int × Sm), Front zs.reverse pre ∧ Jx pre W')) := by
  have HZ := hide hz
  have HY := hide hY
  have HCa := hide hCa
  have HW := hide (And.intro hBs hc)
  clear hz hY hCa hc
  refine callsIn_of_wp Tryz.func155 rfl hf ?_ hro
  simp only [Tryz.ntmps155, List.size_toArray, List.length_cons, List.length_nil, Nat.reduceAdd, Nat.reduceSub, Array.replicate_succ, Array.replicate_zero, List.push_toArray, List.append_toArray, List.nil_append, List.cons_append]
  have hw0 : IntKind.i64.wrap ((zs.length : Int) - 1) = (zs.length : Int) - 1 := by rw [IntKind.wrap_i64]; omega
  gi_wp2
  gi_loopw [3] (fun iv wr => ∃ (k : Nat) (j : Int) (pre : List (Int × Sm)), iv = .int .i64 j ∧ Hid (j = (k : Int) - 1) ∧ k ≤ zs.length ∧ Hid (pre.map (fun x => x.2.1) = (zs.drop k).reverse ∧ pre.length + k = zs.length) ∧ Hid (J pre wr) ∧ Hid (StayX Cs W wr)) (fun iv _ => (intOf iv + 1).toNat)
  case atStart => exact ⟨zs.length, _, [], rfl, hide (by first | rfl | exact hw0), Nat.le_refl _, hide ⟨by simp, by simp⟩, hide h0, hide (StayX.refl _ _)⟩
  case round =>
    obtain ⟨k, j, pre, rfl, hj, hk, HP, HJ, HK⟩ := hrel
    have hbs := ((unhide HK).cell (C := Bs) (j := 0) hCB).trans hBs
    by_cases hk0 : 0 < k
    · obtain ⟨i, rfl⟩ : ∃ i, k = i + 1 := ⟨k - 1, by omega⟩
      obtain rfl : j = (i : Int) := by have := unhide hj; omega
      have hi : i < zs.length := by omega
      have hi0 : (0 : Int) ≤ (i : Int) := by omega
      obtain ⟨b, o, rfl, s6⟩ := ((unhide HK).recs (unhide HW).2 (unhide HCa)) i hi
      obtain ⟨fn, tmps, assign, body, hy, hR⟩ := unhide HY pre ((i : Int), ⟨rc zs i, unhide HZ i hi⟩) wr (unhide HJ) (by have := (unhide HP).2; omega)
      unfold encR at hy
      dsimp only at hy
      have HP2 : Hid ((pre ++ [((i : Int), (⟨rc zs i, unhide HZ i hi⟩ : Sm))]).map (fun x => x.2.1) = (zs.drop i).reverse ∧ (pre ++ [((i : Int), (⟨rc zs i, unhide HZ i hi⟩ : Sm))]).length + i = zs.length) := hide ⟨by
        rw [List.map_append, (unhide HP).1, List.drop_eq_getElem_cons hi, List.reverse_cons]
        show _ ++ [rc zs i] = _
        rw [rc_get hi], by have := (unhide HP).2; simp; omega⟩
      have hw1 : IntKind.i64.wrap ((i : Int) - 1) = (i : Int) - 1 := by rw [IntKind.wrap_i64]; omega
      obtain ⟨_, x0, x1, x2, x3, x4, x5⟩ := s6
      clear HP HJ hj hk0
      gi_wp2
      refine hR.mono ?_
      rintro e W3 (⟨rfl, hJ3, hk3⟩ | ⟨rfl, hJx3⟩)
      · have J3 := hide hJ3
        have K3 := hide ((unhide HK).trans hk3)
        clear hJ3 hk3 hR hy x0 x1 x2 x3 x4 x5 hbs HK
        gi_wp2
        go_roundw
        case rel => exact ⟨i, _, _, rfl, hide (by first | rfl | exact hw1), by omega, HP2, J3, K3⟩
        case measure => first | (simp [intOf]; done) | (simp [intOf]; omega)
      · have J3 := hide hJx3
        clear hJx3 hR hy x0 x1 x2 x3 x4 x5 hbs HK
        gi_wp2
        refine bodyPost_ret (results_none rfl _ _ _) rfl ?_
        refine ⟨⟨_, rfl⟩, .inr ⟨_, ⟨(zs.take i).reverse, ?_⟩, unhide J3⟩⟩
        rw [(unhide HP2).1, ← List.reverse_append, List.take_append_drop]
    · obtain rfl : k = 0 := by omega
      obtain rfl : j = -1 := by have := unhide hj; omega
      gi_wp2
      go_end0
      exact ⟨⟨_, rfl⟩, .inl ⟨_, by rw [(unhide HP).1]; rfl, unhide HJ⟩⟩
set_option maxRecDepth 100000 in
set_option maxHeartbeats 2000000 in
theorem allR_in (F : Fence) (n : Nat) (hf : F.fn 156) (hro : F.round = none) (hn : 1 ≤ n) (l Bs : Nat) (Cs : Nat → Prop) (a : Option Addr) (zs : List Rc) (cap : Nat) (hz : ∀ k, k < zs.length → Small (rc zs k)) (hlen : zs.length ≤ 1000) (hCa : ∀ z, a = some z → Cs z.block) (J Jx : List (Int × Sm) → World → Prop) (hJa : ∀ pre X o, J pre X → J pre (X.alloc o))
    (hY : ∀ pre x W, J pre W → pre.length < zs.length → YieldAt F (n - 1) Tryz.prog l (encR x) W fun e W' =>
      (e = .returned (.bool true) ∧ J (pre ++ [x]) W' ∧ StayX Cs W W') ∨ (e = .returned (.bool false) ∧ Jx (pre ++ [x]) W'))
    (W : World) (hC : ∀ k, Cs k → k < W.heap.size) (hBs : W.cell? ⟨Bs, 0, none⟩ = some (.slice a zs.length cap)) (hc : SlR W a zs) (h0 : J [] W) :
    CallsIn F n Tryz.prog 156 #[.func (.yield l) #[] #[], .pointer (some ⟨Bs, 0, none⟩)] W fun e W' => (∃ v, e = .returned v) ∧
      ((∃ ys : List (Int × Sm), ys.map (fun x => x.2.1) = zs ∧ J ys W') ∨ (∃ pre : List (Int × Sm), Front zs pre ∧ Jx pre W')) := by
  have HZ := hide hz
  have HY := hide hY
  have HCa := hide hCa
  have HW := hide (And.intro hBs hc)
  clear hz hY hCa hc
  refine callsIn_of_wp Tryz.func156 rfl hf ?_ hro
  simp only [Tryz.ntmps156, List.size_toArray, List.length_cons, List.length_nil, Nat.reduceAdd, Nat.reduceSub, Array.replicate_succ, Array.replicate_zero, List.push_toArray, List.append_toArray, List.nil_append, List.cons_append]
  gi_wp2
  gi_loopw [7] (fun iv wr => ∃ (k : Nat) (pre : List (Int × Sm)), iv = .int .i64 k ∧ k ≤ zs.length ∧ Hid (pre.map (fun x => x.2.1) = zs.take k ∧ pre.length = k) ∧ Hid (J pre wr) ∧ Hid (StayX Cs W wr)) (fun iv _ => zs.length - (intOf iv).toNat)
  case atStart => exact ⟨0, [], rfl, Nat.zero_le _, hide ⟨by simp, by simp⟩, hide h0, hide (StayX.refl _ _)⟩
  case round =>
    obtain ⟨k, pre, rfl, hk, HP, HJ, HK⟩ := hrel
    by_cases hi : k < zs.length
    · obtain ⟨b, o, rfl, s6⟩ := ((unhide HK).recs (unhide HW).2 (unhide HCa)) k hi
      have hba : StayX Cs wr (wr.alloc (.cells #[.int .i64 (rc zs k).k, .int .i64 (rc zs k).q, .int .i64 (rc zs k).t, .string (rc zs k).s, .string (rc zs k).h, .string (rc zs k).d] 43)) := ⟨by simp, fun i hi => Below.heap_alloc _ _ _ (by have := hC i hi; have := (unhide HK).1; omega)⟩
      obtain ⟨fn, tmps, assign, body, hy, hR⟩ := unhide HY pre ((k : Int), ⟨rc zs k, unhide HZ k hi⟩) (wr.alloc (.cells #[.int .i64 (rc zs k).k, .int .i64 (rc zs k).q, .int .i64 (rc zs k).t, .string (rc zs k).s, .string (rc zs k).h, .string (rc zs k).d] 43)) (hJa pre wr (.cells #[.int .i64 (rc zs k).k, .int .i64 (rc zs k).q, .int .i64 (rc zs k).t, .string (rc zs k).s, .string (rc zs k).h, .string (rc zs k).d] 43) (unhide HJ)) (by have := (unhide HP).2; omega)
      unfold encR at hy
      dsimp only at hy
      have HP2 : Hid ((pre ++ [((k : Int), (⟨rc zs k, unhide HZ k hi⟩ : Sm))]).map (fun x => x.2.1) = zs.take (k + 1) ∧ (pre ++ [((k : Int), (⟨rc zs k, unhide HZ k hi⟩ : Sm))]).length = k + 1) := hide ⟨by
        rw [List.map_append, (unhide HP).1, List.take_succ_eq_append_getElem hi]
        show _ ++ [rc zs k] = _
        rw [rc_get hi], by have := (unhide HP).2; simp; omega⟩
      obtain ⟨_, x0, x1, x2, x3, x4, x5⟩ := s6
      have HK2 := hide ((unhide HK).trans hba)
      clear HP HJ hba HK
      gi_wp2
      refine hR.mono ?_
      rintro e W3 (⟨rfl, hJ3, hk3⟩ | ⟨rfl, hJx3⟩)
      · have J3 := hide hJ3
        have K3 := hide ((unhide HK2).trans hk3)
        clear hJ3 hk3 hR hy x0 x1 x2 x3 x4 x5 HK2
        gi_wp2
        go_roundw
        case rel => exact ⟨k + 1, _, by go_num, by omega, HP2, J3, K3⟩
        case measure => first | (simp [intOf]; done) | (simp [intOf]; omega)
      · have J3 := hide hJx3
        clear hJx3 hR hy x0 x1 x2 x3 x4 x5 HK2
        gi_wp2
        refine bodyPost_ret (results_none rfl _ _ _) rfl ?_
        refine ⟨⟨_, rfl⟩, .inr ⟨_, ⟨zs.drop (k + 1), ?_⟩, unhide J3⟩⟩
        rw [(unhide HP2).1, List.take_append_drop]
    · obtain rfl : k = zs.length := by omega
      gi_wp2
      go_end0
      exact ⟨⟨_, rfl⟩, .inl ⟨_, by rw [(unhide HP).1, List.take_length], unhide HJ⟩⟩
theorem below_stay {w W : World} {Cs : Nat → Prop} (hW : Below w.heap.size w W) (hC : ∀ k, Cs k → k < w.heap.size) : StayX Cs w W := ⟨hW.size, fun k hk => hW.block k (hC k hk)⟩
/-- slices.Backward hands back a function that gives the records, the last one first -/
theorem backR_stops (F : Fence) (n : Nat) (hf : F.fn 155) (hro : F.round = none) (hn : 1 ≤ n) (Bs : Nat) (Cs : Nat → Prop) (a : Option Addr) (zs : List Rc) (cap : Nat) (hz : ∀ k, k < zs.length → Small (rc zs k)) (hlen : zs.length ≤ 1000) (hCB : Cs Bs) (hCa : ∀ z, a = some z → Cs z.block) (w : World) (hC : ∀ k, Cs k → k < w.heap.size)
    (hBs : w.cell? ⟨Bs, 0, none⟩ = some (.slice a zs.length cap)) (hc : SlR w a zs) :
    SeqStopsK F n Tryz.prog 155 #[.pointer (some ⟨Bs, 0, none⟩)] encR (StayX Cs) (fun ys => ys.map (fun x => x.2.1) = zs.reverse) (Front zs.reverse) zs.length w := fun l J Jx W hW _ _ hY h0 => by
  have hk := below_stay hW hC
  exact backR_in F n hf hro hn l Bs Cs a zs cap hz hlen hCB hCa J Jx hY W ((hk.cell hCB).trans hBs) (hk.recs hc hCa) h0
/-- slices.All hands back a function that gives the records in their order -/
theorem allR_stops (F : Fence) (n : Nat) (hf : F.fn 156) (hro : F.round = none) (hn : 1 ≤ n) (Bs : Nat) (Cs : Nat → Prop) (a : Option Addr) (zs : List Rc) (cap : Nat) (hz : ∀ k, k < zs.length → Small (rc zs k)) (hlen : zs.length ≤ 1000) (hCB : Cs Bs) (hCa : ∀ z, a = some z → Cs z.block) (w : World) (hC : ∀ k, Cs k → k < w.heap.size)
    (hBs : w.cell? ⟨Bs, 0, none⟩ = some (.slice a zs.length cap)) (hc : SlR w a zs) :
    SeqStopsK F n Tryz.prog 156 #[.pointer (some ⟨Bs, 0, none⟩)] encR (StayX Cs) (fun ys => ys.map (fun x => x.2.1) = zs) (Front zs) zs.length w := fun l J Jx W hW hJ _ hY h0 => by
  have hk := below_stay hW hC
  exact allR_in F n hf hro hn l Bs Cs a zs cap hz hlen hCa J Jx (fun pre X o hX => hJ pre X _ none hX (World.grownBy_alloc X o none) (fun r e => by cases e)) hY W (fun k hk' => Nat.lt_of_lt_of_le (hC k hk') hW.size) ((hk.cell hCB).trans hBs) (hk.recs hc hCa) h0
end Go.Proofs.YtphhebdmfdjfeabGreatDoor.Dk
