/-
  Going through records by slices.Backward and slices.All, as a range over a function does.
-/
import Derived.Test.YtohjipnkoiifhagGreatDoorJointPapPeWalkY1WalkY2PapCPapEPapWRowT
import Derived.Test.YtohjipnkoiifhagGreatDoorJointPlainSPlainR2PapGRowGPapNWorksGPapHWorksFRowBWalkC6RowY
import Derived.RangeFuncNested
import Derived.RangeFuncBound
import Derived.RangeFuncCalls
import Derived.RangeFuncLeaves
import Derived.Shelf.Abstract
import Derived.Shelf.RegionOpen
import Derived.WalkKit
import Derived.OwnWalkIn
import Derived.TacticsInMore
import Derived.LoopNIn
import Derived.LoopIn
namespace Go.Proofs.YtohjipnkoiifhagGreatDoor.Dk
open Go.RowKit Go.Shelf
attribute [local go_sem] Oper.semAt_some

/-- a record whose texts can be -/
abbrev Sm := { r : Rc // Small r }
def encR (x : Int × Sm) : Array Value := #[.int .i64 x.1, .agg #[.int .i64 x.2.1.k, .int .i64 x.2.1.q, .int .i64 x.2.1.t, .string x.2.1.s, .string x.2.1.h, .string x.2.1.d]]
/-- blocks that stay as they are -/
def StayX (Cs : Nat → Prop) (w w' : World) : Prop := w.heap.size ≤ w'.heap.size ∧ ∀ k, Cs k → w'.heap[k]? = w.heap[k]?
theorem StayX.refl (Cs : Nat → Prop) (w : World) : StayX Cs w w := ⟨Nat.le_refl _, fun _ _ => rfl⟩
theorem StayX.trans {Cs : Nat → Prop} {a b c : World} (h : StayX Cs a b) (k : StayX Cs b c) : StayX Cs a c := ⟨Nat.le_trans h.1 k.1, fun i hi => (k.2 i hi).trans (h.2 i hi)⟩
theorem StayX.cell {Cs : Nat → Prop} {w w' : World} (h : StayX Cs w w') {C j : Nat} (hC : Cs C) : w'.cell? ⟨C, j, none⟩ = w.cell? ⟨C, j, none⟩ := World.cell?_of_block (w := w) (h.2 C hC)
theorem StayX.six {Cs : Nat → Prop} {w w' : World} (h : StayX Cs w w') {b o : Nat} {r : Rc} (hC : Cs b) (s : Six w b o r) : Six w' b o r :=
  ⟨Nat.lt_of_lt_of_le s.lt h.1, (h.cell hC).trans s.c0, (h.cell hC).trans s.c1, (h.cell hC).trans s.c2, (h.cell hC).trans s.c3, (h.cell hC).trans s.c4, (h.cell hC).trans s.c5⟩
theorem StayX.recs {Cs : Nat → Prop} {w w' : World} (h : StayX Cs w w') {a : Option Addr} {l : List Rc} (s : SlR w a l) (hC : ∀ z, a = some z → Cs z.block) : SlR w' a l := fun k hk => by
  obtain ⟨b, o, e, s6⟩ := s k hk
  exact ⟨b, o, e, h.six (hC _ e) s6⟩
theorem StayX.put {Cs : Nat → Prop} {w : World} (hC : ∀ k, Cs k → k < w.heap.size) (W : World) (l : Nat) (o o' : Obj) (hl : w.heap.size ≤ l) (h : W.heap[l]? = some o) : StayX Cs W (W.putObj l o') := by
  have hlt := (Array.getElem?_eq_some_iff.1 h).1
  have hg := grownBy_putObj' W l o'
  exact ⟨hg.size, fun k hk => by
    have := hC k hk
    exact hg.block k (by omega) (fun e => by have := Option.some.inj e; omega)⟩
/-- a front of a list -/
def Front (zs : List Rc) (pre : List (Int × Sm)) : Prop := ∃ t, zs = pre.map (fun x => x.2.1) ++ t

set_option maxRecDepth 100000 in
set_option maxHeartbeats 2000000 in
theorem allR_in (F : Fence) (n : Nat) (hf : F.fn 156) (hro : F.round = none) (hn : 1 ≤ n) (l Bs : Nat) (Cs : Nat → Prop) (a : Option Addr) (zs : List Rc) (cap : Nat) (hz : ∀ k, k < zs.length → Small (rc zs k)) (hlen : zs.length ≤ 1000) (hCa : ∀ z, a = some z → Cs z.block) (J Jx : List (Int × Sm) → World → Prop) (hJa : ∀ pre X o, J pre X → J pre (X.alloc o))
    (hY : ∀ pre x W, J pre W → pre.length < zs.length → YieldAt F (n - 1) Tryz.prog l (encR x) W fun e W' =>
      (e = .returned (.bool true) ∧ J (pre ++ [x]) W' ∧ StayX Cs W W') ∨ (e = .returned (.bool false) ∧ Jx (pre ++ [x]) W'))
    (W : World) (hC : ∀ k, Cs k → k < W.heap.size) (hBs : W.cell? ⟨Bs, 0, none⟩ = some (.slice a zs.length cap)) (hc : SlR W a zs) (h0 : J [] W) :
    CallsIn F n Tryz.prog 156 #[.func (.yield l) #[] #[], .pointer (some ⟨Bs, 0, none⟩)] W fun e W' => (∃ v, e = .returned v) ∧
      ((∃ ys : List (Int × Sm), ys.map (fun x => x.2.1) = zs ∧ J ys W') ∨ (∃ pre : List (Int × Sm), Front zs pre ∧ Jx pre W')) := by
  have HZ := hide hz
  have HY := hide hY
  have HCa := hide hCa
  have HW := hide (And.intro hBs hc)
  clear hz hY hCa hc
  refine callsIn_of_wp Tryz.func156 rfl hf ?_ hro
  simp only [Tryz.ntmps156, List.size_toArray, List.length_cons, List.length_nil, Nat.reduceAdd, Nat.reduceSub, Array.replicate_succ, Array.replicate_zero, List.push_toArray, List.append_toArray, List.nil_append, List.cons_append]
  gi_wp2
  gi_loopw [7] (fun iv wr => ∃ (k : Nat) (pre : List (Int × Sm)), iv = .int .i64 k ∧ k ≤ zs.length ∧ Hid (pre.map (fun x => x.2.1) = zs.take k ∧ pre.length = k) ∧ Hid (J pre wr) ∧ Hid (StayX Cs W wr)) (fun iv _ => zs.length - (intOf iv).toNat)
  case atStart => exact ⟨0, [], rfl, Nat.zero_le _, hide ⟨by simp, by simp⟩, hide h0, hide (StayX.refl _ _)⟩
  case round =>
    obtain ⟨k, pre, rfl, hk, HP, HJ, HK⟩ := hrel
    by_cases hi : k < zs.length
    · obtain ⟨b, o, rfl, s6⟩ := ((unhide HK).recs (unhide HW).2 (unhide HCa)) k hi
      have hba : StayX Cs wr (wr.alloc (.cells #[.int .i64 (rc zs k).k, .int .i64 (rc zs k).q, .int .i64 (rc zs k).t, .string (rc zs k).s, .string (rc zs k).h, .string (rc zs k).d] 30)) := ⟨by simp, fun i hi => Below.heap_alloc _ _ _ (by have := hC i hi; have := (unhide HK).1; omega)⟩
      obtain ⟨fn, tmps, assign, body, hy, hR⟩ := unhide HY pre ((k : Int), ⟨rc zs k, unhide HZ k hi⟩) (wr.alloc (.cells #[.int .i64 (rc zs k).k, .int .i64 (rc zs k).q, .int .i64 (rc zs k).t, .string (rc zs k).s, .string (rc zs k).h, .string (rc zs k).d] 30)) (hJa pre wr (.cells #[.int .i64 (rc zs k).k, .int .i64 (rc zs k).q, .int .i64 (rc zs k).t, .string (rc zs k).s, .string (rc zs k).h, .string (rc zs k).d] 30) (unhide HJ)) (by have := (unhide HP).2; omega)
      unfold encR at hy
      dsimp only at hy
      have HP2 : Hid ((pre ++ [((k : Int), (⟨rc zs k, unhide HZ k hi⟩ : Sm))]).map (fun x => x.2.1) = zs.take (k + 1) ∧ (pre ++ [((k : Int), (⟨rc zs k, unhide HZ k hi⟩ : Sm))]).length = k + 1) := hide ⟨by
        rw [List.map_append, (unhide HP).1, List.take_succ_eq_append_getElem hi]
        show _ ++ [rc zs k] = _
        rw [rc_get hi], by have := (unhide HP).2; simp; omega⟩
      obtain ⟨_, x0, x1, x2, x3, x4, x5⟩ := s6
      have HK2 := hide ((unhide HK).trans hba)
      clear HP HJ hba HK
      gi_wp2
      refine hR.mono ?_
      rintro e W3 (⟨rfl, hJ3, hk3⟩ | ⟨rfl, hJx3⟩)
      · have J3 := hide hJ3
        have K3 := hide ((unhide HK2).trans hk3)
        clear hJ3 hk3 hR hy x0 x1 x2 x3 x4 x5 HK2
        gi_wp2
        go_roundw
        case rel => exact ⟨k + 1, _, by go_num, by omega, HP2, J3, K3⟩
        case measure => first | (simp [intOf]; done) | (simp [intOf]; omega)
      · have J3 := hide hJx3
        clear hJx3 hR hy x0 x1 x2 x3 x4 x5 HK2
        gi_wp2
        refine bodyPost_ret (results_none rfl _ _ _) rfl ?_
        refine ⟨⟨_, rfl⟩, .inr ⟨_, ⟨zs.drop (k + 1), ?_⟩, unhide J3⟩⟩
        rw [(unhide HP2).1, List.take_append_drop]
    · obtain rfl : k = zs.length := by omega
      gi_wp2
      go_end0
      exact ⟨⟨_, rfl⟩, .inl ⟨_, by rw [(unhide HP).1, List.take_length], unhide HJ⟩⟩
theorem below_stay {w W : World} {Cs : Nat → Prop} (hW : Below w.heap.size w W) (hC : ∀ k, Cs k → k < w.heap.size) : StayX Cs w W := ⟨hW.size, fun k hk => hW.block k (hC k hk)⟩
/-- slices.All hands back a function that gives the records in their order -/
theorem allR_stops (F : Fence) (n : Nat) (hf : F.fn 156) (hro : F.round = none) (hn : 1 ≤ n) (Bs : Nat) (Cs : Nat → Prop) (a : Option Addr) (zs : List Rc) (cap : Nat) (hz : ∀ k, k < zs.length → Small (rc zs k)) (hlen : zs.length ≤ 1000) (hCB : Cs Bs) (hCa : ∀ z, a = some z → Cs z.block) (w : World) (hC : ∀ k, Cs k → k < w.heap.size)
    (hBs : w.cell? ⟨Bs, 0, none⟩ = some (.slice a zs.length cap)) (hc : SlR w a zs) :
    SeqStopsK F n Tryz.prog 156 #[.pointer (some ⟨Bs, 0, none⟩)] encR (StayX Cs) (fun ys => ys.map (fun x => x.2.1) = zs) (Front zs) zs.length w := fun l J Jx W hW hJ _ hY h0 => by
  have hk := below_stay hW hC
  exact allR_in F n hf hro hn l Bs Cs a zs cap hz hlen hCa J Jx (fun pre X o hX => hJ pre X _ none hX (World.grownBy_alloc X o none) (fun r e => by cases e)) hY W (fun k hk' => Nat.lt_of_lt_of_le (hC k hk') hW.size) ((hk.cell hCB).trans hBs) (hk.recs hc hCa) h0
end Go.Proofs.YtohjipnkoiifhagGreatDoor.Dk
