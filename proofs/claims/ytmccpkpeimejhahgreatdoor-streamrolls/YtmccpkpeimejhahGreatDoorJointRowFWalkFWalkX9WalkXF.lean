/-
  The entries that a filter takes, one by one. No walk.
  Contract of index.Find: the entries that the filter takes, in the order of the index.
  The program's store: Subjects.
  Going through records by slices.Backward and slices.All, as a range over a function does.
-/
import Derived.Test.YtmccpkpeimejhahGreatDoorJointWalkSplitWalk2Plain2Plain5
import Derived.Test.YtmccpkpeimejhahGreatDoorJointWalkI3WalkI4WalkI5RowX
import Derived.Test.YtmccpkpeimejhahGreatDoorJointWalkY1Walk5aWalk5WalkY2
import Derived.Test.YtmccpkpeimejhahGreatDoorJointWalkX6WalkX7WalkX8WalkX9a
import Derived.Test.YtmccpkpeimejhahGreatDoorJointPapWRowEWalkI1WalkI2
import Derived.Test.YtmccpkpeimejhahGreatDoorJointRowGPapNWorksGPapH
import Derived.RangeFuncNested
import Derived.RangeFuncBound
import Derived.RangeFuncCalls
import Derived.RangeFuncLeaves
import Derived.Shelf.Abstract
import Derived.Shelf.RegionOpen
import Derived.WalkKit
import Derived.OwnWalkIn
import Derived.TacticsInMore
import Derived.LoopNIn
import Derived.LoopIn
namespace Go.Proofs.YtmccpkpeimejhahGreatDoor
open Go.RowKit

theorem find_succ (es : List Ent) (f : ByteArray) (k : Nat) (hk : k < es.length) : findL (es.take (k + 1)) f = findL (es.take k) f ++ (if matchB f (en es k).1 then [en es k] else []) := by
  unfold findL
  rw [List.take_succ_eq_append_getElem hk, List.filter_append, ← en_get hk]
  cases h : matchB f (en es k).1 <;> simp [h]
theorem find_len (es : List Ent) (f : ByteArray) (k : Nat) : (findL (es.take k) f).length ≤ es.length := by
  unfold findL
  exact Nat.le_trans (List.length_filter_le _ _) (by rw [List.length_take]; omega)
theorem ret_ve {v : Value} {a b : Int} (h : b = a) : Ending.returned (.tuple #[v, .int .i64 a]) = .returned (.tuple #[v, .int .i64 b]) := by rw [h]
theorem two_row (w : World) (x : Ent) : ∀ j u, (cel [x])[j]? = some u → (w.alloc (.cells #[.string x.1, .int .i64 x.2] 130)).cell? ((⟨w.heap.size, 0, none⟩ : Addr).add j) = some u := by
  intro j u hj
  rw [Addr.add_lit, Nat.zero_add]
  exact (one_row (heap_alloc_new w _)).1 j u hj
end Go.Proofs.YtmccpkpeimejhahGreatDoor

namespace Go.Proofs.YtmccpkpeimejhahGreatDoor
open Go.RowKit

set_option maxHeartbeats 2000000 in
theorem find_any {o : Nat} (B p : Nat) (v : Value) (es : List Ent) (f : ByteArray) (w : World) (hk : KeepsO o w B p v es) (hg : Good es) (hs : f.size ≤ 140737488355328) :
    Calls Tryz.prog 106 #[.pointer (some ⟨p, o, none⟩), .string f] w fun e w' => ∃ v', e = .returned (.tuple #[v', .int .i64 (errS true f)]) ∧ Arr w' w.heap.size v' (if errS true f = 0 then findL es f else []) ∧ Below w.heap.size w w' := by
  have Hk := hide hk
  have Hg := hide hg
  clear hk hg
  by_cases he : errS true f = 0
  · rw [if_pos he]
    have h100 := (unhide Hg).2.1
    have He := hide he
    clear he
    obtain ⟨a, cap, rfl, c1, c2, c3⟩ := (unhide Hk).arr.shape
    clear c3 c2
    go_enter Tryz.func106, Tryz.ntmps106
    go_wp2_with fail
    refine (filter_any f _ hs).mono ?_
    rintro e w1 ⟨rfl, hb1⟩
    rw [unhide He]
    have k1 := (unhide Hk).below hb1
    have d0 := k1.cell
    have K1 := hide k1
    have Hb1 := hide hb1
    clear hb1 k1
    go_wp2_with fail
    clear d0
    go_loopw [7, 22] (fun ov kv wr => ∃ (k : Nat), kv = .int .i64 k ∧ k ≤ es.length ∧ Hid (Arr wr w.heap.size ov (findL (es.take k) f)) ∧ Hid (KeepsO o wr B p (.slice a es.length cap) es) ∧ Hid (Below w.heap.size w wr)) (fun _ kv _ => es.length - (intOf kv).toNat)
    case atStart => exact ⟨0, rfl, Nat.zero_le _, hide (Arr.empty _ _), K1, Hb1⟩
    case round =>
      obtain ⟨k, rfl, hkl, A3, K3, Hb3⟩ := hrel
      obtain ⟨ao, co, rfl, _⟩ := (unhide A3).shape
      by_cases hlt : k < es.length
      · obtain ⟨g, cap', e0, f1, f2, f3, f4⟩ := (unhide K3).arr.there (by omega)
        obtain ⟨rfl, _, rfl⟩ := Value.slice.inj e0
        clear e0
        have d2 := (unhide K3).arr.text hlt
        have d3 := (unhide K3).arr.num hlt
        obtain ⟨g1, g2⟩ := (unhide Hg).2.2 (en es k) (en_mem hlt)
        have Hs := hide (find_succ es f k hlt)
        have Hl := hide (find_len es f k)
        have hb0 : Below wr.heap.size wr (wr.alloc (.cells #[.string (en es k).1, .int .i64 (en es k).2] 130)) := (Below.refl _ _).alloc (Nat.le_refl _) _
        have Hb0 := hide hb0
        clear hb0
        go_wp2_with fail
        refine (match_any f (en es k).1 _ hs g2).mono ?_
        rintro e w5 ⟨rfl, b5⟩
        have r0 := one_row (heap_alloc_new wr (.cells #[.string (en es k).1, .int .i64 (en es k).2] 130))
        have d4 : w5.cell? ⟨wr.heap.size, 0, none⟩ = some (.string (en es k).1) := by rw [b5.cell (p := ⟨wr.heap.size, 0, none⟩) (by simp)]; exact r0.1 0 _ rfl
        have d5 : w5.cell? ⟨wr.heap.size, 1, none⟩ = some (.int .i64 (en es k).2) := by rw [b5.cell (p := ⟨wr.heap.size, 1, none⟩) (by simp)]; exact r0.1 1 _ rfl
        have K5 := ((unhide K3).below (unhide Hb0)).below b5
        have A5 := ((unhide A3).below (unhide Hb0)).below b5
        have Hb5 := hide (bstep (bstep (unhide Hb3) (unhide Hb0)) b5)
        clear d2 d3 r0
        cases hm : matchB f (en es k).1 with
        | true =>
          have Hm := hide hm
          have K5' := hide K5
          have A5' := hide A5
          clear hm K5 A5
          go_wp2_with fail
          refine (copyE_any (en es k).1 (en es k).2 _ g2).mono ?_
          rintro e w6 ⟨rfl, b6⟩
          have K6 := (unhide K5').below b6
          have A6 := (unhide A5').below b6
          have Hb6 := hide (bstep (unhide Hb5) b6)
          clear K5' A5' Hb5 b5 d4 d5
          have hb6 : Below w6.heap.size w6 (w6.alloc (.cells #[.string (en es k).1, .int .i64 (en es k).2] 130)) := (Below.refl _ _).alloc (Nat.le_refl _) _
          obtain ⟨v', w', hr, r1, r2, r3⟩ := append_blk _ w.heap.size 70 _ _ [en es k] (A6.below hb6) ⟨w6.heap.size, 0, none⟩ 1 (two_row w6 (en es k)) (by have := unhide Hl; simp; omega) (by have := (unhide Hb6).size; have := hb6.size; omega)
          have hown : ∀ k2, (Value.slice ao (findL (es.take k) f).length co).ownBlock = some k2 → w.heap.size ≤ k2 := fun k2 h2 => (A6.lt k2 h2).1
          have r2' := Chg.of_grown r2
          have hb7 : Below w.heap.size _ w' := r2'.below (by have := (unhide Hb6).size; have := hb6.size; omega) (fun k2 h2 h3 => by have := hown k2 h3; omega)
          have K7 := hide ((K6.below hb6).chg r2' (fun k2 h2 h3 => by
            have q1 := hown k2 h3
            rcases h2 with h2 | h2
            · have := (unhide Hk).lt; omega
            · have := ((unhide Hk).arr.lt k2 h2).2; omega))
          have Hb7 := hide ((bstep (unhide Hb6) hb6).trans hb7)
          have A7 : Hid (Arr w' w.heap.size v' (findL (es.take (k + 1)) f)) := hide (by rw [unhide Hs, unhide Hm, if_pos rfl]; exact r1)
          clear hb6 b6 K6 A6 r1 r2 r2' r3 hb7 hown
          go_wp2_with (at_builtin; refine Lib.wpList_append_run _ rfl _ _ _ _ rfl _ _ rfl rfl _ _ hr ?_)
          refine ⟨⟨k + 1, by go_num, by omega, A7, K7, Hb7⟩, ?_⟩
          simp [intOf]; omega
        | false =>
          have A7 : Hid (Arr w5 w.heap.size (.slice ao (findL (es.take k) f).length co) (findL (es.take (k + 1)) f)) := hide (by rw [unhide Hs, hm, if_neg (by simp), List.append_nil]; exact A5)
          have K7 := hide K5
          clear hm K5 A5
          go_wp2_with fail
          refine ⟨⟨k + 1, by go_num, by omega, A7, K7, Hb5⟩, ?_⟩
          simp [intOf]; omega
      · go_wp2_with fail
        go_ret2
        refine ⟨_, ret_ve (unhide He), ?_, unhide Hb3⟩
        have := unhide A3
        rw [List.take_of_length_le (by omega)] at this
        rw [List.take_of_length_le (by omega)]
        exact this
  · rw [if_neg he]
    go_enter Tryz.func106, Tryz.ntmps106
    go_wp2_with fail
    refine (filter_any f _ hs).mono ?_
    rintro e w1 ⟨rfl, hb1⟩
    go_wp2_with fail
    go_ret2
    exact ⟨_, rfl, Arr.empty _ _, hb1⟩

end Go.Proofs.YtmccpkpeimejhahGreatDoor

namespace Go.Proofs.YtmccpkpeimejhahGreatDoor.Dk
open Go.RowKit

set_option maxHeartbeats 400000 in
theorem ssub_any {w : World} {B q : Nat} {v u : Value} {l : List Rc} {es : List Ent} {last : Int} (f : ByteArray) (hf : f.size ≤ 140737488355328) (h : Sho w B q v u l es last) (hg : Good es) :
    Calls Tryz.prog 75 #[.pointer (some ⟨q, 0, none⟩), .string f] w fun e w' => ∃ v', e = .returned (.tuple #[v', .int .i64 (errS true f)]) ∧ Arr w' w.heap.size v' (foundL es f) ∧ Below w.heap.size w w' := by
  go_enter Tryz.func75, Tryz.ntmps75
  go_wp2_with fail
  refine (find_any B q u es f _ h.keeps hg hf).mono ?_
  rintro e w1 ⟨v', rfl, a1, b1⟩
  go_wp2_with fail
  go_ret2
  exact ⟨v', rfl, a1, b1⟩
end Go.Proofs.YtmccpkpeimejhahGreatDoor.Dk

namespace Go.Proofs.YtmccpkpeimejhahGreatDoor.Dk
open Go.RowKit Go.Shelf
attribute [local go_sem] Oper.semAt_some

/-- a record whose texts can be -/
abbrev Sm := { r : Rc // Small r }
def encR (x : Int × Sm) : Array Value := #[.int .i64 x.1, .agg #[.int .i64 x.2.1.k, .int .i64 x.2.1.q, .int .i64 x.2.1.t, .string x.2.1.s, .string x.2.1.h, .string x.2.1.d]]
/-- blocks that stay as they are -/
def StayX (Cs : Nat → Prop) (w w' : World) : Prop := w.heap.size ≤ w'.heap.size ∧ ∀ k, Cs k → w'.heap[k]? = w.heap[k]?
theorem StayX.refl (Cs : Nat → Prop) (w : World) : StayX Cs w w := ⟨Nat.le_refl _, fun _ _ => rfl⟩
theorem StayX.trans {Cs : Nat → Prop} {a b c : World} (h : StayX Cs a b) (k : StayX Cs b c) : StayX Cs a c := ⟨Nat.le_trans h.1 k.1, fun i hi => (k.2 i hi).trans (h.2 i hi)⟩
theorem StayX.cell {Cs : Nat → Prop} {w w' : World} (h : StayX Cs w w') {C j : Nat} (hC : Cs C) : w'.cell? ⟨C, j, none⟩ = w.cell? ⟨C, j, none⟩ := World.cell?_of_block (w := w) (h.2 C hC)
theorem StayX.six {Cs : Nat → Prop} {w w' : World} (h : StayX Cs w w') {b o : Nat} {r : Rc} (hC : Cs b) (s : Six w b o r) : Six w' b o r :=
  ⟨Nat.lt_of_lt_of_le s.lt h.1, (h.cell hC).trans s.c0, (h.cell hC).trans s.c1, (h.cell hC).trans s.c2, (h.cell hC).trans s.c3, (h.cell hC).trans s.c4, (h.cell hC).trans s.c5⟩
theorem StayX.recs {Cs : Nat → Prop} {w w' : World} (h : StayX Cs w w') {a : Option Addr} {l : List Rc} (s : SlR w a l) (hC : ∀ z, a = some z → Cs z.block) : SlR w' a l := fun k hk => by
  obtain ⟨b, o, e, s6⟩ := s k hk
  exact ⟨b, o, e, h.six (hC _ e) s6⟩
theorem StayX.put {Cs : Nat → Prop} {w : World} (hC : ∀ k, Cs k → k < w.heap.size) (W : World) (l : Nat) (o o' : Obj) (hl : w.heap.size ≤ l) (h : W.heap[l]? = some o) : StayX Cs W (W.putObj l o') := by
  have hlt := (Array.getElem?_eq_some_iff.1 h).1
  have hg := grownBy_putObj' W l o'
  exact ⟨hg.size, fun k hk => by
    have := hC k hk
    exact hg.block k (by omega) (fun e => by have := Option.some.inj e; omega)⟩
/-- a front of a list -/
def Front (zs : List Rc) (pre : List (Int × Sm)) : Prop := ∃ t, zs = pre.map (fun x => x.2.1) ++ t

set_option maxRecDepth 100000 in
set_option maxHeartbeats 2000000 in
theorem allR_in (F : Fence) (n : Nat) (hf : F.fn 110) (hro : F.round = none) (hn : 1 ≤ n) (l Bs : Nat) (Cs : Nat → Prop) (a : Option Addr) (zs : List Rc) (cap : Nat) (hz : ∀ k, k < zs.length → Small (rc zs k)) (hlen : zs.length ≤ 1000) (hCa : ∀ z, a = some z → Cs z.block) (J Jx : List (Int × Sm) → World → Prop) (hJa : ∀ pre X o, J pre X → J pre (X.alloc o))
    (hY : ∀ pre x W, J pre W → pre.length < zs.length → YieldAt F (n - 1) Tryz.prog l (encR x) W fun e W' =>
      (e = .returned (.bool true) ∧ J (pre ++ [x]) W' ∧ StayX Cs W W') ∨ (e = .returned (.bool false) ∧ Jx (pre ++ [x]) W'))
    (W : World) (hC : ∀ k, Cs k → k < W.heap.size) (hBs : W.cell? ⟨Bs, 0, none⟩ = some (.slice a zs.length cap)) (hc : SlR W a zs) (h0 : J [] W) :
    CallsIn F n Tryz.prog 110 #[.func (.yield l) #[] #[], .pointer (some ⟨Bs, 0, none⟩)] W fun e W' => (∃ v, e = .returned v) ∧
      ((∃ ys : List (Int × Sm), ys.map (fun x => x.2.1) = zs ∧ J ys W') ∨ (∃ pre : List (Int × Sm), Front zs pre ∧ Jx pre W')) := by
  have HZ := hide hz
  have HY := hide hY
  have HCa := hide hCa
  have HW := hide (And.intro hBs hc)
  clear hz hY hCa hc
  refine callsIn_of_wp Tryz.func110 rfl hf ?_ hro
  simp only [Tryz.ntmps110, List.size_toArray, List.length_cons, List.length_nil, Nat.reduceAdd, Nat.reduceSub, Array.replicate_succ, Array.replicate_zero, List.push_toArray, List.append_toArray, List.nil_append, List.cons_append]
  gi_wp2
  gi_loopw [7] (fun iv wr => ∃ (k : Nat) (pre : List (Int × Sm)), iv = .int .i64 k ∧ k ≤ zs.length ∧ Hid (pre.map (fun x => x.2.1) = zs.take k ∧ pre.length = k) ∧ Hid (J pre wr) ∧ Hid (StayX Cs W wr)) (fun iv _ => zs.length - (intOf iv).toNat)
  case atStart => exact ⟨0, [], rfl, Nat.zero_le _, hide ⟨by simp, by simp⟩, hide h0, hide (StayX.refl _ _)⟩
  case round =>
    obtain ⟨k, pre, rfl, hk, HP, HJ, HK⟩ := hrel
    by_cases hi : k < zs.length
    · obtain ⟨b, o, rfl, s6⟩ := ((unhide HK).recs (unhide HW).2 (unhide HCa)) k hi
      have hba : StayX Cs wr (wr.alloc (.cells #[.int .i64 (rc zs k).k, .int .i64 (rc zs k).q, .int .i64 (rc zs k).t, .string (rc zs k).s, .string (rc zs k).h, .string (rc zs k).d] 42)) := ⟨by simp, fun i hi => Below.heap_alloc _ _ _ (by have := hC i hi; have := (unhide HK).1; omega)⟩
      obtain ⟨fn, tmps, assign, body, hy, hR⟩ := unhide HY pre ((k : Int), ⟨rc zs k, unhide HZ k hi⟩) (wr.alloc (.cells #[.int .i64 (rc zs k).k, .int .i64 (rc zs k).q, .int .i64 (rc zs k).t, .string (rc zs k).s, .string (rc zs k).h, .string (rc zs k).d] 42)) (hJa pre wr (.cells #[.int .i64 (rc zs k).k, .int .i64 (rc zs k).q, .int .i64 (rc zs k).t, .string (rc zs k).s, .string (rc zs k).h, .string (rc zs k).d] 42) (unhide HJ)) (by have := (unhide HP).2; omega)
      unfold encR at hy
      dsimp only at hy
      have HP2 : Hid ((pre ++ [((k : Int), (⟨rc zs k, unhide HZ k hi⟩ : Sm))]).map (fun x => x.2.1) = zs.take (k + 1) ∧ (pre ++ [((k : Int), (⟨rc zs k, unhide HZ k hi⟩ : Sm))]).length = k + 1) := hide ⟨by
        rw [List.map_append, (unhide HP).1, List.take_succ_eq_append_getElem hi]
        show _ ++ [rc zs k] = _
        rw [rc_get hi], by have := (unhide HP).2; simp; omega⟩
      obtain ⟨_, x0, x1, x2, x3, x4, x5⟩ := s6
      have HK2 := hide ((unhide HK).trans hba)
      clear HP HJ hba HK
      gi_wp2
      refine hR.mono ?_
      rintro e W3 (⟨rfl, hJ3, hk3⟩ | ⟨rfl, hJx3⟩)
      · have J3 := hide hJ3
        have K3 := hide ((unhide HK2).trans hk3)
        clear hJ3 hk3 hR hy x0 x1 x2 x3 x4 x5 HK2
        gi_wp2
        go_roundw
        case rel => exact ⟨k + 1, _, by go_num, by omega, HP2, J3, K3⟩
        case measure => first | (simp [intOf]; done) | (simp [intOf]; omega)
      · have J3 := hide hJx3
        clear hJx3 hR hy x0 x1 x2 x3 x4 x5 HK2
        gi_wp2
        refine bodyPost_ret (results_none rfl _ _ _) rfl ?_
        refine ⟨⟨_, rfl⟩, .inr ⟨_, ⟨zs.drop (k + 1), ?_⟩, unhide J3⟩⟩
        rw [(unhide HP2).1, List.take_append_drop]
    · obtain rfl : k = zs.length := by omega
      gi_wp2
      go_end0
      exact ⟨⟨_, rfl⟩, .inl ⟨_, by rw [(unhide HP).1, List.take_length], unhide HJ⟩⟩
theorem below_stay {w W : World} {Cs : Nat → Prop} (hW : Below w.heap.size w W) (hC : ∀ k, Cs k → k < w.heap.size) : StayX Cs w W := ⟨hW.size, fun k hk => hW.block k (hC k hk)⟩
/-- slices.All hands back a function that gives the records in their order -/
theorem allR_stops (F : Fence) (n : Nat) (hf : F.fn 110) (hro : F.round = none) (hn : 1 ≤ n) (Bs : Nat) (Cs : Nat → Prop) (a : Option Addr) (zs : List Rc) (cap : Nat) (hz : ∀ k, k < zs.length → Small (rc zs k)) (hlen : zs.length ≤ 1000) (hCB : Cs Bs) (hCa : ∀ z, a = some z → Cs z.block) (w : World) (hC : ∀ k, Cs k → k < w.heap.size)
    (hBs : w.cell? ⟨Bs, 0, none⟩ = some (.slice a zs.length cap)) (hc : SlR w a zs) :
    SeqStopsK F n Tryz.prog 110 #[.pointer (some ⟨Bs, 0, none⟩)] encR (StayX Cs) (fun ys => ys.map (fun x => x.2.1) = zs) (Front zs) zs.length w := fun l J Jx W hW hJ _ hY h0 => by
  have hk := below_stay hW hC
  exact allR_in F n hf hro hn l Bs Cs a zs cap hz hlen hCa J Jx (fun pre X o hX => hJ pre X _ none hX (World.grownBy_alloc X o none) (fun r e => by cases e)) hY W (fun k hk' => Nat.lt_of_lt_of_le (hC k hk') hW.size) ((hk.cell hCB).trans hBs) (hk.recs hc hCa) h0
end Go.Proofs.YtmccpkpeimejhahGreatDoor.Dk
