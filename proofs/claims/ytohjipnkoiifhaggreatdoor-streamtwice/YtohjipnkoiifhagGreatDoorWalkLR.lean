/-
  The program's log: files that are removed, the last one first, over what is asked of any disk.
-/
import Derived.Test.YtohjipnkoiifhagGreatDoorJointPlainSPlainR2PapGRowGPapNWorksGPapHWorksFRowBWalkC6RowY
import Derived.RangeFuncNested
import Derived.RangeFuncBound
import Derived.RangeFuncCalls
import Derived.RangeFuncLeaves
import Derived.Shelf.Abstract
import Derived.Shelf.RegionOpen
import Derived.WalkKit
import Derived.OwnWalkIn
import Derived.TacticsInMore
import Derived.LoopNIn
import Derived.LoopIn
namespace Go.Proofs.YtohjipnkoiifhagGreatDoor.Dk
open Go.RowKit Go.Shelf
attribute [local go_sem] Oper.semAt_some

/-- a number of 64 bits -/
abbrev Num := { n : Int // wf n }
theorem Kept.refl (Cs : Nat → Prop) (w : World) : Kept Cs w w := ⟨Nat.le_refl _, fun _ _ => rfl⟩
theorem Kept.trans {Cs : Nat → Prop} {a b c : World} (h : Kept Cs a b) (k : Kept Cs b c) : Kept Cs a c := ⟨Nat.le_trans h.1 k.1, fun i hi => (k.2 i hi).trans (h.2 i hi)⟩
theorem Kept.put {Cs : Nat → Prop} {w : World} (hC : ∀ k, Cs k → k < w.heap.size) (W : World) (l : Nat) (o o' : Obj) (hl : w.heap.size ≤ l) (h : W.heap[l]? = some o) : Kept Cs W (W.putObj l o') := by
  have hlt := (Array.getElem?_eq_some_iff.1 h).1
  have hg := grownBy_putObj' W l o'
  exact ⟨hg.size, fun k hk => by
    have := hC k hk
    exact hg.block k (by omega) (fun e => by have := Option.some.inj e; omega)⟩

set_option maxRecDepth 100000 in
set_option maxHeartbeats 2000000 in
theorem back1_in (F : Fence) (n : Nat) (hf : F.fn 114) (hro : F.round = none) (hn : 1 ≤ n) (l Bs : Nat) (Cs : Nat → Prop) (a : Option Addr) (zs : List Int) (cap : Nat) (hz : ∀ k, k < zs.length → wf (nth zs k)) (hlen : zs.length ≤ 1000) (hCB : Cs Bs) (hCa : ∀ z, a = some z → Cs z.block) (J Jx : List (Int × Num) → World → Prop)
    (hY : ∀ pre x W, J pre W → pre.length < zs.length → YieldAt F (n - 1) Tryz.prog l #[.int .i64 x.1, .int .i64 x.2.1] W fun e W' =>
      (e = .returned (.bool true) ∧ J (pre ++ [x]) W' ∧ Kept Cs W W') ∨ (e = .returned (.bool false) ∧ Jx (pre ++ [x]) W'))
    (W : World) (hBs : W.cell? ⟨Bs, 0, none⟩ = some (.slice a zs.length cap)) (hc : SlI W a zs) (h0 : J [] W) :
    CallsIn F n Tryz.prog 114 #[.func (.yield l) #[] #[], .pointer (some ⟨Bs, 0, none⟩)] W fun e W' => (∃ v, e = .returned v) ∧
      ((∃ ys : List (Int × Num), ys.map (fun x => x.2.1) = zs.reverse ∧ J ys W') ∨ (∃ pre : List (Int × Num), True ∧ Jx pre W')) := by
  have HZ := hide hz
  have HY := hide hY
  have HCa := hide hCa
  have HW := hide (And.intro hBs hc)
  clear hz hY hCa hc
  refine callsIn_of_wp Tryz.func114 rfl hf ?_ hro
  simp only [Tryz.ntmps114, List.size_toArray, List.length_cons, List.length_nil, Nat.reduceAdd, Nat.reduceSub, Array.replicate_succ, Array.replicate_zero, List.push_toArray, List.append_toArray, List.nil_append, List.cons_append]
  have hw0 : IntKind.i64.wrap ((zs.length : Int) - 1) = (zs.length : Int) - 1 := by rw [IntKind.wrap_i64]; omega
  gi_wp2
  gi_loopw [3] (fun iv wr => ∃ (k : Nat) (j : Int) (pre : List (Int × Num)), iv = .int .i64 j ∧ Hid (j = (k : Int) - 1) ∧ k ≤ zs.length ∧ Hid (pre.map (fun x => x.2.1) = (zs.drop k).reverse ∧ pre.length + k = zs.length) ∧ Hid (J pre wr) ∧ Hid (Kept Cs W wr)) (fun iv _ => (intOf iv + 1).toNat)
  case atStart => exact ⟨zs.length, _, [], rfl, hide (by first | rfl | exact hw0), Nat.le_refl _, hide ⟨by simp, by simp⟩, hide h0, hide (Kept.refl _ _)⟩
  case round =>
    obtain ⟨k, j, pre, rfl, hj, hk, HP, HJ, HK⟩ := hrel
    have hbs := ((unhide HK).cell (C := Bs) (j := 0) hCB).trans hBs
    by_cases hk0 : 0 < k
    · obtain ⟨i, rfl⟩ : ∃ i, k = i + 1 := ⟨k - 1, by omega⟩
      obtain rfl : j = (i : Int) := by have := unhide hj; omega
      have hi : i < zs.length := by omega
      have hi0 : (0 : Int) ≤ (i : Int) := by omega
      obtain ⟨b, o, rfl, hb, c1⟩ := ((unhide HK).nums (unhide HW).2 (unhide HCa)) i hi
      obtain ⟨fn, tmps, assign, body, hy, hR⟩ := unhide HY pre ((i : Int), ⟨nth zs i, unhide HZ i hi⟩) wr (unhide HJ) (by have := (unhide HP).2; omega)
      dsimp only at hy
      have HP2 : Hid ((pre ++ [((i : Int), (⟨nth zs i, unhide HZ i hi⟩ : Num))]).map (fun x => x.2.1) = (zs.drop i).reverse ∧ (pre ++ [((i : Int), (⟨nth zs i, unhide HZ i hi⟩ : Num))]).length + i = zs.length) := hide ⟨by
        have hnth : nth zs i = zs[i] := by unfold nth; rw [List.getElem?_eq_getElem hi]; rfl
        rw [List.map_append, (unhide HP).1, List.drop_eq_getElem_cons hi, List.reverse_cons]
        show _ ++ [nth zs i] = _
        rw [hnth], by have := (unhide HP).2; simp; omega⟩
      have hw1 : IntKind.i64.wrap ((i : Int) - 1) = (i : Int) - 1 := by rw [IntKind.wrap_i64]; omega
      clear HP HJ hj hk0 hb
      gi_wp2
      refine hR.mono ?_
      rintro e W3 (⟨rfl, hJ3, hk3⟩ | ⟨rfl, hJx3⟩)
      · have J3 := hide hJ3
        have K3 := hide ((unhide HK).trans hk3)
        clear hJ3 hk3 hR hy c1 hbs HK
        gi_wp2
        go_roundw
        case rel => exact ⟨i, _, _, rfl, hide (by first | rfl | exact hw1), by omega, HP2, J3, K3⟩
        case measure => first | (simp [intOf]; done) | (simp [intOf]; omega)
      · have J3 := hide hJx3
        clear hJx3 hR hy c1 hbs HK
        gi_wp2
        refine bodyPost_ret (results_none rfl _ _ _) rfl ?_
        exact ⟨⟨_, rfl⟩, .inr ⟨_, trivial, unhide J3⟩⟩
    · obtain rfl : k = 0 := by omega
      obtain rfl : j = -1 := by have := unhide hj; omega
      gi_wp2
      go_end0
      exact ⟨⟨_, rfl⟩, .inl ⟨_, by rw [(unhide HP).1]; rfl, unhide HJ⟩⟩

set_option maxHeartbeats 1000000 in
theorem back_in (F : Fence) (n : Nat) (hf : F.fn 81) (hro : F.round = none) (a : Option Addr) (len cap : Nat) (w : World) :
    CallsIn F n Tryz.prog 81 #[.slice a len cap] w fun e w' => e = .returned (.func (.func 114) #[] #[.pointer (some ⟨w.heap.size, 0, none⟩)]) ∧ w' = w.alloc (.cells #[.slice a len cap] 96) := by
  refine callsIn_of_wp Tryz.func81 rfl hf ?_ hro
  simp only [Tryz.ntmps81, List.size_toArray, List.length_cons, List.length_nil, Nat.reduceAdd, Nat.reduceSub, Array.replicate_succ, Array.replicate_zero, List.push_toArray, List.append_toArray, List.nil_append, List.cons_append]
  gi_wp2
  go_ret
  exact ⟨rfl, rfl⟩

/-- slices.Backward hands back a function that gives the numbers, the last one first -/
theorem back_stops (F : Fence) (n : Nat) (hf : F.fn 114) (hro : F.round = none) (hn : 1 ≤ n) (Bs : Nat) (Cs : Nat → Prop) (a : Option Addr) (zs : List Int) (cap : Nat) (hz : ∀ k, k < zs.length → wf (nth zs k)) (hlen : zs.length ≤ 1000) (hCB : Cs Bs) (hCa : ∀ z, a = some z → Cs z.block) (w : World) (hC : ∀ k, Cs k → k < w.heap.size)
    (hBs : w.cell? ⟨Bs, 0, none⟩ = some (.slice a zs.length cap)) (hc : SlI w a zs) :
    SeqStopsK F n Tryz.prog 114 #[.pointer (some ⟨Bs, 0, none⟩)] (fun x : Int × Num => #[Value.int .i64 x.1, Value.int .i64 x.2.1]) (Kept Cs) (fun ys => ys.map (fun x => x.2.1) = zs.reverse) (fun _ => True) zs.length w := fun l J Jx W hW _ _ hY h0 => by
  have hk : Kept Cs w W := ⟨hW.size, fun k hk => hW.block k (hC k hk)⟩
  exact back1_in F n hf hro hn l Bs Cs a zs cap hz hlen hCB hCa J Jx hY W ((hk.cell hCB).trans hBs) (hk.nums hc hCa) h0

/-- files that were removed so far -/
def remsL (es : List Pap) (pre : List (Int × Num)) : List Pap := pre.foldl (fun l x => remL l x.2.1) es
theorem remsL_snoc (es : List Pap) (pre : List (Int × Num)) (x : Int × Num) : remsL es (pre ++ [x]) = remL (remsL es pre) x.2.1 := by unfold remsL; rw [List.foldl_append]; rfl
theorem remsL_all (es : List Pap) (pre : List (Int × Num)) : remsL es pre = (pre.map (fun x => x.2.1)).foldl remL es := by unfold remsL; rw [List.foldl_map]
theorem Tidy.remsL {m : Int} {es : List Pap} (h : Tidy m es) (pre : List (Int × Num)) : Tidy m (Dk.remsL es pre) := by rw [remsL_all]; exact Tidy.rems _ h

theorem SlI.below' {w w' : World} {a : Option Addr} {l : List Int} {n : Nat} (h : SlI w a l) (hb : Below n w w') (hn : ∀ z, a = some z → z.block < n) : SlI w' a l := fun k hk => by
  obtain ⟨b, o, h1, h2, h3⟩ := h k hk
  exact ⟨b, o, h1, Nat.lt_of_lt_of_le h2 hb.size, by rw [hb.cell (p := ⟨b, o + k, none⟩) (hn ⟨b, o, none⟩ h1)]; exact h3⟩

set_option maxRecDepth 100000 in
set_option maxHeartbeats 2000000 in
theorem lremove_any {Has : World → Nat → Nat → (Nat → Prop) → Int → List Pap → Prop} {w : World} {B q : Nat} {F : Nat → Prop} {m : Int} {es : List Pap} (H : Works Has) (HS : Lists Has) (a : Option Addr) (zs : List Int) (cap : Nat) (hz : ∀ k, k < zs.length → wf (nth zs k)) (hlen : zs.length ≤ 1000) (hs : SlI w a zs) (ha : ∀ z, a = some z → z.block < w.heap.size ∧ ¬ F z.block) (h : Has w B q F m es) (ht : Tidy m es) (hm : m ≤ 65536) (hB : B ≤ w.heap.size) :
    Calls Tryz.prog 48 #[.pointer (some ⟨q, 0, none⟩), .slice a zs.length cap] w fun e w' => e = .returned (.tuple #[]) ∧ Has w' B q F m (zs.reverse.foldl remL es) ∧ Chg F w w' := by
  refine (callsIn_wide (n := 8)).1 ?_
  have HZ := hide hz
  have HH := hide h
  have HT := hide ht
  have HSl := hide hs
  have HA := hide ha
  clear hz h ht hs ha
  refine callsIn_of_wp_marks Tryz.func48 rfl trivial ?_ rfl
  simp only [Tryz.ntmps48, List.size_toArray, List.length_cons, List.length_nil, Nat.reduceAdd, Nat.reduceSub, Array.replicate_succ, Array.replicate_zero, List.push_toArray, List.append_toArray, List.nil_append, List.cons_append]
  have cB := back_in Fence.wide 7 trivial rfl a zs.length cap (w.alloc (.cells #[.pointer (some ⟨q, 0, none⟩)] 62))
  have hfB : Fence.wide.fn 81 := trivial
  gi_wp2_with (gi_at_call 81; refine cB.mono ?_; rintro e w' ⟨rfl, rfl⟩)
  clear cB
  obtain ⟨W0, hW0⟩ : ∃ W0, W0 = (w.alloc (.cells #[.pointer (some ⟨q, 0, none⟩)] 62)).alloc (.cells #[.slice a zs.length cap] 96) := ⟨_, rfl⟩
  have hs0 : W0.heap.size = w.heap.size + 2 := by rw [hW0]; simp
  have hb0 : Below w.heap.size w W0 := by rw [hW0]; exact ((Below.refl _ _).alloc (Nat.le_refl _) _).alloc (by simp) _
  have hown : ∀ k, F k → k < w.heap.size := fun k hk => (H.own (unhide HH) k hk).2
  have c0 : W0.cell? ⟨w.heap.size, 0, none⟩ = some (.pointer (some ⟨q, 0, none⟩)) := by
    rw [hW0, World.cell?_alloc_lt _ _ _ (by simp), cell_of_row _ w.heap.size 0 _ _ _ (heap_alloc_new w _)]; rfl
  have c1 : W0.cell? ⟨w.heap.size + 1, 0, none⟩ = some (.slice a zs.length cap) := by
    have := cell_of_row ((w.alloc (.cells #[.pointer (some ⟨q, 0, none⟩)] 62)).alloc (.cells #[.slice a zs.length cap] 96)) (w.alloc (.cells #[.pointer (some ⟨q, 0, none⟩)] 62)).heap.size 0 _ _ _ (heap_alloc_new _ _)
    rw [World.size_alloc] at this
    rw [hW0, this]; rfl
  have hst : SeqStopsK Fence.wide 7 Tryz.prog 114 #[.pointer (some ⟨w.heap.size + 1, 0, none⟩)] (fun x : Int × Num => #[Value.int .i64 x.1, Value.int .i64 x.2.1]) (Kept (fun k => k = w.heap.size + 1 ∨ ∃ z, a = some z ∧ z.block = k)) (fun ys => ys.map (fun x => x.2.1) = zs.reverse) (fun _ => True) zs.length W0 :=
    back_stops Fence.wide 7 trivial rfl (by omega) (w.heap.size + 1) _ a zs cap (unhide HZ) hlen (.inl rfl) (fun z hz => .inr ⟨z, hz, rfl⟩) W0 (fun k hk => by
      rcases hk with rfl | ⟨z, hz, rfl⟩
      · omega
      · have := (unhide HA z hz).1; omega) c1 ((unhide HSl).below' hb0 (fun z hz => (unhide HA z hz).1))
  have hI : OwnFrom W0.heap.size (fun (pre : List (Int × Num)) W => Has W B q F m (remsL es pre) ∧ Chg F W0 W) := fun s X Y row hs hg hr => by
    refine ⟨H.chg (A := fun k => row = some k) hs.1 (Chg.of_grown hg) (fun k hk z => ?_), chg_more hs.2 (Chg.of_grown hg) (fun i hi z => ?_)⟩
    · have := (hr k z).1; have := hown k hk; omega
    · have := (hr i z).1; omega
  have hfR : Fence.wide.fn 82 := trivial
  rw [← hW0]
  refine wpIn_rangeFunc_ownG rfl (by omega) (gf := 114) (lb := #[.pointer (some ⟨w.heap.size + 1, 0, none⟩)]) (by rfl) trivial (enters_of Tryz.func114 (by kernel_rfl) rfl)
    hst (fun h k => h.trans k) (fun W l o o' hl h _ _ => Kept.put (fun k hk => by
      rcases hk with rfl | ⟨z, hz, rfl⟩
      · omega
      · have := (unhide HA z hz).1; omega) W l o o' hl h) (Below.refl _ _) (fun _ => rfl)
    (fun pre W => Has W B q F m (remsL es pre) ∧ Chg F W0 W)
    (fun _ _ _ => False)
    hI (fun _ _ _ _ _ hs _ _ => hs)
    ⟨H.chg (A := fun _ => False) (unhide HH) (Chg.of_below hb0) (fun _ _ z => z), Chg.refl _ _⟩
    (fun x => { tmps := #[.pointer (some ⟨q, 0, none⟩), .slice a zs.length cap, .pointer (some ⟨w.heap.size, 0, none⟩), undef, undef, .int .i64 x.2.1, .slice a zs.length cap, .func (.func 114) #[] #[.pointer (some ⟨w.heap.size + 1, 0, none⟩)], .int .i64 x.1, .int .i64 x.2.1, undef, undef, undef], defers := [] }) ?assign ?body ?done ?stop
  case assign =>
    intro l x W K hK
    gi_wp2
    exact hK
  case body =>
    rintro l pre x W ⟨hh, hc⟩ _
    have d0 : W.cell? ⟨w.heap.size, 0, none⟩ = some (.pointer (some ⟨q, 0, none⟩)) := by
      rw [hc.cell (p := ⟨w.heap.size, 0, none⟩) (by simp only; omega) (fun z => by have := hown _ z; simp at this)]; exact c0
    have PR := hide (HS.drops x.2.1 x.2.2 hh ((unhide HT).remsL pre) hm (Nat.le_trans hB (Nat.le_trans hb0.size hc.size)))
    have HCh := hide hc
    clear hh hc
    gi_wp2_with (gi_at_call 82; refine (CallsIn.inRound l (callsIn_wide.2 (unhide PR))).mono ?_; rintro e w2 ⟨rfl, h2, ch2⟩)
    have hsz := (unhide HCh).size
    refine ⟨⟨ch2.size, fun k o hk hko _ => (ch2.block k (Array.getElem?_eq_some_iff.1 hko).1 (fun z => by have := hown k z; omega)).trans hko⟩, ⟨ch2.size, fun k hk => ?_⟩, by rw [remsL_snoc]; exact h2, (unhide HCh).trans ch2⟩
    rcases hk with rfl | ⟨z, hz, rfl⟩
    · exact ch2.block _ (by omega) (fun y => by have := hown _ y; omega)
    · exact ch2.block _ (by have := (unhide HA z hz).1; omega) (unhide HA z hz).2
  case done =>
    rintro D ys W hD hS ⟨hh, hc⟩ hK
    have HF : Hid (Has (W.putObj D (.deferred none)) B q F m (zs.reverse.foldl remL es) ∧ Chg F w (W.putObj D (.deferred none))) := hide (by
      obtain ⟨x1, x2⟩ := hI ys W (W.putObj D (.deferred none)) (some D) ⟨hh, hc⟩ (grownBy_putObj' W D _) (fun r e => by cases e; exact ⟨hD, _, hK, rfl⟩)
      rw [remsL_all, hS] at x1
      exact ⟨x1, (Chg.of_below hb0).trans x2⟩)
    clear hh hc hS
    gi_wp2
    refine ⟨by simp, .inl ⟨_, _, rfl, run_takeDeferred hK, ?_⟩⟩
    exact ⟨_, results_none rfl _ _ _, rfl, unhide HF⟩
  case stop =>
    rintro D c pre W _ _ h _
    exact h.elim
end Go.Proofs.YtohjipnkoiifhagGreatDoor.Dk
