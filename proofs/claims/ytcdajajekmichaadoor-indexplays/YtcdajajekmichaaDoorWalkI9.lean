/-
  Contract of the document's Drop: the row is built anew of what stands ahead and what stands behind.
-/
import Derived.Test.YtcdajajekmichaaDoorWalkI8
import Derived.Deep.RegionLaw
namespace Go.Proofs.YtcdajajekmichaaDoor
open Go.RowKit

/-- an append whose run is known, as one step of a region that draws its order -/
theorem step_append_runI {P : Program} {ops : Array Oper} {o : Oper} {a : Act} {w : World} {K : Act → World → Prop} {Q : Exit → Act → World → Prop} {E : Prop}
    (hg : o.guard = none) (d x : Operand) (dT sT : TypeId) (hop : o.op = Op.call { callee := Callee.builtin Builtin.append, args := #[d, x], argTypes := #[dT, sT] })
    (v u : Value) (hd : a.eval d = v) (hx : a.eval x = u) {v' : Value} {w' : World} (hr : (Builtin.append_ #[dT, sT] o.type #[v, u]).run P w = .ok v' w') (hK : K (a.put o.dst v') w') :
    if Region.wanted o (yielded ops a.tmps) = true then Oper.wp P o a w K Q else E := by
  have hw : Region.wanted o (yielded ops a.tmps) = true := by simp [Region.wanted, hg]
  rw [if_pos hw]
  unfold Oper.wp
  simp [execOp, hop, resolve, invoke, builtin, hd, hx, hr, Result.andThen]
  exact hK

set_option maxHeartbeats 4000000 in
set_option maxRecDepth 100000 in
theorem rdrop_any (B p : Nat) (v : Value) (es : List Ent) (s : ByteArray) (w : World) (hk : Keeps w B p v es) (hg : Good es) (hs : s.size ≤ 140737488355328) (hB : B ≤ w.heap.size) :
    Calls Tryd.prog 22 #[.pointer (some ⟨p, 0, none⟩), .string s] w fun e w' => e = .returned (.int .i64 (seeE es s)) ∧ Upd w w' B p v (dropL es s) := by
  have Hk := hide hk
  have Hg := hide hg
  clear hk hg
  by_cases he : errS false s = 0
  · cases hh : hasAt es s with
    | true =>
      have Hd := hide (show dropL es s = delL es (place es s) by unfold dropL; rw [if_pos he, if_pos hh])
      have Hs := hide (show seeE es s = 0 by unfold seeE; rw [if_pos he, if_pos hh])
      have Ha := hide (show atI es s = (place es s : Int) by unfold atI; rw [if_pos hh])
      have h1 := (has_at hh).1
      have He := hide he
      obtain ⟨i, hq⟩ : ∃ q, place es s = q := ⟨_, rfl⟩
      rw [hq] at h1 Ha Hd
      clear he hh hq
      have h100 := (unhide Hg).2.1
      obtain ⟨g, c, rfl, c1, c2, c3, c4⟩ := (unhide Hk).arr.there (by omega)
      obtain ⟨m, hn⟩ : ∃ m, es.length = i + 1 + m := ⟨es.length - (i + 1), by omega⟩
      rw [hn] at Hk h1 h100 c1 ⊢
      unfold maxLen at c2
      go_enter Tryd.func22, Tryd.ntmps22
      go_wp2_with fail
      refine (rsubject_any s _ hs).mono ?_
      rintro e w1 ⟨rfl, hb1⟩
      rw [unhide He]
      go_wp2_with fail
      refine (at_any B p _ es s _ ((unhide Hk).below hb1) (unhide Hg)).mono ?_
      rintro e w2 ⟨rfl, hb2⟩
      rw [unhide Ha]
      have k2 := ((unhide Hk).below hb1).below hb2
      have Hb2 := hide (bstep hb1 hb2)
      clear hb1 hb2
      have d1 := k2.cell
      have d2 := k2.free
      have hB2 : B ≤ w2.drew.heap.size := by have := (unhide Hb2).size; show B ≤ w2.heap.size; omega
      have hcell : ∀ j u, (cel es)[j]? = some u → w2.cell? ⟨g, j, none⟩ = some u := by
        have := k2.arr
        rw [← hn] at this
        exact this.cell
      obtain ⟨v3, w3, hr3, a3, r3, b3⟩ := append_blk w2.drew B 33 (.slice none 0 0) [] (es.take i) (Arr.empty _ _) ⟨g, 0, none⟩ c (fun j u hj => by
        rw [Addr.add_lit, Nat.zero_add]
        refine hcell j u ?_
        rw [cel_take, List.getElem?_take] at hj
        split at hj
        · exact hj
        · cases hj) (by simp; omega) hB2
      have hl3 : (es.take i).length = i := by rw [List.length_take]; omega
      rw [hl3] at hr3
      rw [List.nil_append] at a3
      have q3 : Chg (fun _ => False) w2 w3 := by
        have q := Chg.of_grown r3
        exact ⟨q.os, q.tape, q.output, q.size, fun k hk _ => q.block k hk (by simp [Value.ownBlock])⟩
      have k3 := k2.chg q3 (fun _ _ h => h)
      have hcell3 : ∀ j u, (cel es)[j]? = some u → w3.cell? ⟨g, j, none⟩ = some u := by
        have := k3.arr
        rw [← hn] at this
        exact this.cell
      obtain ⟨A, hA, hsrc⟩ : ∃ A : Addr, (if c = i + 1 then some (⟨g, 0, none⟩ : Addr) else some ⟨g, (i + 1) * 2, none⟩) = some A ∧ Hid (∀ j u, (cel (es.drop (i + 1)))[j]? = some u → w3.cell? (A.add j) = some u) := by
        have hlen : (cel (es.drop (i + 1))).length = m * 2 := by rw [cel_length, List.length_drop, hn]; omega
        by_cases h : c = i + 1
        · refine ⟨⟨g, 0, none⟩, by simp [h], fun t u hu => ?_⟩
          have h0 : (cel (es.drop (i + 1))).length = 0 := by rw [hlen]; omega
          rw [List.length_eq_zero_iff.1 h0] at hu
          simp at hu
        · refine ⟨⟨g, (i + 1) * 2, none⟩, by simp [h], fun t u hu => ?_⟩
          rw [Addr.add_lit]
          refine hcell3 _ u ?_
          rw [cel_drop, List.getElem?_drop] at hu
          exact hu
      obtain ⟨v4, w4, hr4, a4, r4, b4⟩ := append_blk w3 B 33 v3 (es.take i) (es.drop (i + 1)) a3 A (c - (i + 1)) (unhide hsrc) (by rw [List.length_take, List.length_drop]; omega) (by have := q3.size; have : B ≤ w2.heap.size := hB2; omega)
      have hl4 : (es.drop (i + 1)).length = m := by rw [List.length_drop]; omega
      rw [hl4] at hr4
      have hv3 : ∀ k, v3.ownBlock = some k → w2.heap.size ≤ k := by
        intro k hk
        rcases b3 with q | q
        · rw [q] at hk; simp [Value.ownBlock] at hk
        · rw [q] at hk
          have : w2.heap.size = k := Option.some.inj hk
          omega
      have q4 : Chg (fun _ => False) w2 w4 := by
        have q := Chg.of_grown r4
        have z : Chg (fun k => v3.ownBlock = some k) w2 w4 := (q3.mono (fun _ _ h => h.elim)).trans q
        exact z.mono (fun k hk h => by have := hv3 k h; omega)
      have hv4 : ∀ k, v4.ownBlock = some k → w2.heap.size ≤ k := by
        intro k hk
        rcases b4 with q | q
        · exact hv3 k (by rw [← q]; exact hk)
        · rw [q] at hk
          have : w3.heap.size = k := Option.some.inj hk
          have := q3.size
          omega
      have k4 := k2.chg q4 (fun _ _ h => h)
      obtain ⟨a', cap', hv', _⟩ := a4.shape
      obtain ⟨L, hL⟩ : ∃ L, (es.take i ++ es.drop (i + 1)).length = L := ⟨_, rfl⟩
      rw [hL] at hv'
      subst hv'
      clear hL
      have HU := hide (Upd.store k2 (q4.mono (fun _ _ h => h.elim)) a4 (fun g' hg' => .inr (hv4 g' hg')))
      have s3 : w3.cell? ⟨p, 0, none⟩ = some (.slice (some ⟨g, 0, none⟩) (i + 1 + m) c) := k3.cell
      have s4 : w4.cell? ⟨p, 0, none⟩ = some (.slice (some ⟨g, 0, none⟩) (i + 1 + m) c) := k4.cell
      have s5 : w4.frozen? ⟨p, 0, none⟩ = false := k4.free
      have e0 : (0 : Int) ≤ (i : Int) + 1 := by omega
      have e1 : (i : Int) + 1 ≤ (i : Int) + 1 + (m : Int) := by omega
      have e2 : i ≤ c := by omega
      have e3 : (i : Int) ≤ (c : Int) := by omega
      have e4 : ((i : Int) + 1).toNat = i + 1 := by omega
      have e5 : IntKind.i64.wrap ((i : Int) + 1) = (i : Int) + 1 := by rw [IntKind.wrap_i64]; omega
      clear k2 k3 k4 a3 a4 r3 r4 b3 b4 q3 q4 hv3 hv4 hcell hcell3 hsrc hl3 hl4 c3 c4 hB2
      go_wp2_with fail
      go_region_law (first
        | (refine step_append_runI rfl _ _ 33 33 rfl (.slice none 0 0) (.slice (some ⟨g, 0, none⟩) i c) (by simp [Act.eval]) (by simp [Act.eval, Act.put]) hr3 ?_)
        | (refine step_append_runI rfl _ _ 33 33 rfl v3 (.slice (some A) m (c - (i + 1))) (by simp [Act.eval, Act.put]) (by simp [Act.eval, Act.put]) hr4 ?_))
      all_goals
        go_wp2
        go_ret
        refine ⟨ret_eq (unhide Hs), ?_⟩
        rw [unhide Hd]
        exact Upd.behind (unhide Hb2) (unhide HU)
    | false =>
      have Hd := hide (show dropL es s = es by unfold dropL; rw [if_pos he, hh]; simp)
      have Hs := hide (show seeE es s = 4 by unfold seeE; rw [if_pos he, hh]; simp)
      have Ha := hide (show atI es s = -1 by unfold atI; rw [hh]; simp)
      have He := hide he
      clear he hh
      go_enter Tryd.func22, Tryd.ntmps22
      go_wp2_with fail
      refine (rsubject_any s _ hs).mono ?_
      rintro e w1 ⟨rfl, hb1⟩
      rw [unhide He]
      go_wp2_with fail
      refine (at_any B p _ es s _ ((unhide Hk).below hb1) (unhide Hg)).mono ?_
      rintro e w2 ⟨rfl, hb2⟩
      rw [unhide Ha]
      go_wp2_with fail
      go_ret
      refine ⟨ret_eq (unhide Hs), ?_⟩
      rw [unhide Hd]
      exact Upd.same (unhide Hk) (bstep hb1 hb2)
  · have Hd := hide (show dropL es s = es by unfold dropL; rw [if_neg he])
    have Hs := hide (show seeE es s = errS false s by unfold seeE; rw [if_neg he])
    go_enter Tryd.func22, Tryd.ntmps22
    go_wp2_with fail
    refine (rsubject_any s _ hs).mono ?_
    rintro e w1 ⟨rfl, hb1⟩
    go_wp2_with fail
    go_ret
    refine ⟨ret_eq (unhide Hs), ?_⟩
    rw [unhide Hd]
    exact Upd.same (unhide Hk) hb1
end Go.Proofs.YtcdajajekmichaaDoor
