/-
  Contract of the document's disk: Drawer.Remove: the row is built anew of what stands ahead and what stands behind.
-/
import Derived.Test.YtbejicpfhnfnfabWalkP5
import Derived.Deep.RegionLaw
namespace Go.Proofs.Ytbejicpfhnfnfab.Dk
open Go.RowKit

/-- an append whose run is known, as one step of a region that draws its order -/
theorem step_append_run {P : Program} {ops : Array Oper} {o : Oper} {a : Act} {w : World} {K : Act → World → Prop} {Q : Exit → Act → World → Prop} {E : Prop}
    (hg : o.guard = none) (d x : Operand) (dT sT : TypeId) (hop : o.op = Op.call { callee := Callee.builtin Builtin.append, args := #[d, x], argTypes := #[dT, sT] })
    (v u : Value) (hd : a.eval d = v) (hx : a.eval x = u) {v' : Value} {w' : World} (hr : (Builtin.append_ #[dT, sT] o.type #[v, u]).run P w = .ok v' w') (hK : K (a.put o.dst v') w') :
    if Region.wanted o (yielded ops a.tmps) = true then Oper.wp P o a w K Q else E := by
  have hw : Region.wanted o (yielded ops a.tmps) = true := by simp [Region.wanted, hg]
  rw [if_pos hw]
  unfold Oper.wp
  simp [execOp, hop, resolve, invoke, builtin, hd, hx, hr, Result.andThen]
  exact hK

theorem Upd.store {w w' : World} {B p : Nat} {m : Int} {v v' : Value} {es es' : List Pap} (h : Keeps w B p m v es) (hb : Chg (fun k => v.ownBlock = some k) w w') (ha : Arr w' B v' es') (hv : ∀ g, v'.ownBlock = some g → v.ownBlock = some g ∨ w.heap.size ≤ g) : Upd w (w'.setCell ⟨p, 1, none⟩ v') B p m v es' := by
  obtain ⟨h1, h2⟩ := h.store hb ha hv
  exact ⟨v', h1, h2, hv⟩
set_option maxHeartbeats 4000000 in
set_option maxRecDepth 100000 in
theorem remove_any (B p : Nat) (r : Int) (v : Value) (es : List Pap) (n : Int) (w : World) (hk : Keeps w B p r v es) (h100 : es.length ≤ 100) (hB : B ≤ w.heap.size) :
    Calls Try.prog 16 #[.pointer (some ⟨p, 0, none⟩), .int .i64 n] w fun e w' => e = .returned (.int .i64 (hasE es n)) ∧ Upd w w' B p r v (remL es n) := by
  have Hk := hide hk
  clear hk
  by_cases hh : ix es n < es.length
  · have Ha := hide (atI_there hh)
    have HR : Hid (hasE es n = 0 ∧ remL es n = es.take (ix es n) ++ es.drop (ix es n + 1)) := hide (by unfold hasE remL; rw [if_pos hh, if_pos hh]; exact ⟨rfl, rfl⟩)
    generalize ix es n = i at hh Ha HR
    have h1 := hh
    clear hh
    obtain ⟨g, c, rfl, c1, c2, c3, c4⟩ := (unhide Hk).arr.there (by omega)
    obtain ⟨m, hn⟩ : ∃ m, es.length = i + 1 + m := ⟨es.length - (i + 1), by omega⟩
    rw [hn] at Hk h1 h100 c1 ⊢
    unfold maxLen at c2
    go_enter Try.func16, Try.ntmps16
    go_wp2_with fail
    refine (at_any B p r _ es n _ (unhide Hk) (by omega)).mono ?_
    rintro e w2 ⟨rfl, hb2⟩
    rw [unhide Ha]
    have k2 := (unhide Hk).below hb2
    have Hb2 := hide hb2
    clear hb2
    have d1 := k2.cell
    have d2 := k2.free
    have hB2 : B ≤ w2.drew.heap.size := by have := (unhide Hb2).size; show B ≤ w2.heap.size; omega
    have hcell : ∀ j u, (cel es)[j]? = some u → w2.cell? ⟨g, j, none⟩ = some u := by
      have := k2.arr
      rw [← hn] at this
      exact this.cell
    obtain ⟨v3, w3, hr3, a3, r3, b3⟩ := append_blk w2.drew B 29 (.slice none 0 0) [] (es.take i) (Arr.empty _ _) ⟨g, 0, none⟩ c (fun j u hj => by
      rw [Addr.add_lit, Nat.zero_add]
      refine hcell j u ?_
      rw [cel_take, List.getElem?_take] at hj
      split at hj
      · exact hj
      · cases hj) (by simp; omega) hB2
    have hl3 : (es.take i).length = i := by rw [List.length_take]; omega
    rw [hl3] at hr3
    rw [List.nil_append] at a3
    have q3 : Chg (fun _ => False) w2 w3 := by
      have q := Chg.of_grown r3
      exact ⟨q.os, q.tape, q.output, q.size, fun k hk _ => q.block k hk (by simp [Value.ownBlock])⟩
    have k3 := k2.chg q3 (fun _ _ h => h)
    have hcell3 : ∀ j u, (cel es)[j]? = some u → w3.cell? ⟨g, j, none⟩ = some u := by
      have := k3.arr
      rw [← hn] at this
      exact this.cell
    obtain ⟨A, hA, hsrc⟩ : ∃ A : Addr, (if c = i + 1 then some (⟨g, 0, none⟩ : Addr) else some ⟨g, (i + 1) * 3, none⟩) = some A ∧ Hid (∀ j u, (cel (es.drop (i + 1)))[j]? = some u → w3.cell? (A.add j) = some u) := by
      have hlen : (cel (es.drop (i + 1))).length = m * 3 := by rw [cel_length, List.length_drop, hn]; omega
      by_cases h : c = i + 1
      · refine ⟨⟨g, 0, none⟩, by simp [h], fun t u hu => ?_⟩
        have h0 : (cel (es.drop (i + 1))).length = 0 := by rw [hlen]; omega
        rw [List.length_eq_zero_iff.1 h0] at hu
        simp at hu
      · refine ⟨⟨g, (i + 1) * 3, none⟩, by simp [h], fun t u hu => ?_⟩
        rw [Addr.add_lit]
        refine hcell3 _ u ?_
        rw [cel_drop, List.getElem?_drop] at hu
        exact hu
    obtain ⟨v4, w4, hr4, a4, r4, b4⟩ := append_blk w3 B 29 v3 (es.take i) (es.drop (i + 1)) a3 A (c - (i + 1)) (unhide hsrc) (by rw [List.length_take, List.length_drop]; omega) (by have := q3.size; have : B ≤ w2.heap.size := hB2; omega)
    have hl4 : (es.drop (i + 1)).length = m := by rw [List.length_drop]; omega
    rw [hl4] at hr4
    have hv3 : ∀ k, v3.ownBlock = some k → w2.heap.size ≤ k := by
      intro k hk
      rcases b3 with q | q
      · rw [q] at hk; simp [Value.ownBlock] at hk
      · rw [q] at hk
        have : w2.heap.size = k := Option.some.inj hk
        omega
    have q4 : Chg (fun _ => False) w2 w4 := by
      have q := Chg.of_grown r4
      have z : Chg (fun k => v3.ownBlock = some k) w2 w4 := (q3.mono (fun _ _ h => h.elim)).trans q
      exact z.mono (fun k hk h => by have := hv3 k h; omega)
    have hv4 : ∀ k, v4.ownBlock = some k → w2.heap.size ≤ k := by
      intro k hk
      rcases b4 with q | q
      · exact hv3 k (by rw [← q]; exact hk)
      · rw [q] at hk
        have : w3.heap.size = k := Option.some.inj hk
        have := q3.size
        omega
    have k4 := k2.chg q4 (fun _ _ h => h)
    obtain ⟨a', cap', hv', _⟩ := a4.shape
    obtain ⟨L, hL⟩ : ∃ L, (es.take i ++ es.drop (i + 1)).length = L := ⟨_, rfl⟩
    rw [hL] at hv'
    subst hv'
    clear hL
    have HU := hide (Upd.store k2 (q4.mono (fun _ _ h => h.elim)) a4 (fun g' hg' => .inr (hv4 g' hg')))
    have s3 : w3.cell? ⟨p, 1, none⟩ = some (.slice (some ⟨g, 0, none⟩) (i + 1 + m) c) := k3.cell
    have s4 : w4.cell? ⟨p, 1, none⟩ = some (.slice (some ⟨g, 0, none⟩) (i + 1 + m) c) := k4.cell
    have s5 : w4.frozen? ⟨p, 1, none⟩ = false := k4.free
    have e0 : (0 : Int) ≤ (i : Int) + 1 := by omega
    have e1 : (i : Int) + 1 ≤ (i : Int) + 1 + (m : Int) := by omega
    have e2 : i ≤ c := by omega
    have e3 : (i : Int) ≤ (c : Int) := by omega
    have e4 : ((i : Int) + 1).toNat = i + 1 := by omega
    have e5 : IntKind.i64.wrap ((i : Int) + 1) = (i : Int) + 1 := by rw [IntKind.wrap_i64]; omega
    clear k2 k3 k4 a3 a4 r3 r4 b3 b4 q3 q4 hv3 hv4 hcell hcell3 hsrc hl3 hl4 c3 c4 hB2
    go_wp2_with fail
    go_region_law (first
      | (refine step_append_run rfl _ _ 29 29 rfl (.slice none 0 0) (.slice (some ⟨g, 0, none⟩) i c) (by simp [Act.eval]) (by simp [Act.eval, Act.put]) hr3 ?_)
      | (refine step_append_run rfl _ _ 29 29 rfl v3 (.slice (some A) m (c - (i + 1))) (by simp [Act.eval, Act.put]) (by simp [Act.eval, Act.put]) hr4 ?_))
    all_goals
      go_wp2
      go_ret
      refine ⟨ret_eq (unhide HR).1, ?_⟩
      rw [(unhide HR).2]
      exact Upd.behind (unhide Hb2) (unhide HU)
  · have Ha := hide (atI_none hh)
    have HR : Hid (hasE es n = 4 ∧ remL es n = es) := hide (by unfold hasE remL; rw [if_neg hh, if_neg hh]; exact ⟨rfl, rfl⟩)
    clear hh
    go_enter Try.func16, Try.ntmps16
    go_wp2_with fail
    refine (at_any B p r _ es n _ (unhide Hk) h100).mono ?_
    rintro e w1 ⟨rfl, hb1⟩
    rw [unhide Ha]
    go_wp2_with fail
    go_ret
    refine ⟨ret_eq (unhide HR).1, ?_⟩
    rw [(unhide HR).2]
    exact Upd.same (unhide Hk) hb1
end Go.Proofs.Ytbejicpfhnfnfab.Dk
