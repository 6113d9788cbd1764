/-
  Contract of the document's disk: Drawer.Remove: the row is built anew of what stands ahead and what stands behind.
  Contract of the document's disk: Drawer.Crash.
  Contract of slices.Equal at two rows of the same numbers.
-/
import Derived.Test.YtphhebdmfdjfeabGreatDoorJointRowNRowPWalkP1WalkP2WalkP3WalkP4WalkP5
import Derived.Deep.RegionLaw
namespace Go.Proofs.YtphhebdmfdjfeabGreatDoor.Dk
open Go.RowKit

/-- an append whose run is known, as one step of a region that draws its order -/
theorem step_append_run {P : Program} {ops : Array Oper} {o : Oper} {a : Act} {w : World} {K : Act → World → Prop} {Q : Exit → Act → World → Prop} {E : Prop}
    (hg : o.guard = none) (d x : Operand) (dT sT : TypeId) (hop : o.op = Op.call { callee := Callee.builtin Builtin.append, args := #[d, x], argTypes := #[dT, sT] })
    (v u : Value) (hd : a.eval d = v) (hx : a.eval x = u) {v' : Value} {w' : World} (hr : (Builtin.append_ #[dT, sT] o.type #[v, u]).run P w = .ok v' w') (hK : K (a.put o.dst v') w') :
    if Region.wanted o (yielded ops a.tmps) = true then Oper.wp P o a w K Q else E := by
  have hw : Region.wanted o (yielded ops a.tmps) = true := by simp [Region.wanted, hg]
  rw [if_pos hw]
  unfold Oper.wp
  simp [execOp, hop, resolve, invoke, builtin, hd, hx, hr, Result.andThen]
  exact hK

theorem Upd.store {w w' : World} {B p : Nat} {m : Int} {v v' : Value} {es es' : List Pap} (h : Keeps w B p m v es) (hb : Chg (fun k => v.ownBlock = some k) w w') (ha : Arr w' B v' es') (hv : ∀ g, v'.ownBlock = some g → v.ownBlock = some g ∨ w.heap.size ≤ g) : Upd w (w'.setCell ⟨p, 1, none⟩ v') B p m v es' := by
  obtain ⟨h1, h2⟩ := h.store hb ha hv
  exact ⟨v', h1, h2, hv⟩
set_option maxHeartbeats 4000000 in
set_option maxRecDepth 100000 in
theorem remove_any (B p : Nat) (r : Int) (v : Value) (es : List Pap) (n : Int) (w : World) (hk : Keeps w B p r v es) (h100 : es.length ≤ 100) (hB : B ≤ w.heap.size) :
    Calls Tryz.prog 47 #[.pointer (some ⟨p, 0, none⟩), .int .i64 n] w fun e w' => e = .returned (.int .i64 (hasE es n)) ∧ Upd w w' B p r v (remL es n) := by
  have Hk := hide hk
  clear hk
  by_cases hh : ix es n < es.length
  · have Ha := hide (atI_there hh)
    have HR : Hid (hasE es n = 0 ∧ remL es n = es.take (ix es n) ++ es.drop (ix es n + 1)) := hide (by unfold hasE remL; rw [if_pos hh, if_pos hh]; exact ⟨rfl, rfl⟩)
    generalize ix es n = i at hh Ha HR
    have h1 := hh
    clear hh
    obtain ⟨g, c, rfl, c1, c2, c3, c4⟩ := (unhide Hk).arr.there (by omega)
    obtain ⟨m, hn⟩ : ∃ m, es.length = i + 1 + m := ⟨es.length - (i + 1), by omega⟩
    rw [hn] at Hk h1 h100 c1 ⊢
    unfold maxLen at c2
    go_enter Tryz.func47, Tryz.ntmps47
    go_wp2_with fail
    refine (at_any B p r _ es n _ (unhide Hk) (by omega)).mono ?_
    rintro e w2 ⟨rfl, hb2⟩
    rw [unhide Ha]
    have k2 := (unhide Hk).below hb2
    have Hb2 := hide hb2
    clear hb2
    have d1 := k2.cell
    have d2 := k2.free
    have hB2 : B ≤ w2.drew.heap.size := by have := (unhide Hb2).size; show B ≤ w2.heap.size; omega
    have hcell : ∀ j u, (cel es)[j]? = some u → w2.cell? ⟨g, j, none⟩ = some u := by
      have := k2.arr
      rw [← hn] at this
      exact this.cell
    obtain ⟨v3, w3, hr3, a3, r3, b3⟩ := append_blk w2.drew B 29 (.slice none 0 0) [] (es.take i) (Arr.empty _ _) ⟨g, 0, none⟩ c (fun j u hj => by
      rw [Addr.add_lit, Nat.zero_add]
      refine hcell j u ?_
      rw [cel_take, List.getElem?_take] at hj
      split at hj
      · exact hj
      · cases hj) (by simp; omega) hB2
    have hl3 : (es.take i).length = i := by rw [List.length_take]; omega
    rw [hl3] at hr3
    rw [List.nil_append] at a3
    have q3 : Chg (fun _ => False) w2 w3 := by
      have q := Chg.of_grown r3
      exact ⟨q.os, q.tape, q.output, q.size, fun k hk _ => q.block k hk (by simp [Value.ownBlock])⟩
    have k3 := k2.chg q3 (fun _ _ h => h)
    have hcell3 : ∀ j u, (cel es)[j]? = some u → w3.cell? ⟨g, j, none⟩ = some u := by
      have := k3.arr
      rw [← hn] at this
      exact this.cell
    obtain ⟨A, hA, hsrc⟩ : ∃ A : Addr, (if c = i + 1 then some (⟨g, 0, none⟩ : Addr) else some ⟨g, (i + 1) * 3, none⟩) = some A ∧ Hid (∀ j u, (cel (es.drop (i + 1)))[j]? = some u → w3.cell? (A.add j) = some u) := by
      have hlen : (cel (es.drop (i + 1))).length = m * 3 := by rw [cel_length, List.length_drop, hn]; omega
      by_cases h : c = i + 1
      · refine ⟨⟨g, 0, none⟩, by simp [h], fun t u hu => ?_⟩
        have h0 : (cel (es.drop (i + 1))).length = 0 := by rw [hlen]; omega
        rw [List.length_eq_zero_iff.1 h0] at hu
        simp at hu
      · refine ⟨⟨g, (i + 1) * 3, none⟩, by simp [h], fun t u hu => ?_⟩
        rw [Addr.add_lit]
        refine hcell3 _ u ?_
        rw [cel_drop, List.getElem?_drop] at hu
        exact hu
    obtain ⟨v4, w4, hr4, a4, r4, b4⟩ := append_blk w3 B 29 v3 (es.take i) (es.drop (i + 1)) a3 A (c - (i + 1)) (unhide hsrc) (by rw [List.length_take, List.length_drop]; omega) (by have := q3.size; have : B ≤ w2.heap.size := hB2; omega)
    have hl4 : (es.drop (i + 1)).length = m := by rw [List.length_drop]; omega
    rw [hl4] at hr4
    have hv3 : ∀ k, v3.ownBlock = some k → w2.heap.size ≤ k := by
      intro k hk
      rcases b3 with q | q
      · rw [q] at hk; simp [Value.ownBlock] at hk
      · rw [q] at hk
        have : w2.heap.size = k := Option.some.inj hk
        omega
    have q4 : Chg (fun _ => False) w2 w4 := by
      have q := Chg.of_grown r4
      have z : Chg (fun k => v3.ownBlock = some k) w2 w4 := (q3.mono (fun _ _ h => h.elim)).trans q
      exact z.mono (fun k hk h => by have := hv3 k h; omega)
    have hv4 : ∀ k, v4.ownBlock = some k → w2.heap.size ≤ k := by
      intro k hk
      rcases b4 with q | q
      · exact hv3 k (by rw [← q]; exact hk)
      · rw [q] at hk
        have : w3.heap.size = k := Option.some.inj hk
        have := q3.size
        omega
    have k4 := k2.chg q4 (fun _ _ h => h)
    obtain ⟨a', cap', hv', _⟩ := a4.shape
    obtain ⟨L, hL⟩ : ∃ L, (es.take i ++ es.drop (i + 1)).length = L := ⟨_, rfl⟩
    rw [hL] at hv'
    subst hv'
    clear hL
    have HU := hide (Upd.store k2 (q4.mono (fun _ _ h => h.elim)) a4 (fun g' hg' => .inr (hv4 g' hg')))
    have s3 : w3.cell? ⟨p, 1, none⟩ = some (.slice (some ⟨g, 0, none⟩) (i + 1 + m) c) := k3.cell
    have s4 : w4.cell? ⟨p, 1, none⟩ = some (.slice (some ⟨g, 0, none⟩) (i + 1 + m) c) := k4.cell
    have s5 : w4.frozen? ⟨p, 1, none⟩ = false := k4.free
    have e0 : (0 : Int) ≤ (i : Int) + 1 := by omega
    have e1 : (i : Int) + 1 ≤ (i : Int) + 1 + (m : Int) := by omega
    have e2 : i ≤ c := by omega
    have e3 : (i : Int) ≤ (c : Int) := by omega
    have e4 : ((i : Int) + 1).toNat = i + 1 := by omega
    have e5 : IntKind.i64.wrap ((i : Int) + 1) = (i : Int) + 1 := by rw [IntKind.wrap_i64]; omega
    clear k2 k3 k4 a3 a4 r3 r4 b3 b4 q3 q4 hv3 hv4 hcell hcell3 hsrc hl3 hl4 c3 c4 hB2
    go_wp2_with fail
    go_region_law (first
      | (refine step_append_run rfl _ _ 29 29 rfl (.slice none 0 0) (.slice (some ⟨g, 0, none⟩) i c) (by simp [Act.eval]) (by simp [Act.eval, Act.put]) hr3 ?_)
      | (refine step_append_run rfl _ _ 29 29 rfl v3 (.slice (some A) m (c - (i + 1))) (by simp [Act.eval, Act.put]) (by simp [Act.eval, Act.put]) hr4 ?_))
    all_goals
      go_wp2
      go_ret
      refine ⟨ret_eq (unhide HR).1, ?_⟩
      rw [(unhide HR).2]
      exact Upd.behind (unhide Hb2) (unhide HU)
  · have Ha := hide (atI_none hh)
    have HR : Hid (hasE es n = 4 ∧ remL es n = es) := hide (by unfold hasE remL; rw [if_neg hh, if_neg hh]; exact ⟨rfl, rfl⟩)
    clear hh
    go_enter Tryz.func47, Tryz.ntmps47
    go_wp2_with fail
    refine (at_any B p r _ es n _ (unhide Hk) h100).mono ?_
    rintro e w1 ⟨rfl, hb1⟩
    rw [unhide Ha]
    go_wp2_with fail
    go_ret
    refine ⟨ret_eq (unhide HR).1, ?_⟩
    rw [(unhide HR).2]
    exact Upd.same (unhide Hk) hb1
end Go.Proofs.YtphhebdmfdjfeabGreatDoor.Dk

namespace Go.Proofs.YtphhebdmfdjfeabGreatDoor.Dk
open Go.RowKit

/-- behind k rounds -/
def stopL (es : List Pap) (keep : Int) (k : Nat) : List Pap := (es.take k).map (stopP keep) ++ es.drop k
theorem stopL_length (es : List Pap) (keep : Int) (k : Nat) : (stopL es keep k).length = es.length := by unfold stopL; simp; omega
theorem stopL_at {es : List Pap} {keep : Int} {k : Nat} (h : k < es.length) : pa (stopL es keep k) k = pa es k := by
  unfold pa stopL
  have hl : ((es.take k).map (stopP keep)).length = k := by simp; omega
  rw [List.getElem?_append_right (by omega), hl, Nat.sub_self, List.getElem?_drop, Nat.add_zero]
theorem stopL_succ {es : List Pap} {keep : Int} {k : Nat} (h : k < es.length) : (stopL es keep k).set k (stopP keep (pa es k)) = stopL es keep (k + 1) := by
  unfold stopL
  have hl : ((es.take k).map (stopP keep)).length = k := by simp; omega
  rw [List.set_append_right _ _ (by omega), hl, Nat.sub_self, List.drop_eq_getElem_cons h, List.set_cons_zero, List.take_succ_eq_append_getElem h, List.map_append, pa_get h]
  simp
theorem stopL_zero (es : List Pap) (keep : Int) : stopL es keep 0 = es := by simp [stopL]
theorem stopL_all (es : List Pap) (keep : Int) : stopL es keep es.length = es.map (stopP keep) := by simp [stopL]

theorem Keeps.text_of {w : World} {B p g cap L k : Nat} {m : Int} {es : List Pap} (h : Keeps w B p m (.slice (some ⟨g, 0, none⟩) L cap) es) (hL : es.length = L) (hk : k < L) (s : ByteArray) :
    Keeps (w.setCell ⟨g, k * 3 + 2, none⟩ (.string s)) B p m (.slice (some ⟨g, 0, none⟩) L cap) (es.set k { pa es k with text := s }) ∧ Chg (foot p (.slice (some ⟨g, 0, none⟩) L cap)) w (w.setCell ⟨g, k * 3 + 2, none⟩ (.string s)) := by
  subst hL
  have q := h.text hk s
  rw [List.length_set] at q
  exact q
theorem Keeps.sure_of {w : World} {B p g cap L k : Nat} {m : Int} {es : List Pap} (h : Keeps w B p m (.slice (some ⟨g, 0, none⟩) L cap) es) (hL : es.length = L) (hk : k < L) (n : Int) :
    Keeps (w.setCell ⟨g, k * 3 + 1, none⟩ (.int .i64 n)) B p m (.slice (some ⟨g, 0, none⟩) L cap) (es.set k { pa es k with sure := n }) ∧ Chg (foot p (.slice (some ⟨g, 0, none⟩) L cap)) w (w.setCell ⟨g, k * 3 + 1, none⟩ (.int .i64 n)) := by
  subst hL
  have q := h.sure hk n
  rw [List.length_set] at q
  exact q
theorem pa_set {es : List Pap} {k : Nat} (h : k < es.length) (x : Pap) : pa (es.set k x) k = x := by
  unfold pa
  rw [List.getElem?_set_self h]
  rfl
theorem set_pa {es : List Pap} {k : Nat} (h : k < es.length) : es.set k (pa es k) = es := by
  rw [pa_get h, List.set_getElem_self]
/-- the list while file k is cut -/
def midL (es : List Pap) (keep : Int) (k : Nat) (T : ByteArray) : List Pap := (stopL es keep k).set k ⟨(pa es k).n, (pa es k).sure, T⟩
theorem midL_length (es : List Pap) (keep : Int) (k : Nat) (T : ByteArray) : (midL es keep k T).length = es.length := by unfold midL; rw [List.length_set, stopL_length]
theorem midL_at {es : List Pap} {k : Nat} (h : k < es.length) (keep : Int) (T : ByteArray) : pa (midL es keep k T) k = ⟨(pa es k).n, (pa es k).sure, T⟩ := pa_set (by rw [stopL_length]; exact h) _
theorem midL_start {es : List Pap} {k : Nat} (h : k < es.length) (keep : Int) : midL es keep k (pa es k).text = stopL es keep k := by
  have e := set_pa (es := stopL es keep k) (k := k) (by rw [stopL_length]; exact h)
  rw [stopL_at h] at e
  exact e
theorem midL_set {es : List Pap} {k : Nat} (h : k < es.length) (keep : Int) (T T' : ByteArray) : (midL es keep k T).set k { pa (midL es keep k T) k with text := T' } = midL es keep k T' := by
  rw [midL_at h]
  unfold midL
  rw [List.set_set]
theorem midL_end {es : List Pap} {k : Nat} (h : k < es.length) (keep : Int) (T : ByteArray) (hT : T = (pa es k).text.extract 0 (stopAt (pa es k) keep)) (c : Int) (hc : c = (stopAt (pa es k) keep : Int)) : (midL es keep k T).set k { pa (midL es keep k T) k with sure := c } = stopL es keep (k + 1) := by
  rw [midL_at h, ← stopL_succ h]
  unfold midL
  rw [List.set_set, hT, hc]
  rfl
/-- a round of the inner loop: the text as it was, or cut -/
def Mid (e : Pap) (keep : Int) (T : ByteArray) (j : Nat) : Prop := (T = e.text ∧ j ≤ stopAt e keep) ∨ (T = e.text.extract 0 (stopAt e keep) ∧ j = stopAt e keep + 1)
theorem mid_end {e : Pap} {keep : Int} {T : ByteArray} {j : Nat} (h : Mid e keep T j) (hj : T.size ≤ j) : T = e.text.extract 0 (stopAt e keep) ∧ T.size = stopAt e keep := by
  have hc := stop_le e keep
  rcases h with ⟨rfl, h⟩ | ⟨rfl, h⟩
  · have : stopAt e keep = e.text.size := by omega
    rw [this]
    refine ⟨?_, rfl⟩
    simp
  · exact ⟨rfl, ext_size _ _ hc⟩
theorem mid_in {e : Pap} {keep : Int} {T : ByteArray} {j : Nat} (h : Mid e keep T j) (hj : j < T.size) : T = e.text ∧ j ≤ stopAt e keep := by
  have hc := stop_le e keep
  rcases h with h | ⟨rfl, h⟩
  · exact h
  · rw [ext_size _ _ hc] at hj; omega
theorem mid_go {e : Pap} {keep : Int} {j : Nat} (hs : Sound e) (h : j ≤ stopAt e keep) (hj : j < e.text.size) (hk : (j : Int) - e.sure < keep) : Mid e keep e.text (j + 1) := by
  refine .inl ⟨rfl, ?_⟩
  unfold stopAt at h ⊢
  have := hs.1
  omega
theorem mid_cut {e : Pap} {keep : Int} {j : Nat} (hs : Sound e) (h : j ≤ stopAt e keep) (hl : e.sure ≤ (j : Int)) (hk : keep ≤ (j : Int) - e.sure) : Mid e keep (e.text.extract 0 j) (j + 1) := by
  have e1 : j = stopAt e keep := by
    unfold stopAt at h ⊢
    have := hs.1
    omega
  exact .inr ⟨by rw [← e1], by rw [← e1]⟩

set_option maxHeartbeats 2000000 in
set_option maxRecDepth 100000 in
theorem crash_any (B p : Nat) (r : Int) (v : Value) (es : List Pap) (keep : Int) (w : World) (hk : Keeps w B p r v es) (h100 : es.length ≤ 100) (hs : ∀ e ∈ es, Sound e) :
    Calls Tryz.prog 21 #[.pointer (some ⟨p, 0, none⟩), .int .i64 keep] w fun e w' => e = .returned (.tuple #[]) ∧ Upd w w' B p r v (es.map (stopP keep)) := by
  have Hk := hide hk
  clear hk
  have Hs := hide hs
  clear hs
  obtain ⟨a, cap, rfl, c1, c2, c3⟩ := (unhide Hk).arr.shape
  clear c3 c2
  go_enter Tryz.func21, Tryz.ntmps21
  go_wp2_with fail
  go_loopw [4] (fun kv wr => ∃ (k : Nat), kv = .int .i64 k ∧ k ≤ es.length ∧ Hid (Keeps wr B p r (.slice a es.length cap) (stopL es keep k)) ∧ Hid (Chg (foot p (.slice a es.length cap)) w wr)) (fun kv _ => es.length - (intOf kv).toNat)
  case atStart => exact ⟨0, rfl, Nat.zero_le _, hide (by rw [stopL_zero]; exact unhide Hk), hide (Chg.refl _ _)⟩
  case round =>
    obtain ⟨k, rfl, hkn, K1, Hc1⟩ := hrel
    have d1 := (unhide K1).cell
    by_cases hlt : k < es.length
    · obtain ⟨g, cap', e0, f1, f2, f3, f4⟩ := (unhide K1).arr.there (by rw [stopL_length]; omega)
      rw [stopL_length] at e0 f1
      obtain ⟨rfl, _, rfl⟩ := Value.slice.inj e0
      clear e0
      have HS := hide (unhide Hs _ (pa_mem hlt))
      have s0 := (unhide HS).1
      have s1 := (unhide HS).2.1
      have s2 := (unhide HS).2.2
      rw [← midL_start hlt] at K1
      have Hst : Hid (Mid (pa es k) keep (pa es k).text (pa es k).sure.toNat) := hide (.inl ⟨rfl, by unfold stopAt; omega⟩)
      obtain ⟨j0, hj0⟩ := Int.eq_ofNat_of_zero_le s0
      have d2 : wr.cell? ⟨g, k * 3 + 1, none⟩ = some (.int .i64 (pa es k).sure) := by
        have q := (unhide K1).arr
        rw [← midL_length es keep k (pa es k).text] at q
        have := q.sure (k := k) (by rw [midL_length]; exact hlt)
        rw [midL_at hlt] at this
        exact this
      go_wp2_with fail
      go_loopw [6] (fun kv wx => ∃ (j : Nat) (T : ByteArray), kv = .int .i64 j ∧ (pa es k).sure ≤ (j : Int) ∧ Hid (Mid (pa es k) keep T j) ∧ Hid (Keeps wx B p r (.slice (some ⟨g, 0, none⟩) es.length cap) (midL es keep k T)) ∧ Hid (Chg (foot p (.slice (some ⟨g, 0, none⟩) es.length cap)) w wx)) (fun kv _ => (pa es k).text.size + 1 - (intOf kv).toNat)
      case atStart => exact ⟨j0, (pa es k).text, rfl, by omega, hide (by have := unhide Hst; rw [hj0] at this; exact this), K1, Hc1⟩
      case round =>
        clear d1 d2 K1 Hc1 hj0 Hst
        obtain ⟨j, T, rfl, hsj, HM, K2, Hc2⟩ := hrel
        have a2 := (unhide K2).arr
        rw [← midL_length es keep k T] at a2
        have d2 := a2.sure (k := k) (by rw [midL_length]; exact hlt)
        have d3 := a2.text (k := k) (by rw [midL_length]; exact hlt)
        have d4 := World.ownsRow.frozenAt a2 (k * 3 + 1)
        have d5 := World.ownsRow.frozenAt a2 (k * 3 + 2)
        rw [midL_at hlt] at d2 d3
        clear a2
        by_cases hj : j < T.size
        · obtain ⟨rfl, hjs⟩ := mid_in (unhide HM) hj
          by_cases hge : keep ≤ (j : Int) - (pa es k).sure
          · have hge2 : decide ((j : Int) - (pa es k).sure ≥ keep) = true := decide_eq_true hge
            have HM2 := hide (mid_cut (unhide HS) hjs hsj hge)
            have HU := hide ((unhide K2).text_of (midL_length ..) hlt ((pa es k).text.extract 0 j))
            rw [midL_set hlt] at HU
            go_wp2_with fail
            refine ⟨⟨j + 1, _, by go_num, by omega, HM2, hide (unhide HU).1, hide ((unhide Hc2).trans (unhide HU).2)⟩, ?_⟩
            simp [intOf]; omega
          · have hge2 : decide ((j : Int) - (pa es k).sure ≥ keep) = false := decide_eq_false hge
            have HM2 := hide (mid_go (unhide HS) hjs hj (by omega))
            go_wp2_with fail
            refine ⟨⟨j + 1, _, by go_num, by omega, HM2, K2, Hc2⟩, ?_⟩
            simp [intOf]; omega
        · obtain ⟨hT, hTs⟩ := mid_end (unhide HM) (by omega)
          have HU := hide ((unhide K2).sure_of (midL_length ..) hlt (T.size : Int))
          rw [midL_end hlt keep T hT (T.size : Int) (by rw [hTs])] at HU
          have HT := hide hT
          clear hT hTs
          go_wp2_with fail
          refine ⟨⟨k + 1, by go_num, by omega, hide (unhide HU).1, hide ((unhide Hc2).trans (unhide HU).2)⟩, ?_⟩
          simp [intOf]; omega
    · have hke : k = es.length := by omega
      have HU : Hid (Upd w wr B p r (.slice a es.length cap) (es.map (stopP keep))) := hide ⟨_, by have q := unhide K1; rw [show stopL es keep k = es.map (stopP keep) by rw [hke, stopL_all]] at q; exact q, unhide Hc1, fun g hg => .inl hg⟩
      clear hke
      go_wp2_with fail
      go_end0
      exact ⟨rfl, unhide HU⟩
end Go.Proofs.YtphhebdmfdjfeabGreatDoor.Dk

namespace Go.Proofs.YtphhebdmfdjfeabGreatDoor.Dk
open Go.RowKit

set_option maxHeartbeats 2000000 in
set_option maxRecDepth 100000 in
theorem equal_same (a b : Option Addr) (ca cb : Nat) (l : List Int) (w : World) (ha : SlI w a l) (hb : SlI w b l) (h100 : l.length ≤ 100) :
    Calls Tryz.prog 22 #[.slice a l.length ca, .slice b l.length cb] w fun e w' => e = .returned (.bool true) ∧ ∃ q, w' = w.drewN q := by
  have Ha := hide ha
  have Hb := hide hb
  clear ha hb
  go_enter Tryz.func22, Tryz.ntmps22
  go_wp2
  go_loopw [13] (fun kv wr => ∃ (k : Nat), kv = .int .i64 k ∧ k ≤ l.length ∧ ∃ n, wr = w.drewN n) (fun kv _ => l.length - (intOf kv).toNat)
  case atStart => exact ⟨0, rfl, Nat.zero_le _, 0, rfl⟩
  case round =>
    obtain ⟨k, rfl, hk, n, rfl⟩ := hrel
    by_cases hlt : k < l.length
    · obtain ⟨g, o, rfl, _, c1⟩ := unhide Ha k hlt
      obtain ⟨h, o2, rfl, _, c2⟩ := unhide Hb k hlt
      go_wp2
      go_quiet (fail)
      go_wp2
      exact ⟨⟨k + 1, by go_num, by omega, _, rfl⟩, by simp [intOf]; omega⟩
    · go_wp2
      go_ret
      exact ⟨rfl, n, rfl⟩
end Go.Proofs.YtphhebdmfdjfeabGreatDoor.Dk
