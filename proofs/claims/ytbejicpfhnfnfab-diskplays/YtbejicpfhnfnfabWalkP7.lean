/-
  Contract of the document's disk: Drawer.Crash.
-/
import Derived.Test.YtbejicpfhnfnfabWalkP6
namespace Go.Proofs.Ytbejicpfhnfnfab.Dk
open Go.RowKit

/-- behind k rounds -/
def stopL (es : List Pap) (keep : Int) (k : Nat) : List Pap := (es.take k).map (stopP keep) ++ es.drop k
theorem stopL_length (es : List Pap) (keep : Int) (k : Nat) : (stopL es keep k).length = es.length := by unfold stopL; simp; omega
theorem stopL_at {es : List Pap} {keep : Int} {k : Nat} (h : k < es.length) : pa (stopL es keep k) k = pa es k := by
  unfold pa stopL
  have hl : ((es.take k).map (stopP keep)).length = k := by simp; omega
  rw [List.getElem?_append_right (by omega), hl, Nat.sub_self, List.getElem?_drop, Nat.add_zero]
theorem stopL_succ {es : List Pap} {keep : Int} {k : Nat} (h : k < es.length) : (stopL es keep k).set k (stopP keep (pa es k)) = stopL es keep (k + 1) := by
  unfold stopL
  have hl : ((es.take k).map (stopP keep)).length = k := by simp; omega
  rw [List.set_append_right _ _ (by omega), hl, Nat.sub_self, List.drop_eq_getElem_cons h, List.set_cons_zero, List.take_succ_eq_append_getElem h, List.map_append, pa_get h]
  simp
theorem stopL_zero (es : List Pap) (keep : Int) : stopL es keep 0 = es := by simp [stopL]
theorem stopL_all (es : List Pap) (keep : Int) : stopL es keep es.length = es.map (stopP keep) := by simp [stopL]

theorem Keeps.text_of {w : World} {B p g cap L k : Nat} {m : Int} {es : List Pap} (h : Keeps w B p m (.slice (some ⟨g, 0, none⟩) L cap) es) (hL : es.length = L) (hk : k < L) (s : ByteArray) :
    Keeps (w.setCell ⟨g, k * 3 + 2, none⟩ (.string s)) B p m (.slice (some ⟨g, 0, none⟩) L cap) (es.set k { pa es k with text := s }) ∧ Chg (foot p (.slice (some ⟨g, 0, none⟩) L cap)) w (w.setCell ⟨g, k * 3 + 2, none⟩ (.string s)) := by
  subst hL
  have q := h.text hk s
  rw [List.length_set] at q
  exact q
theorem Keeps.sure_of {w : World} {B p g cap L k : Nat} {m : Int} {es : List Pap} (h : Keeps w B p m (.slice (some ⟨g, 0, none⟩) L cap) es) (hL : es.length = L) (hk : k < L) (n : Int) :
    Keeps (w.setCell ⟨g, k * 3 + 1, none⟩ (.int .i64 n)) B p m (.slice (some ⟨g, 0, none⟩) L cap) (es.set k { pa es k with sure := n }) ∧ Chg (foot p (.slice (some ⟨g, 0, none⟩) L cap)) w (w.setCell ⟨g, k * 3 + 1, none⟩ (.int .i64 n)) := by
  subst hL
  have q := h.sure hk n
  rw [List.length_set] at q
  exact q
theorem pa_set {es : List Pap} {k : Nat} (h : k < es.length) (x : Pap) : pa (es.set k x) k = x := by
  unfold pa
  rw [List.getElem?_set_self h]
  rfl
theorem set_pa {es : List Pap} {k : Nat} (h : k < es.length) : es.set k (pa es k) = es := by
  rw [pa_get h, List.set_getElem_self]
/-- the list while file k is cut -/
def midL (es : List Pap) (keep : Int) (k : Nat) (T : ByteArray) : List Pap := (stopL es keep k).set k ⟨(pa es k).n, (pa es k).sure, T⟩
theorem midL_length (es : List Pap) (keep : Int) (k : Nat) (T : ByteArray) : (midL es keep k T).length = es.length := by unfold midL; rw [List.length_set, stopL_length]
theorem midL_at {es : List Pap} {k : Nat} (h : k < es.length) (keep : Int) (T : ByteArray) : pa (midL es keep k T) k = ⟨(pa es k).n, (pa es k).sure, T⟩ := pa_set (by rw [stopL_length]; exact h) _
theorem midL_start {es : List Pap} {k : Nat} (h : k < es.length) (keep : Int) : midL es keep k (pa es k).text = stopL es keep k := by
  have e := set_pa (es := stopL es keep k) (k := k) (by rw [stopL_length]; exact h)
  rw [stopL_at h] at e
  exact e
theorem midL_set {es : List Pap} {k : Nat} (h : k < es.length) (keep : Int) (T T' : ByteArray) : (midL es keep k T).set k { pa (midL es keep k T) k with text := T' } = midL es keep k T' := by
  rw [midL_at h]
  unfold midL
  rw [List.set_set]
theorem midL_end {es : List Pap} {k : Nat} (h : k < es.length) (keep : Int) (T : ByteArray) (hT : T = (pa es k).text.extract 0 (stopAt (pa es k) keep)) (c : Int) (hc : c = (stopAt (pa es k) keep : Int)) : (midL es keep k T).set k { pa (midL es keep k T) k with sure := c } = stopL es keep (k + 1) := by
  rw [midL_at h, ← stopL_succ h]
  unfold midL
  rw [List.set_set, hT, hc]
  rfl
/-- a round of the inner loop: the text as it was, or cut -/
def Mid (e : Pap) (keep : Int) (T : ByteArray) (j : Nat) : Prop := (T = e.text ∧ j ≤ stopAt e keep) ∨ (T = e.text.extract 0 (stopAt e keep) ∧ j = stopAt e keep + 1)
theorem mid_end {e : Pap} {keep : Int} {T : ByteArray} {j : Nat} (h : Mid e keep T j) (hj : T.size ≤ j) : T = e.text.extract 0 (stopAt e keep) ∧ T.size = stopAt e keep := by
  have hc := stop_le e keep
  rcases h with ⟨rfl, h⟩ | ⟨rfl, h⟩
  · have : stopAt e keep = e.text.size := by omega
    rw [this]
    refine ⟨?_, rfl⟩
    simp
  · exact ⟨rfl, ext_size _ _ hc⟩
theorem mid_in {e : Pap} {keep : Int} {T : ByteArray} {j : Nat} (h : Mid e keep T j) (hj : j < T.size) : T = e.text ∧ j ≤ stopAt e keep := by
  have hc := stop_le e keep
  rcases h with h | ⟨rfl, h⟩
  · exact h
  · rw [ext_size _ _ hc] at hj; omega
theorem mid_go {e : Pap} {keep : Int} {j : Nat} (hs : Sound e) (h : j ≤ stopAt e keep) (hj : j < e.text.size) (hk : (j : Int) - e.sure < keep) : Mid e keep e.text (j + 1) := by
  refine .inl ⟨rfl, ?_⟩
  unfold stopAt at h ⊢
  have := hs.1
  omega
theorem mid_cut {e : Pap} {keep : Int} {j : Nat} (hs : Sound e) (h : j ≤ stopAt e keep) (hl : e.sure ≤ (j : Int)) (hk : keep ≤ (j : Int) - e.sure) : Mid e keep (e.text.extract 0 j) (j + 1) := by
  have e1 : j = stopAt e keep := by
    unfold stopAt at h ⊢
    have := hs.1
    omega
  exact .inr ⟨by rw [← e1], by rw [← e1]⟩

set_option maxHeartbeats 2000000 in
set_option maxRecDepth 100000 in
theorem crash_any (B p : Nat) (r : Int) (v : Value) (es : List Pap) (keep : Int) (w : World) (hk : Keeps w B p r v es) (h100 : es.length ≤ 100) (hs : ∀ e ∈ es, Sound e) :
    Calls Try.prog 18 #[.pointer (some ⟨p, 0, none⟩), .int .i64 keep] w fun e w' => e = .returned (.tuple #[]) ∧ Upd w w' B p r v (es.map (stopP keep)) := by
  have Hk := hide hk
  clear hk
  have Hs := hide hs
  clear hs
  obtain ⟨a, cap, rfl, c1, c2, c3⟩ := (unhide Hk).arr.shape
  clear c3 c2
  go_enter Try.func18, Try.ntmps18
  go_wp2_with fail
  go_loopw [4] (fun kv wr => ∃ (k : Nat), kv = .int .i64 k ∧ k ≤ es.length ∧ Hid (Keeps wr B p r (.slice a es.length cap) (stopL es keep k)) ∧ Hid (Chg (foot p (.slice a es.length cap)) w wr)) (fun kv _ => es.length - (intOf kv).toNat)
  case atStart => exact ⟨0, rfl, Nat.zero_le _, hide (by rw [stopL_zero]; exact unhide Hk), hide (Chg.refl _ _)⟩
  case round =>
    obtain ⟨k, rfl, hkn, K1, Hc1⟩ := hrel
    have d1 := (unhide K1).cell
    by_cases hlt : k < es.length
    · obtain ⟨g, cap', e0, f1, f2, f3, f4⟩ := (unhide K1).arr.there (by rw [stopL_length]; omega)
      rw [stopL_length] at e0 f1
      obtain ⟨rfl, _, rfl⟩ := Value.slice.inj e0
      clear e0
      have HS := hide (unhide Hs _ (pa_mem hlt))
      have s0 := (unhide HS).1
      have s1 := (unhide HS).2.1
      have s2 := (unhide HS).2.2
      rw [← midL_start hlt] at K1
      have Hst : Hid (Mid (pa es k) keep (pa es k).text (pa es k).sure.toNat) := hide (.inl ⟨rfl, by unfold stopAt; omega⟩)
      obtain ⟨j0, hj0⟩ := Int.eq_ofNat_of_zero_le s0
      have d2 : wr.cell? ⟨g, k * 3 + 1, none⟩ = some (.int .i64 (pa es k).sure) := by
        have q := (unhide K1).arr
        rw [← midL_length es keep k (pa es k).text] at q
        have := q.sure (k := k) (by rw [midL_length]; exact hlt)
        rw [midL_at hlt] at this
        exact this
      go_wp2_with fail
      go_loopw [6] (fun kv wx => ∃ (j : Nat) (T : ByteArray), kv = .int .i64 j ∧ (pa es k).sure ≤ (j : Int) ∧ Hid (Mid (pa es k) keep T j) ∧ Hid (Keeps wx B p r (.slice (some ⟨g, 0, none⟩) es.length cap) (midL es keep k T)) ∧ Hid (Chg (foot p (.slice (some ⟨g, 0, none⟩) es.length cap)) w wx)) (fun kv _ => (pa es k).text.size + 1 - (intOf kv).toNat)
      case atStart => exact ⟨j0, (pa es k).text, rfl, by omega, hide (by have := unhide Hst; rw [hj0] at this; exact this), K1, Hc1⟩
      case round =>
        clear d1 d2 K1 Hc1 hj0 Hst
        obtain ⟨j, T, rfl, hsj, HM, K2, Hc2⟩ := hrel
        have a2 := (unhide K2).arr
        rw [← midL_length es keep k T] at a2
        have d2 := a2.sure (k := k) (by rw [midL_length]; exact hlt)
        have d3 := a2.text (k := k) (by rw [midL_length]; exact hlt)
        have d4 := World.ownsRow.frozenAt a2 (k * 3 + 1)
        have d5 := World.ownsRow.frozenAt a2 (k * 3 + 2)
        rw [midL_at hlt] at d2 d3
        clear a2
        by_cases hj : j < T.size
        · obtain ⟨rfl, hjs⟩ := mid_in (unhide HM) hj
          by_cases hge : keep ≤ (j : Int) - (pa es k).sure
          · have hge2 : decide ((j : Int) - (pa es k).sure ≥ keep) = true := decide_eq_true hge
            have HM2 := hide (mid_cut (unhide HS) hjs hsj hge)
            have HU := hide ((unhide K2).text_of (midL_length ..) hlt ((pa es k).text.extract 0 j))
            rw [midL_set hlt] at HU
            go_wp2_with fail
            refine ⟨⟨j + 1, _, by go_num, by omega, HM2, hide (unhide HU).1, hide ((unhide Hc2).trans (unhide HU).2)⟩, ?_⟩
            simp [intOf]; omega
          · have hge2 : decide ((j : Int) - (pa es k).sure ≥ keep) = false := decide_eq_false hge
            have HM2 := hide (mid_go (unhide HS) hjs hj (by omega))
            go_wp2_with fail
            refine ⟨⟨j + 1, _, by go_num, by omega, HM2, K2, Hc2⟩, ?_⟩
            simp [intOf]; omega
        · obtain ⟨hT, hTs⟩ := mid_end (unhide HM) (by omega)
          have HU := hide ((unhide K2).sure_of (midL_length ..) hlt (T.size : Int))
          rw [midL_end hlt keep T hT (T.size : Int) (by rw [hTs])] at HU
          have HT := hide hT
          clear hT hTs
          go_wp2_with fail
          refine ⟨⟨k + 1, by go_num, by omega, hide (unhide HU).1, hide ((unhide Hc2).trans (unhide HU).2)⟩, ?_⟩
          simp [intOf]; omega
    · have hke : k = es.length := by omega
      have HU : Hid (Upd w wr B p r (.slice a es.length cap) (es.map (stopP keep))) := hide ⟨_, by have q := unhide K1; rw [show stopL es keep k = es.map (stopP keep) by rw [hke, stopL_all]] at q; exact q, unhide Hc1, fun g hg => .inl hg⟩
      clear hke
      go_wp2_with fail
      go_end0
      exact ⟨rfl, unhide HU⟩
end Go.Proofs.Ytbejicpfhnfnfab.Dk
