/-
  Contracts of the document's disk: Drawer.Cut, Drawer.List.
-/
import Derived.Test.YtbejicpfhnfnfabWalkP2
namespace Go.Proofs.Ytbejicpfhnfnfab.Dk
open Go.RowKit

set_option maxHeartbeats 400000 in
theorem in_any (n lo hi : Int) (w : World) :
    Calls Try.prog 5 #[.int .i64 n, .int .i64 lo, .int .i64 hi] w fun e w' => e = .returned (.bool (inI n lo hi)) ∧ w' = w := by
  by_cases h1 : lo ≤ n <;> by_cases h2 : n ≤ hi
  all_goals
    go_enter Try.func5, Try.ntmps5
    go_wp2
    go_ret
    exact ⟨by simp [inI, *], rfl⟩

theorem Keeps.cut {w : World} {B p g cap : Nat} {m : Int} {es : List Pap} (h : Keeps w B p m (.slice (some ⟨g, 0, none⟩) es.length cap) es) {q : Nat} (hq : q < es.length) (k : Nat) :
    Upd w ((w.setCell ⟨g, q * 3 + 2, none⟩ (.string ((pa es q).text.extract 0 k))).setCell ⟨g, q * 3 + 1, none⟩ (.int .i64 (k : Int))) B p m (.slice (some ⟨g, 0, none⟩) es.length cap) (es.set q (cutP (pa es q) k)) := by
  have h1 := h.text hq ((pa es q).text.extract 0 k)
  have hq2 : q < (es.set q { pa es q with text := (pa es q).text.extract 0 k }).length := by rw [List.length_set]; exact hq
  have h2 := h1.1.sure hq2 (k : Int)
  have e : (es.set q { pa es q with text := (pa es q).text.extract 0 k }).set q { pa (es.set q { pa es q with text := (pa es q).text.extract 0 k }) q with sure := (k : Int) } = es.set q (cutP (pa es q) k) := by
    rw [pa_get hq2, List.getElem_set_self, List.set_set]
    rfl
  rw [e] at h2
  refine ⟨_, h2.1, h1.2.trans (h2.2.mono (fun j _ hj => ?_)), fun g' hg' => .inl ?_⟩
  · rcases hj with q1 | q1
    · exact .inl q1
    · exact .inr q1
  · exact hg'

set_option maxHeartbeats 400000 in
theorem cut_any (B p : Nat) (m : Int) (v : Value) (es : List Pap) (n size : Int) (w : World) (hk : Keeps w B p m v es) (h100 : es.length ≤ 100) :
    Calls Try.prog 12 #[.pointer (some ⟨p, 0, none⟩), .int .i64 n, .int .i64 size] w fun e w' => e = .returned (.int .i64 (cutE es n size)) ∧ Upd w w' B p m v (cutL es n size) := by
  have Hk := hide hk
  clear hk
  by_cases hh : ix es n < es.length
  · have Ha := hide (atI_there hh)
    cases ho : cutOk es n size with
    | true =>
      have HR : Hid (cutE es n size = 0 ∧ cutL es n size = es.set (ix es n) (cutP (pa es (ix es n)) size.toNat)) := hide (by unfold cutE cutL; rw [if_pos hh, if_pos hh, if_pos ho, if_pos ho]; exact ⟨rfl, rfl⟩)
      unfold cutOk at ho
      generalize ix es n = q at hh Ha HR ho
      have hz : 0 ≤ size ∧ size ≤ ((pa es q).text.size : Int) := by simpa [inI] using ho
      obtain ⟨k, rfl⟩ := Int.eq_ofNat_of_zero_le hz.1
      have hz2 : (k : Int) ≤ ((pa es q).text.size : Int) := hz.2
      rw [show (k : Int).toNat = k from rfl] at HR
      have HO := hide ho
      clear ho hz
      obtain ⟨g, cap, rfl, c1, c2, c3, c4⟩ := (unhide Hk).arr.there (by omega)
      unfold maxLen at c2
      go_enter Try.func12, Try.ntmps12
      go_wp2_with fail
      refine (at_any B p m _ es n _ (unhide Hk) h100).mono ?_
      rintro e w1 ⟨rfl, hb1⟩
      rw [unhide Ha]
      have k1 := (unhide Hk).below hb1
      have d1 := k1.cell
      have d2 := k1.arr.text hh
      have d3 := k1.arr.sure hh
      have d4 := World.ownsRow.frozenAt k1.arr (q * 3 + 1)
      have d5 := World.ownsRow.frozenAt k1.arr (q * 3 + 2)
      have K1 := hide k1
      clear k1
      go_wp2_with fail
      refine (in_any _ _ _ _).mono ?_
      rintro e w2 ⟨rfl, rfl⟩
      rw [unhide HO]
      go_wp2_with fail
      go_region
      have HU := hide ((unhide K1).cut hh k)
      clear d1 d2 d3 d4 d5
      go_wp2_with fail
      go_ret
      refine ⟨ret_eq (unhide HR).1, ?_⟩
      rw [(unhide HR).2]
      exact Upd.behind hb1 (Upd.drew (unhide HU))
    | false =>
      have HR : Hid (cutE es n size = 1 ∧ cutL es n size = es) := hide (by unfold cutE cutL; rw [if_pos hh, if_pos hh, if_neg (by rw [ho]; decide), if_neg (by rw [ho]; decide)]; exact ⟨rfl, rfl⟩)
      unfold cutOk at ho
      generalize ix es n = q at hh Ha HR ho
      have HO := hide ho
      clear ho
      obtain ⟨g, cap, rfl, c1, c2, c3, c4⟩ := (unhide Hk).arr.there (by omega)
      unfold maxLen at c2
      go_enter Try.func12, Try.ntmps12
      go_wp2_with fail
      refine (at_any B p m _ es n _ (unhide Hk) h100).mono ?_
      rintro e w1 ⟨rfl, hb1⟩
      rw [unhide Ha]
      have k1 := (unhide Hk).below hb1
      have d1 := k1.cell
      have d2 := k1.arr.text hh
      clear k1
      go_wp2_with fail
      refine (in_any _ _ _ _).mono ?_
      rintro e w2 ⟨rfl, rfl⟩
      rw [unhide HO]
      go_wp2_with fail
      go_ret
      refine ⟨ret_eq (unhide HR).1, ?_⟩
      rw [(unhide HR).2]
      exact Upd.same (unhide Hk) hb1
  · have Ha := hide (atI_none hh)
    have HR : Hid (cutE es n size = 4 ∧ cutL es n size = es) := hide (by unfold cutE cutL; rw [if_neg hh, if_neg hh]; exact ⟨rfl, rfl⟩)
    clear hh
    go_enter Try.func12, Try.ntmps12
    go_wp2_with fail
    refine (at_any B p m _ es n _ (unhide Hk) h100).mono ?_
    rintro e w1 ⟨rfl, hb1⟩
    rw [unhide Ha]
    go_wp2_with fail
    go_ret
    refine ⟨ret_eq (unhide HR).1, ?_⟩
    rw [(unhide HR).2]
    exact Upd.same (unhide Hk) hb1

/-- numbers in a row of one's own -/
def Nums (w : World) (B : Nat) (v : Value) (l : List Int) : Prop := w.ownsRow B 3 1 v l.length (l.map (Value.int .i64))
theorem infoI : (Try.prog.info? 3).map (fun i => (i.zero, i.size, i.bytes)) = some (some (.int .i64 0), 1, 8) := by kernel_rfl
theorem one_num (n : Int) : ∀ u ∈ [Value.int .i64 n], u.oneCell' = true := by
  intro u hu; simp at hu; subst hu; rfl
theorem nums_next {w0 wr w1 : World} {v v' : Value} {l : List Int} {n : Int} {o : Obj} (hown : Nums wr w0.heap.size v l) (hb : Below w0.heap.size w0 wr)
    (h1 : w1.ownsRow w0.heap.size 3 1 v' (l.length + 1) ((l.map (Value.int .i64)) ++ [.int .i64 n])) (hg : (wr.alloc o).grownBy w1 v.ownBlock) :
    Nums w1 w0.heap.size v' (l ++ [n]) ∧ Below w0.heap.size w0 w1 := by
  refine ⟨?_, ?_⟩
  · unfold Nums
    rw [List.map_append, List.map_cons, List.map_nil, List.length_append]
    exact h1
  · have hs := hb.size
    refine (hb.alloc (by omega) o).grown hg (by simp; omega) ?_
    intro j hj
    exact (World.ownsRow.lt hown j hj).1
set_option maxRecDepth 100000 in
set_option maxHeartbeats 1000000 in
theorem list_any (B p : Nat) (m : Int) (v : Value) (es : List Pap) (w : World) (hk : Keeps w B p m v es) (h100 : es.length ≤ 100) :
    Calls Try.prog 29 #[.pointer (some ⟨p, 0, none⟩)] w fun e w' => ∃ v', e = .returned v' ∧ Nums w' w.heap.size v' (numL es) ∧ Below w.heap.size w w' := by
  obtain ⟨i0, hi, hz0, hz1, hz2⟩ := info_parts infoI
  have Hk := hide hk
  obtain ⟨a, cap, rfl, hsl⟩ := hk.arr.sl
  have Hs := hide hsl
  clear hsl hk
  go_enter Try.func29, Try.ntmps29
  go_wp2_with fail
  go_loopw [3, 4] (fun o i wr => ∃ (k : Nat), k ≤ es.length ∧ i = .int .i64 k ∧ Hid (Nums wr w.heap.size o (numL (es.take k)) ∧ Below w.heap.size w wr)) (fun _ i _ => es.length - (intOf i).toNat)
  case atStart => exact ⟨0, Nat.zero_le _, rfl, hide ⟨World.ownsRow_nil _ _ _ _, Below.refl _ _⟩⟩
  case round =>
    obtain ⟨k, hk, rfl, hr⟩ := hrel
    have d1 := ((unhide Hk).below (unhide hr).2).cell
    have hll := numL_len hk
    by_cases hlt : k < es.length
    · obtain ⟨g, rfl, hg, hc1, hc2, hc3⟩ := (unhide Hs).below (unhide hr).2 k hlt
      have hown2 : wr.ownsRow w.heap.size 3 1 u3 (numL (es.take k)).length ((numL (es.take k)).map (Value.int .i64)) := (unhide hr).1
      rw [hll] at hown2
      have hsz := (unhide hr).2.size
      have Hn := hide (numL_take hlt)
      clear hc2 hc3
      go_wp2_with (at_builtin; refine wpList_append_own _ rfl _ _ 58 rfl w.heap.size 3 i0 (.int .i64 0) 1 8 Try.underlying58 hi hz0 hz1 hz2 rfl (by decide) _ _ _ rfl (hown2.alloc _) ⟨wr.heap.size, 0, none⟩ 1 1 [.int .i64 (pa es k).n] rfl rfl (one_new _ _ _) (one_num _) (by unfold maxLen; omega) (by omega) (by simp; omega) ?_; intro v' w3 hown1 hgrow _)
      have R := nums_next (unhide hr).1 (unhide hr).2 (by rw [hll]; exact hown1) hgrow
      refine ⟨⟨k + 1, by omega, by go_num, hide ?_⟩, by simp [intOf]; omega⟩
      rw [unhide Hn]
      exact R
    · obtain rfl : k = es.length := by omega
      go_wp2_with fail
      go_ret
      refine ⟨_, rfl, ?_, (unhide hr).2⟩
      have := (unhide hr).1
      rw [List.take_length] at this
      exact this
end Go.Proofs.Ytbejicpfhnfnfab.Dk
