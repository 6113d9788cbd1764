/-
  rillkeep.spoil at entries and at records: a row of one's own is overwritten, the room behind it too.
-/
import Derived.Test.YtcdajajekmichaiDoorJointRowXRowY
import Derived.Test.YtcdajajekmichaiDoorJointRowGRowBRowV
namespace Go.Proofs.YtcdajajekmichaiDoor.Dk
open Go.RowKit

/-- a row up to its capacity -/
theorem own_wide {w : World} {B g cap n : Nat} {e : TypeId} {size : Nat} {xs : List Value} (h : w.ownsRow B e size (.slice (some ⟨g, 0, none⟩) n cap) n xs) : ∃ ys, w.ownsRow B e size (.slice (some ⟨g, 0, none⟩) cap cap) cap ys ∧ g < w.heap.size ∧ cap ≤ maxLen := by
  have hl := (h.lt g rfl).2
  rcases h.2 with ⟨q, _⟩ | ⟨g', cap', cur, q, h2, h3, h4, h5, h6, h7⟩
  · cases q
  · simp only [Value.slice.injEq, Option.some.injEq, Addr.mk.injEq, and_true] at q
    obtain ⟨rfl, _, rfl⟩ := q
    exact ⟨cur.toList, ⟨by simp [h6], .inr ⟨g, cap, cur, rfl, h2, h3, Nat.le_refl _, h5, h6, List.take_of_length_le (by simp [h6])⟩⟩, hl, h5⟩
theorem own_at {w : World} {B g cap : Nat} {e : TypeId} {size : Nat} {ys : List Value} (h : w.ownsRow B e size (.slice (some ⟨g, 0, none⟩) cap cap) cap ys) {j : Nat} (hj : j < cap * size) : ∃ v, w.cell? ⟨g, j, none⟩ = some v := by
  rw [World.ownsRow.cellAt h j hj]
  exact ⟨ys[j]'(by rw [h.1]; exact hj), List.getElem?_eq_getElem _⟩

theorem storedE {w : World} {B g cap : Nat} {ys : List Value} (h : w.ownsRow B 32 2 (.slice (some ⟨g, 0, none⟩) cap cap) cap ys) (j : Nat) (v : Value) : ∃ zs, (w.setCell ⟨g, j, none⟩ v).ownsRow B 32 2 (.slice (some ⟨g, 0, none⟩) cap cap) cap zs := ⟨_, (World.ownsRow.stored h j v).1⟩
set_option maxRecDepth 100000 in
set_option maxHeartbeats 1000000 in
theorem spoilE_any {w : World} {B : Nat} {v : Value} {es : List Ent} (x : Ent) (h : Arr w B v es) :
    Calls Tryd.prog 7 #[v, .agg #[.string x.1, .int .i64 x.2]] w fun e w' => e = .returned (.tuple #[]) ∧ Chg (fun k => v.ownBlock = some k) w w' := by
  obtain ⟨a, cap, rfl, c1, c2, hg⟩ : ∃ a cap, v = .slice a es.length cap ∧ es.length ≤ cap ∧ cap ≤ maxLen ∧ (0 < cap → ∃ g ys, a = some ⟨g, 0, none⟩ ∧ w.ownsRow B 32 2 (.slice (some ⟨g, 0, none⟩) cap cap) cap ys ∧ g < w.heap.size) := by
    rcases h.2 with ⟨h1, h2⟩ | ⟨g, cap, cur, h1, h2, h3, h4, h5, _⟩
    · exact ⟨none, 0, by rw [h1, h2], by omega, by simp [maxLen], fun z => by omega⟩
    · rw [h1] at h
      obtain ⟨ys, o1, o2, _⟩ := own_wide h
      exact ⟨_, cap, h1, h4, h5, fun _ => ⟨g, ys, rfl, o1, o2⟩⟩
  unfold maxLen at c2
  have HG := hide hg
  obtain ⟨w0, hw0⟩ : ∃ w0, w0 = w.alloc (.cells #[.string x.1, .int .i64 x.2] 32) := ⟨_, rfl⟩
  have hb0 : Below w.heap.size w w0 := by rw [hw0]; exact (Below.refl _ _).alloc (Nat.le_refl _) _
  have r0 := one_row (x := x) (heap_alloc_new w (.cells #[.string x.1, .int .i64 x.2] 32))
  have d0 : w0.cell? ⟨w.heap.size, 0, none⟩ = some (.string x.1) := by rw [hw0]; exact r0.1 0 _ rfl
  have d1 : w0.cell? ⟨w.heap.size, 1, none⟩ = some (.int .i64 x.2) := by rw [hw0]; exact r0.1 1 _ rfl
  clear r0
  have h0l : w.heap.size < w0.heap.size := by rw [hw0]; simp
  clear h hg
  go_enter Tryd.func7, Tryd.ntmps7
  go_wp2_with fail
  rw [← hw0]
  clear hw0
  go_loopw [11] (fun kv wr => ∃ (k : Nat), kv = .int .i64 k ∧ k ≤ cap ∧ Hid (Chg (fun k => (Value.slice a es.length cap).ownBlock = some k) w0 wr ∧ (0 < cap → ∃ g ys, a = some ⟨g, 0, none⟩ ∧ wr.ownsRow B 32 2 (.slice (some ⟨g, 0, none⟩) cap cap) cap ys ∧ g < w.heap.size))) (fun kv _ => cap - (intOf kv).toNat)
  case atStart => exact ⟨0, rfl, Nat.zero_le _, hide ⟨Chg.refl _ _, fun z => by
      obtain ⟨g, ys, e1, e2, e3⟩ := unhide HG z
      refine ⟨g, ys, e1, ⟨e2.1, ?_⟩, e3⟩
      rcases e2.2 with q | ⟨g', cp, cur, h1, h2, h3, r⟩
      · exact .inl q
      · refine .inr ⟨g', cp, cur, h1, h2, ?_, r⟩
        have hl := (Array.getElem?_eq_some_iff.1 h3).1
        have hg' : g = g' := by
          have := (Value.slice.inj h1).1
          simpa using this
        rw [hb0.block g' (by omega)]
        exact h3⟩⟩
  case round =>
    obtain ⟨k, rfl, hk, HP⟩ := hrel
    by_cases hlt : k < cap
    · obtain ⟨g, ys, rfl, o1, o2⟩ := (unhide HP).2 (by omega)
      have hch := (unhide HP).1
      have hnb : ¬ (Value.slice (some (⟨g, 0, none⟩ : Addr)) es.length cap).ownBlock = some w.heap.size := fun e => by
        have : g = w.heap.size := by simpa [Value.ownBlock] using e
        omega
      have b0 := (hch.cell (p := ⟨w.heap.size, 0, none⟩) h0l hnb).trans d0
      have b1 := (hch.cell (p := ⟨w.heap.size, 1, none⟩) h0l hnb).trans d1
      obtain ⟨v0, l0⟩ := own_at o1 (j := k * 2) (by omega)
      have f0 := World.ownsRow.frozenAt o1 (k * 2)
      obtain ⟨v1, l1⟩ := own_at o1 (j := k * 2 + 1) (by omega)
      have f1 := World.ownsRow.frozenAt o1 (k * 2 + 1)
      obtain ⟨z0, p0⟩ := storedE o1 (k * 2) ((.string x.1))
      obtain ⟨z1, p1⟩ := storedE p0 (k * 2 + 1) ((.int .i64 x.2))
      have HC := hide ((hch.setCell (p := ⟨g, k * 2, none⟩) (.inl rfl) ((.string x.1))).setCell (p := ⟨g, k * 2 + 1, none⟩) (.inl rfl) ((.int .i64 x.2)))
      have HO := hide p1
      clear p0 p1 hch HP o1
      go_wp2_with fail
      refine ⟨⟨k + 1, by go_num, by omega, hide ⟨unhide HC, fun _ => ⟨g, _, rfl, unhide HO, o2⟩⟩⟩, ?_⟩
      simp [intOf]; omega
    · have hch := (unhide HP).1
      have HF := hide ((Chg.of_below hb0).trans hch)
      clear hch HP
      go_wp2_with fail
      go_end0
      exact ⟨rfl, unhide HF⟩
theorem storedR {w : World} {B g cap : Nat} {ys : List Value} (h : w.ownsRow B 40 6 (.slice (some ⟨g, 0, none⟩) cap cap) cap ys) (j : Nat) (v : Value) : ∃ zs, (w.setCell ⟨g, j, none⟩ v).ownsRow B 40 6 (.slice (some ⟨g, 0, none⟩) cap cap) cap zs := ⟨_, (World.ownsRow.stored h j v).1⟩
set_option maxRecDepth 100000 in
set_option maxHeartbeats 1000000 in
theorem spoilR_any {w : World} {B : Nat} {v : Value} {es : List Rc} (x : Rc) (h : ArrR w B v es) :
    Calls Tryd.prog 13 #[v, .agg #[.int .i64 x.k, .int .i64 x.q, .int .i64 x.t, .string x.s, .string x.h, .string x.d]] w fun e w' => e = .returned (.tuple #[]) ∧ Chg (fun k => v.ownBlock = some k) w w' := by
  obtain ⟨a, cap, rfl, c1, c2, hg⟩ : ∃ a cap, v = .slice a es.length cap ∧ es.length ≤ cap ∧ cap ≤ maxLen ∧ (0 < cap → ∃ g ys, a = some ⟨g, 0, none⟩ ∧ w.ownsRow B 40 6 (.slice (some ⟨g, 0, none⟩) cap cap) cap ys ∧ g < w.heap.size) := by
    rcases h.2 with ⟨h1, h2⟩ | ⟨g, cap, cur, h1, h2, h3, h4, h5, _⟩
    · exact ⟨none, 0, by rw [h1, h2], by omega, by simp [maxLen], fun z => by omega⟩
    · rw [h1] at h
      obtain ⟨ys, o1, o2, _⟩ := own_wide h
      exact ⟨_, cap, h1, h4, h5, fun _ => ⟨g, ys, rfl, o1, o2⟩⟩
  unfold maxLen at c2
  have HG := hide hg
  obtain ⟨w0, hw0⟩ : ∃ w0, w0 = w.alloc (.cells #[.int .i64 x.k, .int .i64 x.q, .int .i64 x.t, .string x.s, .string x.h, .string x.d] 40) := ⟨_, rfl⟩
  have hb0 : Below w.heap.size w w0 := by rw [hw0]; exact (Below.refl _ _).alloc (Nat.le_refl _) _
  have r0 := RB.new w x.k x.q x.t x.s x.h x.d 40
  rw [← hw0] at r0
  obtain ⟨_, d0, d1, d2, d3, d4, d5, _⟩ := r0
  have h0l : w.heap.size < w0.heap.size := by rw [hw0]; simp
  clear h hg
  go_enter Tryd.func13, Tryd.ntmps13
  go_wp2_with fail
  rw [← hw0]
  clear hw0
  go_loopw [11] (fun kv wr => ∃ (k : Nat), kv = .int .i64 k ∧ k ≤ cap ∧ Hid (Chg (fun k => (Value.slice a es.length cap).ownBlock = some k) w0 wr ∧ (0 < cap → ∃ g ys, a = some ⟨g, 0, none⟩ ∧ wr.ownsRow B 40 6 (.slice (some ⟨g, 0, none⟩) cap cap) cap ys ∧ g < w.heap.size))) (fun kv _ => cap - (intOf kv).toNat)
  case atStart => exact ⟨0, rfl, Nat.zero_le _, hide ⟨Chg.refl _ _, fun z => by
      obtain ⟨g, ys, e1, e2, e3⟩ := unhide HG z
      refine ⟨g, ys, e1, ⟨e2.1, ?_⟩, e3⟩
      rcases e2.2 with q | ⟨g', cp, cur, h1, h2, h3, r⟩
      · exact .inl q
      · refine .inr ⟨g', cp, cur, h1, h2, ?_, r⟩
        have hl := (Array.getElem?_eq_some_iff.1 h3).1
        have hg' : g = g' := by
          have := (Value.slice.inj h1).1
          simpa using this
        rw [hb0.block g' (by omega)]
        exact h3⟩⟩
  case round =>
    obtain ⟨k, rfl, hk, HP⟩ := hrel
    by_cases hlt : k < cap
    · obtain ⟨g, ys, rfl, o1, o2⟩ := (unhide HP).2 (by omega)
      have hch := (unhide HP).1
      have hnb : ¬ (Value.slice (some (⟨g, 0, none⟩ : Addr)) es.length cap).ownBlock = some w.heap.size := fun e => by
        have : g = w.heap.size := by simpa [Value.ownBlock] using e
        omega
      have b0 := (hch.cell (p := ⟨w.heap.size, 0, none⟩) h0l hnb).trans d0
      have b1 := (hch.cell (p := ⟨w.heap.size, 1, none⟩) h0l hnb).trans d1
      have b2 := (hch.cell (p := ⟨w.heap.size, 2, none⟩) h0l hnb).trans d2
      have b3 := (hch.cell (p := ⟨w.heap.size, 3, none⟩) h0l hnb).trans d3
      have b4 := (hch.cell (p := ⟨w.heap.size, 4, none⟩) h0l hnb).trans d4
      have b5 := (hch.cell (p := ⟨w.heap.size, 5, none⟩) h0l hnb).trans d5
      obtain ⟨v0, l0⟩ := own_at o1 (j := k * 6) (by omega)
      have f0 := World.ownsRow.frozenAt o1 (k * 6)
      obtain ⟨v1, l1⟩ := own_at o1 (j := k * 6 + 1) (by omega)
      have f1 := World.ownsRow.frozenAt o1 (k * 6 + 1)
      obtain ⟨v2, l2⟩ := own_at o1 (j := k * 6 + 2) (by omega)
      have f2 := World.ownsRow.frozenAt o1 (k * 6 + 2)
      obtain ⟨v3, l3⟩ := own_at o1 (j := k * 6 + 3) (by omega)
      have f3 := World.ownsRow.frozenAt o1 (k * 6 + 3)
      obtain ⟨v4, l4⟩ := own_at o1 (j := k * 6 + 4) (by omega)
      have f4 := World.ownsRow.frozenAt o1 (k * 6 + 4)
      obtain ⟨v5, l5⟩ := own_at o1 (j := k * 6 + 5) (by omega)
      have f5 := World.ownsRow.frozenAt o1 (k * 6 + 5)
      obtain ⟨z0, p0⟩ := storedR o1 (k * 6) ((.int .i64 x.k))
      obtain ⟨z1, p1⟩ := storedR p0 (k * 6 + 1) ((.int .i64 x.q))
      obtain ⟨z2, p2⟩ := storedR p1 (k * 6 + 2) ((.int .i64 x.t))
      obtain ⟨z3, p3⟩ := storedR p2 (k * 6 + 3) ((.string x.s))
      obtain ⟨z4, p4⟩ := storedR p3 (k * 6 + 4) ((.string x.h))
      obtain ⟨z5, p5⟩ := storedR p4 (k * 6 + 5) ((.string x.d))
      have HC := hide ((((((hch.setCell (p := ⟨g, k * 6, none⟩) (.inl rfl) ((.int .i64 x.k))).setCell (p := ⟨g, k * 6 + 1, none⟩) (.inl rfl) ((.int .i64 x.q))).setCell (p := ⟨g, k * 6 + 2, none⟩) (.inl rfl) ((.int .i64 x.t))).setCell (p := ⟨g, k * 6 + 3, none⟩) (.inl rfl) ((.string x.s))).setCell (p := ⟨g, k * 6 + 4, none⟩) (.inl rfl) ((.string x.h))).setCell (p := ⟨g, k * 6 + 5, none⟩) (.inl rfl) ((.string x.d)))
      have HO := hide p5
      clear p0 p1 p2 p3 p4 p5 hch HP o1
      go_wp2_with fail
      refine ⟨⟨k + 1, by go_num, by omega, hide ⟨unhide HC, fun _ => ⟨g, _, rfl, unhide HO, o2⟩⟩⟩, ?_⟩
      simp [intOf]; omega
    · have hch := (unhide HP).1
      have HF := hide ((Chg.of_below hb0).trans hch)
      clear hch HP
      go_wp2_with fail
      go_end0
      exact ⟨rfl, unhide HF⟩
end Go.Proofs.YtcdajajekmichaiDoor.Dk
