/-
  Contract of the document's disk: Drawer.Append where the file is new.
-/
import Derived.Test.YtbejicpfhnfnfabWalkP4
namespace Go.Proofs.Ytbejicpfhnfnfab.Dk
open Go.RowKit

/-- the new slice is stored, and then a text in it -/
theorem Upd.fresh {w w7 : World} {B p g' cap' k : Nat} {m : Int} {v : Value} {es L : List Pap} (hK : Keeps w B p m v es) (i2 : Chg (fun k => v.ownBlock = some k) w w7) (i1 : Arr w7 B (.slice (some ⟨g', 0, none⟩) L.length cap') L) (i3 : ∀ g, (Value.slice (some ⟨g', 0, none⟩) L.length cap').ownBlock = some g → v.ownBlock = some g ∨ w.heap.size ≤ g) (hk : k < L.length) (t : ByteArray) :
    Upd w ((w7.setCell ⟨p, 1, none⟩ (.slice (some ⟨g', 0, none⟩) L.length cap')).setCell ⟨g', k * 3 + 2, none⟩ (.string t)) B p m v (L.set k { pa L k with text := t }) := by
  obtain ⟨a1, a2⟩ := hK.store i2 i1 i3
  obtain ⟨b1, b2⟩ := a1.text hk t
  refine ⟨_, b1, a2.more b2 ?_, fun g hg => i3 g hg⟩
  intro i hi q
  rcases q with q | q
  · exact .inl q
  · rcases i3 i q with r | r
    · exact .inr r
    · omega

set_option maxRecDepth 100000 in
set_option maxHeartbeats 1000000 in
theorem append_new (B p : Nat) (m : Int) (v : Value) (es : List Pap) (n : Int) (s : ByteArray) (w : World) (hk : Keeps w B p m v es) (h100 : es.length ≤ 20) (hu : used es ≤ 1000000) (hs : s.size ≤ 140737488355328) (hB : B ≤ w.heap.size) (hI : inI n 0 1099511627776 = true) (hf : full es m n s = false) (hh : ¬ ix es n < es.length) :
    Calls Try.prog 10 #[.pointer (some ⟨p, 0, none⟩), .int .i64 n, .string s] w fun e w' => e = .returned (.int .i64 (appE es m n s)) ∧ Upd w w' B p m v (appL es m n s) := by
  have Hk := hide hk
  have d0 := hk.room
  clear hk
  have HI := hide hI
  have HR := hide (app_new hI hf hh)
  obtain ⟨t1, hl⟩ := full_not hf hh
  have t2 : decide (m < (s.size : Int) + (used es : Int)) = false := decide_eq_false t1
  have Hi := hide (atI_none hh)
  have hl2 : ((es.length : Int) == 20) = false := by rw [beq_eq_false_iff_ne]; omega
  have hql := low_le es n
  have Hlt : Hid (∀ j, j < low es n → (pa es j).n < n) := hide (fun j hj => low_lt hj)
  have Hat : Hid (low es n < es.length → ¬ (pa es (low es n)).n < n) := hide (fun h => low_at h)
  generalize low es n = q at hql Hlt Hat HR
  clear hI hh hl hf t1
  obtain ⟨a, cap, rfl, c1, c2, c3⟩ := (unhide Hk).arr.shape
  clear c3 c2
  go_enter Try.func10, Try.ntmps10
  go_wp2_with fail
  refine (in_any _ _ _ _).mono ?_
  rintro e w1 ⟨rfl, rfl⟩
  rw [unhide HI]
  go_wp2_with fail
  refine (at_any B p m _ es n _ (unhide Hk) (by omega)).mono ?_
  rintro e w2 ⟨rfl, hb2⟩
  rw [unhide Hi]
  have k2 := (unhide Hk).below hb2
  have K2 := hide k2
  have e0 := k2.room
  have e1 := k2.cell
  clear k2 d0
  go_wp2_with fail
  go_quiet ((go_at_call 23; exact Calls.quiet_of_same (used_any B p m _ es _ ((unhide K2).below (below_drewN (Below.refl _ _) _)) (by omega) (by omega))))
  have K3 := hide ((unhide K2).below (below_drewN (Below.refl _ _) nq))
  have Hb3 := hide (below_drewN hb2 nq)
  clear K2 hb2 e0 e1
  generalize w2.drewN nq = w3 at K3 Hb3 ⊢
  go_wp2_with fail
  go_loopw [7] (fun kv wr => ∃ (k : Nat), kv = .int .i64 k ∧ k ≤ q ∧ Hid (Keeps wr B p m (.slice a es.length cap) es) ∧ Hid (Below w1.heap.size w1 wr)) (fun kv _ => es.length - (intOf kv).toNat)
  case atStart => exact ⟨0, rfl, Nat.zero_le _, K3, Hb3⟩
  case round =>
    clear K3 Hb3
    obtain ⟨k, rfl, hkq, K3, Hb3⟩ := hrel
    have d1 := (unhide K3).cell
    have hb4 : Below wr.heap.size wr (wr.alloc (.cells #[.int .i64 n, .int .i64 0, .string ByteArray.empty] 52)) := (Below.refl _ _).alloc (Nat.le_refl _) _
    by_cases hlt : k < es.length
    · obtain ⟨g, cap', e0, f1, f2, f3, f4⟩ := (unhide K3).arr.there (by omega)
      obtain ⟨rfl, _, rfl⟩ := Value.slice.inj e0
      clear e0
      have d2 := (unhide K3).arr.num hlt
      by_cases hel : (pa es k).n < n
      · have hne : k ≠ q := fun e => by
          subst e
          have := unhide Hat hlt
          omega
        have he2 : decide ((pa es k).n < n) = true := decide_eq_true hel
        clear hb4
        go_wp2_with fail
        refine ⟨⟨k + 1, by go_num, by omega, K3, Hb3⟩, ?_⟩
        simp [intOf]; omega
      · have he2 : decide ((pa es k).n < n) = false := decide_eq_false hel
        have hkq2 : k = q := by
          rcases Nat.lt_or_ge k q with x | x
          · exact absurd (unhide Hlt k x) hel
          · omega
        subst hkq2
        have K6 := hide ((unhide K3).below hb4)
        have Hb6 := hide (bstep (unhide Hb3) hb4)
        clear hb4
        go_wp2_with fail
        refine (insert_any B _ es k ⟨n, 0, ByteArray.empty⟩ wr.heap.size _ (unhide K6).arr (by omega) (by omega) (heap_alloc_new wr _) (fun e => by have := ((unhide K3).arr.lt _ e).2; omega) (by have := (unhide Hb6).size; omega)).mono ?_
        rintro e w7 ⟨v', rfl, i1, i2, i3⟩
        have hLl : (insL es k ⟨n, 0, ByteArray.empty⟩).length = es.length + 1 := insL_length hql
        have HL := hide (insL_at hql ⟨n, 0, ByteArray.empty⟩)
        have HS := hide (insL_set hql ⟨n, 0, ByteArray.empty⟩ ⟨n, 0, s⟩)
        generalize insL es k ⟨n, 0, ByteArray.empty⟩ = L at i1 hLl HL HS
        obtain ⟨g', cap', rfl, x1, x2, x3, x4⟩ := i1.there (by omega)
        unfold maxLen at x2
        have d4 : w7.cell? ⟨p, 1, none⟩ = some (.slice (some ⟨g, 0, none⟩) es.length cap) := by rw [i2.cell (p := ⟨p, 1, none⟩) (unhide K6).lt (unhide K6).apart]; exact (unhide K6).cell
        have d5 : w7.frozen? ⟨p, 1, none⟩ = false := by rw [i2.frozen (p := ⟨p, 1, none⟩) (unhide K6).lt (unhide K6).apart]; exact (unhide K6).free
        have hkL : k < L.length := by omega
        have hsz : (pa L k).text.size = 0 := by rw [unhide HL]; rfl
        have hcat : ¬ 9223372036854775807 < (pa L k).text.size + s.size := by omega
        have k8 := ((unhide K6).store i2 i1 i3).1
        have d6 := k8.cell
        have d7 := k8.arr.text hkL
        have d8 := World.ownsRow.frozenAt k8.arr (k * 3 + 2)
        have hgp : g' ≠ p := fun e => k8.apart (by rw [e]; rfl)
        have HU := hide (Upd.fresh (unhide K6) i2 i1 i3 hkL ((pa L k).text ++ s))
        have k0 : decide ((k : Int) < 0) = false := decide_eq_false (by omega)
        clear k8 i1 i2 i3 hLl d1 d2
        go_wp2_with fail
        go_ret
        refine ⟨ret_eq (unhide HR).1, ?_⟩
        rw [(unhide HR).2]
        refine Upd.behind (unhide Hb6) ?_
        rw [← unhide HS, ← new_text (unhide HL)]
        exact unhide HU
    · have hkq2 : k = q := by omega
      subst hkq2
      have K6 := hide ((unhide K3).below hb4)
      have Hb6 := hide (bstep (unhide Hb3) hb4)
      clear hb4
      go_wp2_with fail
      refine (insert_any B _ es k ⟨n, 0, ByteArray.empty⟩ wr.heap.size _ (unhide K6).arr (by omega) (by omega) (heap_alloc_new wr _) (fun e => by have := ((unhide K3).arr.lt _ e).2; omega) (by have := (unhide Hb6).size; omega)).mono ?_
      rintro e w7 ⟨v', rfl, i1, i2, i3⟩
      have hLl : (insL es k ⟨n, 0, ByteArray.empty⟩).length = es.length + 1 := insL_length hql
      have HL := hide (insL_at hql ⟨n, 0, ByteArray.empty⟩)
      have HS := hide (insL_set hql ⟨n, 0, ByteArray.empty⟩ ⟨n, 0, s⟩)
      generalize insL es k ⟨n, 0, ByteArray.empty⟩ = L at i1 hLl HL HS
      obtain ⟨g', cap', rfl, x1, x2, x3, x4⟩ := i1.there (by omega)
      unfold maxLen at x2
      have d4 : w7.cell? ⟨p, 1, none⟩ = some (.slice a es.length cap) := by rw [i2.cell (p := ⟨p, 1, none⟩) (unhide K6).lt (unhide K6).apart]; exact (unhide K6).cell
      have d5 : w7.frozen? ⟨p, 1, none⟩ = false := by rw [i2.frozen (p := ⟨p, 1, none⟩) (unhide K6).lt (unhide K6).apart]; exact (unhide K6).free
      have hkL : k < L.length := by omega
      have hsz : (pa L k).text.size = 0 := by rw [unhide HL]; rfl
      have hcat : ¬ 9223372036854775807 < (pa L k).text.size + s.size := by omega
      have k8 := ((unhide K6).store i2 i1 i3).1
      have d6 := k8.cell
      have d7 := k8.arr.text hkL
      have d8 := World.ownsRow.frozenAt k8.arr (k * 3 + 2)
      have hgp : g' ≠ p := fun e => k8.apart (by rw [e]; rfl)
      have HU := hide (Upd.fresh (unhide K6) i2 i1 i3 hkL ((pa L k).text ++ s))
      have k0 : decide ((k : Int) < 0) = false := decide_eq_false (by omega)
      clear k8 i1 i2 i3 hLl d1
      go_wp2_with fail
      go_ret
      refine ⟨ret_eq (unhide HR).1, ?_⟩
      rw [(unhide HR).2]
      refine Upd.behind (unhide Hb6) ?_
      rw [← unhide HS, ← new_text (unhide HL)]
      exact unhide HU

theorem append_any (B p : Nat) (m : Int) (v : Value) (es : List Pap) (n : Int) (s : ByteArray) (w : World) (hk : Keeps w B p m v es) (h100 : es.length ≤ 20) (hu : used es ≤ 1000000) (hs : s.size ≤ 140737488355328) (hB : B ≤ w.heap.size) :
    Calls Try.prog 10 #[.pointer (some ⟨p, 0, none⟩), .int .i64 n, .string s] w fun e w' => e = .returned (.int .i64 (appE es m n s)) ∧ Upd w w' B p m v (appL es m n s) := by
  by_cases h : inI n 0 1099511627776 = true ∧ full es m n s = false ∧ ¬ ix es n < es.length
  · exact append_new B p m v es n s w hk h100 hu hs hB h.1 h.2.1 h.2.2
  · exact append_seen B p m v es n s w hk h100 hu hs (fun a b => Decidable.byContradiction fun c => h ⟨a, b, c⟩)
end Go.Proofs.Ytbejicpfhnfnfab.Dk
