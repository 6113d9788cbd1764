/-
  Contract of the document's store: Subjects.
-/
import Derived.Test.YtcdajajekmichabGreatDoorJointPapCPapE
import Derived.Test.YtcdajajekmichabGreatDoorJointWalkT4WalkT5WalkT6
import Derived.Test.YtcdajajekmichabGreatDoorJointWalkI6WalkI7
namespace Go.Proofs.YtcdajajekmichabGreatDoor
open Go.RowKit

theorem hasS_take {l : List Dk.Rc} {k : Nat} {s : ByteArray} (h : Dk.hasS (l.take k) s = true) : Dk.hasS l s = true := by
  unfold Dk.hasS at h ⊢
  rw [List.any_eq_true] at h ⊢
  obtain ⟨x, hx, hs⟩ := h
  exact ⟨x, List.mem_of_mem_take hx, hs⟩
theorem nameN_take (l : List Dk.Rc) (k : Nat) : Dk.nameN (l.take k) ≤ Dk.nameN l := by
  rw [Dk.nameN_len, Dk.nameN_len]
  exact Dk.nodup_le _ _ (Dk.nameL_nodup _) (fun s hs => (Dk.nameL_mem l s).2 (hasS_take ((Dk.nameL_mem _ s).1 hs)))
theorem cnt_room {l : List Dk.Rc} {es : List Ent} {k : Nat} (hk : k < l.length) (hn : Dk.nameN l ≤ 100) (h : Cnt (l.take k) es) : 0 < cntN (l.take k) (Dk.rc l k).s ∨ es.length < 100 := by
  by_cases z : 0 < cntN (l.take k) (Dk.rc l k).s
  · exact .inl z
  · right
    have h1 := nameN_take l (k + 1)
    rw [List.take_succ_eq_append_getElem hk, ← Dk.rc_get hk, Dk.nameN_snoc, cntN_has, decide_eq_false z] at h1
    simp at h1
    rw [h.len]
    omega
/-- what Find tells -/
theorem arr_lower {w : World} {B B' : Nat} {v : Value} {es : List Ent} (h : Arr w B v es) (hB : B' ≤ B) : Arr w B' v es := by
  refine ⟨h.1, ?_⟩
  rcases h.2 with q | ⟨g, cap, cur, x1, x2, x3⟩
  · exact .inl q
  · exact .inr ⟨g, cap, cur, x1, Nat.le_trans hB x2, x3⟩
theorem shelf_new (w : World) (T : TypeId) : Keeps (w.alloc (.cells #[.slice none 0 0] T)) w.heap.size w.heap.size (.slice none 0 0) [] := by
  refine ⟨?_, ?_, Nat.le_refl _, by simp, World.ownsRow_nil _ _ _ _, fun z => by cases z⟩
  · rw [cell_of_row _ w.heap.size 0 _ _ _ (heap_alloc_new w _)]; rfl
  · exact frozen_of_row _ w.heap.size 0 _ _ (heap_alloc_new w _)

set_option maxRecDepth 100000 in
set_option maxHeartbeats 1000000 in
theorem csubjects_any {w : World} {B c : Nat} {F : Nat → Prop} {s : Dk.Sto} (f : ByteArray) (hf : f.size ≤ 140737488355328) (h : Dk.Che w B c F s) (hk : s.Ok) {es0 : List Ent} (h0 : Cnt s.l es0) :
    Calls Tryz.prog 71 #[.pointer (some ⟨c, 0, none⟩), .string f] w fun e w' => ∃ v', e = .returned (.tuple #[v', .int .i64 (errS true f)]) ∧ Arr w' w.heap.size v' (foundL es0 f) ∧ Below w.heap.size w w' := by
  have hfew := hk.few
  obtain ⟨a, cap, c0, _, hcap, hcm, hsl, hcl⟩ := h.read
  unfold maxLen at hcm
  have HSl := hide hsl
  have HC := hide c0
  have HM : Hid (∀ x ∈ s.l, errS false x.s = 0 ∧ x.s.size ≤ 140737488355328) := hide (fun x hx => ⟨Dk.chk_msg (hk.msg x hx).2 (hk.msg x hx).1, by have := (hk.small hx).1; omega⟩)
  have HN := hide hk.names
  have H0 := hide h0
  have K0 : Hid (Keeps (w.alloc (.cells #[.slice none 0 0] 165)) w.heap.size w.heap.size (.slice none 0 0) [] ∧ Below w.heap.size w (w.alloc (.cells #[.slice none 0 0] 165))) := hide ⟨shelf_new w _, (Below.refl _ w).alloc (Nat.le_refl _) _⟩
  clear h hk hsl c0 h0
  go_enter Tryz.func71, Tryz.ntmps71
  go_wp2_with fail
  go_loopw [7] (fun iv wr => ∃ (k : Nat) (v : Value) (es : List Ent), iv = .int .i64 k ∧ k ≤ s.l.length ∧ Hid (Cnt (s.l.take k) es) ∧ Hid (Keeps wr w.heap.size w.heap.size v es ∧ Below w.heap.size w wr)) (fun iv _ => s.l.length - (intOf iv).toNat)
  case atStart => exact ⟨0, _, [], rfl, Nat.zero_le _, hide Cnt.nil, K0⟩
  case round =>
    clear K0
    obtain ⟨k, v, es, rfl, hk, HCn, HT⟩ := hrel
    have c0 := ((unhide HT).2.cell (p := ⟨c, 0, none⟩) hcl).trans (unhide HC)
    by_cases hlt : k < s.l.length
    · obtain ⟨ga, o, rfl, s6⟩ := unhide HSl k hlt
      have hroom := cnt_room hlt (unhide HN) (unhide HCn)
      obtain ⟨y, hy⟩ : ∃ y, y = Dk.rc s.l k := ⟨_, rfl⟩
      have htk : s.l.take (k + 1) = s.l.take k ++ [y] := by rw [hy, Dk.rc_get hlt]; exact List.take_succ_eq_append_getElem hlt
      have s7 := s6.below (unhide HT).2 s6.lt
      have hm := unhide HM (Dk.rc s.l k) (by rw [Dk.rc_get hlt]; exact List.getElem_mem hlt)
      rw [← hy] at s7 hm hroom
      have y3 := s7.c3
      have hgl := s6.lt
      have hcnt : cntN (s.l.take k) y.s ≤ k := by
        unfold cntN
        refine Nat.le_trans (List.length_filter_le _ _) ?_
        rw [List.length_take]; omega
      have PG := hide (rget_any _ _ _ _ y.s wr (unhide HT).1 (unhide HCn).good hm.2)
      rw [(unhide HCn).get hm.1] at PG
      obtain ⟨n, hn⟩ : ∃ n : Int, n = (cntN (s.l.take k) y.s : Int) := ⟨_, rfl⟩
      rw [← hn] at PG
      have hw : IntKind.i64.wrap (n + 1) = n + 1 := by rw [IntKind.wrap_i64]; omega
      have HC2 : Hid (Cnt (s.l.take (k + 1)) (putL es y.s (n + 1))) := hide (by rw [htk, hn]; exact (unhide HCn).put y hm.1 hm.2 hroom)
      have HP : Hid (∀ w3, Keeps w3 w.heap.size w.heap.size v es → w.heap.size ≤ w3.heap.size → Calls Tryz.prog 114 #[.pointer (some ⟨w.heap.size, 0, none⟩), .string y.s, .int .i64 (n + 1)] w3 fun e w' => e = .returned (.int .i64 (putE es y.s)) ∧ Upd w3 w' w.heap.size w.heap.size v (putL es y.s (n + 1))) := hide (fun w3 h3 hs3 => rput_any _ _ _ _ y.s (n + 1) w3 h3 (unhide HCn).good hm.2 hs3)
      have hsz := (unhide HT).2.size
      have hga2 : ga < wr.heap.size := by omega
      clear hy htk s6 s7 hroom hcnt hn HCn
      go_wp2_with fail
      refine (unhide PG).mono ?_
      rintro e w3 ⟨rfl, b3⟩
      have d0 := (b3.cell (p := ⟨c, 0, none⟩) (show c < wr.heap.size by omega)).trans c0
      have d3 := (b3.cell (p := ⟨ga, o + k * 6 + 3, none⟩) hga2).trans y3
      have K3 := hide ((unhide HT).1.below b3)
      have B3 := hide (bstep (unhide HT).2 b3)
      have PP := hide (unhide HP w3 (unhide K3) (unhide B3).size)
      clear b3 PG HP c0 y3 HT
      go_wp2_with fail
      refine (unhide PP).mono ?_
      rintro e w4 ⟨rfl, v', k4, ch4, _⟩
      have T4 : Hid (Keeps w4 w.heap.size w.heap.size v' (putL es y.s (n + 1)) ∧ Below w.heap.size w w4) := hide ⟨k4, (unhide B3).trans (ch4.below (unhide B3).size (fun j hj z => by
        rcases z with z | z
        · omega
        · have := (World.ownsRow.lt (unhide K3).arr j z).1; omega))⟩
      clear k4 ch4 PP B3 K3 d0 d3
      go_wp2_with fail
      refine ⟨⟨k + 1, v', _, by go_num, by omega, HC2, T4⟩, ?_⟩
      simp [intOf]; omega
    · obtain rfl : k = s.l.length := by omega
      obtain rfl : es = es0 := by
        have h1 := unhide HCn
        rw [List.take_length] at h1
        exact h1.same (unhide H0)
      have PF := hide (rfind_any _ _ _ _ f wr (unhide HT).1 (unhide HCn).good hf)
      clear HCn
      go_wp2_with fail
      refine (unhide PF).mono ?_
      rintro e w3 ⟨v', rfl, a3, b3⟩
      have A3 : Hid (Arr w3 w.heap.size v' (foundL es f)) := hide (arr_lower a3 (unhide HT).2.size)
      have B3 := hide (bstep (unhide HT).2 b3)
      clear a3 b3 PF HT
      go_wp2_with fail
      go_ret2
      exact ⟨_, rfl, unhide A3, unhide B3⟩
end Go.Proofs.YtcdajajekmichabGreatDoor
