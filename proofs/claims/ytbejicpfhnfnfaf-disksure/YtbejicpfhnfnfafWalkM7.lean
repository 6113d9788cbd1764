/-
  Contract of the program's disk: Append.
-/
import Derived.Test.YtbejicpfhnfnfafWalkM6
namespace Go.Proofs.Ytbejicpfhnfnfaf.Dk
open Go.RowKit

set_option maxRecDepth 100000 in
set_option maxHeartbeats 1000000 in
theorem append_not {w : World} {B q : Nat} {F : Nat → Prop} {m : Int} {es : List Pap} (n : Int) (s : ByteArray) (hH : Has w B q F m es) (ht : Tidy m es) (hm : m ≤ 65536) (hs : s.size ≤ 140737488355328) {E : Int} (hE : appE es m n s = E) (h0 : E ≠ 0) :
    Calls Try.prog 5 #[.pointer (some ⟨q, 0, none⟩), .int .i64 n, .string s] w fun e w' => e = .returned (.int .i64 E) ∧ Did Has w w' B q F m es := by
  have PT := hide (dtry_any n s hH ht hm hs)
  rw [hE] at PT
  have HH := hide hH
  have h1 : (E != 0) = true := by simpa using h0
  clear hH ht hE
  go_enter Try.func5, Try.ntmps5
  go_wp2_with fail
  refine (unhide PT).mono ?_
  rintro e w3 ⟨rfl, b3⟩
  have B3 := hide b3
  clear b3 PT
  go_wp2_with fail
  go_ret
  exact ⟨rfl, did_new (unhide HH) (unhide B3)⟩

set_option maxRecDepth 100000 in
set_option maxHeartbeats 1000000 in
theorem append_old {w : World} {B q : Nat} {F : Nat → Prop} {m : Int} {es : List Pap} (n : Int) (s : ByteArray) (hH : Has w B q F m es) {e : Pap} (ht : Tidy m es) (hm : m ≤ 65536) (hs : s.size ≤ 140737488355328) (hB : B ≤ w.heap.size) (hI : 0 ≤ n ∧ n ≤ 1099511627776) (h0 : appE es m n s = 0) (hfull : ¬ m < (s.size : Int) + (used es : Int)) (hn : fnd es n = some e) :
    Calls Try.prog 5 #[.pointer (some ⟨q, 0, none⟩), .int .i64 n, .string s] w fun e w' => e = .returned (.int .i64 0) ∧ Did Has w w' B q F m (appL es m n s) := by
  have PT := hide (dtry_any n s hH ht hm hs)
  rw [h0] at PT
  have hfit := ht.fits
  obtain ⟨rl, mb, D, cO, vO, hF, h⟩ := hH
  have hmem := used_mem (fnd_mem hn).1
  have HX : Hid (∀ w3, Below w.heap.size w w3 → w3.cell? ⟨q, 1, none⟩ = some (.map mb) ∧ (Instr.lookup 34 (.map mb) (.int .i64 n) false).run Try.prog w3 = .ok (.pointer (some ⟨cO n, 0, none⟩)) w3 ∧ w3.cell? ⟨cO n, 0, none⟩ = some (vO n) ∧ ∃ a l k w4, (Builtin.append_ #[39, 9] 39 #[vO n, .string s]).run Try.prog w3 = .ok (.slice a l k) w4 ∧ w4.cell? ⟨cO n, 0, none⟩ = some (vO n) ∧ w4.frozen? ⟨cO n, 0, none⟩ = false ∧ Did Has w (w4.setCell ⟨cO n, 0, none⟩ (.slice a l k)) B q F m (appL es m n s)) := hide (by
    intro w3 hb3
    have h3 := h.keep (A := fun _ => False) (Chg.of_below hb3) (fun _ _ z => z)
    refine ⟨h3.c1, ?_, (h3.file n e hn).c0, ?_⟩
    · rcases h3.look (wf_low hI) with ⟨z, _⟩ | ⟨_, _, z⟩
      · rw [hn] at z; cases z
      · exact z
    · exact app_fin hF h3 hn (appL_old ht h0 hn).1 (appL_old ht h0 hn).2 (Chg.of_below hb3) (fun k hk => .inl hk) (Nat.le_trans hB hb3.size) (by omega))
  clear h hF ht hn h0
  go_enter Try.func5, Try.ntmps5
  go_wp2_with fail
  refine (unhide PT).mono ?_
  rintro e w3 ⟨rfl, b3⟩
  obtain ⟨x1, x2, x3, a, l, k, w4, x4, x5, x6, x7⟩ := unhide HX w3 b3
  have X7 := hide x7
  clear b3 x7 HX PT
  go_wp2_with (at_builtin; refine wpList_append_run _ rfl _ _ 39 9 rfl _ _ rfl rfl _ _ x4 ?_)
  go_ret
  exact ⟨rfl, unhide X7⟩

set_option maxRecDepth 100000 in
set_option maxHeartbeats 1000000 in
theorem append_make {w : World} {B q : Nat} {F : Nat → Prop} {m : Int} {es : List Pap} (n : Int) (s : ByteArray) (hH : Has w B q F m es) (ht : Tidy m es) (hm : m ≤ 65536) (hs : s.size ≤ 140737488355328) (hB : B ≤ w.heap.size) (hI : 0 ≤ n ∧ n ≤ 1099511627776) (h0 : appE es m n s = 0) (hfull : ¬ m < (s.size : Int) + (used es : Int)) (hn : fnd es n = none) (h20 : es.length < 20) :
    Calls Try.prog 5 #[.pointer (some ⟨q, 0, none⟩), .int .i64 n, .string s] w fun e w' => e = .returned (.int .i64 0) ∧ Did Has w w' B q F m (appL es m n s) := by
  have PT := hide (dtry_any n s hH ht hm hs)
  rw [h0] at PT
  have hfit := ht.fits
  obtain ⟨rl, mb, D, cO, vO, hF, h⟩ := hH
  have HX : Hid (∀ w3, Below w.heap.size w w3 → w3.cell? ⟨q, 1, none⟩ = some (.map mb) ∧ (Instr.lookup 34 (.map mb) (.int .i64 n) false).run Try.prog w3 = .ok (.pointer none) w3 ∧
      Calls Try.prog 12 #[.pointer (some ⟨q, 0, none⟩), .int .i64 n] w3 fun e w5 => ∃ c, e = .returned (.pointer (some ⟨c, 0, none⟩)) ∧ w5.cell? ⟨c, 0, none⟩ = some (.slice none 0 0) ∧ ∃ a l k w4, (Builtin.append_ #[39, 9] 39 #[.slice none 0 0, .string s]).run Try.prog w5 = .ok (.slice a l k) w4 ∧ w4.cell? ⟨c, 0, none⟩ = some (.slice none 0 0) ∧ w4.frozen? ⟨c, 0, none⟩ = false ∧ Did Has w (w4.setCell ⟨c, 0, none⟩ (.slice a l k)) B q F m (appL es m n s)) := hide (by
    intro w3 hb3
    have h3 := h.keep (A := fun _ => False) (Chg.of_below hb3) (fun _ _ z => z)
    refine ⟨h3.c1, ?_, ?_⟩
    · rcases h3.look (wf_low hI) with ⟨_, z⟩ | ⟨_, z, _⟩
      · exact z
      · rw [hn] at z; cases z
    · have hC : Calls Try.prog 12 #[.pointer (some ⟨q, 0, none⟩), .int .i64 n] w3 fun e w' => ∃ c, e = .returned (.pointer (some ⟨c, 0, none⟩)) ∧ Made w3 w' B q rl m es n c := by
        cases mb with
        | none => exact create_nil n (wf_low hI) h3 hn (Nat.le_trans hB hb3.size)
        | some b => exact create_old n (wf_low hI) h3 hn (by omega) (Nat.le_trans hB hb3.size)
      refine hC.mono ?_
      rintro r w5 ⟨c, rfl, rl', mb', D', cO', vO', h5, hc5, hv5, hch, hrl⟩
      have hf5 : fnd (newL es n) n = some ⟨n, 0, ByteArray.empty⟩ := by rw [newL_fnd hn, if_pos rfl]
      have hfin := app_fin (w := w) hF h5 hf5 (appL_new ht h0 hn).1 (appL_new ht h0 hn).2 ((Chg.of_below hb3).trans hch) (fun k hk => by
        rcases hrl k hk with y | y
        · exact .inl y
        · exact .inr (Nat.le_trans hb3.size y)) (Nat.le_trans hB (Nat.le_trans hb3.size hch.size)) (by show 0 + s.size ≤ 1000000; omega)
      rw [hc5, hv5] at hfin
      have hcell := (h5.file n _ hf5).c0
      rw [hc5, hv5] at hcell
      exact ⟨c, rfl, hcell, hfin⟩)
  clear h hF ht hn h0 h20
  go_enter Try.func5, Try.ntmps5
  go_wp2_with fail
  refine (unhide PT).mono ?_
  rintro e w3 ⟨rfl, b3⟩
  obtain ⟨x1, x2, x4⟩ := unhide HX w3 b3
  have PC := hide x4
  clear b3 HX x4 PT
  go_wp2_with fail
  refine (unhide PC).mono ?_
  rintro r w5 ⟨c, rfl, y1, a, l, k, w4, y2, y3, y4, y5⟩
  have Y5 := hide y5
  clear y5 PC x1 x2
  go_wp2_with (at_builtin; refine wpList_append_run _ rfl _ _ 39 9 rfl _ _ rfl rfl _ _ y2 ?_)
  go_ret
  exact ⟨rfl, unhide Y5⟩

theorem dappend_any {w : World} {B q : Nat} {F : Nat → Prop} {m : Int} {es : List Pap} (n : Int) (s : ByteArray) (hH : Has w B q F m es) (ht : Tidy m es) (hm : m ≤ 65536) (hs : s.size ≤ 140737488355328) (hB : B ≤ w.heap.size) :
    Calls Try.prog 5 #[.pointer (some ⟨q, 0, none⟩), .int .i64 n, .string s] w fun e w' => e = .returned (.int .i64 (appE es m n s)) ∧ Did Has w w' B q F m (appL es m n s) := by
  by_cases h0 : appE es m n s = 0
  · obtain ⟨hI, hf⟩ := app_ok.1 h0
    have hI' : 0 ≤ n ∧ n ≤ 1099511627776 := by simpa [inI] using hI
    have hr : ¬ m < (s.size : Int) + (used es : Int) := fun z => by unfold full at hf; rw [decide_eq_true z] at hf; cases hf
    rw [h0]
    cases hn : fnd es n with
    | some e => exact append_old n s hH ht hm hs hB hI' h0 hr hn
    | none =>
      have h20 : es.length ≠ 20 := fun z => by unfold full at hf; rw [decide_eq_false hr, decide_eq_false (ix_not hn), decide_eq_true z] at hf; cases hf
      exact append_make n s hH ht hm hs hB hI' h0 hr hn (by have := ht.few; omega)
  · rw [app_not h0]
    exact append_not n s hH ht hm hs rfl h0
end Go.Proofs.Ytbejicpfhnfnfaf.Dk
