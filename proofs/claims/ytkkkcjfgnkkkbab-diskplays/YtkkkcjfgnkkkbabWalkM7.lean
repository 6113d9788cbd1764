/-
  Contract of the program's disk: Append where there is room.
-/
import Derived.Test.YtkkkcjfgnkkkbabWalkM6
namespace Go.Proofs.Ytkkkcjfgnkkkbab.Dk
open Go.RowKit

set_option maxRecDepth 100000 in
set_option maxHeartbeats 1000000 in
theorem append_old {w : World} {B q : Nat} {F : Nat → Prop} {m : Int} {es : List Pap} (n : Int) (s : ByteArray) {e : Pap} (hH : Has w B q F m es) (ht : Tidy m es) (hm : m ≤ 65536) (hB : B ≤ w.heap.size) (hI : 0 ≤ n ∧ n ≤ 1099511627776) (h0 : appE es m n s = 0) (hfull : ¬ m < (s.size : Int) + (used es : Int)) (hn : fnd es n = some e) :
    Calls Try.prog 9 #[.pointer (some ⟨q, 0, none⟩), .int .i64 n, .string s] w fun e w' => e = .returned (.int .i64 0) ∧ Did Has w w' B q F m (appL es m n s) := by
  have hb0 : Below w.heap.size w w.drew := (Below.refl _ _).drew
  have hH1 : Has w.drew B q F m es := hH.chg (A := fun _ => False) (Chg.of_below hb0) (fun _ _ z => z)
  have PU := hide (dused_any hH1 ht hm)
  have hfit := ht.fits
  obtain ⟨rl, mb, D, cO, vO, hF, h⟩ := hH
  have hql := (h.own q (by rw [h.r0]; rfl)).2
  have k0 : w.drew.cell? ⟨q, 0, none⟩ = some (.int .i64 m) := h.c0
  have h1 : ¬ n < 0 := by omega
  have h2 : ¬ 1099511627776 < n := by omega
  have hw : IntKind.i64.wrap (m - (used es : Int)) = m - (used es : Int) := by rw [IntKind.wrap_i64]; omega
  have hd : decide (m - (used es : Int) < (s.size : Int)) = false := decide_eq_false (by omega)
  have hmem := used_mem (fnd_mem hn).1
  have HX : Hid (∀ w3, Below w.heap.size w w3 → w3.cell? ⟨q, 1, none⟩ = some (.map mb) ∧ (Instr.lookup 38 (.map mb) (.int .i64 n) false).run Try.prog w3 = .ok (.pointer (some ⟨cO n, 0, none⟩)) w3 ∧ w3.cell? ⟨cO n, 0, none⟩ = some (vO n) ∧ ∃ a l k w4, (Builtin.append_ #[47, 9] 47 #[vO n, .string s]).run Try.prog w3 = .ok (.slice a l k) w4 ∧ w4.cell? ⟨cO n, 0, none⟩ = some (vO n) ∧ w4.frozen? ⟨cO n, 0, none⟩ = false ∧ Did Has w (w4.setCell ⟨cO n, 0, none⟩ (.slice a l k)) B q F m (appL es m n s)) := hide (by
    intro w3 hb3
    have h3 := h.keep (A := fun _ => False) (Chg.of_below hb3) (fun _ _ z => z)
    refine ⟨h3.c1, ?_, (h3.file n e hn).c0, ?_⟩
    · rcases h3.look (wf_low hI) with ⟨z, _⟩ | ⟨_, _, z⟩
      · rw [hn] at z; cases z
      · exact z
    · exact app_fin hF h3 hn (appL_old ht h0 hn).1 (appL_old ht h0 hn).2 (Chg.of_below hb3) (fun k hk => .inl hk) (Nat.le_trans hB hb3.size) (by omega))
  clear h hF hH1 ht hn h0
  go_enter Try.func9, Try.ntmps9
  go_wp2_with fail
  go_region_held3 (fun w' => w'.cell? ⟨q, 0, none⟩ = some (.int .i64 m)) (first | assumption | go_keep)
    ((go_at_call 21; refine (unhide PU).mono ?_; rintro e w3 ⟨rfl, b3⟩; have t0 : w3.cell? ⟨q, 0, none⟩ = some (.int .i64 m) := (b3.cell (p := ⟨q, 0, none⟩) hql).trans k0))
  obtain ⟨x1, x2, x3, a, l, k, w4, x4, x5, x6, x7⟩ := unhide HX w3 (hb0.trans b3)
  have X7 := hide x7
  clear b3 hb0 x7 HX
  go_wp2_with (at_builtin; refine wpList_append_run _ rfl _ _ 47 9 rfl _ _ rfl rfl _ _ x4 ?_)
  go_ret
  exact ⟨rfl, unhide X7⟩

set_option maxRecDepth 100000 in
set_option maxHeartbeats 1000000 in
theorem append_many {w : World} {B q : Nat} {F : Nat → Prop} {m : Int} {es : List Pap} (n : Int) (s : ByteArray) (hH : Has w B q F m es) (ht : Tidy m es) (hm : m ≤ 65536) (hI : 0 ≤ n ∧ n ≤ 1099511627776) (hfull : ¬ m < (s.size : Int) + (used es : Int)) (hn : fnd es n = none) (h20 : es.length = 20) :
    Calls Try.prog 9 #[.pointer (some ⟨q, 0, none⟩), .int .i64 n, .string s] w fun e w' => e = .returned (.int .i64 8) ∧ Did Has w w' B q F m es := by
  have HH := hide hH
  have hb0 : Below w.heap.size w w.drew := (Below.refl _ _).drew
  have hH1 : Has w.drew B q F m es := hH.chg (A := fun _ => False) (Chg.of_below hb0) (fun _ _ z => z)
  have PU := hide (dused_any hH1 ht hm)
  have hfit := ht.fits
  obtain ⟨rl, mb, D, cO, vO, hF, h⟩ := hH
  have hql := (h.own q (by rw [h.r0]; rfl)).2
  have k0 : w.drew.cell? ⟨q, 0, none⟩ = some (.int .i64 m) := h.c0
  have h1 : ¬ n < 0 := by omega
  have h2 : ¬ 1099511627776 < n := by omega
  have hw : IntKind.i64.wrap (m - (used es : Int)) = m - (used es : Int) := by rw [IntKind.wrap_i64]; omega
  have hd : decide (m - (used es : Int) < (s.size : Int)) = false := decide_eq_false (by omega)
  have HX : Hid (∀ w3, Below w.heap.size w w3 → w3.cell? ⟨q, 1, none⟩ = some (.map mb) ∧ (Instr.lookup 38 (.map mb) (.int .i64 n) false).run Try.prog w3 = .ok (.pointer none) w3 ∧ ∀ ty, (Builtin.len_ #[38] ty #[.map mb]).run Try.prog w3 = .ok (.int .i64 20) w3) := hide (by
    intro w3 hb3
    have h3 := h.keep (A := fun _ => False) (Chg.of_below hb3) (fun _ _ z => z)
    refine ⟨h3.c1, ?_, fun ty => ?_⟩
    · rcases h3.look (wf_low hI) with ⟨_, z⟩ | ⟨_, z, _⟩
      · exact z
      · rw [hn] at z; cases z
    · rw [h3.mp.len ty, h3.sz, h20]; rfl)
  clear h hF hH1 ht hn h20
  go_enter Try.func9, Try.ntmps9
  go_wp2_with fail
  go_region_held3 (fun w' => w'.cell? ⟨q, 0, none⟩ = some (.int .i64 m)) (first | assumption | go_keep)
    ((go_at_call 21; refine (unhide PU).mono ?_; rintro e w3 ⟨rfl, b3⟩; have t0 : w3.cell? ⟨q, 0, none⟩ = some (.int .i64 m) := (b3.cell (p := ⟨q, 0, none⟩) hql).trans k0))
  have hb3 : Below w.heap.size w w3 := hb0.trans b3
  obtain ⟨x1, x2, x3⟩ := unhide HX w3 hb3
  clear b3 hb0 HX
  go_wp2_with fail
  go_ret
  exact ⟨rfl, did_new (unhide HH) hb3⟩

set_option maxRecDepth 100000 in
set_option maxHeartbeats 1000000 in
theorem append_make {w : World} {B q : Nat} {F : Nat → Prop} {m : Int} {es : List Pap} (n : Int) (s : ByteArray) (hH : Has w B q F m es) (ht : Tidy m es) (hm : m ≤ 65536) (hs : s.size ≤ 140737488355328) (hB : B ≤ w.heap.size) (hI : 0 ≤ n ∧ n ≤ 1099511627776) (h0 : appE es m n s = 0) (hfull : ¬ m < (s.size : Int) + (used es : Int)) (hn : fnd es n = none) (h20 : es.length < 20) :
    Calls Try.prog 9 #[.pointer (some ⟨q, 0, none⟩), .int .i64 n, .string s] w fun e w' => e = .returned (.int .i64 0) ∧ Did Has w w' B q F m (appL es m n s) := by
  have hb0 : Below w.heap.size w w.drew := (Below.refl _ _).drew
  have hH1 : Has w.drew B q F m es := hH.chg (A := fun _ => False) (Chg.of_below hb0) (fun _ _ z => z)
  have PU := hide (dused_any hH1 ht hm)
  have hfit := ht.fits
  obtain ⟨rl, mb, D, cO, vO, hF, h⟩ := hH
  have hql := (h.own q (by rw [h.r0]; rfl)).2
  have k0 : w.drew.cell? ⟨q, 0, none⟩ = some (.int .i64 m) := h.c0
  have h1 : ¬ n < 0 := by omega
  have h2 : ¬ 1099511627776 < n := by omega
  have hw : IntKind.i64.wrap (m - (used es : Int)) = m - (used es : Int) := by rw [IntKind.wrap_i64]; omega
  have hd : decide (m - (used es : Int) < (s.size : Int)) = false := decide_eq_false (by omega)
  have hd2 : decide ((20 : Int) ≤ (es.length : Int)) = false := decide_eq_false (by omega)
  have HX : Hid (∀ w3, Below w.heap.size w w3 → w3.cell? ⟨q, 1, none⟩ = some (.map mb) ∧ (Instr.lookup 38 (.map mb) (.int .i64 n) false).run Try.prog w3 = .ok (.pointer none) w3 ∧ (∀ ty, (Builtin.len_ #[38] ty #[.map mb]).run Try.prog w3 = .ok (.int .i64 (es.length : Int)) w3) ∧
      Calls Try.prog 22 #[.pointer (some ⟨q, 0, none⟩), .int .i64 n] w3 fun e w5 => ∃ c, e = .returned (.pointer (some ⟨c, 0, none⟩)) ∧ w5.cell? ⟨c, 0, none⟩ = some (.slice none 0 0) ∧ ∃ a l k w4, (Builtin.append_ #[47, 9] 47 #[.slice none 0 0, .string s]).run Try.prog w5 = .ok (.slice a l k) w4 ∧ w4.cell? ⟨c, 0, none⟩ = some (.slice none 0 0) ∧ w4.frozen? ⟨c, 0, none⟩ = false ∧ Did Has w (w4.setCell ⟨c, 0, none⟩ (.slice a l k)) B q F m (appL es m n s)) := hide (by
    intro w3 hb3
    have h3 := h.keep (A := fun _ => False) (Chg.of_below hb3) (fun _ _ z => z)
    refine ⟨h3.c1, ?_, fun ty => ?_, ?_⟩
    · rcases h3.look (wf_low hI) with ⟨_, z⟩ | ⟨_, z, _⟩
      · exact z
      · rw [hn] at z; cases z
    · rw [h3.mp.len ty, h3.sz]
    · have hC : Calls Try.prog 22 #[.pointer (some ⟨q, 0, none⟩), .int .i64 n] w3 fun e w' => ∃ c, e = .returned (.pointer (some ⟨c, 0, none⟩)) ∧ Made w3 w' B q rl m es n c := by
        cases mb with
        | none => exact create_nil n (wf_low hI) h3 hn (Nat.le_trans hB hb3.size)
        | some b => exact create_old n (wf_low hI) h3 hn (by omega) (Nat.le_trans hB hb3.size)
      refine hC.mono ?_
      rintro r w5 ⟨c, rfl, rl', mb', D', cO', vO', h5, hc5, hv5, hch, hrl⟩
      have hf5 : fnd (newL es n) n = some ⟨n, 0, ByteArray.empty⟩ := by rw [newL_fnd hn, if_pos rfl]
      have hfin := app_fin (w := w) hF h5 hf5 (appL_new ht h0 hn).1 (appL_new ht h0 hn).2 ((Chg.of_below hb3).trans hch) (fun k hk => by
        rcases hrl k hk with y | y
        · exact .inl y
        · exact .inr (Nat.le_trans hb3.size y)) (Nat.le_trans hB (Nat.le_trans hb3.size hch.size)) (by show 0 + s.size ≤ 1000000; omega)
      rw [hc5, hv5] at hfin
      have hcell := (h5.file n _ hf5).c0
      rw [hc5, hv5] at hcell
      exact ⟨c, rfl, hcell, hfin⟩)
  clear h hF hH1 ht hn h0 h20
  go_enter Try.func9, Try.ntmps9
  go_wp2_with fail
  go_region_held3 (fun w' => w'.cell? ⟨q, 0, none⟩ = some (.int .i64 m)) (first | assumption | go_keep)
    ((go_at_call 21; refine (unhide PU).mono ?_; rintro e w3 ⟨rfl, b3⟩; have t0 : w3.cell? ⟨q, 0, none⟩ = some (.int .i64 m) := (b3.cell (p := ⟨q, 0, none⟩) hql).trans k0))
  obtain ⟨x1, x2, x3, x4⟩ := unhide HX w3 (hb0.trans b3)
  have PC := hide x4
  clear b3 hb0 HX x4
  go_wp2_with fail
  refine (unhide PC).mono ?_
  rintro r w5 ⟨c, rfl, y1, a, l, k, w4, y2, y3, y4, y5⟩
  have Y5 := hide y5
  clear y5 PC x1 x2 x3
  go_wp2_with (at_builtin; refine wpList_append_run _ rfl _ _ 47 9 rfl _ _ rfl rfl _ _ y2 ?_)
  go_ret
  exact ⟨rfl, unhide Y5⟩

theorem dappend_any {w : World} {B q : Nat} {F : Nat → Prop} {m : Int} {es : List Pap} (n : Int) (s : ByteArray) (hH : Has w B q F m es) (ht : Tidy m es) (hm : m ≤ 65536) (hs : s.size ≤ 140737488355328) (hB : B ≤ w.heap.size) :
    Calls Try.prog 9 #[.pointer (some ⟨q, 0, none⟩), .int .i64 n, .string s] w fun e w' => e = .returned (.int .i64 (appE es m n s)) ∧ Did Has w w' B q F m (appL es m n s) := by
  cases hI : inI n 0 1099511627776 with
  | false => exact append_arg n s hH hI
  | true =>
    have hI' : 0 ≤ n ∧ n ≤ 1099511627776 := by simpa [inI] using hI
    by_cases hr : m < (s.size : Int) + (used es : Int)
    · have hf : full es m n s = true := by unfold full; rw [decide_eq_true hr]; rfl
      rw [(app_full hI hf).1, (app_full hI hf).2]
      exact append_room n s hH ht hm hs hI' hr
    · cases hn : fnd es n with
      | some e =>
        have hf : full es m n s = false := by unfold full; rw [decide_eq_false hr, decide_eq_true (ix_some hn).1]; rfl
        have h0 := app_ok.2 ⟨hI, hf⟩
        rw [h0]
        exact append_old n s hH ht hm hB hI' h0 hr hn
      | none =>
        by_cases h20 : es.length = 20
        · have hf : full es m n s = true := by unfold full; rw [decide_eq_false hr, decide_eq_false (ix_not hn), decide_eq_true h20]; rfl
          rw [(app_full hI hf).1, (app_full hI hf).2]
          exact append_many n s hH ht hm hI' hr hn h20
        · have hf : full es m n s = false := by unfold full; rw [decide_eq_false hr, decide_eq_false (ix_not hn), decide_eq_false h20]; rfl
          have h0 := app_ok.2 ⟨hI, hf⟩
          rw [h0]
          exact append_make n s hH ht hm hs hB hI' h0 hr hn (by have := ht.few; omega)
end Go.Proofs.Ytkkkcjfgnkkkbab.Dk
