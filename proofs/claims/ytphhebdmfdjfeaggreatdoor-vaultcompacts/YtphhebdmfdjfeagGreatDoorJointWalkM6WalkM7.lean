/-
  Contract of the program's disk: Try; what an Append leaves.
  Contract of the program's disk: Append.
-/
import Derived.Test.YtphhebdmfdjfeagGreatDoorWalkM5
namespace Go.Proofs.YtphhebdmfdjfeagGreatDoor.Dk
open Go.RowKit

/-- an append whose run is known, at the operation -/
theorem wpList_append_run {P : Program} (w : World) {ops : Array Oper} {rest : List Oper} {o : Oper} {a : Act} {Q : Exit → Act → World → Prop} (hgd : o.guard = none) (sl x : Operand) (t u : TypeId) (ho : o.op = .call { callee := .builtin .append, args := #[sl, x], argTypes := #[t, u] })
    (v y : Value) (hs : a.eval sl = v) (hx : a.eval x = y) (v' : Value) (w' : World) (hr : (Builtin.append_ #[t, u] o.type #[v, y]).run P w = .ok v' w') (h : wpList P ops Q rest (a.put o.dst v') w') : wpList P ops Q (o :: rest) a w := by
  refine wpList_plain hgd fun K hK => ?_
  unfold Oper.wp execOp
  simp only [ho, resolve, invoke, builtin, Sem.run_bind, Sem.run_pure, Result.andThen_ok, List.map_toArray, List.map_cons, List.map_nil, hs, hx, hr]
  exact hK _ _ h
/-- the end of an Append: the text is put behind the file's row -/
theorem app_fin {w w3 : World} {B q : Nat} {F : Nat → Prop} {rl rl3 : Nat → Option (Nat × Int)} {m : Int} {es3 es' : List Pap} {mb : Option Nat} {D : DataW Unit} {cO : Int → Nat} {vO : Int → Value} {n : Int} {e : Pap} {s : ByteArray} (hF : ∀ k, F k ↔ (rl k).isSome = true) (h3 : Disk w3 B q rl3 m es3 mb D cO vO)
    (hn : fnd es3 n = some e) (hlen : es'.length = es3.length) (hf : ∀ k, fnd es' k = if k = n then some (addP e s) else fnd es3 k) (hc : Chg (fun k => (rl k).isSome = true) w w3) (hr : ∀ k, (rl3 k).isSome = true → (rl k).isSome = true ∨ w.heap.size ≤ k) (hB : B ≤ w3.heap.size) (hl : e.text.size + s.size ≤ 1000000) :
    ∃ a l c w4, (Builtin.append_ #[75, 9] 75 #[vO n, .string s]).run Tryz.prog w3 = .ok (.slice a l c) w4 ∧ w4.cell? ⟨cO n, 0, none⟩ = some (vO n) ∧ w4.frozen? ⟨cO n, 0, none⟩ = false ∧ Did Has w (w4.setCell ⟨cO n, 0, none⟩ (.slice a l c)) B q F m es' := by
  have hfile := h3.file n e hn
  have haw := h3.away hn
  obtain ⟨v', w4, h1, h2, hcr, hv⟩ := append_row w3 B 75 (vO n) e.text s hfile.row hB hl
  have hlt := hfile.lt
  have hn' : v'.ownBlock ≠ some (cO n) := fun z => by
    rcases hv _ z with y | y
    · exact haw y
    · omega
  obtain ⟨p1, p2⟩ := hfile.put0 hcr haw h2 hn'
  obtain ⟨rl', h', hr'⟩ := h3.one (e' := addP e s) hn hlen hf p2 p1 hv
  obtain ⟨a, c, hshape, _, _⟩ := p1.shape
  subst hshape
  refine ⟨a, _, c, w4, h1, by rw [hcr.cell (p := ⟨cO n, 0, none⟩) hlt haw]; exact hfile.c0, by rw [hcr.frozen (p := ⟨cO n, 0, none⟩) hlt haw]; exact hfile.f0, h'.did hF (hc.more (h3.foot hn p2) (fun i hi z => ?_)) (fun k hk => ?_)⟩
  · rcases hr i z with y | y
    · exact y
    · omega
  · rcases hr' k hk with y | y
    · exact hr k y
    · exact .inr (Nat.le_trans hc.size y)
theorem appL_old {m : Int} {es : List Pap} (ht : Tidy m es) {n : Int} {s : ByteArray} {e : Pap} (h0 : appE es m n s = 0) (hn : fnd es n = some e) : (appL es m n s).length = es.length ∧ ∀ k, fnd (appL es m n s) k = if k = n then some (addP e s) else fnd es k := by
  refine ⟨?_, fun k => ?_⟩
  · obtain ⟨a, b⟩ := app_ok.1 h0
    rw [(app_old a b (ix_some hn).1).2, List.length_set]
  · rw [fnd_app ht, h0, hn]
    simp [appP]
theorem appL_new {m : Int} {es : List Pap} (ht : Tidy m es) {n : Int} {s : ByteArray} (h0 : appE es m n s = 0) (hn : fnd es n = none) : (appL es m n s).length = (newL es n).length ∧ ∀ k, fnd (appL es m n s) k = if k = n then some (addP ⟨n, 0, ByteArray.empty⟩ s) else fnd (newL es n) k := by
  refine ⟨?_, fun k => ?_⟩
  · obtain ⟨a, b⟩ := app_ok.1 h0
    rw [(app_new a b (ix_not hn)).2, newL_len, insL_length (low_le _ _)]
  · rw [fnd_app ht, h0, hn, newL_fnd hn]
    by_cases hk : k = n
    · simp [hk, appP, addP]
    · simp [hk]

set_option maxRecDepth 100000 in
set_option maxHeartbeats 1000000 in
theorem try_arg {w : World} {q : Nat} (n : Int) (s : ByteArray) (hI : inI n 0 1099511627776 = false) :
    Calls Tryz.prog 46 #[.pointer (some ⟨q, 0, none⟩), .int .i64 n, .string s] w fun e w' => e = .returned (.int .i64 1) ∧ Below w.heap.size w w' := by
  have h' : n < 0 ∨ 1099511627776 < n := by
    unfold inI at hI
    simp only [Bool.and_eq_false_iff, decide_eq_false_iff_not] at hI
    omega
  clear hI
  by_cases h1 : n < 0
  · go_enter Tryz.func46, Tryz.ntmps46
    go_wp2_with fail
    go_ret
    exact ⟨rfl, Below.refl _ _⟩
  · have h2 : 1099511627776 < n := by omega
    go_enter Tryz.func46, Tryz.ntmps46
    go_wp2_with fail
    go_ret
    exact ⟨rfl, Below.refl _ _⟩

set_option maxRecDepth 100000 in
set_option maxHeartbeats 1000000 in
theorem try_room {w : World} {B q : Nat} {F : Nat → Prop} {m : Int} {es : List Pap} (n : Int) (s : ByteArray) (hH : Has w B q F m es) (ht : Tidy m es) (hm : m ≤ 65536) (hs : s.size ≤ 140737488355328) (hI : 0 ≤ n ∧ n ≤ 1099511627776) (hfull : m < (s.size : Int) + (used es : Int)) :
    Calls Tryz.prog 46 #[.pointer (some ⟨q, 0, none⟩), .int .i64 n, .string s] w fun e w' => e = .returned (.int .i64 8) ∧ Below w.heap.size w w' := by
  have hb0 : Below w.heap.size w w.drew := (Below.refl _ _).drew
  have hH1 : Has w.drew B q F m es := hH.chg (A := fun _ => False) (Chg.of_below hb0) (fun _ _ z => z)
  have PU := hide (dused_any hH1 ht hm)
  have hfit := ht.fits
  obtain ⟨rl, mb, D, cO, vO, hF, h⟩ := hH
  have hql := (h.own q (by rw [h.r0]; rfl)).2
  have k0 : w.drew.cell? ⟨q, 0, none⟩ = some (.int .i64 m) := h.c0
  have h1 : ¬ n < 0 := by omega
  have h2 : ¬ 1099511627776 < n := by omega
  have hw : IntKind.i64.wrap (m - (used es : Int)) = m - (used es : Int) := by rw [IntKind.wrap_i64]; omega
  have hd : decide (m - (used es : Int) < (s.size : Int)) = true := decide_eq_true (by omega)
  clear h hF hH1 ht
  go_enter Tryz.func46, Tryz.ntmps46
  go_wp2_with fail
  go_region_held3 (fun w' => w'.cell? ⟨q, 0, none⟩ = some (.int .i64 m)) (first | assumption | go_keep)
    ((go_at_call 21; refine (unhide PU).mono ?_; rintro e w3 ⟨rfl, b3⟩; have t0 : w3.cell? ⟨q, 0, none⟩ = some (.int .i64 m) := (b3.cell (p := ⟨q, 0, none⟩) hql).trans k0))
  have hb3 : Below w.heap.size w w3 := hb0.trans b3
  clear b3 hb0
  go_wp2_with fail
  go_ret
  exact ⟨rfl, hb3⟩

set_option maxRecDepth 100000 in
set_option maxHeartbeats 1000000 in
theorem try_old {w : World} {B q : Nat} {F : Nat → Prop} {m : Int} {es : List Pap} (n : Int) (s : ByteArray) (hH : Has w B q F m es) {e : Pap} (ht : Tidy m es) (hm : m ≤ 65536) (hI : 0 ≤ n ∧ n ≤ 1099511627776) (hfull : ¬ m < (s.size : Int) + (used es : Int)) (hn : fnd es n = some e) :
    Calls Tryz.prog 46 #[.pointer (some ⟨q, 0, none⟩), .int .i64 n, .string s] w fun e w' => e = .returned (.int .i64 0) ∧ Below w.heap.size w w' := by
  have hb0 : Below w.heap.size w w.drew := (Below.refl _ _).drew
  have hH1 : Has w.drew B q F m es := hH.chg (A := fun _ => False) (Chg.of_below hb0) (fun _ _ z => z)
  have PU := hide (dused_any hH1 ht hm)
  have hfit := ht.fits
  obtain ⟨rl, mb, D, cO, vO, hF, h⟩ := hH
  have hql := (h.own q (by rw [h.r0]; rfl)).2
  have k0 : w.drew.cell? ⟨q, 0, none⟩ = some (.int .i64 m) := h.c0
  have h1 : ¬ n < 0 := by omega
  have h2 : ¬ 1099511627776 < n := by omega
  have hw : IntKind.i64.wrap (m - (used es : Int)) = m - (used es : Int) := by rw [IntKind.wrap_i64]; omega
  have hd : decide (m - (used es : Int) < (s.size : Int)) = false := decide_eq_false (by omega)
  have HX : Hid (∀ w3, Below w.heap.size w w3 → w3.cell? ⟨q, 1, none⟩ = some (.map mb) ∧ (Instr.lookup 54 (.map mb) (.int .i64 n) false).run Tryz.prog w3 = .ok (.pointer (some ⟨cO n, 0, none⟩)) w3 ∧ ∀ ty, (Builtin.len_ #[54] ty #[.map mb]).run Tryz.prog w3 = .ok (.int .i64 (es.length : Int)) w3) := hide (by
    intro w3 hb3
    have h3 := h.keep (A := fun _ => False) (Chg.of_below hb3) (fun _ _ z => z)
    refine ⟨h3.c1, ?_, fun ty => ?_⟩
    · rcases h3.look (wf_low hI) with ⟨z, y⟩ | ⟨_, z, y⟩
      · rw [hn] at z; cases z
      · exact y
    · rw [h3.mp.len ty, h3.sz])
  clear h hF hH1 ht hn
  go_enter Tryz.func46, Tryz.ntmps46
  go_wp2_with fail
  go_region_held3 (fun w' => w'.cell? ⟨q, 0, none⟩ = some (.int .i64 m)) (first | assumption | go_keep)
    ((go_at_call 21; refine (unhide PU).mono ?_; rintro e w3 ⟨rfl, b3⟩; have t0 : w3.cell? ⟨q, 0, none⟩ = some (.int .i64 m) := (b3.cell (p := ⟨q, 0, none⟩) hql).trans k0))
  have hb3 : Below w.heap.size w w3 := hb0.trans b3
  obtain ⟨x1, x2, x3⟩ := unhide HX w3 hb3
  clear b3 hb0 HX
  go_wp2_with fail
  go_ret
  exact ⟨rfl, hb3⟩

set_option maxRecDepth 100000 in
set_option maxHeartbeats 1000000 in
theorem try_none {w : World} {B q : Nat} {F : Nat → Prop} {m : Int} {es : List Pap} (n : Int) (s : ByteArray) (hH : Has w B q F m es) (ht : Tidy m es) (hm : m ≤ 65536) (hI : 0 ≤ n ∧ n ≤ 1099511627776) (hfull : ¬ m < (s.size : Int) + (used es : Int)) (hn : fnd es n = none) (h20 : es.length < 20) :
    Calls Tryz.prog 46 #[.pointer (some ⟨q, 0, none⟩), .int .i64 n, .string s] w fun e w' => e = .returned (.int .i64 0) ∧ Below w.heap.size w w' := by
  have hb0 : Below w.heap.size w w.drew := (Below.refl _ _).drew
  have hH1 : Has w.drew B q F m es := hH.chg (A := fun _ => False) (Chg.of_below hb0) (fun _ _ z => z)
  have PU := hide (dused_any hH1 ht hm)
  have hfit := ht.fits
  obtain ⟨rl, mb, D, cO, vO, hF, h⟩ := hH
  have hql := (h.own q (by rw [h.r0]; rfl)).2
  have k0 : w.drew.cell? ⟨q, 0, none⟩ = some (.int .i64 m) := h.c0
  have h1 : ¬ n < 0 := by omega
  have h2 : ¬ 1099511627776 < n := by omega
  have hw : IntKind.i64.wrap (m - (used es : Int)) = m - (used es : Int) := by rw [IntKind.wrap_i64]; omega
  have hd : decide (m - (used es : Int) < (s.size : Int)) = false := decide_eq_false (by omega)
  have hd2 : decide ((20 : Int) ≤ (es.length : Int)) = false := decide_eq_false (by omega)
  have HX : Hid (∀ w3, Below w.heap.size w w3 → w3.cell? ⟨q, 1, none⟩ = some (.map mb) ∧ (Instr.lookup 54 (.map mb) (.int .i64 n) false).run Tryz.prog w3 = .ok (.pointer none) w3 ∧ ∀ ty, (Builtin.len_ #[54] ty #[.map mb]).run Tryz.prog w3 = .ok (.int .i64 (es.length : Int)) w3) := hide (by
    intro w3 hb3
    have h3 := h.keep (A := fun _ => False) (Chg.of_below hb3) (fun _ _ z => z)
    refine ⟨h3.c1, ?_, fun ty => ?_⟩
    · rcases h3.look (wf_low hI) with ⟨z, y⟩ | ⟨_, z, y⟩
      · exact y
      · rw [hn] at z; cases z
    · rw [h3.mp.len ty, h3.sz])
  clear h hF hH1 ht hn h20
  go_enter Tryz.func46, Tryz.ntmps46
  go_wp2_with fail
  go_region_held3 (fun w' => w'.cell? ⟨q, 0, none⟩ = some (.int .i64 m)) (first | assumption | go_keep)
    ((go_at_call 21; refine (unhide PU).mono ?_; rintro e w3 ⟨rfl, b3⟩; have t0 : w3.cell? ⟨q, 0, none⟩ = some (.int .i64 m) := (b3.cell (p := ⟨q, 0, none⟩) hql).trans k0))
  have hb3 : Below w.heap.size w w3 := hb0.trans b3
  obtain ⟨x1, x2, x3⟩ := unhide HX w3 hb3
  clear b3 hb0 HX
  go_wp2_with fail
  go_ret
  exact ⟨rfl, hb3⟩

set_option maxRecDepth 100000 in
set_option maxHeartbeats 1000000 in
theorem try_many {w : World} {B q : Nat} {F : Nat → Prop} {m : Int} {es : List Pap} (n : Int) (s : ByteArray) (hH : Has w B q F m es) (ht : Tidy m es) (hm : m ≤ 65536) (hI : 0 ≤ n ∧ n ≤ 1099511627776) (hfull : ¬ m < (s.size : Int) + (used es : Int)) (hn : fnd es n = none) (h20 : es.length = 20) :
    Calls Tryz.prog 46 #[.pointer (some ⟨q, 0, none⟩), .int .i64 n, .string s] w fun e w' => e = .returned (.int .i64 8) ∧ Below w.heap.size w w' := by
  have hb0 : Below w.heap.size w w.drew := (Below.refl _ _).drew
  have hH1 : Has w.drew B q F m es := hH.chg (A := fun _ => False) (Chg.of_below hb0) (fun _ _ z => z)
  have PU := hide (dused_any hH1 ht hm)
  have hfit := ht.fits
  obtain ⟨rl, mb, D, cO, vO, hF, h⟩ := hH
  have hql := (h.own q (by rw [h.r0]; rfl)).2
  have k0 : w.drew.cell? ⟨q, 0, none⟩ = some (.int .i64 m) := h.c0
  have h1 : ¬ n < 0 := by omega
  have h2 : ¬ 1099511627776 < n := by omega
  have hw : IntKind.i64.wrap (m - (used es : Int)) = m - (used es : Int) := by rw [IntKind.wrap_i64]; omega
  have hd : decide (m - (used es : Int) < (s.size : Int)) = false := decide_eq_false (by omega)
  have HX : Hid (∀ w3, Below w.heap.size w w3 → w3.cell? ⟨q, 1, none⟩ = some (.map mb) ∧ (Instr.lookup 54 (.map mb) (.int .i64 n) false).run Tryz.prog w3 = .ok (.pointer none) w3 ∧ ∀ ty, (Builtin.len_ #[54] ty #[.map mb]).run Tryz.prog w3 = .ok (.int .i64 20) w3) := hide (by
    intro w3 hb3
    have h3 := h.keep (A := fun _ => False) (Chg.of_below hb3) (fun _ _ z => z)
    refine ⟨h3.c1, ?_, fun ty => ?_⟩
    · rcases h3.look (wf_low hI) with ⟨z, y⟩ | ⟨_, z, y⟩
      · exact y
      · rw [hn] at z; cases z
    · rw [h3.mp.len ty, h3.sz, h20]; rfl)
  clear h hF hH1 ht hn h20
  go_enter Tryz.func46, Tryz.ntmps46
  go_wp2_with fail
  go_region_held3 (fun w' => w'.cell? ⟨q, 0, none⟩ = some (.int .i64 m)) (first | assumption | go_keep)
    ((go_at_call 21; refine (unhide PU).mono ?_; rintro e w3 ⟨rfl, b3⟩; have t0 : w3.cell? ⟨q, 0, none⟩ = some (.int .i64 m) := (b3.cell (p := ⟨q, 0, none⟩) hql).trans k0))
  have hb3 : Below w.heap.size w w3 := hb0.trans b3
  obtain ⟨x1, x2, x3⟩ := unhide HX w3 hb3
  clear b3 hb0 HX
  go_wp2_with fail
  go_ret
  exact ⟨rfl, hb3⟩

theorem dtry_any {w : World} {B q : Nat} {F : Nat → Prop} {m : Int} {es : List Pap} (n : Int) (s : ByteArray) (hH : Has w B q F m es) (ht : Tidy m es) (hm : m ≤ 65536) (hs : s.size ≤ 140737488355328) :
    Calls Tryz.prog 46 #[.pointer (some ⟨q, 0, none⟩), .int .i64 n, .string s] w fun e w' => e = .returned (.int .i64 (appE es m n s)) ∧ Below w.heap.size w w' := by
  cases hI : inI n 0 1099511627776 with
  | false =>
    rw [(app_bad hI).1]
    exact try_arg n s hI
  | true =>
    have hI' : 0 ≤ n ∧ n ≤ 1099511627776 := by simpa [inI] using hI
    by_cases hr : m < (s.size : Int) + (used es : Int)
    · have hf : full es m n s = true := by unfold full; rw [decide_eq_true hr]; rfl
      rw [(app_full hI hf).1]
      exact try_room n s hH ht hm hs hI' hr
    · cases hn : fnd es n with
      | some e =>
        have hf : full es m n s = false := by unfold full; rw [decide_eq_false hr, decide_eq_true (ix_some hn).1]; rfl
        rw [app_ok.2 ⟨hI, hf⟩]
        exact try_old n s hH ht hm hI' hr hn
      | none =>
        by_cases h20 : es.length = 20
        · have hf : full es m n s = true := by unfold full; rw [decide_eq_false hr, decide_eq_false (ix_not hn), decide_eq_true h20]; rfl
          rw [(app_full hI hf).1]
          exact try_many n s hH ht hm hI' hr hn h20
        · have hf : full es m n s = false := by unfold full; rw [decide_eq_false hr, decide_eq_false (ix_not hn), decide_eq_false h20]; rfl
          rw [app_ok.2 ⟨hI, hf⟩]
          exact try_none n s hH ht hm hI' hr hn (by have := ht.few; omega)
end Go.Proofs.YtphhebdmfdjfeagGreatDoor.Dk

namespace Go.Proofs.YtphhebdmfdjfeagGreatDoor.Dk
open Go.RowKit

set_option maxRecDepth 100000 in
set_option maxHeartbeats 1000000 in
theorem append_not {w : World} {B q : Nat} {F : Nat → Prop} {m : Int} {es : List Pap} (n : Int) (s : ByteArray) (hH : Has w B q F m es) (ht : Tidy m es) (hm : m ≤ 65536) (hs : s.size ≤ 140737488355328) {E : Int} (hE : appE es m n s = E) (h0 : E ≠ 0) :
    Calls Tryz.prog 29 #[.pointer (some ⟨q, 0, none⟩), .int .i64 n, .string s] w fun e w' => e = .returned (.int .i64 E) ∧ Did Has w w' B q F m es := by
  have PT := hide (dtry_any n s hH ht hm hs)
  rw [hE] at PT
  have HH := hide hH
  have h1 : (E != 0) = true := by simpa using h0
  clear hH ht hE
  go_enter Tryz.func29, Tryz.ntmps29
  go_wp2_with fail
  refine (unhide PT).mono ?_
  rintro e w3 ⟨rfl, b3⟩
  have B3 := hide b3
  clear b3 PT
  go_wp2_with fail
  go_ret
  exact ⟨rfl, did_new (unhide HH) (unhide B3)⟩

set_option maxRecDepth 100000 in
set_option maxHeartbeats 1000000 in
theorem append_old {w : World} {B q : Nat} {F : Nat → Prop} {m : Int} {es : List Pap} (n : Int) (s : ByteArray) (hH : Has w B q F m es) {e : Pap} (ht : Tidy m es) (hm : m ≤ 65536) (hs : s.size ≤ 140737488355328) (hB : B ≤ w.heap.size) (hI : 0 ≤ n ∧ n ≤ 1099511627776) (h0 : appE es m n s = 0) (hfull : ¬ m < (s.size : Int) + (used es : Int)) (hn : fnd es n = some e) :
    Calls Tryz.prog 29 #[.pointer (some ⟨q, 0, none⟩), .int .i64 n, .string s] w fun e w' => e = .returned (.int .i64 0) ∧ Did Has w w' B q F m (appL es m n s) := by
  have PT := hide (dtry_any n s hH ht hm hs)
  rw [h0] at PT
  have hfit := ht.fits
  obtain ⟨rl, mb, D, cO, vO, hF, h⟩ := hH
  have hmem := used_mem (fnd_mem hn).1
  have HX : Hid (∀ w3, Below w.heap.size w w3 → w3.cell? ⟨q, 1, none⟩ = some (.map mb) ∧ (Instr.lookup 54 (.map mb) (.int .i64 n) false).run Tryz.prog w3 = .ok (.pointer (some ⟨cO n, 0, none⟩)) w3 ∧ w3.cell? ⟨cO n, 0, none⟩ = some (vO n) ∧ ∃ a l k w4, (Builtin.append_ #[75, 9] 75 #[vO n, .string s]).run Tryz.prog w3 = .ok (.slice a l k) w4 ∧ w4.cell? ⟨cO n, 0, none⟩ = some (vO n) ∧ w4.frozen? ⟨cO n, 0, none⟩ = false ∧ Did Has w (w4.setCell ⟨cO n, 0, none⟩ (.slice a l k)) B q F m (appL es m n s)) := hide (by
    intro w3 hb3
    have h3 := h.keep (A := fun _ => False) (Chg.of_below hb3) (fun _ _ z => z)
    refine ⟨h3.c1, ?_, (h3.file n e hn).c0, ?_⟩
    · rcases h3.look (wf_low hI) with ⟨z, _⟩ | ⟨_, _, z⟩
      · rw [hn] at z; cases z
      · exact z
    · exact app_fin hF h3 hn (appL_old ht h0 hn).1 (appL_old ht h0 hn).2 (Chg.of_below hb3) (fun k hk => .inl hk) (Nat.le_trans hB hb3.size) (by omega))
  clear h hF ht hn h0
  go_enter Tryz.func29, Tryz.ntmps29
  go_wp2_with fail
  refine (unhide PT).mono ?_
  rintro e w3 ⟨rfl, b3⟩
  obtain ⟨x1, x2, x3, a, l, k, w4, x4, x5, x6, x7⟩ := unhide HX w3 b3
  have X7 := hide x7
  clear b3 x7 HX PT
  go_wp2_with (at_builtin; refine wpList_append_run _ rfl _ _ 75 9 rfl _ _ rfl rfl _ _ x4 ?_)
  go_ret
  exact ⟨rfl, unhide X7⟩

set_option maxRecDepth 100000 in
set_option maxHeartbeats 1000000 in
theorem append_make {w : World} {B q : Nat} {F : Nat → Prop} {m : Int} {es : List Pap} (n : Int) (s : ByteArray) (hH : Has w B q F m es) (ht : Tidy m es) (hm : m ≤ 65536) (hs : s.size ≤ 140737488355328) (hB : B ≤ w.heap.size) (hI : 0 ≤ n ∧ n ≤ 1099511627776) (h0 : appE es m n s = 0) (hfull : ¬ m < (s.size : Int) + (used es : Int)) (hn : fnd es n = none) (h20 : es.length < 20) :
    Calls Tryz.prog 29 #[.pointer (some ⟨q, 0, none⟩), .int .i64 n, .string s] w fun e w' => e = .returned (.int .i64 0) ∧ Did Has w w' B q F m (appL es m n s) := by
  have PT := hide (dtry_any n s hH ht hm hs)
  rw [h0] at PT
  have hfit := ht.fits
  obtain ⟨rl, mb, D, cO, vO, hF, h⟩ := hH
  have HX : Hid (∀ w3, Below w.heap.size w w3 → w3.cell? ⟨q, 1, none⟩ = some (.map mb) ∧ (Instr.lookup 54 (.map mb) (.int .i64 n) false).run Tryz.prog w3 = .ok (.pointer none) w3 ∧
      Calls Tryz.prog 47 #[.pointer (some ⟨q, 0, none⟩), .int .i64 n] w3 fun e w5 => ∃ c, e = .returned (.pointer (some ⟨c, 0, none⟩)) ∧ w5.cell? ⟨c, 0, none⟩ = some (.slice none 0 0) ∧ ∃ a l k w4, (Builtin.append_ #[75, 9] 75 #[.slice none 0 0, .string s]).run Tryz.prog w5 = .ok (.slice a l k) w4 ∧ w4.cell? ⟨c, 0, none⟩ = some (.slice none 0 0) ∧ w4.frozen? ⟨c, 0, none⟩ = false ∧ Did Has w (w4.setCell ⟨c, 0, none⟩ (.slice a l k)) B q F m (appL es m n s)) := hide (by
    intro w3 hb3
    have h3 := h.keep (A := fun _ => False) (Chg.of_below hb3) (fun _ _ z => z)
    refine ⟨h3.c1, ?_, ?_⟩
    · rcases h3.look (wf_low hI) with ⟨_, z⟩ | ⟨_, z, _⟩
      · exact z
      · rw [hn] at z; cases z
    · have hC : Calls Tryz.prog 47 #[.pointer (some ⟨q, 0, none⟩), .int .i64 n] w3 fun e w' => ∃ c, e = .returned (.pointer (some ⟨c, 0, none⟩)) ∧ Made w3 w' B q rl m es n c := by
        cases mb with
        | none => exact create_nil n (wf_low hI) h3 hn (Nat.le_trans hB hb3.size)
        | some b => exact create_old n (wf_low hI) h3 hn (by omega) (Nat.le_trans hB hb3.size)
      refine hC.mono ?_
      rintro r w5 ⟨c, rfl, rl', mb', D', cO', vO', h5, hc5, hv5, hch, hrl⟩
      have hf5 : fnd (newL es n) n = some ⟨n, 0, ByteArray.empty⟩ := by rw [newL_fnd hn, if_pos rfl]
      have hfin := app_fin (w := w) hF h5 hf5 (appL_new ht h0 hn).1 (appL_new ht h0 hn).2 ((Chg.of_below hb3).trans hch) (fun k hk => by
        rcases hrl k hk with y | y
        · exact .inl y
        · exact .inr (Nat.le_trans hb3.size y)) (Nat.le_trans hB (Nat.le_trans hb3.size hch.size)) (by show 0 + s.size ≤ 1000000; omega)
      rw [hc5, hv5] at hfin
      have hcell := (h5.file n _ hf5).c0
      rw [hc5, hv5] at hcell
      exact ⟨c, rfl, hcell, hfin⟩)
  clear h hF ht hn h0 h20
  go_enter Tryz.func29, Tryz.ntmps29
  go_wp2_with fail
  refine (unhide PT).mono ?_
  rintro e w3 ⟨rfl, b3⟩
  obtain ⟨x1, x2, x4⟩ := unhide HX w3 b3
  have PC := hide x4
  clear b3 HX x4 PT
  go_wp2_with fail
  refine (unhide PC).mono ?_
  rintro r w5 ⟨c, rfl, y1, a, l, k, w4, y2, y3, y4, y5⟩
  have Y5 := hide y5
  clear y5 PC x1 x2
  go_wp2_with (at_builtin; refine wpList_append_run _ rfl _ _ 75 9 rfl _ _ rfl rfl _ _ y2 ?_)
  go_ret
  exact ⟨rfl, unhide Y5⟩

theorem dappend_any {w : World} {B q : Nat} {F : Nat → Prop} {m : Int} {es : List Pap} (n : Int) (s : ByteArray) (hH : Has w B q F m es) (ht : Tidy m es) (hm : m ≤ 65536) (hs : s.size ≤ 140737488355328) (hB : B ≤ w.heap.size) :
    Calls Tryz.prog 29 #[.pointer (some ⟨q, 0, none⟩), .int .i64 n, .string s] w fun e w' => e = .returned (.int .i64 (appE es m n s)) ∧ Did Has w w' B q F m (appL es m n s) := by
  by_cases h0 : appE es m n s = 0
  · obtain ⟨hI, hf⟩ := app_ok.1 h0
    have hI' : 0 ≤ n ∧ n ≤ 1099511627776 := by simpa [inI] using hI
    have hr : ¬ m < (s.size : Int) + (used es : Int) := fun z => by unfold full at hf; rw [decide_eq_true z] at hf; cases hf
    rw [h0]
    cases hn : fnd es n with
    | some e => exact append_old n s hH ht hm hs hB hI' h0 hr hn
    | none =>
      have h20 : es.length ≠ 20 := fun z => by unfold full at hf; rw [decide_eq_false hr, decide_eq_false (ix_not hn), decide_eq_true z] at hf; cases hf
      exact append_make n s hH ht hm hs hB hI' h0 hr hn (by have := ht.few; omega)
  · rw [app_not h0]
    exact append_not n s hH ht hm hs rfl h0
end Go.Proofs.YtphhebdmfdjfeagGreatDoor.Dk
