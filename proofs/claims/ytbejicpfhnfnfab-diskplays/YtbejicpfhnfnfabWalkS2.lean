/-
  The law's own function 'at': a call on both disks, and what they show then.
-/
import Derived.Test.YtbejicpfhnfnfabWalkS1
import Derived.Deep.RegionHeld3
namespace Go.Proofs.Ytbejicpfhnfnfab.Dk
open Go.RowKit

/-- what a call of the law does -/
def actL (es : List Pap) (m kd f n : Int) (s : ByteArray) : List Pap :=
  if kd = 0 then appL es m f s else if kd = 1 then cutL es f n else if kd = 2 then syncL es f else if kd = 3 then remL es f else if kd = 4 then es.map (stopP n) else es
theorem Tidy.act {m : Int} {es : List Pap} (h : Tidy m es) (kd f n : Int) (s : ByteArray) : Tidy m (actL es m kd f n s) := by
  unfold actL
  split
  · exact h.app f s
  · split
    · exact h.cut f n
    · split
      · exact h.sync f
      · split
        · exact h.rem f
        · split
          · exact h.stop n
          · exact h

/-- both disks, and a block C that is neither's -/
def Now (Has : World → Nat → Nat → (Nat → Prop) → Int → List Pap → Prop) (C B q p : Nat) (m : Int) (es1 es2 : List Pap) (W : World) : Prop := ∃ F v, Two Has W B q F p m v es1 es2 ∧ ¬ F C ∧ ¬ foot p v C ∧ C < W.heap.size
theorem Now.room {Has : World → Nat → Nat → (Nat → Prop) → Int → List Pap → Prop} {C B q p : Nat} {m : Int} {es1 es2 : List Pap} {W : World} (h : Now Has C B q p m es1 es2 W) : B ≤ W.heap.size := by
  obtain ⟨F, v, h, _⟩ := h
  exact h.B
/-- what a call has left as it was -/
structure Gone (C B : Nat) (W W' : World) : Prop where
  below : Below B W W'
  cell : ∀ j, W'.cell? ⟨C, j, none⟩ = W.cell? ⟨C, j, none⟩
theorem now_d {Has : World → Nat → Nat → (Nat → Prop) → Int → List Pap → Prop} (H : More Has) {C B q p : Nat} {m : Int} {es1 es2 es' : List Pap} {W : World} (hN : Now Has C B q p m es1 es2 W) {fn : FuncId} {args : Array Value} {r : Ending}
    (hc : ∀ F, Has W B q F m es1 → Calls Try.prog fn args W fun e w' => e = r ∧ Did Has W w' B q F m es') :
    Calls Try.prog fn args W fun e w' => e = r ∧ Now Has C B q p m es' es2 w' ∧ Gone C B W w' := by
  obtain ⟨F, v, h, h1, h2, h3⟩ := hN
  refine (hc F h.d).mono ?_
  rintro e w' ⟨he, F', a1, a2, a3⟩
  obtain ⟨_, b⟩ := h.did H.looks ⟨F', a1, a2, a3⟩
  have hn : ¬ F' C := fun q => by
    rcases a3 C q with z | z
    · exact h1 z
    · omega
  have ht : Two Has w' B q F' p m v es' es2 := ⟨a1, h.k.chg a2 (fun k hk hf => h.a k hf hk), fun k hk hf => by
    rcases a3 k hk with z | z
    · exact h.a k z hf
    · have := (foot_lt h.k hf).2; omega, Nat.le_trans h.B a2.size⟩
  exact ⟨he, ⟨F', v, ht, hn, h2, by have := a2.size; omega⟩, ⟨b, fun j => a2.cell (p := ⟨C, j, none⟩) h3 h1⟩⟩
theorem now_x {Has : World → Nat → Nat → (Nat → Prop) → Int → List Pap → Prop} (H : More Has) {C B q p : Nat} {m : Int} {es1 es2 es' : List Pap} {W : World} (hN : Now Has C B q p m es1 es2 W) {fn : FuncId} {args : Array Value} {r : Ending}
    (hc : ∀ v, Keeps W B p m v es2 → Calls Try.prog fn args W fun e w' => e = r ∧ Upd W w' B p m v es') :
    Calls Try.prog fn args W fun e w' => e = r ∧ Now Has C B q p m es1 es' w' ∧ Gone C B W w' := by
  obtain ⟨F, v, h, h1, h2, h3⟩ := hN
  refine (hc v h.k).mono ?_
  rintro e w' ⟨he, v', a1, a2, a3⟩
  obtain ⟨_, b⟩ := h.upd H.looks ⟨v', a1, a2, a3⟩
  have hn : ¬ foot p v' C := fun q => by
    rcases q with z | z
    · exact h2 (.inl z)
    · rcases a3 C z with z | z
      · exact h2 (.inr z)
      · omega
  have ht : Two Has w' B q F p m v' es1 es' := ⟨H.works.chg h.d a2 (fun k hk => h.a k hk), a1, fun k hk hf => by
    rcases hf with z | z
    · exact h.a k hk (.inl z)
    · rcases a3 k z with z | z
      · exact h.a k hk (.inr z)
      · have := (H.works.own h.d k hk).2; omega, Nat.le_trans h.B a2.size⟩
  exact ⟨he, ⟨F, v', ht, h1, hn, by have := a2.size; omega⟩, ⟨b, fun j => a2.cell (p := ⟨C, j, none⟩) h3 h2⟩⟩
/-- a new block is neither's -/
theorem now_new {Has : World → Nat → Nat → (Nat → Prop) → Int → List Pap → Prop} (H : More Has) {B q p : Nat} {F : Nat → Prop} {m : Int} {v : Value} {es1 es2 : List Pap} {w w' : World} (h : Two Has w B q F p m v es1 es2) (hb : Below w.heap.size w w') (hl : w.heap.size < w'.heap.size) : Now Has w.heap.size B q p m es1 es2 w' :=
  ⟨F, v, h.below H.looks hb, fun z => by have := (H.works.own h.d _ z).2; omega, fun z => by have := (foot_lt h.k z).2; omega, hl⟩

set_option maxRecDepth 100000 in
set_option maxHeartbeats 2000000 in
theorem rat_any {Has : World → Nat → Nat → (Nat → Prop) → Int → List Pap → Prop} (H : More Has) {w : World} {B q p : Nat} {F : Nat → Prop} {m : Int} {v : Value} {es : List Pap} (kd f n : Int) (s : ByteArray) (h2 : Two Has w B q F p m v es es) (ht : Tidy m es) (hm : m ≤ 65536) (hs : s.size ≤ 140737488355328) (hf : wf f) :
    Calls Try.prog 6 #[.pointer (some ⟨q, 0, none⟩), .pointer (some ⟨p, 0, none⟩), .agg #[.int .i64 kd, .int .i64 f, .int .i64 n, .string s]] w fun e w' => e = .returned (.bool true) ∧ (∃ F' v', Two Has w' B q F' p m v' (actL es m kd f n s) (actL es m kd f n s)) ∧ Below B w w' := by
  have HT := hide ht
  have H2 := hide h2
  have hfew := ht.few
  have hfit := ht.fits
  have Hn := hide (ht.act kd f n s)
  have hb0 : Below w.heap.size w (w.alloc (.cells #[.int .i64 kd, .int .i64 f, .int .i64 n, .string s] 33)).drew := ((Below.refl _ _).alloc (Nat.le_refl _) _).drew
  have HF := hide hf
  clear hf
  have N0 := hide (now_new H h2 hb0 (by simp))
  have B0 := hide (below_le hb0 h2.B)
  have s1 : (w.alloc (.cells #[.int .i64 kd, .int .i64 f, .int .i64 n, .string s] 33)).drew.cell? ⟨w.heap.size, 1, none⟩ = some (.int .i64 f) := by
    rw [show ∀ W : World, W.drew.cell? ⟨w.heap.size, 1, none⟩ = W.cell? ⟨w.heap.size, 1, none⟩ from fun _ => rfl, cell_of_row _ w.heap.size 1 _ _ _ (heap_alloc_new w _)]; rfl
  have s2 : (w.alloc (.cells #[.int .i64 kd, .int .i64 f, .int .i64 n, .string s] 33)).drew.cell? ⟨w.heap.size, 2, none⟩ = some (.int .i64 n) := by
    rw [show ∀ W : World, W.drew.cell? ⟨w.heap.size, 2, none⟩ = W.cell? ⟨w.heap.size, 2, none⟩ from fun _ => rfl, cell_of_row _ w.heap.size 2 _ _ _ (heap_alloc_new w _)]; rfl
  have s3 : (w.alloc (.cells #[.int .i64 kd, .int .i64 f, .int .i64 n, .string s] 33)).drew.cell? ⟨w.heap.size, 3, none⟩ = some (.string s) := by
    rw [show ∀ W : World, W.drew.cell? ⟨w.heap.size, 3, none⟩ = W.cell? ⟨w.heap.size, 3, none⟩ from fun _ => rfl, cell_of_row _ w.heap.size 3 _ _ _ (heap_alloc_new w _)]; rfl
  have hb1 : Below w.heap.size w (w.alloc (.cells #[.int .i64 kd, .int .i64 f, .int .i64 n, .string s] 33)) := (Below.refl _ _).alloc (Nat.le_refl _) _
  have N0' := hide (now_new H h2 hb1 (by simp))
  have B0' := hide (below_le hb1 h2.B)
  have r2 : (w.alloc (.cells #[.int .i64 kd, .int .i64 f, .int .i64 n, .string s] 33)).cell? ⟨w.heap.size, 2, none⟩ = some (.int .i64 n) := by
    rw [cell_of_row _ w.heap.size 2 _ _ _ (heap_alloc_new w _)]; rfl
  clear ht h2 hb0 hb1
  by_cases k0 : kd = 0
  · subst k0
    obtain ⟨es1, he1⟩ : ∃ es1, actL es m 0 f n s = es1 := ⟨_, rfl⟩
    have he2 : appL es m f s = es1 := by rw [← he1]; simp [actL]
    have PX := hide (now_d H (unhide N0) (fun F hk => H.works.append f s hk (unhide HT) hm hs (unhide N0).room))
    have PY : Hid (∀ W1, Now Has w.heap.size B q p m es1 es W1 → _) := hide (fun W1 hN => now_x H hN (fun v hk => append_any B p m v es f s W1 hk (by omega) (by omega) hs hN.room))
    rw [he2] at PX PY
    rw [he1] at Hn ⊢
    clear he1 he2 s2 N0' B0' r2
    go_enter Try.func6, Try.ntmps6
    go_wp2_with fail
    go_region_held3 (fun w' => w'.cell? ⟨w.heap.size, 1, none⟩ = some (.int .i64 f) ∧ w'.cell? ⟨w.heap.size, 3, none⟩ = some (.string s)) (first | (refine ⟨?_, ?_⟩ <;> assumption) | go_keep)
      (first
        | (go_at_call 9; refine (unhide PX).mono ?_; rintro e w3 ⟨rfl, N3, g3⟩; have t1 := (g3.cell 1).trans s1; have t3 := (g3.cell 3).trans s3)
        | (go_at_call 10; refine (unhide PY _ N3).mono ?_; rintro e w9 ⟨rfl, N9, g9⟩; have u1 := (g9.cell 1).trans t1; have u3 := (g9.cell 3).trans t3))
    have B9 := hide ((unhide B0).trans (g3.below.trans g9.below))
    clear g3 g9 t1 u1 t3 u3 s1 s3 N3
    obtain ⟨F9, v9, T9, _⟩ := N9
    have T9' := hide T9
    clear T9
    go_wp2_with fail
    refine (same_any H.looks (unhide T9') (unhide Hn) hm).mono ?_
    rintro e w10 ⟨rfl, ⟨F10, t10⟩, b10⟩
    have T10 := hide t10
    have B10 := hide ((unhide B9).trans b10)
    clear t10 b10
    go_wp2_with fail
    go_ret
    exact ⟨rfl, ⟨F10, v9, unhide T10⟩, unhide B10⟩
  · by_cases k1 : kd = 1
    · subst k1
      obtain ⟨es1, he1⟩ : ∃ es1, actL es m 1 f n s = es1 := ⟨_, rfl⟩
      have he2 : cutL es f n = es1 := by rw [← he1]; simp [actL]
      have PX := hide (now_d H (unhide N0) (fun F hk => H.cut f n (unhide HF) hk (unhide HT) hm (unhide N0).room))
      have PY : Hid (∀ W1, Now Has w.heap.size B q p m es1 es W1 → _) := hide (fun W1 hN => now_x H hN (fun v hk => cut_any B p m v es f n W1 hk (by omega)))
      rw [he2] at PX PY
      rw [he1] at Hn ⊢
      clear he1 he2 s3 N0' B0' r2
      go_enter Try.func6, Try.ntmps6
      go_wp2_with fail
      go_region_held3 (fun w' => w'.cell? ⟨w.heap.size, 1, none⟩ = some (.int .i64 f) ∧ w'.cell? ⟨w.heap.size, 2, none⟩ = some (.int .i64 n)) (first | (refine ⟨?_, ?_⟩ <;> assumption) | go_keep)
        (first
          | (go_at_call 11; refine (unhide PX).mono ?_; rintro e w3 ⟨rfl, N3, g3⟩; have t1 := (g3.cell 1).trans s1; have t2 := (g3.cell 2).trans s2)
          | (go_at_call 12; refine (unhide PY _ N3).mono ?_; rintro e w9 ⟨rfl, N9, g9⟩; have u1 := (g9.cell 1).trans t1; have u2 := (g9.cell 2).trans t2))
      have B9 := hide ((unhide B0).trans (g3.below.trans g9.below))
      clear g3 g9 t1 u1 t2 u2 s1 s2 N3
      obtain ⟨F9, v9, T9, _⟩ := N9
      have T9' := hide T9
      clear T9
      go_wp2_with fail
      refine (same_any H.looks (unhide T9') (unhide Hn) hm).mono ?_
      rintro e w10 ⟨rfl, ⟨F10, t10⟩, b10⟩
      have T10 := hide t10
      have B10 := hide ((unhide B9).trans b10)
      clear t10 b10
      go_wp2_with fail
      go_ret
      exact ⟨rfl, ⟨F10, v9, unhide T10⟩, unhide B10⟩
    · by_cases k2 : kd = 2
      · subst k2
        obtain ⟨es1, he1⟩ : ∃ es1, actL es m 2 f n s = es1 := ⟨_, rfl⟩
        have he2 : syncL es f = es1 := by rw [← he1]; simp [actL]
        have PX := hide (now_d H (unhide N0) (fun F hk => H.works.sync f (unhide HF) hk (unhide HT) hm (unhide N0).room))
        have PY : Hid (∀ W1, Now Has w.heap.size B q p m es1 es W1 → _) := hide (fun W1 hN => now_x H hN (fun v hk => sync_any B p m v es f W1 hk (by omega)))
        rw [he2] at PX PY
        rw [he1] at Hn ⊢
        clear he1 he2 s2 s3 N0' B0' r2
        go_enter Try.func6, Try.ntmps6
        go_wp2_with fail
        go_region_held3 (fun w' => w'.cell? ⟨w.heap.size, 1, none⟩ = some (.int .i64 f)) (first | assumption | go_keep)
          (first
            | (go_at_call 13; refine (unhide PX).mono ?_; rintro e w3 ⟨rfl, N3, g3⟩; have t1 := (g3.cell 1).trans s1)
            | (go_at_call 14; refine (unhide PY _ N3).mono ?_; rintro e w9 ⟨rfl, N9, g9⟩; have u1 := (g9.cell 1).trans t1))
        have B9 := hide ((unhide B0).trans (g3.below.trans g9.below))
        clear g3 g9 t1 u1 s1 N3
        obtain ⟨F9, v9, T9, _⟩ := N9
        have T9' := hide T9
        clear T9
        go_wp2_with fail
        refine (same_any H.looks (unhide T9') (unhide Hn) hm).mono ?_
        rintro e w10 ⟨rfl, ⟨F10, t10⟩, b10⟩
        have T10 := hide t10
        have B10 := hide ((unhide B9).trans b10)
        clear t10 b10
        go_wp2_with fail
        go_ret
        exact ⟨rfl, ⟨F10, v9, unhide T10⟩, unhide B10⟩
      · by_cases k3 : kd = 3
        · subst k3
          obtain ⟨es1, he1⟩ : ∃ es1, actL es m 3 f n s = es1 := ⟨_, rfl⟩
          have he2 : remL es f = es1 := by rw [← he1]; simp [actL]
          have PX := hide (now_d H (unhide N0) (fun F hk => H.works.remove f (unhide HF) hk (unhide HT) hm (unhide N0).room))
          have PY : Hid (∀ W1, Now Has w.heap.size B q p m es1 es W1 → _) := hide (fun W1 hN => now_x H hN (fun v hk => remove_any B p m v es f W1 hk (by omega) hN.room))
          rw [he2] at PX PY
          rw [he1] at Hn ⊢
          clear he1 he2 s2 s3 N0' B0' r2
          go_enter Try.func6, Try.ntmps6
          go_wp2_with fail
          go_region_held3 (fun w' => w'.cell? ⟨w.heap.size, 1, none⟩ = some (.int .i64 f)) (first | assumption | go_keep)
            (first
              | (go_at_call 15; refine (unhide PX).mono ?_; rintro e w3 ⟨rfl, N3, g3⟩; have t1 := (g3.cell 1).trans s1)
              | (go_at_call 16; refine (unhide PY _ N3).mono ?_; rintro e w9 ⟨rfl, N9, g9⟩; have u1 := (g9.cell 1).trans t1))
          have B9 := hide ((unhide B0).trans (g3.below.trans g9.below))
          clear g3 g9 t1 u1 s1 N3
          obtain ⟨F9, v9, T9, _⟩ := N9
          have T9' := hide T9
          clear T9
          go_wp2_with fail
          refine (same_any H.looks (unhide T9') (unhide Hn) hm).mono ?_
          rintro e w10 ⟨rfl, ⟨F10, t10⟩, b10⟩
          have T10 := hide t10
          have B10 := hide ((unhide B9).trans b10)
          clear t10 b10
          go_wp2_with fail
          go_ret
          exact ⟨rfl, ⟨F10, v9, unhide T10⟩, unhide B10⟩
        · by_cases k4 : kd = 4
          · subst k4
            obtain ⟨es1, he1⟩ : ∃ es1, actL es m 4 f n s = es1 := ⟨_, rfl⟩
            have he2 : es.map (stopP n) = es1 := by rw [← he1]; simp [actL]
            have PX := hide (now_d H (unhide N0') (fun F hk => H.works.crash n hk (unhide HT) hm (unhide N0').room))
            have PY : Hid (∀ W1, Now Has w.heap.size B q p m es1 es W1 → _) := hide (fun W1 hN => now_x H hN (fun v hk => crash_any B p m v es n W1 hk (by omega) ((unhide HT).sound (by omega))))
            rw [he2] at PX PY
            rw [he1] at Hn ⊢
            clear he1 he2 s1 s2 s3 N0 B0
            go_enter Try.func6, Try.ntmps6
            go_wp2_with fail
            refine (unhide PX).mono ?_
            rintro e w3 ⟨rfl, N3, g3⟩
            have t2 := (g3.cell 2).trans r2
            go_wp2_with fail
            refine (unhide PY _ N3).mono ?_
            rintro e w9 ⟨rfl, N9, g9⟩
            have B9 := hide ((unhide B0').trans (g3.below.trans g9.below))
            clear g3 g9 t2 r2 N3
            obtain ⟨F9, v9, T9, _⟩ := N9
            have T9' := hide T9
            clear T9
            go_wp2_with fail
            refine (same_any H.looks (unhide T9') (unhide Hn) hm).mono ?_
            rintro e w10 ⟨rfl, ⟨F10, t10⟩, b10⟩
            have T10 := hide t10
            have B10 := hide ((unhide B9).trans b10)
            clear t10 b10
            go_wp2_with fail
            go_ret
            exact ⟨rfl, ⟨F10, v9, unhide T10⟩, unhide B10⟩
          · have he1 : actL es m kd f n s = es := by simp [actL, k0, k1, k2, k3, k4]
            rw [he1] at Hn ⊢
            have k0' : (kd == 0) = false := by rw [beq_eq_false_iff_ne]; exact k0
            have k1' : (kd == 1) = false := by rw [beq_eq_false_iff_ne]; exact k1
            have k2' : (kd == 2) = false := by rw [beq_eq_false_iff_ne]; exact k2
            have k3' : (kd == 3) = false := by rw [beq_eq_false_iff_ne]; exact k3
            have k4' : (kd == 4) = false := by rw [beq_eq_false_iff_ne]; exact k4
            clear he1 s1 s2 s3 N0 B0 r2
            obtain ⟨F9, v9, T9, _⟩ := unhide N0'
            have T9' := hide T9
            have B9 := B0'
            clear T9
            go_enter Try.func6, Try.ntmps6
            go_wp2_with fail
            refine (same_any H.looks (unhide T9') (unhide Hn) hm).mono ?_
            rintro e w10 ⟨rfl, ⟨F10, t10⟩, b10⟩
            have T10 := hide t10
            have B10 := hide ((unhide B9).trans b10)
            clear t10 b10
            go_wp2_with fail
            go_ret
            exact ⟨rfl, ⟨F10, v9, unhide T10⟩, unhide B10⟩
end Go.Proofs.Ytbejicpfhnfnfab.Dk
