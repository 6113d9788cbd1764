/-
  The walk of the law IndexPlays: whatever calls are handed in, both indexes answer alike.
-/
import Derived.Test.YtcdajajekmichaaDoorWalkP
import Derived.Test.YtcdajajekmichaaDoorWalkIN
namespace Go.Proofs.YtcdajajekmichaaDoor
open Go.RowKit

theorem Two.drewN {B px py : Nat} {ex ey : List Ent} {w : World} (h : Two B px py ex ey w) (n : Nat) : Two B px py ex ey (w.drewN n) := by
  obtain ⟨vx, vy, kx, ky, ne⟩ := h
  exact ⟨vx, vy, kx.below (below_drewN (Below.refl _ _) n), ky.below (below_drewN (Below.refl _ _) n), ne⟩
set_option maxHeartbeats 8000000 in
set_option maxRecDepth 100000 in
theorem plays_any (a : Option Addr) (n cap : Nat) (C : Nat → Put) (w : World) (hp : Puts w a n C) :
    Calls Tryd.prog 5 #[.slice a n cap] w fun e w' => e = .returned (.bool true) ∧ Below w.heap.size w w' := by
  have Hp := hide hp
  clear hp
  by_cases hn : 150 < n
  · go_enter Tryd.func5, Tryd.ntmps5
    go_wp2_with fail
    go_ret
    exact ⟨rfl, Below.refl _ _⟩
  · have hn1 : ¬ (150 : Int) < (n : Int) := by omega
    go_enter Tryd.func5, Tryd.ntmps5
    go_wp2_with fail
    refine (new_any _).mono ?_
    rintro e w1 ⟨rfl, k1, z1, b1⟩
    have T1 := hide (two_new w w1 35 k1 z1)
    have B1 := hide (bstep b1 ((Below.refl _ _).alloc (Nat.le_refl _) (.cells #[.slice none 0 0] 35)))
    clear k1 b1
    go_wp2_with fail
    clear z1
    go_loopw [24] (fun kv wr => ∃ (k : Nat) (es : List Ent), kv = .int .i64 k ∧ k ≤ n ∧ Hid (Two w.heap.size w.heap.size (w.heap.size + 1) es es wr) ∧ Hid (Good es) ∧ Hid (Below w.heap.size w wr)) (fun kv _ => n - (intOf kv).toNat)
    case atStart => exact ⟨0, [], rfl, Nat.zero_le _, T1, hide good_nil, B1⟩
    case round =>
      obtain ⟨k, es, rfl, hk, T2, G2, B2⟩ := hrel
      by_cases hlt : k < n
      · obtain ⟨b, o, rfl, hb, c0, c1, c2, hsz⟩ := unhide Hp k hlt
        generalize C k = c at c0 c1 c2 hsz
        obtain ⟨kd, s, m⟩ := c
        simp only at c0 c1 c2 hsz
        have e0 : wr.cell? ⟨b, o + k * 3, none⟩ = some (.int .i64 kd) := by rw [(unhide B2).cell (p := ⟨b, o + k * 3, none⟩) hb]; exact c0
        have e1 : wr.cell? ⟨b, o + k * 3 + 1, none⟩ = some (.string s) := by rw [(unhide B2).cell (p := ⟨b, o + k * 3 + 1, none⟩) hb]; exact c1
        have e2 : wr.cell? ⟨b, o + k * 3 + 2, none⟩ = some (.int .i64 m) := by rw [(unhide B2).cell (p := ⟨b, o + k * 3 + 2, none⟩) hb]; exact c2
        clear c0 c1 c2
        have hb0 : Below wr.heap.size wr (wr.alloc (.cells #[.int .i64 kd, .string s, .int .i64 m] 37)) := (Below.refl _ _).alloc (Nat.le_refl _) _
        have N0 := hide ((unhide T2).now hb0 (Nat.le_refl _) (by simp))
        have B0 := hide (bstep (unhide B2) hb0)
        have s1 : (wr.alloc (.cells #[.int .i64 kd, .string s, .int .i64 m] 37)).drew.cell? ⟨wr.heap.size, 1, none⟩ = some (.string s) := by
          rw [show ∀ W : World, W.drew.cell? ⟨wr.heap.size, 1, none⟩ = W.cell? ⟨wr.heap.size, 1, none⟩ from fun _ => rfl, cell_of_row _ wr.heap.size 1 _ _ _ (heap_alloc_new wr _)]; rfl
        have s2 : (wr.alloc (.cells #[.int .i64 kd, .string s, .int .i64 m] 37)).drew.cell? ⟨wr.heap.size, 2, none⟩ = some (.int .i64 m) := by
          rw [show ∀ W : World, W.drew.cell? ⟨wr.heap.size, 2, none⟩ = W.cell? ⟨wr.heap.size, 2, none⟩ from fun _ => rfl, cell_of_row _ wr.heap.size 2 _ _ _ (heap_alloc_new wr _)]; rfl
        have N1 := hide ((unhide N0).below (Below.refl _ _).drew).1
        have G1 := hide ((unhide N0).below (Below.refl _ _).drew).2
        clear hb0
        by_cases q0 : kd = 0
        · subst q0
          obtain ⟨es1, he1⟩ : ∃ es1, putL es s m = es1 := ⟨_, rfl⟩
          have G9 := hide (good_put (unhide G2) m hsz)
          have PX := hide (now_x (unhide N1) (fun vx hk => put_any w.heap.size w.heap.size vx es s m _ hk (unhide G2) hsz (unhide N1).room))
          have PY : Hid (∀ W1, Now w.heap.size wr.heap.size w.heap.size (w.heap.size + 1) es1 es W1 → _) := hide (fun W1 hN => now_y hN (fun vy hk => rput_any w.heap.size (w.heap.size + 1) vy es s m W1 hk (unhide G2) hsz hN.room))
          rw [he1] at PX PY G9
          clear he1
          go_wp2_with fail
          go_region_held3 (fun w' => w'.cell? ⟨wr.heap.size, 1, none⟩ = some (.string s) ∧ w'.cell? ⟨wr.heap.size, 2, none⟩ = some (.int .i64 m)) (first | (refine ⟨?_, ?_⟩ <;> assumption) | go_keep)
            (first
              | (go_at_call 19; refine (unhide PX).mono ?_; rintro e w3 ⟨rfl, N3, g3⟩; have t1 := (g3.cell 1).trans s1; have t2 := (g3.cell 2).trans s2)
              | (go_at_call 20; refine (unhide PY _ N3).mono ?_; rintro e w9 ⟨rfl, N9, g9⟩; have u1 := (g9.cell 1).trans t1; have u2 := (g9.cell 2).trans t2))
          have B9 := hide (((unhide B0).trans (unhide G1).1).trans (g3.1.trans g9.1))
          clear g3 g9 t1 t2 u1 u2 s1 s2 N3
          obtain ⟨vx, vy, st⟩ := N9
          obtain ⟨ay, cy, rfl, _⟩ := st.ky.arr.shape
          have d1 := st.ky.cell
          have KX := hide st.kx
          have N9' := hide (Now.two ⟨_, _, st⟩)
          clear st
          go_wp2_with fail
          go_quiet ((go_at_call 28; exact Calls.quiet_of_same (count_any w.heap.size w.heap.size _ es1 _ ((unhide KX).below (below_drewN (Below.refl _ _) _)))))
          go_wp2_with fail
          exact ⟨⟨k + 1, es1, by go_num, by omega, hide ((unhide N9').drewN _), G9, hide (below_drewN (unhide B9) _)⟩, by simp [intOf]; omega⟩
        · by_cases q1 : kd = 1
          · subst q1
            obtain ⟨es1, he1⟩ : ∃ es1, dropL es s = es1 := ⟨_, rfl⟩
            have G9 := hide (good_drop (unhide G2) s)
            have PX := hide (now_x (unhide N1) (fun vx hk => drop_any w.heap.size w.heap.size vx es s _ hk (unhide G2) hsz))
            have PY : Hid (∀ W1, Now w.heap.size wr.heap.size w.heap.size (w.heap.size + 1) es1 es W1 → _) := hide (fun W1 hN => now_y hN (fun vy hk => rdrop_any w.heap.size (w.heap.size + 1) vy es s W1 hk (unhide G2) hsz hN.room))
            rw [he1] at PX PY G9
            clear he1 s2
            go_wp2_with fail
            go_region_held3 (fun w' => w'.cell? ⟨wr.heap.size, 1, none⟩ = some (.string s)) (first | assumption | go_keep)
              (first
                | (go_at_call 21; refine (unhide PX).mono ?_; rintro e w3 ⟨rfl, N3, g3⟩; have t1 := (g3.cell 1).trans s1)
                | (go_at_call 22; refine (unhide PY _ N3).mono ?_; rintro e w9 ⟨rfl, N9, g9⟩; have u1 := (g9.cell 1).trans t1))
            have B9 := hide (((unhide B0).trans (unhide G1).1).trans (g3.1.trans g9.1))
            clear g3 g9 t1 u1 s1 N3
            obtain ⟨vx, vy, st⟩ := N9
            obtain ⟨ay, cy, rfl, _⟩ := st.ky.arr.shape
            have d1 := st.ky.cell
            have KX := hide st.kx
            have N9' := hide (Now.two ⟨_, _, st⟩)
            clear st
            go_wp2_with fail
            go_quiet ((go_at_call 28; exact Calls.quiet_of_same (count_any w.heap.size w.heap.size _ es1 _ ((unhide KX).below (below_drewN (Below.refl _ _) _)))))
            go_wp2_with fail
            exact ⟨⟨k + 1, es1, by go_num, by omega, hide ((unhide N9').drewN _), G9, hide (below_drewN (unhide B9) _)⟩, by simp [intOf]; omega⟩
          · clear s1 s2 N1 G1
            by_cases q2 : kd = 2
            · subst q2
              obtain ⟨vx, vy, st⟩ := unhide N0
              have PX := hide (get_any w.heap.size w.heap.size vx es s _ st.kx (unhide G2) hsz)
              have KY := hide st.ky
              clear st
              go_wp2_with fail
              refine (unhide PX).mono ?_
              rintro e w3 ⟨rfl, b3⟩
              have f1 : w3.cell? ⟨wr.heap.size, 1, none⟩ = some (.string s) := by rw [b3.cell (p := ⟨wr.heap.size, 1, none⟩) (by simp), cell_of_row _ wr.heap.size 1 _ _ _ (heap_alloc_new wr _)]; rfl
              have PY := hide (rget_any w.heap.size (w.heap.size + 1) vy es s _ ((unhide KY).below b3) (unhide G2) hsz)
              go_wp2_with fail
              refine (unhide PY).mono ?_
              rintro e w9 ⟨rfl, b9⟩
              have N9 := (unhide N0).below (bstep b3 b9)
              replace N9 := N9.1
              have B9 := hide (bstep (bstep (unhide B0) b3) b9)
              clear f1 b3 b9
              obtain ⟨vx, vy, st⟩ := N9
              obtain ⟨ay, cy, rfl, _⟩ := st.ky.arr.shape
              have d1 := st.ky.cell
              have KX := hide st.kx
              have N9' := hide (Now.two ⟨_, _, st⟩)
              clear st
              go_wp2_with fail
              go_quiet ((go_at_call 28; exact Calls.quiet_of_same (count_any w.heap.size w.heap.size _ es _ ((unhide KX).below (below_drewN (Below.refl _ _) _)))))
              go_wp2_with fail
              exact ⟨⟨k + 1, es, by go_num, by omega, hide ((unhide N9').drewN _), G2, hide (below_drewN (unhide B9) _)⟩, by simp [intOf]; omega⟩
            · by_cases q3 : kd = 3
              · subst q3
                obtain ⟨vx, vy, st⟩ := unhide N0
                have PX := hide (find_any w.heap.size w.heap.size vx es s _ st.kx (unhide G2) hsz)
                have KY := hide st.ky
                clear st
                obtain ⟨fs, hfs⟩ : ∃ fs, (if errS true s = 0 then findL es s else []) = fs := ⟨_, rfl⟩
                have hfl : fs.length ≤ 100 := by
                  rw [← hfs]
                  split
                  · exact Nat.le_trans (List.length_filter_le _ _) (unhide G2).2.1
                  · simp
                rw [hfs] at PX
                go_wp2_with fail
                refine (unhide PX).mono ?_
                rintro e w3 ⟨v3, rfl, a3, b3⟩
                have f1 : w3.cell? ⟨wr.heap.size, 1, none⟩ = some (.string s) := by rw [b3.cell (p := ⟨wr.heap.size, 1, none⟩) (by simp), cell_of_row _ wr.heap.size 1 _ _ _ (heap_alloc_new wr _)]; rfl
                have PY := hide (rfind_any w.heap.size (w.heap.size + 1) vy es s _ ((unhide KY).below b3) (unhide G2) hsz)
                rw [hfs] at PY
                have A3 := hide a3
                have B3 := hide b3
                clear hfs a3 b3
                go_wp2_with fail
                refine (unhide PY).mono ?_
                rintro e w4 ⟨v4, rfl, a4, b4⟩
                obtain ⟨x3, y3, rfl, l3⟩ := ((unhide A3).below b4).sl
                obtain ⟨x4, y4, rfl, l4⟩ := a4.sl
                have PE := hide (equal_same x3 x4 y3 y4 fs w4 l3 l4 hfl)
                have N4 := hide ((unhide N0).below (bstep (unhide B3) b4)).1
                have B4 := hide (bstep (bstep (unhide B0) (unhide B3)) b4)
                clear f1 b4 a4 l3 l4
                go_wp2_with fail
                refine (unhide PE).mono ?_
                rintro e w9 ⟨rfl, nn, rfl⟩
                have N9 := ((unhide N4).below (below_drewN (Below.refl _ _) nn)).1
                have B9 := hide (below_drewN (unhide B4) nn)
                generalize w4.drewN nn = w9 at N9 B9 ⊢
                obtain ⟨vx, vy, st⟩ := N9
                obtain ⟨ay, cy, rfl, _⟩ := st.ky.arr.shape
                have d1 := st.ky.cell
                have KX := hide st.kx
                have N9' := hide (Now.two ⟨_, _, st⟩)
                clear st
                go_wp2_with fail
                go_quiet ((go_at_call 28; exact Calls.quiet_of_same (count_any w.heap.size w.heap.size _ es _ ((unhide KX).below (below_drewN (Below.refl _ _) _)))))
                go_wp2_with fail
                exact ⟨⟨k + 1, es, by go_num, by omega, hide ((unhide N9').drewN _), G2, hide (below_drewN (unhide B9) _)⟩, by simp [intOf]; omega⟩
              · have N9 := unhide N0
                have B9 := B0
                obtain ⟨vx, vy, st⟩ := N9
                obtain ⟨ay, cy, rfl, _⟩ := st.ky.arr.shape
                have d1 := st.ky.cell
                have KX := hide st.kx
                have N9' := hide (Now.two ⟨_, _, st⟩)
                clear st
                go_wp2_with fail
                go_quiet ((go_at_call 28; exact Calls.quiet_of_same (count_any w.heap.size w.heap.size _ es _ ((unhide KX).below (below_drewN (Below.refl _ _) _)))))
                go_wp2_with fail
                exact ⟨⟨k + 1, es, by go_num, by omega, hide ((unhide N9').drewN _), G2, hide (below_drewN (unhide B9) _)⟩, by simp [intOf]; omega⟩
      · go_wp2_with fail
        go_ret
        exact ⟨rfl, unhide B2⟩
end Go.Proofs.YtcdajajekmichaaDoor
