/-
  Contract of the document's disk: Drawer.Append.
-/
import Derived.Test.YtbejicpfhnfnfabWalkP3
namespace Go.Proofs.Ytbejicpfhnfnfab.Dk
open Go.RowKit

set_option maxRecDepth 100000 in
set_option maxHeartbeats 1000000 in
theorem append_seen (B p : Nat) (m : Int) (v : Value) (es : List Pap) (n : Int) (s : ByteArray) (w : World) (hk : Keeps w B p m v es) (h100 : es.length ≤ 20) (hu : used es ≤ 1000000) (hs : s.size ≤ 140737488355328) (hnew : inI n 0 1099511627776 = true → full es m n s = false → ix es n < es.length) :
    Calls Try.prog 10 #[.pointer (some ⟨p, 0, none⟩), .int .i64 n, .string s] w fun e w' => e = .returned (.int .i64 (appE es m n s)) ∧ Upd w w' B p m v (appL es m n s) := by
  have Hk := hide hk
  have d0 := hk.room
  clear hk
  cases hI : inI n 0 1099511627776 with
  | false =>
    have HI := hide hI
    have HR := hide (app_bad (es := es) (m := m) (s := s) hI)
    clear hI
    go_enter Try.func10, Try.ntmps10
    go_wp2_with fail
    refine (in_any _ _ _ _).mono ?_
    rintro e w1 ⟨rfl, rfl⟩
    rw [unhide HI]
    go_wp2_with fail
    go_ret
    refine ⟨ret_eq (unhide HR).1, ?_⟩
    rw [(unhide HR).2]
    exact Upd.same (unhide Hk) (Below.refl _ _)
  | true =>
    have HI := hide hI
    by_cases t1 : m < (s.size : Int) + (used es : Int)
    · have HR := hide (app_full (es := es) (m := m) (n := n) (s := s) hI (by unfold full; rw [decide_eq_true t1]; rfl))
      obtain ⟨i, hi⟩ : ∃ i, atI es n = i := ⟨_, rfl⟩
      have Hi := hide hi
      clear hi hI
      obtain ⟨a, cap, rfl, c1, c2, c3⟩ := (unhide Hk).arr.shape
      clear c3 c2
      go_enter Try.func10, Try.ntmps10
      go_wp2_with fail
      refine (in_any _ _ _ _).mono ?_
      rintro e w1 ⟨rfl, rfl⟩
      rw [unhide HI]
      go_wp2_with fail
      refine (at_any B p m _ es n _ (unhide Hk) (by omega)).mono ?_
      rintro e w2 ⟨rfl, hb2⟩
      rw [unhide Hi]
      have k2 := (unhide Hk).below hb2
      have K2 := hide k2
      have e0 := k2.room
      have e1 := k2.cell
      clear k2 d0
      go_wp2_with fail
      go_quiet ((go_at_call 23; exact Calls.quiet_of_same (used_any B p m _ es _ ((unhide K2).below (below_drewN (Below.refl _ _) _)) (by omega) (by omega))))
      go_wp2_with fail
      go_ret
      refine ⟨ret_eq (unhide HR).1, ?_⟩
      rw [(unhide HR).2]
      exact Upd.same (unhide Hk) (below_drewN hb2 _)
    · have t2 : decide (m < (s.size : Int) + (used es : Int)) = false := decide_eq_false t1
      by_cases hh : ix es n < es.length
      · have HR := hide (app_old (es := es) (m := m) (n := n) (s := s) hI (by unfold full; rw [decide_eq_false t1, decide_eq_true hh]; rfl) hh)
        have Hi := hide (atI_there hh)
        generalize ix es n = q at hh Hi HR
        have hut := used_take hh
        have hul := used_le es (q + 1)
        have hcat : ¬ 9223372036854775807 < (pa es q).text.size + s.size := by omega
        have q0 : decide ((q : Int) < 0) = false := decide_eq_false (by omega)
        clear hI hut hul
        obtain ⟨g, cap, rfl, c1, c2, c3, c4⟩ := (unhide Hk).arr.there (by omega)
        unfold maxLen at c2
        go_enter Try.func10, Try.ntmps10
        go_wp2_with fail
        refine (in_any _ _ _ _).mono ?_
        rintro e w1 ⟨rfl, rfl⟩
        rw [unhide HI]
        go_wp2_with fail
        refine (at_any B p m _ es n _ (unhide Hk) (by omega)).mono ?_
        rintro e w2 ⟨rfl, hb2⟩
        rw [unhide Hi]
        have k2 := (unhide Hk).below hb2
        have K2 := hide k2
        have e0 := k2.room
        have e1 := k2.cell
        clear k2 d0
        go_wp2_with fail
        go_quiet ((go_at_call 23; exact Calls.quiet_of_same (used_any B p m _ es _ ((unhide K2).below (below_drewN (Below.refl _ _) _)) (by omega) (by omega))))
        have K3 := hide ((unhide K2).below (below_drewN (Below.refl _ _) nq))
        have Hb3 := hide (below_drewN hb2 nq)
        clear K2 hb2 e0 e1
        generalize w2.drewN nq = w3 at K3 Hb3 ⊢
        have e1 := (unhide K3).cell
        have d2 := (unhide K3).arr.text hh
        have d5 := World.ownsRow.frozenAt (unhide K3).arr (q * 3 + 2)
        go_wp2_with fail
        have HU := hide ((unhide K3).text hh ((pa es q).text ++ s))
        clear e1 d2 d5
        go_ret
        refine ⟨ret_eq (unhide HR).1, ?_⟩
        rw [(unhide HR).2]
        exact Upd.behind (unhide Hb3) ⟨_, (unhide HU).1, (unhide HU).2, fun g' hg' => .inl hg'⟩
      · by_cases hl : es.length = 20
        · have HR := hide (app_full (es := es) (m := m) (n := n) (s := s) hI (by unfold full; rw [decide_eq_false t1, decide_eq_false hh, decide_eq_true hl]; rfl))
          have Hi := hide (atI_none hh)
          have hl2 : ((es.length : Int) == 20) = true := by rw [beq_iff_eq]; omega
          clear hI hh hl
          obtain ⟨a, cap, rfl, c1, c2, c3⟩ := (unhide Hk).arr.shape
          clear c3 c2
          go_enter Try.func10, Try.ntmps10
          go_wp2_with fail
          refine (in_any _ _ _ _).mono ?_
          rintro e w1 ⟨rfl, rfl⟩
          rw [unhide HI]
          go_wp2_with fail
          refine (at_any B p m _ es n _ (unhide Hk) (by omega)).mono ?_
          rintro e w2 ⟨rfl, hb2⟩
          rw [unhide Hi]
          have k2 := (unhide Hk).below hb2
          have K2 := hide k2
          have e0 := k2.room
          have e1 := k2.cell
          clear k2 d0
          go_wp2_with fail
          go_quiet ((go_at_call 23; exact Calls.quiet_of_same (used_any B p m _ es _ ((unhide K2).below (below_drewN (Below.refl _ _) _)) (by omega) (by omega))))
          go_wp2_with fail
          go_ret
          refine ⟨ret_eq (unhide HR).1, ?_⟩
          rw [(unhide HR).2]
          exact Upd.same (unhide Hk) (below_drewN hb2 _)
        · exact absurd (hnew hI (by unfold full; rw [decide_eq_false t1, decide_eq_false hl]; simp)) hh
end Go.Proofs.Ytbejicpfhnfnfab.Dk
