/-
  Contracts of subject.cover and Match.
-/
import Derived.Test.YtcdajajekmichafDoorJointPlain2Plain5
namespace Go.Proofs.YtcdajajekmichafDoor
open Go.RowKit

set_option maxRecDepth 100000 in
set_option maxHeartbeats 1000000 in
theorem cover_any (bf bg : Nat) (f g : List ByteArray) (w : World) (hf : Row w bf 0 f) (hg : Row w bg 0 g) (nf : f.length ≤ 8) :
    Calls Tryd.prog 26 #[.slice (some ⟨bf, 0, none⟩) f.length f.length, .slice (some ⟨bg, 0, none⟩) g.length g.length] w fun e w' => e = .returned (.bool (coverL f g)) ∧ ∃ n, w' = w.drewN n := by
  have Hf := hide hf
  have Hg := hide hg
  clear hf hg
  go_enter Tryd.func26, Tryd.ntmps26
  go_wp2
  go_loopw [11] (fun i wr => ∃ k : Nat, k ≤ f.length ∧ k ≤ g.length ∧ i = .int .i64 k ∧ Hid (coverL f g = coverL (f.drop k) (g.drop k)) ∧ ∃ n, wr = w.drewN n) (fun i _ => f.length - (intOf i).toNat)
  case atStart => exact ⟨0, Nat.zero_le _, Nat.zero_le _, rfl, hide rfl, 0, rfl⟩
  case round =>
    obtain ⟨k, hk, hk2, rfl, hq, n, rfl⟩ := hrel
    by_cases hlt : k < f.length ∧ k < g.length
    · obtain ⟨h1, h2⟩ := hlt
      have hc1 : w.cell? ⟨bf, k, none⟩ = some (.string (tk f k)) := by have := unhide Hf k h1; rwa [Nat.zero_add] at this
      have hc2 : w.cell? ⟨bg, k, none⟩ = some (.string (tk g k)) := by have := unhide Hg k h2; rwa [Nat.zero_add] at this
      have hmin : (k : Int) < min (f.length : Int) (g.length : Int) := by omega
      cases ha : ((tk f k).toList == [62])
      · cases hb : ((tk g k).toList == [62])
        · cases hc : ((tk f k).toList == [42])
          · cases hd : ((tk f k).toList == (tk g k).toList)
            · have R := hide (cov_of (unhide hq) h1 h2 ha hb hc hd)
              go_wp2
              go_quiet (fail)
              go_wp2
              go_ret
              exact ⟨ret_is (unhide R), _, World.drewN_drewN _ _ _⟩
            · have R := hide (cov_of (unhide hq) h1 h2 ha hb hc hd)
              go_wp2
              go_quiet (fail)
              go_wp2
              exact ⟨⟨k + 1, by omega, by omega, by go_num, hide (unhide R), _, rfl⟩, by simp [intOf]; omega⟩
          · have R := hide (cov_of (unhide hq) h1 h2 ha hb hc rfl)
            go_wp2
            go_quiet (fail)
            go_wp2
            exact ⟨⟨k + 1, by omega, by omega, by go_num, hide (unhide R), _, rfl⟩, by simp [intOf]; omega⟩
        · have R := hide (cov_of (unhide hq) h1 h2 ha hb rfl rfl)
          go_wp2
          go_ret
          exact ⟨ret_is (unhide R), _, rfl⟩
      · have R := hide (cov_of (unhide hq) h1 h2 ha rfl rfl rfl)
        go_wp2
        go_ret
        exact ⟨ret_is (unhide R), _, rfl⟩
    · have hmin : ¬ (k : Int) < min (f.length : Int) (g.length : Int) := by omega
      have R := hide ((unhide hq).trans (cover_end hk hk2 (by omega)))
      go_wp2
      go_ret
      refine ⟨ret_bool ?_, _, rfl⟩
      rw [unhide R]
      simp
      omega
set_option maxHeartbeats 400000 in
theorem match_any (f s : ByteArray) (w : World) (hf : f.size ≤ 140737488355328) (hs : s.size ≤ 140737488355328) :
    Calls Tryd.prog 13 #[.string f, .string s] w fun e w' => e = .returned (.tuple #[.bool (matchB f s), .int .i64 (pairErr (errS true f) (errS false s))]) ∧ Below w.heap.size w w' := by
  cases he : ((errS true f) == 0)
  · have R : matchB f s = false := by unfold matchB; rw [he]; rfl
    have R2 : pairErr (errS true f) (errS false s) = errS true f := if_neg (by simpa using he)
    have HR := hide R
    have HR2 := hide R2
    clear R R2
    go_enter Tryd.func13, Tryd.ntmps13
    go_wp2_with (go_at_call 24; refine (filter_any f _ hf).mono ?_; rintro e w1 ⟨rfl, hb⟩)
    go_ret2
    exact ⟨ret_two (unhide HR) (unhide HR2), hb⟩
  · have e0 : errS true f = 0 := by simpa using he
    have R2 : pairErr (errS true f) (errS false s) = errS false s := if_pos e0
    have HR2 := hide R2
    have n1 := few e0
    have E0 := hide e0
    clear R2 e0
    cases hc : ((errS false s) == 0)
    · have R : matchB f s = false := by unfold matchB; rw [hc, Bool.and_false]; rfl
      have HR := hide R
      clear R
      go_enter Tryd.func13, Tryd.ntmps13
      go_wp2_with fail
      refine (filter_any f _ hf).mono ?_
      rintro e w1 ⟨rfl, hb⟩
      go_wp2_with fail
      refine (subject_any s _ hs).mono ?_
      rintro e w2 ⟨rfl, hb2⟩
      go_wp2
      go_ret2
      exact ⟨ret_two (unhide HR) (unhide HR2), hb.trans (hb2.mono hb.size)⟩
    · have R : matchB f s = coverL (Pl.toks f) (Pl.toks s) := by unfold matchB; rw [he, hc]; rfl
      have HR := hide R
      have e1 : errS false s = 0 := by simpa using hc
      have n2 := few e1
      have E1 := hide e1
      clear R e1
      go_enter Tryd.func13, Tryd.ntmps13
      go_wp2_with fail
      refine (filter_any f _ hf).mono ?_
      rintro e w1 ⟨rfl, hb⟩
      go_wp2_with fail
      refine (subject_any s _ hs).mono ?_
      rintro e w2 ⟨rfl, hb2⟩
      go_wp2_with fail
      refine (tokens_any f _ hf n1).mono ?_
      rintro e w3 ⟨bf, rfl, h1, h2, hb3, hr3⟩
      go_wp2_with fail
      refine (tokens_any s _ hs n2).mono ?_
      rintro e w4 ⟨bs, rfl, h5, h6, hb4, hr4⟩
      go_wp2_with fail
      refine (cover_any bf bs _ _ _ (hr3.below hb4 h2) hr4 n1).mono ?_
      rintro e w5 ⟨rfl, n, rfl⟩
      go_wp2
      go_ret2
      have h12 := hb.trans (hb2.mono hb.size)
      have h13 := h12.trans (hb3.mono h12.size)
      have h14 := h13.trans (hb4.mono h13.size)
      exact ⟨ret_two (unhide HR) (by rw [unhide HR2, unhide E1]), below_drewN h14 n⟩
/-- the same contracts, with the answers known -/
theorem filter_at {f : ByteArray} {x : Int} (h : errS true f = x) (w : World) (hf : f.size ≤ 140737488355328) :
    Calls Tryd.prog 24 #[.string f] w fun e w' => e = .returned (.int .i64 x) ∧ Below w.heap.size w w' := by
  subst h; exact filter_any f w hf
theorem subject_at {f : ByteArray} {x : Int} (h : errS false f = x) (w : World) (hf : f.size ≤ 140737488355328) :
    Calls Tryd.prog 25 #[.string f] w fun e w' => e = .returned (.int .i64 x) ∧ Below w.heap.size w w' := by
  subst h; exact subject_any f w hf
theorem match_at {f s : ByteArray} {a : Bool} {x : Int} (h1 : matchB f s = a) (h2 : pairErr (errS true f) (errS false s) = x) (hf : f.size ≤ 140737488355328) (hs : s.size ≤ 140737488355328) (w : World) :
    Calls Tryd.prog 13 #[.string f, .string s] w fun e w' => e = .returned (.tuple #[.bool a, .int .i64 x]) ∧ Below w.heap.size w w' := by
  subst h1 h2; exact match_any f s w hf hs
end Go.Proofs.YtcdajajekmichafDoor
