/-
  Contracts of subject.meet, bothFilters, Overlap and Covers.
-/
import Derived.Test.YtohjipnkoiifhagDoorWalk5a
namespace Go.Proofs.YtohjipnkoiifhagDoor
open Go.RowKit

set_option maxRecDepth 100000 in
set_option maxHeartbeats 1000000 in
theorem meet_any (bf bg : Nat) (f g : List ByteArray) (w : World) (hf : Row w bf 0 f) (hg : Row w bg 0 g) (nf : f.length ≤ 8) :
    Calls Tryd.prog 76 #[.slice (some ⟨bf, 0, none⟩) f.length f.length, .slice (some ⟨bg, 0, none⟩) g.length g.length] w fun e w' => e = .returned (.bool (meetL f g)) ∧ ∃ n, w' = w.drewN n := by
  have Hf := hide hf
  have Hg := hide hg
  clear hf hg
  go_enter Tryd.func76, Tryd.ntmps76
  go_wp2
  go_loopw [11] (fun i wr => ∃ k : Nat, k ≤ f.length ∧ k ≤ g.length ∧ i = .int .i64 k ∧ Hid (meetL f g = meetL (f.drop k) (g.drop k)) ∧ ∃ n, wr = w.drewN n) (fun i _ => f.length - (intOf i).toNat)
  case atStart => exact ⟨0, Nat.zero_le _, Nat.zero_le _, rfl, hide rfl, 0, rfl⟩
  case round =>
    obtain ⟨k, hk, hk2, rfl, hq, n, rfl⟩ := hrel
    by_cases hlt : k < f.length ∧ k < g.length
    · obtain ⟨h1, h2⟩ := hlt
      have hc1 : w.cell? ⟨bf, k, none⟩ = some (.string (tk f k)) := by have := unhide Hf k h1; rwa [Nat.zero_add] at this
      have hc2 : w.cell? ⟨bg, k, none⟩ = some (.string (tk g k)) := by have := unhide Hg k h2; rwa [Nat.zero_add] at this
      have hmin : (k : Int) < min (f.length : Int) (g.length : Int) := by omega
      cases ha : ((tk f k).toList == [62])
      · cases hb : ((tk g k).toList == [62])
        · cases hc : ((tk f k).toList == (tk g k).toList)
          · cases hd : ((tk f k).toList == [42])
            · cases he : ((tk g k).toList == [42])
              · have R := hide (meet_of (unhide hq) h1 h2 ha hb hc hd he)
                go_wp2
                go_quiet (fail)
                go_wp2
                go_ret
                exact ⟨ret_is (unhide R), _, World.drewN_drewN _ _ _⟩
              · have R := hide (meet_of (unhide hq) h1 h2 ha hb hc hd he)
                go_wp2
                go_quiet (fail)
                go_wp2
                exact ⟨⟨k + 1, by omega, by omega, by go_num, hide (unhide R), _, rfl⟩, by simp [intOf]; omega⟩
            · have R := hide (meet_of (unhide hq) h1 h2 ha hb hc hd rfl)
              go_wp2
              go_quiet (fail)
              go_wp2
              exact ⟨⟨k + 1, by omega, by omega, by go_num, hide (unhide R), _, rfl⟩, by simp [intOf]; omega⟩
          · have R := hide (meet_of (unhide hq) h1 h2 ha hb hc rfl rfl)
            go_wp2
            go_quiet (fail)
            go_wp2
            exact ⟨⟨k + 1, by omega, by omega, by go_num, hide (unhide R), _, rfl⟩, by simp [intOf]; omega⟩
        · have R := hide (meet_of (unhide hq) h1 h2 ha hb rfl rfl rfl)
          go_wp2
          go_ret
          exact ⟨ret_is (unhide R), _, rfl⟩
      · have R := hide (meet_of (unhide hq) h1 h2 ha rfl rfl rfl rfl)
        go_wp2
        go_ret
        exact ⟨ret_is (unhide R), _, rfl⟩
    · have hmin : ¬ (k : Int) < min (f.length : Int) (g.length : Int) := by omega
      have R := hide ((unhide hq).trans (meet_end hk hk2 (by omega)))
      go_wp2
      go_ret
      refine ⟨ret_bool ?_, _, rfl⟩
      rw [unhide R]
      simp
      omega
set_option maxHeartbeats 400000 in
theorem both_any (f g : ByteArray) (w : World) (hf : f.size ≤ 140737488355328) (hg : g.size ≤ 140737488355328) :
    Calls Tryd.prog 75 #[.string f, .string g] w fun e w' => e = .returned (.int .i64 (pairErr (errS true f) (errS true g))) ∧ Below w.heap.size w w' := by
  cases he : ((errS true f) == 0)
  · go_enter Tryd.func75, Tryd.ntmps75
    go_wp2_with (go_at_call 25; refine (filter_any f _ hf).mono ?_; rintro e w1 ⟨rfl, hb⟩)
    go_ret
    exact ⟨ret_eq (if_neg (by simpa using he)), hb⟩
  · have e0 : errS true f = 0 := by simpa using he
    have E0 := hide e0
    go_enter Tryd.func75, Tryd.ntmps75
    clear e0
    go_wp2_with fail
    refine (filter_any f _ hf).mono ?_
    rintro e w1 ⟨rfl, hb⟩
    go_wp2_with fail
    refine (filter_any g _ hg).mono ?_
    rintro e w2 ⟨rfl, hb2⟩
    go_wp2
    go_ret
    exact ⟨ret_eq (if_pos (unhide E0)), hb.trans (hb2.mono hb.size)⟩
set_option maxHeartbeats 400000 in
theorem overlap_any (f g : ByteArray) (w : World) (hf : f.size ≤ 140737488355328) (hg : g.size ≤ 140737488355328) :
    Calls Tryd.prog 57 #[.string f, .string g] w fun e w' => e = .returned (.tuple #[.bool (overlapB f g), .int .i64 (pairErr (errS true f) (errS true g))]) ∧ Below w.heap.size w w' := by
  cases he : (pairErr (errS true f) (errS true g) == 0)
  · have R : overlapB f g = false := by
      unfold overlapB
      cases h1 : (errS true f == 0)
      · rfl
      · cases h2 : (errS true g == 0)
        · rfl
        · exfalso
          unfold pairErr at he
          rw [if_pos (by simpa using h1), h2] at he
          cases he
    have HR := hide R
    clear R
    go_enter Tryd.func57, Tryd.ntmps57
    go_wp2_with fail
    refine (both_any f g _ hf hg).mono ?_
    rintro e w1 ⟨rfl, hb⟩
    go_wp2
    go_ret2
    exact ⟨ret_two (unhide HR) rfl, hb⟩
  · have h1 : (errS true f == 0) = true := by
      cases h1 : (errS true f == 0)
      · unfold pairErr at he
        rw [if_neg (by simpa using h1), h1] at he
        cases he
      · rfl
    have h2 : (errS true g == 0) = true := by
      unfold pairErr at he
      rwa [if_pos (by simpa using h1)] at he
    have R : overlapB f g = meetL (Pl.toks f) (Pl.toks g) := by unfold overlapB; rw [h1, h2]; rfl
    have HR := hide R
    have n1 : (Pl.toks f).length ≤ 8 := few (wild := true) (by simpa using h1)
    have n2 : (Pl.toks g).length ≤ 8 := few (wild := true) (by simpa using h2)
    have E := hide (show pairErr (errS true f) (errS true g) = 0 by simpa using he)
    clear R h1 h2
    go_enter Tryd.func57, Tryd.ntmps57
    go_wp2_with fail
    refine (both_any f g _ hf hg).mono ?_
    rintro e w1 ⟨rfl, hb⟩
    go_wp2_with fail
    refine (tokens_any f _ hf n1).mono ?_
    rintro e w3 ⟨bf, rfl, h1, h2, hb3, hr3⟩
    go_wp2_with fail
    refine (tokens_any g _ hg n2).mono ?_
    rintro e w4 ⟨bs, rfl, h5, h6, hb4, hr4⟩
    go_wp2_with fail
    refine (meet_any bf bs _ _ _ (hr3.below hb4 h2) hr4 n1).mono ?_
    rintro e w5 ⟨rfl, n, rfl⟩
    go_wp2
    go_ret2
    have h13 := hb.trans (hb3.mono hb.size)
    have h14 := h13.trans (hb4.mono h13.size)
    exact ⟨ret_two (unhide HR) (unhide E), below_drewN h14 n⟩
theorem overlap_at {f s : ByteArray} {a : Bool} {x : Int} (h1 : overlapB f s = a) (h2 : pairErr (errS true f) (errS true s) = x) (hf : f.size ≤ 140737488355328) (hs : s.size ≤ 140737488355328) (w : World) :
    Calls Tryd.prog 57 #[.string f, .string s] w fun e w' => e = .returned (.tuple #[.bool a, .int .i64 x]) ∧ Below w.heap.size w w' := by
  subst h1 h2; exact overlap_any f s w hf hs
end Go.Proofs.YtohjipnkoiifhagDoor
