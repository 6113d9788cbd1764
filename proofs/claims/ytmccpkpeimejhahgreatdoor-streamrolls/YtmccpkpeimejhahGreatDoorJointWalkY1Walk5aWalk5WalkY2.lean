/-
  Contracts of the landed package plan: isDigit, isNameByte, isName, isNumber.
  Contracts of subject.cover and Match.
  Contracts of subject.meet, bothFilters, Overlap and Covers.
  Contracts of the landed package plan: overlap, checkFilters.
-/
import Derived.Test.YtmccpkpeimejhahGreatDoorJointPlainKPapPbPapPnPapD
import Derived.Test.YtmccpkpeimejhahGreatDoorJointRowPlRowPsPapPcPapPe
import Derived.Test.YtmccpkpeimejhahGreatDoorJointWalkSplitWalk2Plain2Plain5
namespace Go.Proofs.YtmccpkpeimejhahGreatDoor
open Go.RowKit

def digI (c : Int) : Bool := decide (48 ≤ c) && decide (c ≤ 57)
def nameI (c : Int) : Bool := (decide (97 ≤ c) && decide (c ≤ 122)) || (digI c || decide (c = 45))
theorem digI_byte (c : UInt8) : digI (c.toNat : Int) = Pn.isDig c := by
  unfold digI Pn.isDig
  rw [Bool.eq_iff_iff]
  simp
  omega
theorem nameI_byte (c : UInt8) : nameI (c.toNat : Int) = Pn.nameB c := by
  unfold nameI Pn.nameB digI
  rw [Bool.eq_iff_iff]
  simp
  omega

set_option maxHeartbeats 400000 in
theorem digit_any (c : Int) (w : World) :
    Calls Tryz.prog 65 #[.int .u8 c] w fun e w' => e = .returned (.bool (digI c)) ∧ w' = w := by
  go_enter Tryz.func65, Tryz.ntmps65
  go_wp2
  all_goals go_ret
  all_goals refine ⟨ret_bool ?_, rfl⟩
  all_goals simp [digI]
  all_goals omega

set_option maxHeartbeats 400000 in
theorem nameByte_any (c : Int) (w : World) :
    Calls Tryz.prog 46 #[.int .u8 c] w fun e w' => e = .returned (.bool (nameI c)) ∧ w' = w := by
  have HD := hide (digit_any c)
  go_enter Tryz.func46, Tryz.ntmps46
  go_wp2_with (go_at_call 65; refine (unhide HD _).mono ?_; rintro e w' ⟨rfl, rfl⟩)
  all_goals go_ret
  all_goals refine ⟨ret_bool ?_, rfl⟩
  all_goals simp_all [nameI, digI]
  all_goals omega

theorem name_len {s : ByteArray} (h : s.size < 1 ∨ 16 < s.size) : Pn.namedB s = false := by
  unfold Pn.namedB
  rcases h with h | h
  · rw [decide_eq_false (p := 1 ≤ s.size) (by omega)]; simp
  · rw [decide_eq_false (p := s.size ≤ 16) (by omega)]; simp
theorem name_all {s : ByteArray} (h1 : 1 ≤ s.size) (h2 : s.size ≤ 16) (h : namedTo s s.size = true) : Pn.namedB s = true := by
  rw [named_ok h]
  simp
  omega
set_option maxHeartbeats 1000000 in
theorem isName_any (s : ByteArray) (w : World) (hs : s.size ≤ 140737488355328) :
    Calls Tryz.prog 27 #[.string s] w fun e w' => e = .returned (.bool (Pn.namedB s)) ∧ w' = w := by
  by_cases h1 : s.size < 1
  · go_enter Tryz.func27, Tryz.ntmps27
    go_wp2
    go_ret
    exact ⟨ret_is (name_len (Or.inl h1)), rfl⟩
  by_cases h2 : 16 < s.size
  · go_enter Tryz.func27, Tryz.ntmps27
    go_wp2
    go_ret
    exact ⟨ret_is (name_len (Or.inr h2)), rfl⟩
  go_enter Tryz.func27, Tryz.ntmps27
  go_wp2
  go_loop [14] (fun i => ∃ k : Nat, k ≤ s.size ∧ i = .int .i64 k ∧ Hid (namedTo s k = true)) (fun i => s.size - (intOf i).toNat)
  case atStart => exact ⟨0, Nat.zero_le _, rfl, hide rfl⟩
  case round =>
    obtain ⟨k, hk, rfl, hq⟩ := hrel
    by_cases hlt : k < s.size
    · cases ht : nameI (s[k].toNat : Int) with
      | false =>
        have Ht := hide ht
        clear ht
        go_wp2_with (go_at_call 46; refine (nameByte_any _ _).mono ?_; rintro e w' ⟨rfl, rfl⟩; rw [unhide Ht])
        go_ret
        exact ⟨ret_is (named_bad hlt (by rw [← nameI_byte]; exact unhide Ht)), rfl⟩
      | true =>
        have Ht := hide ht
        clear ht
        go_wp2_with (go_at_call 46; refine (nameByte_any _ _).mono ?_; rintro e w' ⟨rfl, rfl⟩; rw [unhide Ht])
        go_round
        case rel => exact ⟨k + 1, by omega, by go_num, hide (by rw [namedTo_succ hlt, unhide hq, ← nameI_byte, unhide Ht]; rfl)⟩
        case measure => simp [intOf]; omega
    · obtain rfl : k = s.size := by omega
      go_wp2
      go_ret
      exact ⟨ret_is (name_all (by omega) (by omega) (unhide hq)), rfl⟩
end Go.Proofs.YtmccpkpeimejhahGreatDoor

namespace Go.Proofs.YtmccpkpeimejhahGreatDoor
open Go.RowKit

set_option maxRecDepth 100000 in
set_option maxHeartbeats 1000000 in
theorem cover_any (bf bg : Nat) (f g : List ByteArray) (w : World) (hf : Row w bf 0 f) (hg : Row w bg 0 g) (nf : f.length ≤ 8) :
    Calls Tryz.prog 74 #[.slice (some ⟨bf, 0, none⟩) f.length f.length, .slice (some ⟨bg, 0, none⟩) g.length g.length] w fun e w' => e = .returned (.bool (coverL f g)) ∧ ∃ n, w' = w.drewN n := by
  have Hf := hide hf
  have Hg := hide hg
  clear hf hg
  go_enter Tryz.func74, Tryz.ntmps74
  go_wp2
  go_loopw [11] (fun i wr => ∃ k : Nat, k ≤ f.length ∧ k ≤ g.length ∧ i = .int .i64 k ∧ Hid (coverL f g = coverL (f.drop k) (g.drop k)) ∧ ∃ n, wr = w.drewN n) (fun i _ => f.length - (intOf i).toNat)
  case atStart => exact ⟨0, Nat.zero_le _, Nat.zero_le _, rfl, hide rfl, 0, rfl⟩
  case round =>
    obtain ⟨k, hk, hk2, rfl, hq, n, rfl⟩ := hrel
    by_cases hlt : k < f.length ∧ k < g.length
    · obtain ⟨h1, h2⟩ := hlt
      have hc1 : w.cell? ⟨bf, k, none⟩ = some (.string (tk f k)) := by have := unhide Hf k h1; rwa [Nat.zero_add] at this
      have hc2 : w.cell? ⟨bg, k, none⟩ = some (.string (tk g k)) := by have := unhide Hg k h2; rwa [Nat.zero_add] at this
      have hmin : (k : Int) < min (f.length : Int) (g.length : Int) := by omega
      cases ha : ((tk f k).toList == [62])
      · cases hb : ((tk g k).toList == [62])
        · cases hc : ((tk f k).toList == [42])
          · cases hd : ((tk f k).toList == (tk g k).toList)
            · have R := hide (cov_of (unhide hq) h1 h2 ha hb hc hd)
              go_wp2
              go_quiet (fail)
              go_wp2
              go_ret
              exact ⟨ret_is (unhide R), _, World.drewN_drewN _ _ _⟩
            · have R := hide (cov_of (unhide hq) h1 h2 ha hb hc hd)
              go_wp2
              go_quiet (fail)
              go_wp2
              exact ⟨⟨k + 1, by omega, by omega, by go_num, hide (unhide R), _, rfl⟩, by simp [intOf]; omega⟩
          · have R := hide (cov_of (unhide hq) h1 h2 ha hb hc rfl)
            go_wp2
            go_quiet (fail)
            go_wp2
            exact ⟨⟨k + 1, by omega, by omega, by go_num, hide (unhide R), _, rfl⟩, by simp [intOf]; omega⟩
        · have R := hide (cov_of (unhide hq) h1 h2 ha hb rfl rfl)
          go_wp2
          go_ret
          exact ⟨ret_is (unhide R), _, rfl⟩
      · have R := hide (cov_of (unhide hq) h1 h2 ha rfl rfl rfl)
        go_wp2
        go_ret
        exact ⟨ret_is (unhide R), _, rfl⟩
    · have hmin : ¬ (k : Int) < min (f.length : Int) (g.length : Int) := by omega
      have R := hide ((unhide hq).trans (cover_end hk hk2 (by omega)))
      go_wp2
      go_ret
      refine ⟨ret_bool ?_, _, rfl⟩
      rw [unhide R]
      simp
      omega
set_option maxHeartbeats 400000 in
theorem match_any (f s : ByteArray) (w : World) (hf : f.size ≤ 140737488355328) (hs : s.size ≤ 140737488355328) :
    Calls Tryz.prog 56 #[.string f, .string s] w fun e w' => e = .returned (.tuple #[.bool (matchB f s), .int .i64 (pairErr (errS true f) (errS false s))]) ∧ Below w.heap.size w w' := by
  cases he : ((errS true f) == 0)
  · have R : matchB f s = false := by unfold matchB; rw [he]; rfl
    have R2 : pairErr (errS true f) (errS false s) = errS true f := if_neg (by simpa using he)
    have HR := hide R
    have HR2 := hide R2
    clear R R2
    go_enter Tryz.func56, Tryz.ntmps56
    go_wp2_with (go_at_call 47; refine (filter_any f _ hf).mono ?_; rintro e w1 ⟨rfl, hb⟩)
    go_ret2
    exact ⟨ret_two (unhide HR) (unhide HR2), hb⟩
  · have e0 : errS true f = 0 := by simpa using he
    have R2 : pairErr (errS true f) (errS false s) = errS false s := if_pos e0
    have HR2 := hide R2
    have n1 := few e0
    have E0 := hide e0
    clear R2 e0
    cases hc : ((errS false s) == 0)
    · have R : matchB f s = false := by unfold matchB; rw [hc, Bool.and_false]; rfl
      have HR := hide R
      clear R
      go_enter Tryz.func56, Tryz.ntmps56
      go_wp2_with fail
      refine (filter_any f _ hf).mono ?_
      rintro e w1 ⟨rfl, hb⟩
      go_wp2_with fail
      refine (subject_any s _ hs).mono ?_
      rintro e w2 ⟨rfl, hb2⟩
      go_wp2
      go_ret2
      exact ⟨ret_two (unhide HR) (unhide HR2), hb.trans (hb2.mono hb.size)⟩
    · have R : matchB f s = coverL (Pl.toks f) (Pl.toks s) := by unfold matchB; rw [he, hc]; rfl
      have HR := hide R
      have e1 : errS false s = 0 := by simpa using hc
      have n2 := few e1
      have E1 := hide e1
      clear R e1
      go_enter Tryz.func56, Tryz.ntmps56
      go_wp2_with fail
      refine (filter_any f _ hf).mono ?_
      rintro e w1 ⟨rfl, hb⟩
      go_wp2_with fail
      refine (subject_any s _ hs).mono ?_
      rintro e w2 ⟨rfl, hb2⟩
      go_wp2_with fail
      refine (tokens_any f _ hf n1).mono ?_
      rintro e w3 ⟨bf, rfl, h1, h2, hb3, hr3⟩
      go_wp2_with fail
      refine (tokens_any s _ hs n2).mono ?_
      rintro e w4 ⟨bs, rfl, h5, h6, hb4, hr4⟩
      go_wp2_with fail
      refine (cover_any bf bs _ _ _ (hr3.below hb4 h2) hr4 n1).mono ?_
      rintro e w5 ⟨rfl, n, rfl⟩
      go_wp2
      go_ret2
      have h12 := hb.trans (hb2.mono hb.size)
      have h13 := h12.trans (hb3.mono h12.size)
      have h14 := h13.trans (hb4.mono h13.size)
      exact ⟨ret_two (unhide HR) (by rw [unhide HR2, unhide E1]), below_drewN h14 n⟩
/-- the same contracts, with the answers known -/
theorem filter_at {f : ByteArray} {x : Int} (h : errS true f = x) (w : World) (hf : f.size ≤ 140737488355328) :
    Calls Tryz.prog 47 #[.string f] w fun e w' => e = .returned (.int .i64 x) ∧ Below w.heap.size w w' := by
  subst h; exact filter_any f w hf
theorem subject_at {f : ByteArray} {x : Int} (h : errS false f = x) (w : World) (hf : f.size ≤ 140737488355328) :
    Calls Tryz.prog 34 #[.string f] w fun e w' => e = .returned (.int .i64 x) ∧ Below w.heap.size w w' := by
  subst h; exact subject_any f w hf
theorem match_at {f s : ByteArray} {a : Bool} {x : Int} (h1 : matchB f s = a) (h2 : pairErr (errS true f) (errS false s) = x) (hf : f.size ≤ 140737488355328) (hs : s.size ≤ 140737488355328) (w : World) :
    Calls Tryz.prog 56 #[.string f, .string s] w fun e w' => e = .returned (.tuple #[.bool a, .int .i64 x]) ∧ Below w.heap.size w w' := by
  subst h1 h2; exact match_any f s w hf hs
end Go.Proofs.YtmccpkpeimejhahGreatDoor

namespace Go.Proofs.YtmccpkpeimejhahGreatDoor
open Go.RowKit

set_option maxRecDepth 100000 in
set_option maxHeartbeats 1000000 in
theorem meet_any (bf bg : Nat) (f g : List ByteArray) (w : World) (hf : Row w bf 0 f) (hg : Row w bg 0 g) (nf : f.length ≤ 8) :
    Calls Tryz.prog 90 #[.slice (some ⟨bf, 0, none⟩) f.length f.length, .slice (some ⟨bg, 0, none⟩) g.length g.length] w fun e w' => e = .returned (.bool (meetL f g)) ∧ ∃ n, w' = w.drewN n := by
  have Hf := hide hf
  have Hg := hide hg
  clear hf hg
  go_enter Tryz.func90, Tryz.ntmps90
  go_wp2
  go_loopw [11] (fun i wr => ∃ k : Nat, k ≤ f.length ∧ k ≤ g.length ∧ i = .int .i64 k ∧ Hid (meetL f g = meetL (f.drop k) (g.drop k)) ∧ ∃ n, wr = w.drewN n) (fun i _ => f.length - (intOf i).toNat)
  case atStart => exact ⟨0, Nat.zero_le _, Nat.zero_le _, rfl, hide rfl, 0, rfl⟩
  case round =>
    obtain ⟨k, hk, hk2, rfl, hq, n, rfl⟩ := hrel
    by_cases hlt : k < f.length ∧ k < g.length
    · obtain ⟨h1, h2⟩ := hlt
      have hc1 : w.cell? ⟨bf, k, none⟩ = some (.string (tk f k)) := by have := unhide Hf k h1; rwa [Nat.zero_add] at this
      have hc2 : w.cell? ⟨bg, k, none⟩ = some (.string (tk g k)) := by have := unhide Hg k h2; rwa [Nat.zero_add] at this
      have hmin : (k : Int) < min (f.length : Int) (g.length : Int) := by omega
      cases ha : ((tk f k).toList == [62])
      · cases hb : ((tk g k).toList == [62])
        · cases hc : ((tk f k).toList == (tk g k).toList)
          · cases hd : ((tk f k).toList == [42])
            · cases he : ((tk g k).toList == [42])
              · have R := hide (meet_of (unhide hq) h1 h2 ha hb hc hd he)
                go_wp2
                go_quiet (fail)
                go_wp2
                go_ret
                exact ⟨ret_is (unhide R), _, World.drewN_drewN _ _ _⟩
              · have R := hide (meet_of (unhide hq) h1 h2 ha hb hc hd he)
                go_wp2
                go_quiet (fail)
                go_wp2
                exact ⟨⟨k + 1, by omega, by omega, by go_num, hide (unhide R), _, rfl⟩, by simp [intOf]; omega⟩
            · have R := hide (meet_of (unhide hq) h1 h2 ha hb hc hd rfl)
              go_wp2
              go_quiet (fail)
              go_wp2
              exact ⟨⟨k + 1, by omega, by omega, by go_num, hide (unhide R), _, rfl⟩, by simp [intOf]; omega⟩
          · have R := hide (meet_of (unhide hq) h1 h2 ha hb hc rfl rfl)
            go_wp2
            go_quiet (fail)
            go_wp2
            exact ⟨⟨k + 1, by omega, by omega, by go_num, hide (unhide R), _, rfl⟩, by simp [intOf]; omega⟩
        · have R := hide (meet_of (unhide hq) h1 h2 ha hb rfl rfl rfl)
          go_wp2
          go_ret
          exact ⟨ret_is (unhide R), _, rfl⟩
      · have R := hide (meet_of (unhide hq) h1 h2 ha rfl rfl rfl rfl)
        go_wp2
        go_ret
        exact ⟨ret_is (unhide R), _, rfl⟩
    · have hmin : ¬ (k : Int) < min (f.length : Int) (g.length : Int) := by omega
      have R := hide ((unhide hq).trans (meet_end hk hk2 (by omega)))
      go_wp2
      go_ret
      refine ⟨ret_bool ?_, _, rfl⟩
      rw [unhide R]
      simp
      omega
set_option maxHeartbeats 400000 in
theorem both_any (f g : ByteArray) (w : World) (hf : f.size ≤ 140737488355328) (hg : g.size ≤ 140737488355328) :
    Calls Tryz.prog 89 #[.string f, .string g] w fun e w' => e = .returned (.int .i64 (pairErr (errS true f) (errS true g))) ∧ Below w.heap.size w w' := by
  cases he : ((errS true f) == 0)
  · go_enter Tryz.func89, Tryz.ntmps89
    go_wp2_with (go_at_call 47; refine (filter_any f _ hf).mono ?_; rintro e w1 ⟨rfl, hb⟩)
    go_ret
    exact ⟨ret_eq (if_neg (by simpa using he)), hb⟩
  · have e0 : errS true f = 0 := by simpa using he
    have E0 := hide e0
    go_enter Tryz.func89, Tryz.ntmps89
    clear e0
    go_wp2_with fail
    refine (filter_any f _ hf).mono ?_
    rintro e w1 ⟨rfl, hb⟩
    go_wp2_with fail
    refine (filter_any g _ hg).mono ?_
    rintro e w2 ⟨rfl, hb2⟩
    go_wp2
    go_ret
    exact ⟨ret_eq (if_pos (unhide E0)), hb.trans (hb2.mono hb.size)⟩
set_option maxHeartbeats 400000 in
theorem overlap_any (f g : ByteArray) (w : World) (hf : f.size ≤ 140737488355328) (hg : g.size ≤ 140737488355328) :
    Calls Tryz.prog 66 #[.string f, .string g] w fun e w' => e = .returned (.tuple #[.bool (overlapB f g), .int .i64 (pairErr (errS true f) (errS true g))]) ∧ Below w.heap.size w w' := by
  cases he : (pairErr (errS true f) (errS true g) == 0)
  · have R : overlapB f g = false := by
      unfold overlapB
      cases h1 : (errS true f == 0)
      · rfl
      · cases h2 : (errS true g == 0)
        · rfl
        · exfalso
          unfold pairErr at he
          rw [if_pos (by simpa using h1), h2] at he
          cases he
    have HR := hide R
    clear R
    go_enter Tryz.func66, Tryz.ntmps66
    go_wp2_with fail
    refine (both_any f g _ hf hg).mono ?_
    rintro e w1 ⟨rfl, hb⟩
    go_wp2
    go_ret2
    exact ⟨ret_two (unhide HR) rfl, hb⟩
  · have h1 : (errS true f == 0) = true := by
      cases h1 : (errS true f == 0)
      · unfold pairErr at he
        rw [if_neg (by simpa using h1), h1] at he
        cases he
      · rfl
    have h2 : (errS true g == 0) = true := by
      unfold pairErr at he
      rwa [if_pos (by simpa using h1)] at he
    have R : overlapB f g = meetL (Pl.toks f) (Pl.toks g) := by unfold overlapB; rw [h1, h2]; rfl
    have HR := hide R
    have n1 : (Pl.toks f).length ≤ 8 := few (wild := true) (by simpa using h1)
    have n2 : (Pl.toks g).length ≤ 8 := few (wild := true) (by simpa using h2)
    have E := hide (show pairErr (errS true f) (errS true g) = 0 by simpa using he)
    clear R h1 h2
    go_enter Tryz.func66, Tryz.ntmps66
    go_wp2_with fail
    refine (both_any f g _ hf hg).mono ?_
    rintro e w1 ⟨rfl, hb⟩
    go_wp2_with fail
    refine (tokens_any f _ hf n1).mono ?_
    rintro e w3 ⟨bf, rfl, h1, h2, hb3, hr3⟩
    go_wp2_with fail
    refine (tokens_any g _ hg n2).mono ?_
    rintro e w4 ⟨bs, rfl, h5, h6, hb4, hr4⟩
    go_wp2_with fail
    refine (meet_any bf bs _ _ _ (hr3.below hb4 h2) hr4 n1).mono ?_
    rintro e w5 ⟨rfl, n, rfl⟩
    go_wp2
    go_ret2
    have h13 := hb.trans (hb3.mono hb.size)
    have h14 := h13.trans (hb4.mono h13.size)
    exact ⟨ret_two (unhide HR) (unhide E), below_drewN h14 n⟩
theorem overlap_at {f s : ByteArray} {a : Bool} {x : Int} (h1 : overlapB f s = a) (h2 : pairErr (errS true f) (errS true s) = x) (hf : f.size ≤ 140737488355328) (hs : s.size ≤ 140737488355328) (w : World) :
    Calls Tryz.prog 66 #[.string f, .string s] w fun e w' => e = .returned (.tuple #[.bool a, .int .i64 x]) ∧ Below w.heap.size w w' := by
  subst h1 h2; exact overlap_any f s w hf hs
end Go.Proofs.YtmccpkpeimejhahGreatDoor

namespace Go.Proofs.YtmccpkpeimejhahGreatDoor
open Go.RowKit

/-- texts that are looked at -/
def Fst (w wr : World) (a : Option Addr) (l : List ByteArray) : Prop := SlS wr a l ∧ Below w.heap.size w wr
theorem Fst.next {w wr w' : World} {a : Option Addr} {l : List ByteArray} (h : Fst w wr a l) (hb : Below wr.heap.size wr w') : Fst w w' a l := ⟨h.1.next hb, bstep h.2 hb⟩
/-- no overlap up to the i-th -/
def Apart (l : List ByteArray) (i : Nat) : Prop := ∀ i', i' < i → ∀ j, j < i' → meetL (Pl.toks (tk l i')) (Pl.toks (tk l j)) = false
theorem apart_end {l : List ByteArray} (h : Apart l l.length) : Pn.laps l = false := by
  rw [Bool.eq_false_iff]
  intro q
  obtain ⟨i, j, h1, h2, h3⟩ := (Pn.laps_iff l).1 q
  rw [h i h2 j h1] at h3
  cases h3
theorem overlap_meet {f g : ByteArray} (hf : errS true f = 0) (hg : errS true g = 0) : overlapB f g = meetL (Pl.toks f) (Pl.toks g) := by
  unfold overlapB
  rw [hf, hg]
  rfl
set_option maxRecDepth 100000 in
set_option maxHeartbeats 4000000 in
theorem laps_any (a : Option Addr) (l : List ByteArray) (c : Nat) (w : World) (hsl : SlS w a l) (hz : ∀ k, k < l.length → (tk l k).size ≤ 140737488355328) (hok : ∀ k, k < l.length → errS true (tk l k) = 0) (hl : l.length ≤ 4) (hc : l.length ≤ c) :
    Calls Tryz.prog 48 #[.slice a l.length c] w fun e w' => e = .returned (.bool (Pn.laps l)) ∧ Below w.heap.size w w' := by
  have HZ := hide hz
  have HOk := hide hok
  have HS : Hid (Fst w w a l) := hide ⟨hsl, Below.refl _ _⟩
  clear hz hok hsl
  go_enter Tryz.func48, Tryz.ntmps48
  go_wp2_with fail
  go_loopw [11] (fun iv wr => ∃ (i : Nat), iv = .int .i64 i ∧ i ≤ l.length ∧ Hid (Apart l i) ∧ Hid (Fst w wr a l)) (fun iv _ => l.length - (intOf iv).toNat)
  case atStart => exact ⟨0, rfl, Nat.zero_le _, hide (fun i' h => by omega), HS⟩
  case round =>
    clear HS
    obtain ⟨i, rfl, hi, HA, HS⟩ := hrel
    by_cases hlt : i < l.length
    · obtain ⟨ba, o, rfl, _, e1⟩ := (unhide HS).1 i hlt
      go_wp2_with fail
      clear e1
      go_loopw [20] (fun kv wr => ∃ (k : Nat), kv = .int .i64 k ∧ k ≤ i ∧ Hid (∀ j, j < k → meetL (Pl.toks (tk l i)) (Pl.toks (tk l j)) = false) ∧ Hid (Fst w wr (some ⟨ba, o, none⟩) l)) (fun kv _ => i - (intOf kv).toNat)
      case atStart => exact ⟨0, rfl, Nat.zero_le _, hide (fun j h => by omega), HS⟩
      case round =>
        clear HS
        obtain ⟨k, rfl, hk, HK, HS⟩ := hrel
        by_cases hki : k < i
        · obtain ⟨ba', o', eq, _, e1⟩ := (unhide HS).1 k (by omega)
          cases eq
          have hf := unhide HOk i hlt
          have hg := unhide HOk k (by omega)
          obtain ⟨M, hM⟩ : ∃ M, meetL (Pl.toks (tk l i)) (Pl.toks (tk l k)) = M := ⟨_, rfl⟩
          have PO := hide (overlap_at (f := tk l i) (s := tk l k) (a := M) (x := 0) (by rw [overlap_meet hf hg]; exact hM) (by rw [hf, hg]; rfl) (unhide HZ i hlt) (unhide HZ k (by omega)) wr)
          have HM := hide hM
          have HN := hide (fun (w' : World) (h : Below wr.heap.size wr w') => (unhide HS).next h)
          clear hf hg hM
          cases M with
          | true =>
            have HR : Hid (Pn.laps l = true) := hide ((Pn.laps_iff l).2 ⟨i, k, hki, hlt, unhide HM⟩)
            go_wp2_with (go_at_call 66; refine (unhide PO).mono ?_; rintro e w4 ⟨rfl, b4⟩; have Q4 := unhide HN w4 b4)
            go_ret
            rw [unhide HR]
            exact ⟨rfl, Q4.2⟩
          | false =>
            have HK2 : Hid (∀ j, j < k + 1 → meetL (Pl.toks (tk l i)) (Pl.toks (tk l j)) = false) := hide (fun j hj => by
              by_cases e : j = k
              · rw [e]; exact unhide HM
              · exact unhide HK j (by omega))
            clear HM HK
            go_wp2_with (go_at_call 66; refine (unhide PO).mono ?_; rintro e w4 ⟨rfl, b4⟩; have Q4 := hide (unhide HN w4 b4); clear b4)
            refine ⟨⟨k + 1, by go_num, by omega, HK2, Q4⟩, ?_⟩
            simp [intOf]; omega
        · obtain rfl : k = i := by omega
          have HA2 : Hid (Apart l (k + 1)) := hide (fun i' hi' j hj => by
            by_cases e : i' = k
            · subst e; exact unhide HK j hj
            · exact unhide HA i' (by omega) j hj)
          clear HA HK
          go_wp2_with fail
          refine ⟨⟨k + 1, by go_num, by omega, HA2, HS⟩, ?_⟩
          simp [intOf]; omega
    · obtain rfl : i = l.length := by omega
      have HR := hide (apart_end (unhide HA))
      go_wp2_with fail
      go_ret
      rw [unhide HR]
      exact ⟨rfl, (unhide HS).2⟩
set_option maxRecDepth 100000 in
set_option maxHeartbeats 4000000 in
theorem filters_any (a : Option Addr) (l : List ByteArray) (c : Nat) (w : World) (hsl : SlS w a l) (hz : ∀ k, k < l.length → (tk l k).size ≤ 140737488355328) (hl : l.length ≤ 140737488355328) (hc : l.length ≤ c) :
    Calls Tryz.prog 28 #[.slice a l.length c] w fun e w' => e = .returned (.int .i64 (Pn.filtersE l)) ∧ Below w.heap.size w w' := by
  have HZ := hide hz
  have HS : Hid (Fst w w a l) := hide ⟨hsl, Below.refl _ _⟩
  clear hz hsl
  by_cases h4 : 4 < l.length
  · have HR : Hid (Pn.filtersE l = 2) := hide (by unfold Pn.filtersE; rw [if_pos h4])
    have g4 : decide ((4 : Int) < (l.length : Int)) = true := decide_eq_true (by omega)
    go_enter Tryz.func28, Tryz.ntmps28
    go_wp2_with fail
    go_ret
    rw [unhide HR]
    exact ⟨rfl, (unhide HS).2⟩
  have g4 : decide ((4 : Int) < (l.length : Int)) = false := decide_eq_false (by omega)
  by_cases h0 : l.length = 0
  · have HR : Hid (Pn.filtersE l = 1) := hide (by unfold Pn.filtersE; rw [if_neg h4, if_pos h0])
    have g0 : ((l.length : Int) == 0) = true := by rw [beq_iff_eq]; omega
    go_enter Tryz.func28, Tryz.ntmps28
    go_wp2_with fail
    go_ret
    rw [unhide HR]
    exact ⟨rfl, (unhide HS).2⟩
  have g0 : ((l.length : Int) == 0) = false := by rw [beq_eq_false_iff_ne]; omega
  have HE : Hid (Pn.filtersE l = if Pn.filtE l ≠ 0 then Pn.filtE l else if Pn.laps l = true then 10 else 0) := hide (by unfold Pn.filtersE; rw [if_neg h4, if_neg h0])
  go_enter Tryz.func28, Tryz.ntmps28
  go_wp2_with fail
  go_loopw [14] (fun iv wr => ∃ (i : Nat), iv = .int .i64 i ∧ i ≤ l.length ∧ Hid (Pn.filtE l = Pn.filtE (l.drop i) ∧ ∀ k, k < i → errS true (tk l k) = 0) ∧ Hid (Fst w wr a l)) (fun iv _ => l.length - (intOf iv).toNat)
  case atStart => exact ⟨0, rfl, Nat.zero_le _, hide ⟨rfl, fun k hk => by omega⟩, HS⟩
  case round =>
    clear HS
    obtain ⟨i, rfl, hi, HF, HS⟩ := hrel
    by_cases hlt : i < l.length
    · obtain ⟨ba, o, rfl, _, e1⟩ := (unhide HS).1 i hlt
      obtain ⟨E, hE⟩ : ∃ E, errS true (tk l i) = E := ⟨_, rfl⟩
      have PF := hide (filter_at hE wr (unhide HZ i hlt))
      have HEE := hide hE
      have HN := hide (fun (w' : World) (h : Below wr.heap.size wr w') => (unhide HS).next h)
      clear hE
      by_cases hE0 : E = 0
      · have HF2 : Hid (Pn.filtE l = Pn.filtE (l.drop (i + 1)) ∧ ∀ k, k < i + 1 → errS true (tk l k) = 0) := hide ⟨by rw [(unhide HF).1, Pn.filtE_drop hlt, if_pos (by rw [unhide HEE]; exact hE0)], fun k hk => by
          by_cases e : k = i
          · rw [e, unhide HEE]; exact hE0
          · exact (unhide HF).2 k (by omega)⟩
        subst hE0
        clear HF HEE
        go_wp2_with (go_at_call 47; refine (unhide PF).mono ?_; rintro e w4 ⟨rfl, b4⟩; have Q4 := hide (unhide HN w4 b4); clear b4)
        refine ⟨⟨i + 1, by go_num, by omega, HF2, Q4⟩, ?_⟩
        simp [intOf]; omega
      · have HR : Hid (Pn.filtersE l = E) := hide (by
          have e1 : Pn.filtE l = E := by rw [(unhide HF).1, Pn.filtE_drop hlt, if_neg (by rw [unhide HEE]; exact hE0), unhide HEE]
          rw [unhide HE, e1, if_pos hE0])
        have hE' : (E != 0) = true := by simpa using hE0
        clear HF HEE
        go_wp2_with (go_at_call 47; refine (unhide PF).mono ?_; rintro e w4 ⟨rfl, b4⟩; have Q4 := unhide HN w4 b4)
        go_ret
        rw [unhide HR]
        exact ⟨rfl, Q4.2⟩
    · obtain rfl : i = l.length := by omega
      have PL := hide (laps_any a l c wr (unhide HS).1 (unhide HZ) (unhide HF).2 (by omega) hc)
      have HE2 : Hid (Pn.filtersE l = if Pn.laps l = true then 10 else 0) := hide (by
        have e1 : Pn.filtE l = 0 := by rw [(unhide HF).1, List.drop_length]; rfl
        rw [unhide HE, e1, if_neg (show ¬ (0 : Int) ≠ 0 by decide)])
      have HN := hide (fun (w' : World) (h : Below wr.heap.size wr w') => (unhide HS).next h)
      clear HF HE hlt
      cases hP : Pn.laps l with
      | true =>
        rw [hP] at PL HE2
        clear hP
        go_wp2_with (go_at_call 48; refine (unhide PL).mono ?_; rintro e w4 ⟨rfl, b4⟩; have Q4 := unhide HN w4 b4)
        go_ret
        rw [unhide HE2]
        exact ⟨rfl, Q4.2⟩
      | false =>
        rw [hP] at PL HE2
        clear hP
        go_wp2_with (go_at_call 48; refine (unhide PL).mono ?_; rintro e w4 ⟨rfl, b4⟩; have Q4 := unhide HN w4 b4)
        go_ret
        rw [unhide HE2]
        exact ⟨rfl, Q4.2⟩
end Go.Proofs.YtmccpkpeimejhahGreatDoor
