/-
  Contracts of the landed package plan: overlap, checkFilters.
-/
import Derived.Test.YtohjipnkoiifhagDoorWalkY1
import Derived.Test.YtohjipnkoiifhagDoorWalk5
namespace Go.Proofs.YtohjipnkoiifhagDoor
open Go.RowKit

/-- texts that are looked at -/
def Fst (w wr : World) (a : Option Addr) (l : List ByteArray) : Prop := SlS wr a l ∧ Below w.heap.size w wr
theorem Fst.next {w wr w' : World} {a : Option Addr} {l : List ByteArray} (h : Fst w wr a l) (hb : Below wr.heap.size wr w') : Fst w w' a l := ⟨h.1.next hb, bstep h.2 hb⟩
/-- no overlap up to the i-th -/
def Apart (l : List ByteArray) (i : Nat) : Prop := ∀ i', i' < i → ∀ j, j < i' → meetL (Pl.toks (tk l i')) (Pl.toks (tk l j)) = false
theorem apart_end {l : List ByteArray} (h : Apart l l.length) : Pn.laps l = false := by
  rw [Bool.eq_false_iff]
  intro q
  obtain ⟨i, j, h1, h2, h3⟩ := (Pn.laps_iff l).1 q
  rw [h i h2 j h1] at h3
  cases h3
theorem overlap_meet {f g : ByteArray} (hf : errS true f = 0) (hg : errS true g = 0) : overlapB f g = meetL (Pl.toks f) (Pl.toks g) := by
  unfold overlapB
  rw [hf, hg]
  rfl
set_option maxRecDepth 100000 in
set_option maxHeartbeats 4000000 in
theorem laps_any (a : Option Addr) (l : List ByteArray) (c : Nat) (w : World) (hsl : SlS w a l) (hz : ∀ k, k < l.length → (tk l k).size ≤ 140737488355328) (hok : ∀ k, k < l.length → errS true (tk l k) = 0) (hl : l.length ≤ 4) (hc : l.length ≤ c) :
    Calls Tryd.prog 37 #[.slice a l.length c] w fun e w' => e = .returned (.bool (Pn.laps l)) ∧ Below w.heap.size w w' := by
  have HZ := hide hz
  have HOk := hide hok
  have HS : Hid (Fst w w a l) := hide ⟨hsl, Below.refl _ _⟩
  clear hz hok hsl
  go_enter Tryd.func37, Tryd.ntmps37
  go_wp2_with fail
  go_loopw [11] (fun iv wr => ∃ (i : Nat), iv = .int .i64 i ∧ i ≤ l.length ∧ Hid (Apart l i) ∧ Hid (Fst w wr a l)) (fun iv _ => l.length - (intOf iv).toNat)
  case atStart => exact ⟨0, rfl, Nat.zero_le _, hide (fun i' h => by omega), HS⟩
  case round =>
    clear HS
    obtain ⟨i, rfl, hi, HA, HS⟩ := hrel
    by_cases hlt : i < l.length
    · obtain ⟨ba, o, rfl, _, e1⟩ := (unhide HS).1 i hlt
      go_wp2_with fail
      clear e1
      go_loopw [20] (fun kv wr => ∃ (k : Nat), kv = .int .i64 k ∧ k ≤ i ∧ Hid (∀ j, j < k → meetL (Pl.toks (tk l i)) (Pl.toks (tk l j)) = false) ∧ Hid (Fst w wr (some ⟨ba, o, none⟩) l)) (fun kv _ => i - (intOf kv).toNat)
      case atStart => exact ⟨0, rfl, Nat.zero_le _, hide (fun j h => by omega), HS⟩
      case round =>
        clear HS
        obtain ⟨k, rfl, hk, HK, HS⟩ := hrel
        by_cases hki : k < i
        · obtain ⟨ba', o', eq, _, e1⟩ := (unhide HS).1 k (by omega)
          cases eq
          have hf := unhide HOk i hlt
          have hg := unhide HOk k (by omega)
          obtain ⟨M, hM⟩ : ∃ M, meetL (Pl.toks (tk l i)) (Pl.toks (tk l k)) = M := ⟨_, rfl⟩
          have PO := hide (overlap_at (f := tk l i) (s := tk l k) (a := M) (x := 0) (by rw [overlap_meet hf hg]; exact hM) (by rw [hf, hg]; rfl) (unhide HZ i hlt) (unhide HZ k (by omega)) wr)
          have HM := hide hM
          have HN := hide (fun (w' : World) (h : Below wr.heap.size wr w') => (unhide HS).next h)
          clear hf hg hM
          cases M with
          | true =>
            have HR : Hid (Pn.laps l = true) := hide ((Pn.laps_iff l).2 ⟨i, k, hki, hlt, unhide HM⟩)
            go_wp2_with (go_at_call 57; refine (unhide PO).mono ?_; rintro e w4 ⟨rfl, b4⟩; have Q4 := unhide HN w4 b4)
            go_ret
            rw [unhide HR]
            exact ⟨rfl, Q4.2⟩
          | false =>
            have HK2 : Hid (∀ j, j < k + 1 → meetL (Pl.toks (tk l i)) (Pl.toks (tk l j)) = false) := hide (fun j hj => by
              by_cases e : j = k
              · rw [e]; exact unhide HM
              · exact unhide HK j (by omega))
            clear HM HK
            go_wp2_with (go_at_call 57; refine (unhide PO).mono ?_; rintro e w4 ⟨rfl, b4⟩; have Q4 := hide (unhide HN w4 b4); clear b4)
            refine ⟨⟨k + 1, by go_num, by omega, HK2, Q4⟩, ?_⟩
            simp [intOf]; omega
        · obtain rfl : k = i := by omega
          have HA2 : Hid (Apart l (k + 1)) := hide (fun i' hi' j hj => by
            by_cases e : i' = k
            · subst e; exact unhide HK j hj
            · exact unhide HA i' (by omega) j hj)
          clear HA HK
          go_wp2_with fail
          refine ⟨⟨k + 1, by go_num, by omega, HA2, HS⟩, ?_⟩
          simp [intOf]; omega
    · obtain rfl : i = l.length := by omega
      have HR := hide (apart_end (unhide HA))
      go_wp2_with fail
      go_ret
      rw [unhide HR]
      exact ⟨rfl, (unhide HS).2⟩
set_option maxRecDepth 100000 in
set_option maxHeartbeats 4000000 in
theorem filters_any (a : Option Addr) (l : List ByteArray) (c : Nat) (w : World) (hsl : SlS w a l) (hz : ∀ k, k < l.length → (tk l k).size ≤ 140737488355328) (hl : l.length ≤ 140737488355328) (hc : l.length ≤ c) :
    Calls Tryd.prog 22 #[.slice a l.length c] w fun e w' => e = .returned (.int .i64 (Pn.filtersE l)) ∧ Below w.heap.size w w' := by
  have HZ := hide hz
  have HS : Hid (Fst w w a l) := hide ⟨hsl, Below.refl _ _⟩
  clear hz hsl
  by_cases h4 : 4 < l.length
  · have HR : Hid (Pn.filtersE l = 2) := hide (by unfold Pn.filtersE; rw [if_pos h4])
    have g4 : decide ((4 : Int) < (l.length : Int)) = true := decide_eq_true (by omega)
    go_enter Tryd.func22, Tryd.ntmps22
    go_wp2_with fail
    go_ret
    rw [unhide HR]
    exact ⟨rfl, (unhide HS).2⟩
  have g4 : decide ((4 : Int) < (l.length : Int)) = false := decide_eq_false (by omega)
  by_cases h0 : l.length = 0
  · have HR : Hid (Pn.filtersE l = 1) := hide (by unfold Pn.filtersE; rw [if_neg h4, if_pos h0])
    have g0 : ((l.length : Int) == 0) = true := by rw [beq_iff_eq]; omega
    go_enter Tryd.func22, Tryd.ntmps22
    go_wp2_with fail
    go_ret
    rw [unhide HR]
    exact ⟨rfl, (unhide HS).2⟩
  have g0 : ((l.length : Int) == 0) = false := by rw [beq_eq_false_iff_ne]; omega
  have HE : Hid (Pn.filtersE l = if Pn.filtE l ≠ 0 then Pn.filtE l else if Pn.laps l = true then 10 else 0) := hide (by unfold Pn.filtersE; rw [if_neg h4, if_neg h0])
  go_enter Tryd.func22, Tryd.ntmps22
  go_wp2_with fail
  go_loopw [14] (fun iv wr => ∃ (i : Nat), iv = .int .i64 i ∧ i ≤ l.length ∧ Hid (Pn.filtE l = Pn.filtE (l.drop i) ∧ ∀ k, k < i → errS true (tk l k) = 0) ∧ Hid (Fst w wr a l)) (fun iv _ => l.length - (intOf iv).toNat)
  case atStart => exact ⟨0, rfl, Nat.zero_le _, hide ⟨rfl, fun k hk => by omega⟩, HS⟩
  case round =>
    clear HS
    obtain ⟨i, rfl, hi, HF, HS⟩ := hrel
    by_cases hlt : i < l.length
    · obtain ⟨ba, o, rfl, _, e1⟩ := (unhide HS).1 i hlt
      obtain ⟨E, hE⟩ : ∃ E, errS true (tk l i) = E := ⟨_, rfl⟩
      have PF := hide (filter_at hE wr (unhide HZ i hlt))
      have HEE := hide hE
      have HN := hide (fun (w' : World) (h : Below wr.heap.size wr w') => (unhide HS).next h)
      clear hE
      by_cases hE0 : E = 0
      · have HF2 : Hid (Pn.filtE l = Pn.filtE (l.drop (i + 1)) ∧ ∀ k, k < i + 1 → errS true (tk l k) = 0) := hide ⟨by rw [(unhide HF).1, Pn.filtE_drop hlt, if_pos (by rw [unhide HEE]; exact hE0)], fun k hk => by
          by_cases e : k = i
          · rw [e, unhide HEE]; exact hE0
          · exact (unhide HF).2 k (by omega)⟩
        subst hE0
        clear HF HEE
        go_wp2_with (go_at_call 25; refine (unhide PF).mono ?_; rintro e w4 ⟨rfl, b4⟩; have Q4 := hide (unhide HN w4 b4); clear b4)
        refine ⟨⟨i + 1, by go_num, by omega, HF2, Q4⟩, ?_⟩
        simp [intOf]; omega
      · have HR : Hid (Pn.filtersE l = E) := hide (by
          have e1 : Pn.filtE l = E := by rw [(unhide HF).1, Pn.filtE_drop hlt, if_neg (by rw [unhide HEE]; exact hE0), unhide HEE]
          rw [unhide HE, e1, if_pos hE0])
        have hE' : (E != 0) = true := by simpa using hE0
        clear HF HEE
        go_wp2_with (go_at_call 25; refine (unhide PF).mono ?_; rintro e w4 ⟨rfl, b4⟩; have Q4 := unhide HN w4 b4)
        go_ret
        rw [unhide HR]
        exact ⟨rfl, Q4.2⟩
    · obtain rfl : i = l.length := by omega
      have PL := hide (laps_any a l c wr (unhide HS).1 (unhide HZ) (unhide HF).2 (by omega) hc)
      have HE2 : Hid (Pn.filtersE l = if Pn.laps l = true then 10 else 0) := hide (by
        have e1 : Pn.filtE l = 0 := by rw [(unhide HF).1, List.drop_length]; rfl
        rw [unhide HE, e1, if_neg (show ¬ (0 : Int) ≠ 0 by decide)])
      have HN := hide (fun (w' : World) (h : Below wr.heap.size wr w') => (unhide HS).next h)
      clear HF HE hlt
      cases hP : Pn.laps l with
      | true =>
        rw [hP] at PL HE2
        clear hP
        go_wp2_with (go_at_call 37; refine (unhide PL).mono ?_; rintro e w4 ⟨rfl, b4⟩; have Q4 := unhide HN w4 b4)
        go_ret
        rw [unhide HE2]
        exact ⟨rfl, Q4.2⟩
      | false =>
        rw [hP] at PL HE2
        clear hP
        go_wp2_with (go_at_call 37; refine (unhide PL).mono ?_; rintro e w4 ⟨rfl, b4⟩; have Q4 := unhide HN w4 b4)
        go_ret
        rw [unhide HE2]
        exact ⟨rfl, Q4.2⟩
end Go.Proofs.YtohjipnkoiifhagDoor
