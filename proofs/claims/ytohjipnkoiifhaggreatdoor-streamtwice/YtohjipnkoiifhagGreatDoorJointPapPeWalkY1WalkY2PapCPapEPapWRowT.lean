/-
  Pure laws for the landed package plan: overlaps in its own order, its filters' error, its numbers' form.
  Contracts of the landed package plan: isDigit, isNameByte, IsName, isNumber.
  Contracts of the landed package plan: overlap, checkFilters.
  How many messages of each subject there are, as an index, pure: what Put and Drop make of its entries. No walk.
  The numbers of an index of counts add up to the number of messages. No walk.
  A store whose messages lie by their numbers, pure: where a number is, what is erased there, what a purge leaves. No walk.
  The document's store in memory: a row of messages and the last number, in a block of its own; a map of how many messages each subject has. No walk.
-/
import Derived.Test.YtohjipnkoiifhagGreatDoorJointPapPbPapPnRowPlRowPsPapPcRowPrPapPwPapSPapTPapVaRowVWorksV
import Derived.Lib.Atoi
import Derived.Lib.Join
import Derived.Lib.IndexAny
import Derived.Test.YtohjipnkoiifhagGreatDoorJointWalkSplitWalk2Plain2Plain5PlainKWalk5aWalk5PlainI
import Derived.Test.YtohjipnkoiifhagGreatDoorJointPlainSPlainR2PapGRowGPapNWorksGPapHWorksFRowBWalkC6RowY
import Derived.Maps.OwnSet
import Derived.Maps.OwnOps
namespace Go.Proofs.YtohjipnkoiifhagGreatDoor.Pn
open Go

theorem tk_cons_zero (f : ByteArray) (r : List ByteArray) : tk (f :: r) 0 = f := rfl
theorem tk_cons_succ (f : ByteArray) (r : List ByteArray) (k : Nat) : tk (f :: r) (k + 1) = tk r k := rfl
theorem tk_at {l : List ByteArray} {k : Nat} (h : k < l.length) : tk l k = l[k] := by
  unfold tk
  rw [List.getElem?_eq_getElem h]
  rfl
theorem tk_in {l : List ByteArray} {k : Nat} (h : k < l.length) : tk l k ∈ l := by
  rw [tk_at h]
  exact List.getElem_mem h
/-- two of them overlap: a later one and one ahead of it -/
theorem laps_iff : ∀ l : List ByteArray, laps l = true ↔ ∃ i j, j < i ∧ i < l.length ∧ meetL (Pl.toks (tk l i)) (Pl.toks (tk l j)) = true
  | [] => by
    constructor
    · intro h; cases h
    · rintro ⟨i, j, _, h, _⟩; simp at h
  | f :: r => by
    have ih := laps_iff r
    rw [laps, Bool.or_eq_true, ih, List.any_eq_true]
    constructor
    · rintro (⟨g, hg, hm⟩ | ⟨i, j, h1, h2, h3⟩)
      · obtain ⟨k, hk, rfl⟩ := List.mem_iff_getElem.1 hg
        refine ⟨k + 1, 0, by omega, by simpa using hk, ?_⟩
        rw [tk_cons_succ, tk_cons_zero, tk_at hk, meetL_comm]
        exact hm
      · exact ⟨i + 1, j + 1, by omega, by simpa using h2, h3⟩
    · rintro ⟨i, j, h1, h2, h3⟩
      obtain ⟨i, rfl⟩ : ∃ k, i = k + 1 := ⟨i - 1, by omega⟩
      have hi : i < r.length := by simpa using h2
      cases j with
      | zero =>
        left
        refine ⟨tk r i, tk_in hi, ?_⟩
        rw [meetL_comm]
        exact h3
      | succ j => exact Or.inr ⟨i, j, by omega, hi, h3⟩
/-- what the filters' error is -/
def filtersE (l : List ByteArray) : Int := if 4 < l.length then 2 else if l.length = 0 then 1 else if filtE l ≠ 0 then filtE l else if laps l = true then 10 else 0
theorem plan_filters {p : Pln} (h : namedB p.n = true) : planE p = if filtersE p.f ≠ 0 then filtersE p.f else if inAll p.v most8 = true then 0 else 1 := by
  unfold planE filtersE
  rw [if_neg (by rw [h]; simp)]
  by_cases h2 : 4 < p.f.length
  · rw [if_pos h2, if_pos h2]; rfl
  · rw [if_neg h2, if_neg h2]
    by_cases h3 : p.f.length = 0
    · rw [if_pos h3, if_pos h3]; rfl
    · rw [if_neg h3, if_neg h3]
      by_cases h4 : filtE p.f ≠ 0
      · rw [if_pos h4, if_pos h4, if_pos h4]
      · rw [if_neg h4, if_neg h4]
        by_cases h5 : laps p.f = true
        · rw [if_pos h5, if_pos h5]; rfl
        · rw [if_neg h5, if_neg h5, if_neg (show ¬ (0 : Int) ≠ 0 by decide)]
theorem filters_ok {l : List ByteArray} (h : filtersE l = 0) : l.length ≤ 4 ∧ l.length ≠ 0 ∧ filtE l = 0 ∧ laps l = false := by
  unfold filtersE at h
  by_cases h2 : 4 < l.length
  · rw [if_pos h2] at h; cases h
  · rw [if_neg h2] at h
    by_cases h3 : l.length = 0
    · rw [if_pos h3] at h; cases h
    · rw [if_neg h3] at h
      by_cases h4 : filtE l ≠ 0
      · rw [if_pos h4] at h; exact absurd h h4
      · rw [if_neg h4] at h
        by_cases h5 : laps l = true
        · rw [if_pos h5] at h; cases h
        · exact ⟨by omega, h3, Classical.not_not.1 h4, by simpa using h5⟩
/-- the form of a number in a text -/
def numB (l : List UInt8) : Bool := l.all isDig && (decide (1 ≤ l.length) && (decide (l.length ≤ 9) && decide (l.head? ≠ some 48)))
theorem numB_yes {l : List UInt8} (h : numB l = true) : 1 ≤ digV l ∧ digV l = (val10 l : Int) ∧ l.length ≤ 9 ∧ l ≠ [] ∧ ∀ c ∈ l, isDig c = true := by
  unfold numB at h
  simp only [Bool.and_eq_true, decide_eq_true_eq, List.all_eq_true] at h
  obtain ⟨h1, h2, h3, h4⟩ := h
  have hne : l ≠ [] := by intro e; rw [e] at h2; simp at h2
  have e : digV l = (val10 l : Int) := by
    unfold digV
    rw [if_pos ⟨by rw [List.take_of_length_le (by omega), List.all_eq_true]; exact h1, h2, h3, fun q => h4 q.1⟩]
  refine ⟨?_, e, h3, hne, h1⟩
  rw [e]
  have := val_pos h1 hne h4
  omega
theorem numB_no {l : List UInt8} (h : numB l = false) : digV l < 1 := by
  unfold digV
  by_cases q : (l.take 10).all isDig = true ∧ 1 ≤ l.length ∧ l.length ≤ 9 ∧ ¬ (l.head? = some 48 ∧ l ≠ [48])
  · obtain ⟨q1, q2, q3, q4⟩ := q
    rw [if_pos ⟨q1, q2, q3, q4⟩]
    rw [List.take_of_length_le (by omega)] at q1
    unfold numB at h
    rw [q1, decide_eq_true q2, decide_eq_true q3] at h
    have hh : l.head? = some 48 := by simpa using h
    have hl : l = [48] := Classical.byContradiction (fun x => q4 ⟨hh, x⟩)
    rw [hl]
    decide
  · rw [if_neg q]; decide
theorem decFrom_dig : ∀ (l : List UInt8) (a : Nat), (∀ c ∈ l, isDig c = true) → Lib.decFrom a l = some (l.foldl (fun n c => n * 10 + (c.toNat - 48)) a)
  | [], a, _ => rfl
  | c :: r, a, h => by
    have hc := h c (by simp)
    unfold isDig at hc
    simp only [Bool.and_eq_true, decide_eq_true_eq] at hc
    rw [Lib.decFrom, Lib.digitVal, if_pos ⟨hc.1, hc.2⟩]
    exact decFrom_dig r _ (fun x hx => h x (by simp [hx]))
theorem atoi_dig {l : List UInt8} (hne : l ≠ []) (h : ∀ c ∈ l, isDig c = true) : Lib.atoi l = some (val10 l : Int) := by
  cases l with
  | nil => exact absurd rfl hne
  | cons c r =>
    have hc := h c (by simp)
    unfold isDig at hc
    simp only [Bool.and_eq_true, decide_eq_true_eq] at hc
    have n45 : ¬ (c == 45) = true := by
      intro e
      rw [beq_iff_eq] at e
      subst e
      simp at hc
    have n43 : ¬ (c == 43) = true := by
      intro e
      rw [beq_iff_eq] at e
      subst e
      simp at hc
    rw [Lib.atoi, if_neg n45, if_neg n43, Lib.decNat, if_neg (by simp), decFrom_dig _ _ h]
    rfl
theorem numB_atoi {l : List UInt8} (h : numB l = true) : Lib.atoi l = some (digV l) := by
  obtain ⟨_, e, _, hne, hd⟩ := numB_yes h
  rw [e, atoi_dig hne hd]
theorem glue_join (b : UInt8) : ∀ ts : List (List UInt8), Lib.join ts [b] = glue b ts
  | [] => rfl
  | [t] => by simp [Lib.join, List.intercalate, glue]
  | t :: u :: r => by
    have ih := glue_join b (u :: r)
    rw [glue_cons b t (by simp), ← ih]
    simp [Lib.join, List.intercalate]
theorem contains_at (f : ByteArray) : decide (0 ≤ Lib.indexByte f.data.toList 44) = f.data.toList.contains 44 := (Lib.contains_iff_indexByte _ _).symm
end Go.Proofs.YtohjipnkoiifhagGreatDoor.Pn

namespace Go.Proofs.YtohjipnkoiifhagGreatDoor
open Go.RowKit

def digI (c : Int) : Bool := decide (48 ≤ c) && decide (c ≤ 57)
def nameI (c : Int) : Bool := (decide (97 ≤ c) && decide (c ≤ 122)) || (digI c || decide (c = 45))
theorem digI_byte (c : UInt8) : digI (c.toNat : Int) = Pn.isDig c := by
  unfold digI Pn.isDig
  rw [Bool.eq_iff_iff]
  simp
  omega
theorem nameI_byte (c : UInt8) : nameI (c.toNat : Int) = Pn.nameB c := by
  unfold nameI Pn.nameB digI
  rw [Bool.eq_iff_iff]
  simp
  omega

set_option maxHeartbeats 400000 in
theorem digit_any (c : Int) (w : World) :
    Calls Tryz.prog 128 #[.int .u8 c] w fun e w' => e = .returned (.bool (digI c)) ∧ w' = w := by
  go_enter Tryz.func128, Tryz.ntmps128
  go_wp2
  all_goals go_ret
  all_goals refine ⟨ret_bool ?_, rfl⟩
  all_goals simp [digI]
  all_goals omega

set_option maxHeartbeats 400000 in
theorem nameByte_any (c : Int) (w : World) :
    Calls Tryz.prog 99 #[.int .u8 c] w fun e w' => e = .returned (.bool (nameI c)) ∧ w' = w := by
  have HD := hide (digit_any c)
  go_enter Tryz.func99, Tryz.ntmps99
  go_wp2_with (go_at_call 128; refine (unhide HD _).mono ?_; rintro e w' ⟨rfl, rfl⟩)
  all_goals go_ret
  all_goals refine ⟨ret_bool ?_, rfl⟩
  all_goals simp_all [nameI, digI]
  all_goals omega

theorem name_len {s : ByteArray} (h : s.size < 1 ∨ 16 < s.size) : Pn.namedB s = false := by
  unfold Pn.namedB
  rcases h with h | h
  · rw [decide_eq_false (p := 1 ≤ s.size) (by omega)]; simp
  · rw [decide_eq_false (p := s.size ≤ 16) (by omega)]; simp
theorem name_all {s : ByteArray} (h1 : 1 ≤ s.size) (h2 : s.size ≤ 16) (h : namedTo s s.size = true) : Pn.namedB s = true := by
  rw [named_ok h]
  simp
  omega
set_option maxHeartbeats 1000000 in
theorem isName_any (s : ByteArray) (w : World) (hs : s.size ≤ 140737488355328) :
    Calls Tryz.prog 59 #[.string s] w fun e w' => e = .returned (.bool (Pn.namedB s)) ∧ w' = w := by
  by_cases h1 : s.size < 1
  · go_enter Tryz.func59, Tryz.ntmps59
    go_wp2
    go_ret
    exact ⟨ret_is (name_len (Or.inl h1)), rfl⟩
  by_cases h2 : 16 < s.size
  · go_enter Tryz.func59, Tryz.ntmps59
    go_wp2
    go_ret
    exact ⟨ret_is (name_len (Or.inr h2)), rfl⟩
  go_enter Tryz.func59, Tryz.ntmps59
  go_wp2
  go_loop [14] (fun i => ∃ k : Nat, k ≤ s.size ∧ i = .int .i64 k ∧ Hid (namedTo s k = true)) (fun i => s.size - (intOf i).toNat)
  case atStart => exact ⟨0, Nat.zero_le _, rfl, hide rfl⟩
  case round =>
    obtain ⟨k, hk, rfl, hq⟩ := hrel
    by_cases hlt : k < s.size
    · cases ht : nameI (s[k].toNat : Int) with
      | false =>
        have Ht := hide ht
        clear ht
        go_wp2_with (go_at_call 99; refine (nameByte_any _ _).mono ?_; rintro e w' ⟨rfl, rfl⟩; rw [unhide Ht])
        go_ret
        exact ⟨ret_is (named_bad hlt (by rw [← nameI_byte]; exact unhide Ht)), rfl⟩
      | true =>
        have Ht := hide ht
        clear ht
        go_wp2_with (go_at_call 99; refine (nameByte_any _ _).mono ?_; rintro e w' ⟨rfl, rfl⟩; rw [unhide Ht])
        go_round
        case rel => exact ⟨k + 1, by omega, by go_num, hide (by rw [namedTo_succ hlt, unhide hq, ← nameI_byte, unhide Ht]; rfl)⟩
        case measure => simp [intOf]; omega
    · obtain rfl : k = s.size := by omega
      go_wp2
      go_ret
      exact ⟨ret_is (name_all (by omega) (by omega) (unhide hq)), rfl⟩
end Go.Proofs.YtohjipnkoiifhagGreatDoor

namespace Go.Proofs.YtohjipnkoiifhagGreatDoor
open Go.RowKit

/-- texts that are looked at -/
def Fst (w wr : World) (a : Option Addr) (l : List ByteArray) : Prop := SlS wr a l ∧ Below w.heap.size w wr
theorem Fst.next {w wr w' : World} {a : Option Addr} {l : List ByteArray} (h : Fst w wr a l) (hb : Below wr.heap.size wr w') : Fst w w' a l := ⟨h.1.next hb, bstep h.2 hb⟩
/-- no overlap up to the i-th -/
def Apart (l : List ByteArray) (i : Nat) : Prop := ∀ i', i' < i → ∀ j, j < i' → meetL (Pl.toks (tk l i')) (Pl.toks (tk l j)) = false
theorem apart_end {l : List ByteArray} (h : Apart l l.length) : Pn.laps l = false := by
  rw [Bool.eq_false_iff]
  intro q
  obtain ⟨i, j, h1, h2, h3⟩ := (Pn.laps_iff l).1 q
  rw [h i h2 j h1] at h3
  cases h3
theorem overlap_meet {f g : ByteArray} (hf : errS true f = 0) (hg : errS true g = 0) : overlapB f g = meetL (Pl.toks f) (Pl.toks g) := by
  unfold overlapB
  rw [hf, hg]
  rfl
set_option maxRecDepth 100000 in
set_option maxHeartbeats 4000000 in
theorem laps_any (a : Option Addr) (l : List ByteArray) (c : Nat) (w : World) (hsl : SlS w a l) (hz : ∀ k, k < l.length → (tk l k).size ≤ 140737488355328) (hok : ∀ k, k < l.length → errS true (tk l k) = 0) (hl : l.length ≤ 4) (hc : l.length ≤ c) :
    Calls Tryz.prog 100 #[.slice a l.length c] w fun e w' => e = .returned (.bool (Pn.laps l)) ∧ Below w.heap.size w w' := by
  have HZ := hide hz
  have HOk := hide hok
  have HS : Hid (Fst w w a l) := hide ⟨hsl, Below.refl _ _⟩
  clear hz hok hsl
  go_enter Tryz.func100, Tryz.ntmps100
  go_wp2_with fail
  go_loopw [11] (fun iv wr => ∃ (i : Nat), iv = .int .i64 i ∧ i ≤ l.length ∧ Hid (Apart l i) ∧ Hid (Fst w wr a l)) (fun iv _ => l.length - (intOf iv).toNat)
  case atStart => exact ⟨0, rfl, Nat.zero_le _, hide (fun i' h => by omega), HS⟩
  case round =>
    clear HS
    obtain ⟨i, rfl, hi, HA, HS⟩ := hrel
    by_cases hlt : i < l.length
    · obtain ⟨ba, o, rfl, _, e1⟩ := (unhide HS).1 i hlt
      go_wp2_with fail
      clear e1
      go_loopw [20] (fun kv wr => ∃ (k : Nat), kv = .int .i64 k ∧ k ≤ i ∧ Hid (∀ j, j < k → meetL (Pl.toks (tk l i)) (Pl.toks (tk l j)) = false) ∧ Hid (Fst w wr (some ⟨ba, o, none⟩) l)) (fun kv _ => i - (intOf kv).toNat)
      case atStart => exact ⟨0, rfl, Nat.zero_le _, hide (fun j h => by omega), HS⟩
      case round =>
        clear HS
        obtain ⟨k, rfl, hk, HK, HS⟩ := hrel
        by_cases hki : k < i
        · obtain ⟨ba', o', eq, _, e1⟩ := (unhide HS).1 k (by omega)
          cases eq
          have hf := unhide HOk i hlt
          have hg := unhide HOk k (by omega)
          obtain ⟨M, hM⟩ : ∃ M, meetL (Pl.toks (tk l i)) (Pl.toks (tk l k)) = M := ⟨_, rfl⟩
          have PO := hide (overlap_at (f := tk l i) (s := tk l k) (a := M) (x := 0) (by rw [overlap_meet hf hg]; exact hM) (by rw [hf, hg]; rfl) (unhide HZ i hlt) (unhide HZ k (by omega)) wr)
          have HM := hide hM
          have HN := hide (fun (w' : World) (h : Below wr.heap.size wr w') => (unhide HS).next h)
          clear hf hg hM
          cases M with
          | true =>
            have HR : Hid (Pn.laps l = true) := hide ((Pn.laps_iff l).2 ⟨i, k, hki, hlt, unhide HM⟩)
            go_wp2_with (go_at_call 129; refine (unhide PO).mono ?_; rintro e w4 ⟨rfl, b4⟩; have Q4 := unhide HN w4 b4)
            go_ret
            rw [unhide HR]
            exact ⟨rfl, Q4.2⟩
          | false =>
            have HK2 : Hid (∀ j, j < k + 1 → meetL (Pl.toks (tk l i)) (Pl.toks (tk l j)) = false) := hide (fun j hj => by
              by_cases e : j = k
              · rw [e]; exact unhide HM
              · exact unhide HK j (by omega))
            clear HM HK
            go_wp2_with (go_at_call 129; refine (unhide PO).mono ?_; rintro e w4 ⟨rfl, b4⟩; have Q4 := hide (unhide HN w4 b4); clear b4)
            refine ⟨⟨k + 1, by go_num, by omega, HK2, Q4⟩, ?_⟩
            simp [intOf]; omega
        · obtain rfl : k = i := by omega
          have HA2 : Hid (Apart l (k + 1)) := hide (fun i' hi' j hj => by
            by_cases e : i' = k
            · subst e; exact unhide HK j hj
            · exact unhide HA i' (by omega) j hj)
          clear HA HK
          go_wp2_with fail
          refine ⟨⟨k + 1, by go_num, by omega, HA2, HS⟩, ?_⟩
          simp [intOf]; omega
    · obtain rfl : i = l.length := by omega
      have HR := hide (apart_end (unhide HA))
      go_wp2_with fail
      go_ret
      rw [unhide HR]
      exact ⟨rfl, (unhide HS).2⟩
set_option maxRecDepth 100000 in
set_option maxHeartbeats 4000000 in
theorem filters_any (a : Option Addr) (l : List ByteArray) (c : Nat) (w : World) (hsl : SlS w a l) (hz : ∀ k, k < l.length → (tk l k).size ≤ 140737488355328) (hl : l.length ≤ 140737488355328) (hc : l.length ≤ c) :
    Calls Tryz.prog 60 #[.slice a l.length c] w fun e w' => e = .returned (.int .i64 (Pn.filtersE l)) ∧ Below w.heap.size w w' := by
  have HZ := hide hz
  have HS : Hid (Fst w w a l) := hide ⟨hsl, Below.refl _ _⟩
  clear hz hsl
  by_cases h4 : 4 < l.length
  · have HR : Hid (Pn.filtersE l = 2) := hide (by unfold Pn.filtersE; rw [if_pos h4])
    have g4 : decide ((4 : Int) < (l.length : Int)) = true := decide_eq_true (by omega)
    go_enter Tryz.func60, Tryz.ntmps60
    go_wp2_with fail
    go_ret
    rw [unhide HR]
    exact ⟨rfl, (unhide HS).2⟩
  have g4 : decide ((4 : Int) < (l.length : Int)) = false := decide_eq_false (by omega)
  by_cases h0 : l.length = 0
  · have HR : Hid (Pn.filtersE l = 1) := hide (by unfold Pn.filtersE; rw [if_neg h4, if_pos h0])
    have g0 : ((l.length : Int) == 0) = true := by rw [beq_iff_eq]; omega
    go_enter Tryz.func60, Tryz.ntmps60
    go_wp2_with fail
    go_ret
    rw [unhide HR]
    exact ⟨rfl, (unhide HS).2⟩
  have g0 : ((l.length : Int) == 0) = false := by rw [beq_eq_false_iff_ne]; omega
  have HE : Hid (Pn.filtersE l = if Pn.filtE l ≠ 0 then Pn.filtE l else if Pn.laps l = true then 10 else 0) := hide (by unfold Pn.filtersE; rw [if_neg h4, if_neg h0])
  go_enter Tryz.func60, Tryz.ntmps60
  go_wp2_with fail
  go_loopw [14] (fun iv wr => ∃ (i : Nat), iv = .int .i64 i ∧ i ≤ l.length ∧ Hid (Pn.filtE l = Pn.filtE (l.drop i) ∧ ∀ k, k < i → errS true (tk l k) = 0) ∧ Hid (Fst w wr a l)) (fun iv _ => l.length - (intOf iv).toNat)
  case atStart => exact ⟨0, rfl, Nat.zero_le _, hide ⟨rfl, fun k hk => by omega⟩, HS⟩
  case round =>
    clear HS
    obtain ⟨i, rfl, hi, HF, HS⟩ := hrel
    by_cases hlt : i < l.length
    · obtain ⟨ba, o, rfl, _, e1⟩ := (unhide HS).1 i hlt
      obtain ⟨E, hE⟩ : ∃ E, errS true (tk l i) = E := ⟨_, rfl⟩
      have PF := hide (filter_at hE wr (unhide HZ i hlt))
      have HEE := hide hE
      have HN := hide (fun (w' : World) (h : Below wr.heap.size wr w') => (unhide HS).next h)
      clear hE
      by_cases hE0 : E = 0
      · have HF2 : Hid (Pn.filtE l = Pn.filtE (l.drop (i + 1)) ∧ ∀ k, k < i + 1 → errS true (tk l k) = 0) := hide ⟨by rw [(unhide HF).1, Pn.filtE_drop hlt, if_pos (by rw [unhide HEE]; exact hE0)], fun k hk => by
          by_cases e : k = i
          · rw [e, unhide HEE]; exact hE0
          · exact (unhide HF).2 k (by omega)⟩
        subst hE0
        clear HF HEE
        go_wp2_with (go_at_call 72; refine (unhide PF).mono ?_; rintro e w4 ⟨rfl, b4⟩; have Q4 := hide (unhide HN w4 b4); clear b4)
        refine ⟨⟨i + 1, by go_num, by omega, HF2, Q4⟩, ?_⟩
        simp [intOf]; omega
      · have HR : Hid (Pn.filtersE l = E) := hide (by
          have e1 : Pn.filtE l = E := by rw [(unhide HF).1, Pn.filtE_drop hlt, if_neg (by rw [unhide HEE]; exact hE0), unhide HEE]
          rw [unhide HE, e1, if_pos hE0])
        have hE' : (E != 0) = true := by simpa using hE0
        clear HF HEE
        go_wp2_with (go_at_call 72; refine (unhide PF).mono ?_; rintro e w4 ⟨rfl, b4⟩; have Q4 := unhide HN w4 b4)
        go_ret
        rw [unhide HR]
        exact ⟨rfl, Q4.2⟩
    · obtain rfl : i = l.length := by omega
      have PL := hide (laps_any a l c wr (unhide HS).1 (unhide HZ) (unhide HF).2 (by omega) hc)
      have HE2 : Hid (Pn.filtersE l = if Pn.laps l = true then 10 else 0) := hide (by
        have e1 : Pn.filtE l = 0 := by rw [(unhide HF).1, List.drop_length]; rfl
        rw [unhide HE, e1, if_neg (show ¬ (0 : Int) ≠ 0 by decide)])
      have HN := hide (fun (w' : World) (h : Below wr.heap.size wr w') => (unhide HS).next h)
      clear HF HE hlt
      cases hP : Pn.laps l with
      | true =>
        rw [hP] at PL HE2
        clear hP
        go_wp2_with (go_at_call 100; refine (unhide PL).mono ?_; rintro e w4 ⟨rfl, b4⟩; have Q4 := unhide HN w4 b4)
        go_ret
        rw [unhide HE2]
        exact ⟨rfl, Q4.2⟩
      | false =>
        rw [hP] at PL HE2
        clear hP
        go_wp2_with (go_at_call 100; refine (unhide PL).mono ?_; rintro e w4 ⟨rfl, b4⟩; have Q4 := unhide HN w4 b4)
        go_ret
        rw [unhide HE2]
        exact ⟨rfl, Q4.2⟩
end Go.Proofs.YtohjipnkoiifhagGreatDoor

namespace Go.Proofs.YtohjipnkoiifhagGreatDoor
open Go.RowKit

theorem en_is {es : List Ent} {y : Ent} (h : y ∈ es) : ∃ j, j < es.length ∧ en es j = y := by
  obtain ⟨j, hj, e⟩ := List.getElem_of_mem h
  exact ⟨j, hj, by rw [en_get hj]; exact e⟩
theorem ent_at {es : List Ent} (h : Ord es) {s : ByteArray} {y : Ent} (hy : y ∈ es) (e : y.1 = s) : hasAt es s = true ∧ y = en es (place es s) := by
  obtain ⟨j, hj, rfl⟩ := en_is hy
  obtain ⟨h1, h2⟩ := has_hit h hj e
  exact ⟨h1, by rw [h2]⟩
/-- strictly in order: the members say all -/
theorem ord_ext : ∀ {a b : List Ent}, Ord a → Ord b → (∀ e, e ∈ a ↔ e ∈ b) → a = b
  | [], [], _, _, _ => rfl
  | [], y :: b, _, _, h => absurd ((h y).2 (List.mem_cons_self ..)) (by simp)
  | x :: a, [], _, _, h => absurd ((h x).1 (List.mem_cons_self ..)) (by simp)
  | x :: a, y :: b, ha, hb, h => by
    have ha1 := List.pairwise_cons.1 ha
    have hb1 := List.pairwise_cons.1 hb
    have hxy : x = y := by
      rcases List.mem_cons.1 ((h x).1 (List.mem_cons_self ..)) with z | z
      · exact z
      · rcases List.mem_cons.1 ((h y).2 (List.mem_cons_self ..)) with u | u
        · exact u.symm
        · have := el_trans (hb1.1 x z) (ha1.1 y u)
          rw [el_irrefl] at this; cases this
    subst hxy
    have hx : ∀ {c : List Ent}, (∀ e ∈ c, el x.1 e.1 = true) → x ∉ c := fun hc z => by have := hc x z; rw [el_irrefl] at this; cases this
    rw [ord_ext ha1.2 hb1.2 (fun e => ?_)]
    constructor
    · intro z
      rcases List.mem_cons.1 ((h e).1 (List.mem_cons_of_mem _ z)) with u | u
      · subst u; exact absurd z (hx ha1.1)
      · exact u
    · intro z
      rcases List.mem_cons.1 ((h e).2 (List.mem_cons_of_mem _ z)) with u | u
      · subst u; exact absurd z (hx hb1.1)
      · exact u
theorem mem_put {es : List Ent} (h : Good es) {s : ByteArray} (n : Int) (hs : errS false s = 0) (hr : hasAt es s = true ∨ es.length < 100) (x : Ent) : x ∈ putL es s n ↔ x = (s, n) ∨ (x ∈ es ∧ x.1 ≠ s) := by
  unfold putL
  rw [if_pos hs]
  cases hh : hasAt es s
  · rw [if_neg (by simp), if_neg (by rcases hr with z | z; rw [hh] at z; cases z; omega)]
    have hne : ∀ y ∈ es, y.1 ≠ s := fun y hy e => by have := (ent_at h.1 hy e).1; rw [hh] at this; cases this
    have e : x ∈ insL es (place es s) (s, n) ↔ x = (s, n) ∨ x ∈ es := by
      unfold insL
      rw [List.mem_append, List.mem_cons]
      have := List.take_append_drop (place es s) es
      constructor
      · rintro (z | z | z)
        · exact .inr (List.mem_of_mem_take z)
        · exact .inl z
        · exact .inr (List.mem_of_mem_drop z)
      · rintro (z | z)
        · exact .inr (.inl z)
        · rw [← this] at z
          rcases List.mem_append.1 z with y | y
          · exact .inl y
          · exact .inr (.inr y)
    rw [e]
    constructor
    · rintro (z | z)
      · exact .inl z
      · exact .inr ⟨z, hne x z⟩
    · rintro (z | z)
      · exact .inl z
      · exact .inr z.1
  · rw [if_pos rfl]
    obtain ⟨p1, p2⟩ := has_at hh
    constructor
    · intro z
      obtain ⟨j, hj, e⟩ := List.getElem_of_mem z
      rw [List.length_set] at hj
      rw [List.getElem_set] at e
      by_cases hp : place es s = j
      · rw [if_pos hp] at e; exact .inl e.symm
      · rw [if_neg hp] at e
        refine .inr ⟨by rw [← e]; exact List.getElem_mem hj, fun q => hp ?_⟩
        exact (place_hit h.1 hj (by rw [en_get hj, e]; exact q)).symm
    · rintro (z | ⟨z, q⟩)
      · rw [z]; exact List.mem_set p1 _
      · obtain ⟨j, hj, e⟩ := List.getElem_of_mem z
        have hp : ¬ place es s = j := fun hp => q (by rw [← e, ← en_get hj, ← hp]; exact p2)
        have : (es.set (place es s) (s, n))[j]'(by rw [List.length_set]; exact hj) = x := by rw [List.getElem_set, if_neg hp]; exact e
        rw [← this]
        exact List.getElem_mem _
theorem mem_drop {es : List Ent} (h : Good es) {s : ByteArray} (hs : errS false s = 0) (x : Ent) : x ∈ dropL es s ↔ x ∈ es ∧ x.1 ≠ s := by
  unfold dropL
  rw [if_pos hs]
  cases hh : hasAt es s
  · rw [if_neg (by simp)]
    exact ⟨fun z => ⟨z, fun e => by have := (ent_at h.1 z e).1; rw [hh] at this; cases this⟩, fun z => z.1⟩
  · rw [if_pos rfl]
    obtain ⟨p1, p2⟩ := has_at hh
    have hsp : es = es.take (place es s) ++ en es (place es s) :: es.drop (place es s + 1) := by
      rw [en_get p1, ← List.drop_eq_getElem_cons p1, List.take_append_drop]
    constructor
    · intro z
      refine ⟨mem_del z, fun e => ?_⟩
      have ho := h.1
      unfold Ord at ho
      rw [hsp, List.pairwise_append, List.pairwise_cons] at ho
      obtain ⟨_, ⟨o2, _⟩, o3⟩ := ho
      unfold delL at z
      rcases List.mem_append.1 z with y | y
      · have := o3 x y (en es (place es s)) (List.mem_cons_self ..)
        rw [e, p2, el_irrefl] at this; cases this
      · have := o2 x y
        rw [e, p2, el_irrefl] at this; cases this
    · rintro ⟨z, q⟩
      rw [hsp] at z
      unfold delL
      rcases List.mem_append.1 z with y | y
      · exact List.mem_append.2 (.inl y)
      · rcases List.mem_cons.1 y with u | u
        · exact absurd (by rw [u]; exact p2) q
        · exact List.mem_append.2 (.inr u)
/-- how many messages of a subject -/
def cntN (l : List Dk.Rc) (s : ByteArray) : Nat := (l.filter fun r => decide (r.s = s)).length
theorem cntN_append (a b : List Dk.Rc) (s : ByteArray) : cntN (a ++ b) s = cntN a s + cntN b s := by unfold cntN; rw [List.filter_append, List.length_append]
theorem cntN_one (r : Dk.Rc) (s : ByteArray) : cntN [r] s = if r.s = s then 1 else 0 := by
  unfold cntN
  by_cases h : r.s = s
  · rw [if_pos h]; simp [h]
  · rw [if_neg h]; simp [h]
theorem cntN_has (l : List Dk.Rc) (s : ByteArray) : Dk.hasS l s = decide (0 < cntN l s) := by
  unfold Dk.hasS cntN
  rw [Bool.eq_iff_iff, List.any_eq_true, decide_eq_true_eq, List.length_pos_iff_exists_mem]
  constructor
  · rintro ⟨x, h1, h2⟩
    exact ⟨x, List.mem_filter.2 ⟨h1, h2⟩⟩
  · rintro ⟨x, h1⟩
    obtain ⟨h1, h2⟩ := List.mem_filter.1 h1
    exact ⟨x, h1, h2⟩
/-- an index of them -/
structure Cnt (l : List Dk.Rc) (es : List Ent) : Prop where
  good : Good es
  mem : ∀ e : Ent, e ∈ es ↔ 0 < cntN l e.1 ∧ e.2 = (cntN l e.1 : Int)
theorem Cnt.nil : Cnt [] [] := ⟨good_nil, fun e => by simp [cntN]⟩
theorem Cnt.same {l : List Dk.Rc} {a b : List Ent} (h : Cnt l a) (g : Cnt l b) : a = b := ord_ext h.good.1 g.good.1 (fun e => by rw [h.mem, g.mem])
theorem Cnt.has {l : List Dk.Rc} {es : List Ent} (h : Cnt l es) (s : ByteArray) : hasAt es s = decide (0 < cntN l s) := by
  rw [Bool.eq_iff_iff, decide_eq_true_eq]
  constructor
  · intro z
    obtain ⟨p1, p2⟩ := has_at z
    have := ((h.mem _).1 (en_mem p1)).1
    rw [p2] at this
    exact this
  · intro z
    exact (ent_at h.good.1 ((h.mem (s, (cntN l s : Int))).2 ⟨z, rfl⟩) rfl).1
theorem Cnt.get {l : List Dk.Rc} {es : List Ent} (h : Cnt l es) {s : ByteArray} (hs : errS false s = 0) : getN es s = (cntN l s : Int) := by
  unfold getN
  rw [if_pos hs, h.has]
  by_cases z : 0 < cntN l s
  · rw [decide_eq_true z, if_pos rfl]
    have := (ent_at h.good.1 ((h.mem (s, (cntN l s : Int))).2 ⟨z, rfl⟩) rfl).2
    rw [← this]
  · rw [decide_eq_false z, if_neg (by simp)]
    omega
theorem Cnt.put {l : List Dk.Rc} {es : List Ent} (h : Cnt l es) (r : Dk.Rc) (hs : errS false r.s = 0) (hz : r.s.size ≤ 140737488355328) (hr : 0 < cntN l r.s ∨ es.length < 100) : Cnt (l ++ [r]) (putL es r.s ((cntN l r.s : Int) + 1)) := by
  refine ⟨good_put h.good _ hz, fun e => ?_⟩
  rw [mem_put h.good _ hs (by rw [h.has]; simpa using hr), h.mem, cntN_append, cntN_one]
  by_cases q : e.1 = r.s
  · rw [if_pos q.symm, q]
    constructor
    · rintro (z | z)
      · rw [z]; exact ⟨by omega, by simp⟩
      · exact absurd rfl z.2
    · rintro ⟨_, z⟩
      exact .inl (Prod.ext q (by rw [z]; simp))
  · rw [if_neg (fun z => q z.symm), Nat.add_zero]
    constructor
    · rintro (z | z)
      · exact absurd (by rw [z]) q
      · exact z.1
    · intro z; exact .inr ⟨z, q⟩
/-- one message less -/
theorem Cnt.less {A B : List Dk.Rc} {x : Dk.Rc} {es : List Ent} (h : Cnt (A ++ x :: B) es) (hs : errS false x.s = 0) (hz : x.s.size ≤ 140737488355328) : (cntN (A ++ B) x.s = 0 → Cnt (A ++ B) (dropL es x.s)) ∧ Cnt (A ++ B) (if cntN (A ++ B) x.s = 0 then dropL es x.s else putL es x.s (cntN (A ++ B) x.s : Int)) := by
  have hc : ∀ s, cntN (A ++ x :: B) s = cntN (A ++ B) s + (if x.s = s then 1 else 0) := fun s => by
    rw [show A ++ x :: B = A ++ ([x] ++ B) from rfl, cntN_append, cntN_append, cntN_append, cntN_one]
    omega
  have hd : cntN (A ++ B) x.s = 0 → Cnt (A ++ B) (dropL es x.s) := fun h0 => by
    refine ⟨good_drop h.good _, fun e => ?_⟩
    rw [mem_drop h.good hs, h.mem, hc]
    by_cases q : e.1 = x.s
    · rw [q, h0]; simp
    · rw [if_neg (fun z => q z.symm), Nat.add_zero]
      exact ⟨fun z => z.1, fun z => ⟨z, q⟩⟩
  refine ⟨hd, ?_⟩
  by_cases h0 : cntN (A ++ B) x.s = 0
  · rw [if_pos h0]; exact hd h0
  · rw [if_neg h0]
    refine ⟨good_put h.good _ hz, fun e => ?_⟩
    rw [mem_put h.good _ hs (.inl (by rw [h.has, hc, if_pos rfl]; simp)), h.mem, hc]
    by_cases q : e.1 = x.s
    · rw [q]
      constructor
      · rintro (z | z)
        · rw [z]; exact ⟨by omega, rfl⟩
        · exact absurd rfl z.2
      · rintro ⟨_, z⟩
        exact .inl (Prod.ext q z)
    · rw [if_neg (fun z => q z.symm), Nat.add_zero]
      constructor
      · rintro (z | z)
        · exact absurd (by rw [z]) q
        · exact z.1
      · intro z; exact .inr ⟨z, q⟩
/-- as many entries as subjects -/
theorem Cnt.len {l : List Dk.Rc} {es : List Ent} (h : Cnt l es) : es.length = Dk.nameN l := by
  have hn : (es.map (·.1)).Nodup := by
    have := h.good.1
    unfold Ord at this
    rw [List.Nodup, List.pairwise_map]
    exact this.imp (fun {a b} hab e => by rw [e, el_irrefl] at hab; cases hab)
  have hm : ∀ s, s ∈ es.map (·.1) ↔ s ∈ Dk.nameL l := fun s => by
    rw [Dk.nameL_mem, cntN_has, decide_eq_true_eq, List.mem_map]
    constructor
    · rintro ⟨e, he, rfl⟩
      exact ((h.mem e).1 he).1
    · intro z
      exact ⟨(s, (cntN l s : Int)), (h.mem _).2 ⟨z, rfl⟩, rfl⟩
  rw [Dk.nameN_len, ← List.length_map (f := fun e : Ent => e.1)]
  exact Nat.le_antisymm (Dk.nodup_le _ _ hn (fun s hs => (hm s).1 hs)) (Dk.nodup_le _ _ (Dk.nameL_nodup l) (fun s hs => (hm s).2 hs))
end Go.Proofs.YtohjipnkoiifhagGreatDoor

namespace Go.Proofs.YtohjipnkoiifhagGreatDoor
open Go.RowKit

def foundL (es : List Ent) (f : ByteArray) : List Ent := if errS true f = 0 then findL es f else []
def sumE : List Ent → Int
  | [] => 0
  | e :: es => e.2 + sumE es
theorem sumE_append : ∀ a b : List Ent, sumE (a ++ b) = sumE a + sumE b
  | [], b => by simp [sumE]
  | e :: a, b => by rw [List.cons_append, sumE, sumE, sumE_append a b, Int.add_assoc]
theorem sumE_take {es : List Ent} {k : Nat} (h : k < es.length) : sumE (es.take (k + 1)) = sumE (es.take k) + (en es k).2 := by
  rw [List.take_succ_eq_append_getElem h, sumE_append]
  have : en es k = es[k] := by unfold en; rw [List.getElem?_eq_getElem h]; rfl
  rw [this]
  simp [sumE]
theorem sumE_pos : ∀ {es : List Ent}, (∀ e ∈ es, 0 ≤ e.2) → 0 ≤ sumE es
  | [], _ => Int.le_refl _
  | e :: es, h => by
    have h1 := h e (List.mem_cons_self ..)
    have h2 := sumE_pos (es := es) (fun x hx => h x (List.mem_cons_of_mem _ hx))
    rw [sumE]; omega
theorem sumE_front {es : List Ent} (h : ∀ e ∈ es, 0 ≤ e.2) (k : Nat) : 0 ≤ sumE (es.take k) ∧ sumE (es.take k) ≤ sumE es := by
  have h1 := sumE_pos (es := es.take k) (fun x hx => h x (List.mem_of_mem_take hx))
  have h2 := sumE_pos (es := es.drop k) (fun x hx => h x (List.mem_of_mem_drop hx))
  have h3 := sumE_append (es.take k) (es.drop k)
  rw [List.take_append_drop] at h3
  omega
/-- over names, each once -/
def sumN (l : List Dk.Rc) : List ByteArray → Nat
  | [] => 0
  | s :: N => cntN l s + sumN l N
theorem sumN_none {r : Dk.Rc} {l : List Dk.Rc} : ∀ {N : List ByteArray}, r.s ∉ N → sumN (r :: l) N = sumN l N
  | [], _ => rfl
  | s :: N, h => by
    have h1 : ¬ r.s = s := fun e => h (by rw [e]; exact List.mem_cons_self ..)
    rw [sumN, sumN, sumN_none (N := N) (fun z => h (List.mem_cons_of_mem _ z)), show r :: l = [r] ++ l from rfl, cntN_append, cntN_one, if_neg h1, Nat.zero_add]
theorem sumN_one {r : Dk.Rc} {l : List Dk.Rc} : ∀ {N : List ByteArray}, N.Nodup → r.s ∈ N → sumN (r :: l) N = sumN l N + 1
  | [], _, h => by cases h
  | s :: N, hn, h => by
    obtain ⟨h1, h2⟩ := List.nodup_cons.1 hn
    rw [sumN, sumN, show r :: l = [r] ++ l from rfl, cntN_append, cntN_one]
    by_cases e : r.s = s
    · rw [if_pos e, show [r] ++ l = r :: l from rfl, sumN_none (by rw [e]; exact h1)]
      omega
    · rw [if_neg e, show [r] ++ l = r :: l from rfl, sumN_one h2 (by
        rcases List.mem_cons.1 h with z | z
        · exact absurd z e
        · exact z)]
      omega
theorem sumN_nil : ∀ N : List ByteArray, sumN [] N = 0
  | [] => rfl
  | s :: N => by rw [sumN, sumN_nil N]; rfl
theorem sumN_all {N : List ByteArray} (hn : N.Nodup) : ∀ {l : List Dk.Rc}, (∀ r ∈ l, r.s ∈ N) → sumN l N = l.length
  | [], _ => sumN_nil N
  | r :: l, h => by
    rw [sumN_one hn (h r (List.mem_cons_self ..)), sumN_all hn (fun x hx => h x (List.mem_cons_of_mem _ hx))]
    rfl
theorem sumE_N {l : List Dk.Rc} : ∀ {es : List Ent}, (∀ e ∈ es, e.2 = (cntN l e.1 : Int)) → sumE es = (sumN l (es.map (·.1)) : Int)
  | [], _ => rfl
  | e :: es, h => by
    rw [sumE, List.map_cons, sumN, sumE_N (fun x hx => h x (List.mem_cons_of_mem _ hx)), h e (List.mem_cons_self ..)]
    omega
theorem Cnt.sum {l : List Dk.Rc} {es : List Ent} (h : Cnt l es) : sumE es = (l.length : Int) := by
  have hn : (es.map (·.1)).Nodup := by
    have := h.good.1
    unfold Ord at this
    rw [List.Nodup, List.pairwise_map]
    exact this.imp (fun {a b} hab e => by rw [e, el_irrefl] at hab; cases hab)
  rw [sumE_N (fun e he => ((h.mem e).1 he).2), sumN_all hn (fun r hr => ?_)]
  refine List.mem_map.2 ⟨(r.s, (cntN l r.s : Int)), (h.mem _).2 ⟨?_, rfl⟩, rfl⟩
  have := cntN_has l r.s
  have h2 : Dk.hasS l r.s = true := by
    unfold Dk.hasS
    exact List.any_eq_true.2 ⟨r, hr, by simp⟩
  rw [h2] at this
  simpa using this.symm
theorem Cnt.pos {l : List Dk.Rc} {es : List Ent} (h : Cnt l es) : ∀ e ∈ es, 0 ≤ e.2 := fun e he => by
  rw [((h.mem e).1 he).2]; omega
theorem cnt_ex : ∀ (n : Nat) (l : List Dk.Rc), l.length = n → (∀ x ∈ l, errS false x.s = 0 ∧ x.s.size ≤ 140737488355328) → Dk.nameN l ≤ 100 → ∃ es, Cnt l es
  | 0, l, hn, _, _ => by
    obtain rfl := List.length_eq_zero_iff.1 hn
    exact ⟨[], Cnt.nil⟩
  | n + 1, l, hn, h, h100 => by
    rcases List.eq_nil_or_concat l with rfl | ⟨L, b, rfl⟩
    · cases hn
    · rw [List.concat_eq_append] at hn h h100 ⊢
      rw [Dk.nameN_snoc] at h100
      rw [List.length_append] at hn
      have hn : L.length = n := by simpa using hn
      obtain ⟨es, hc⟩ := cnt_ex n L hn (fun x hx => h x (List.mem_append.2 (.inl hx))) (by omega)
      have hb := h b (List.mem_append.2 (.inr (List.mem_singleton.2 rfl)))
      refine ⟨_, hc.put b hb.1 hb.2 ?_⟩
      by_cases z : Dk.hasS L b.s = true
      · left
        rw [cntN_has] at z
        simpa using z
      · right
        rw [if_neg z] at h100
        rw [hc.len]
        omega
theorem gt_right : errS true ⟨#[62]⟩ = 0 := by decide +kernel
theorem gt_toks : Pl.toks ⟨#[62]⟩ = [⟨#[62]⟩] := by decide +kernel
theorem toks_some (s : ByteArray) : ∃ t ts, Pl.toks s = t :: ts := by
  have h := Pl.toks_data s
  cases hs : Pl.toks s with
  | cons t ts => exact ⟨t, ts, rfl⟩
  | nil =>
    rw [hs] at h
    exact absurd h.symm (Pl.pcs_ne _)
theorem Cnt.found_all {l : List Dk.Rc} {es : List Ent} (h : Cnt l es) : foundL es ⟨#[62]⟩ = es := by
  unfold foundL findL
  rw [if_pos gt_right]
  refine List.filter_eq_self.2 (fun e he => ?_)
  have hs := (h.good.2.2 e he).1
  obtain ⟨t, ts, ht⟩ := toks_some e.1
  unfold matchB
  rw [gt_right, hs, gt_toks, ht]
  simp [coverL, gtB]
end Go.Proofs.YtohjipnkoiifhagGreatDoor

namespace Go.Proofs.YtohjipnkoiifhagGreatDoor.Dk
open Go.RowKit

/-- how many messages have a lower number -/
def pq : List Rc → Int → Nat
  | [], _ => 0
  | r :: l, n => if r.q < n then pq l n + 1 else 0
def RiseQ (l : List Rc) : Prop := l.Pairwise fun a b => a.q < b.q
theorem pq_le : ∀ (l : List Rc) (n : Int), pq l n ≤ l.length
  | [], _ => Nat.le_refl _
  | r :: l, n => by
    have := pq_le l n
    rw [pq, List.length_cons]
    split <;> omega
theorem rc_mem {l : List Rc} {k : Nat} (h : k < l.length) : rc l k ∈ l := by rw [rc_get h]; exact List.getElem_mem h
theorem pq_lt : ∀ (l : List Rc) (n : Int) (k : Nat), k < pq l n → (rc l k).q < n
  | [], n, k, h => by simp [pq] at h
  | r :: l, n, k, h => by
    rw [pq] at h
    by_cases hr : r.q < n
    · rw [if_pos hr] at h
      match k, h with
      | 0, _ => exact hr
      | k + 1, h => exact pq_lt l n k (by omega)
    · rw [if_neg hr] at h; omega
theorem pq_at : ∀ (l : List Rc) (n : Int), pq l n < l.length → n ≤ (rc l (pq l n)).q
  | [], n, h => by simp [pq] at h
  | r :: l, n, h => by
    rw [pq] at h ⊢
    by_cases hr : r.q < n
    · rw [if_pos hr] at h ⊢
      have := pq_at l n (by rw [List.length_cons] at h; omega)
      exact this
    · rw [if_neg hr]
      have e : rc (r :: l) 0 = r := rfl
      rw [e]; omega
theorem rise_lt {l : List Rc} (h : RiseQ l) {i j : Nat} (hij : i < j) (hj : j < l.length) : (rc l i).q < (rc l j).q := by
  rw [rc_get (by omega), rc_get hj]
  exact List.pairwise_iff_getElem.1 h i j (by omega) hj hij
theorem pq_ge {l : List Rc} (h : RiseQ l) (n : Int) (k : Nat) (h1 : pq l n ≤ k) (h2 : k < l.length) : n ≤ (rc l k).q := by
  have ha := pq_at l n (by omega)
  rcases Nat.eq_or_lt_of_le h1 with e | e
  · rw [← e]; exact ha
  · have := rise_lt h e h2; omega
theorem pq_is {l : List Rc} {n : Int} {i : Nat} (hi : i ≤ l.length) (h1 : ∀ j, j < i → (rc l j).q < n) (h2 : ∀ j, i ≤ j → j < l.length → n ≤ (rc l j).q) : i = pq l n := by
  rcases Nat.lt_trichotomy i (pq l n) with h | h | h
  · have a := pq_lt l n i h
    have := pq_le l n
    have := h2 i (Nat.le_refl _) (by omega)
    omega
  · exact h
  · have a := pq_at l n (by omega)
    have := h1 (pq l n) h
    omega
theorem seq_at {l : List Rc} (h : RiseQ l) (n : Int) : seqB l n = (decide (pq l n < l.length) && decide ((rc l (pq l n)).q = n)) := by
  unfold seqB
  rw [Bool.eq_iff_iff, List.any_eq_true, Bool.and_eq_true, decide_eq_true_eq, decide_eq_true_eq]
  constructor
  · rintro ⟨x, hx, e⟩
    have e : x.q = n := of_decide_eq_true e
    obtain ⟨j, hj, rfl⟩ := List.getElem_of_mem hx
    rw [← rc_get hj] at e
    have hp : pq l n = j := by
      refine (pq_is (by omega) (fun i hi => ?_) (fun i hi hl => ?_)).symm
      · have := rise_lt h hi hj; omega
      · rcases Nat.eq_or_lt_of_le hi with z | z
        · rw [← z]; omega
        · have := rise_lt h z hl; omega
    rw [hp]
    exact ⟨hj, e⟩
  · rintro ⟨h1, h2⟩
    exact ⟨_, rc_mem h1, by rw [h2]; simp⟩
theorem seq_miss {l : List Rc} (h : RiseQ l) {n : Int} (hp : pq l n < l.length) : seqB l n = decide ((rc l (pq l n)).q = n) := by
  rw [seq_at h, decide_eq_true hp, Bool.true_and]
theorem seq_end {l : List Rc} (h : RiseQ l) {n : Int} (hp : ¬ pq l n < l.length) : seqB l n = false := by
  rw [seq_at h, decide_eq_false hp, Bool.false_and]
theorem seq_hit {l : List Rc} (h : RiseQ l) {n : Int} (hs : seqB l n = true) : pq l n < l.length ∧ (rc l (pq l n)).q = n := by
  rw [seq_at h, Bool.and_eq_true, decide_eq_true_eq, decide_eq_true_eq] at hs
  exact hs
theorem split_at {l : List Rc} {k : Nat} (h : k < l.length) : l = l.take k ++ rc l k :: l.drop (k + 1) := by
  rw [rc_get h, ← List.drop_eq_getElem_cons h, List.take_append_drop]
theorem get_hit {l : List Rc} (h : RiseQ l) {n : Int} (hs : seqB l n = true) : getO l n = some (rc l (pq l n)) := by
  obtain ⟨h1, h2⟩ := seq_hit h hs
  unfold getO
  rw [List.find?_eq_some_iff_getElem]
  refine ⟨by rw [h2]; simp, pq l n, h1, (rc_get h1).symm, fun j hj => ?_⟩
  have := pq_lt l n j hj
  rw [rc_get (by omega)] at this
  simp only [Bool.not_eq_true', decide_eq_false_iff_not]
  omega
theorem get_none {l : List Rc} {n : Int} (hs : seqB l n = false) : getO l n = none := by
  unfold getO
  rw [List.find?_eq_none]
  intro x hx
  unfold seqB at hs
  rw [List.any_eq_false] at hs
  exact hs x hx
theorem find_same {p q : Rc → Bool} : ∀ {l : List Rc}, (∀ x ∈ l, p x = q x) → l.find? p = l.find? q
  | [], _ => rfl
  | x :: l, h => by
    rw [List.find?_cons, List.find?_cons, h x (List.mem_cons_self ..), find_same (l := l) (fun y hy => h y (List.mem_cons_of_mem _ hy))]
theorem nextO_drop {l : List Rc} (h : RiseQ l) (f : ByteArray) (n : Int) : nextO f l n = (l.drop (pq l n)).find? fun r => tkB f r.s := by
  unfold nextO
  have e : l.find? (fun r => tkB f r.s && decide (n ≤ r.q)) = ((l.take (pq l n)) ++ (l.drop (pq l n))).find? (fun r => tkB f r.s && decide (n ≤ r.q)) := by rw [List.take_append_drop]
  rw [e, List.find?_append]
  have e1 : (l.take (pq l n)).find? (fun r => tkB f r.s && decide (n ≤ r.q)) = none := by
    rw [List.find?_eq_none]
    intro x hx
    obtain ⟨j, hj, rfl⟩ := List.getElem_of_mem hx
    rw [List.length_take] at hj
    have := pq_lt l n j (by omega)
    rw [rc_get (by omega)] at this
    rw [List.getElem_take]
    simp only [Bool.and_eq_true, decide_eq_true_eq, not_and]
    intro _
    omega
  rw [e1, Option.none_or]
  refine find_same (fun x hx => ?_)
  obtain ⟨j, hj, rfl⟩ := List.getElem_of_mem hx
  rw [List.length_drop] at hj
  rw [List.getElem_drop]
  have := pq_ge h n (pq l n + j) (by omega) (by omega)
  rw [rc_get (by omega)] at this
  rw [decide_eq_true this, Bool.and_true]
/-- the message of that number is gone -/
def delR (l : List Rc) (i : Nat) : List Rc := l.take i ++ l.drop (i + 1)
theorem delR_length {l : List Rc} {i : Nat} (h : i < l.length) : (delR l i).length = l.length - 1 := by
  unfold delR
  rw [List.length_append, List.length_take, List.length_drop]
  omega
theorem erase_is {l : List Rc} (h : RiseQ l) {n : Int} (hs : seqB l n = true) : l.filter (fun x => !decide (x.q = n)) = delR l (pq l n) := by
  obtain ⟨h1, h2⟩ := seq_hit h hs
  unfold delR
  have e := congrArg (List.filter fun x : Rc => !decide (x.q = n)) (split_at h1)
  rw [e, List.filter_append, List.filter_cons, h2]
  simp only [decide_true, Bool.not_true, Bool.false_eq_true, if_false]
  congr 1
  · refine List.filter_eq_self.2 (fun x hx => ?_)
    obtain ⟨j, hj, rfl⟩ := List.getElem_of_mem hx
    rw [List.length_take] at hj
    have := pq_lt l n j (by omega)
    rw [rc_get (by omega)] at this
    rw [List.getElem_take]
    simp only [Bool.not_eq_true', decide_eq_false_iff_not]
    omega
  · refine List.filter_eq_self.2 (fun x hx => ?_)
    obtain ⟨j, hj, rfl⟩ := List.getElem_of_mem hx
    rw [List.length_drop] at hj
    have := rise_lt h (i := pq l n) (j := pq l n + 1 + j) (by omega) (by omega)
    rw [rc_get (l := l) (k := pq l n + 1 + j) (by omega)] at this
    rw [List.getElem_drop]
    simp only [Bool.not_eq_true', decide_eq_false_iff_not]
    omega
/-- what a purge leaves of messages that all have a lower number -/
def leftL (f : ByteArray) (l : List Rc) : List Rc := l.filter fun x => !tkB f x.s
theorem left_take {f : ByteArray} {l : List Rc} {k : Nat} (h : k < l.length) : leftL f (l.take (k + 1)) = leftL f (l.take k) ++ (if tkB f (rc l k).s then [] else [rc l k]) := by
  unfold leftL
  rw [List.take_succ_eq_append_getElem h, ← rc_get h, List.filter_append]
  cases e : tkB f (rc l k).s <;> simp [e]
theorem left_len (f : ByteArray) (l : List Rc) : (leftL f l).length ≤ l.length := List.length_filter_le _ _
theorem purge_is {l : List Rc} (h : RiseQ l) (f : ByteArray) (n : Int) : l.filter (fun x => !(decide (x.q < n) && tkB f x.s)) = leftL f (l.take (pq l n)) ++ l.drop (pq l n) := by
  have e := congrArg (List.filter fun x : Rc => !(decide (x.q < n) && tkB f x.s)) (List.take_append_drop (pq l n) l).symm
  rw [e, List.filter_append]
  congr 1
  · unfold leftL
    refine List.filter_congr (fun x hx => ?_)
    obtain ⟨j, hj, rfl⟩ := List.getElem_of_mem hx
    rw [List.length_take] at hj
    have := pq_lt l n j (by omega)
    rw [rc_get (by omega)] at this
    rw [List.getElem_take, decide_eq_true this, Bool.true_and]
  · refine List.filter_eq_self.2 (fun x hx => ?_)
    obtain ⟨j, hj, rfl⟩ := List.getElem_of_mem hx
    rw [List.length_drop] at hj
    have := pq_ge h n (pq l n + j) (by omega) (by omega)
    rw [rc_get (by omega)] at this
    rw [List.getElem_drop, decide_eq_false (by omega), Bool.false_and]
    rfl
/-- one message less, as the program counts it off -/
def offL (es : List Ent) (n : Int) (s : ByteArray) : List Ent := if 1 < n then putL es s (n - 1) else dropL es s
theorem Cnt.off {A B : List Rc} {x : Rc} {es : List Ent} (h : Cnt (A ++ x :: B) es) (hs : errS false x.s = 0) (hz : x.s.size ≤ 140737488355328) : Cnt (A ++ B) (offL es (getN es x.s) x.s) := by
  have hc : cntN (A ++ x :: B) x.s = cntN (A ++ B) x.s + 1 := by
    rw [show A ++ x :: B = A ++ ([x] ++ B) from rfl, cntN_append, cntN_append, cntN_append, cntN_one, if_pos rfl]
    omega
  have h2 := (h.less hs hz).2
  unfold offL
  rw [h.get hs, hc]
  by_cases h0 : cntN (A ++ B) x.s = 0
  · rw [if_pos h0] at h2
    rw [if_neg (by omega)]
    exact h2
  · rw [if_neg h0] at h2
    rw [if_pos (by omega), show ((cntN (A ++ B) x.s + 1 : Nat) : Int) - 1 = (cntN (A ++ B) x.s : Int) by omega]
    exact h2
end Go.Proofs.YtohjipnkoiifhagGreatDoor.Dk

namespace Go.Proofs.YtohjipnkoiifhagGreatDoor.Dk
open Go.RowKit

theorem lawS : Maps.Keyed Tryz.prog 9 := Maps.string_keyed Tryz.underlying9
/-- what a subject is as a key -/
def kS (s : ByteArray) : Lit := .string s.data.toList
theorem keyS {s : ByteArray} (h : s.size ≤ maxLen) : keyOf Tryz.prog 9 (.string s) = some (kS s) := WideMaps.keyOf_string_mk Tryz.underlying9 h
theorem kS_ne {a b : ByteArray} (h : a ≠ b) : kS a ≠ kS b := fun e => h (by
  unfold kS at e
  have := Lit.string.inj e
  apply ByteArray.ext
  exact Array.ext' this)
theorem zeroI (w : World) : (zeroValue 3).run Tryz.prog w = .ok (.int .i64 0) w := by kernel_rfl
/-- how many messages each subject has, as a map -/
structure Nam (w : World) (b : Nat) (l : List Rc) (D : DataW Unit) : Prop where
  own : w.ownsMap Tryz.prog 9 (plainElem Tryz.prog 3) b l.length D
  at' : ∀ s : ByteArray, s.size ≤ maxLen → D.atKey (kS s) (.lit (.int .i64 0)) = .lit (.int .i64 (cntN l s : Int))
  has : ∀ s : ByteArray, s.size ≤ maxLen → Maps.has D (kS s) = decide (0 < cntN l s)
  size : Maps.size D = nameN l
theorem Nam.made (w : World) : Nam (w.alloc (.map #[] 0)) w.heap.size [] (.map []) := by
  refine ⟨World.ownsMap_made _ _ _ _, fun s _ => ?_, fun s _ => ?_, rfl⟩
  · simp [DataW.atKey, cntN]
  · simp [Maps.has, cntN]
theorem kS_key (s : ByteArray) : WideAt.IsKeyLit (kS s) := by unfold kS; trivial
theorem Nam.put {w w' : World} {b : Nat} {l : List Rc} {D : DataW Unit} (h : Nam w b l D) (r : Rc) (hs : r.s.size ≤ maxLen) (h' : w'.ownsMap Tryz.prog 9 (plainElem Tryz.prog 3) b (l.length + 1) (D.put (kS r.s) (.lit (.int .i64 ((cntN l r.s : Int) + 1))))) : Nam w' b (l ++ [r]) (D.put (kS r.s) (.lit (.int .i64 ((cntN l r.s : Int) + 1)))) := by
  have hD := h.own.tidy lawS
  refine ⟨by rw [List.length_append, List.length_singleton]; exact h', fun s hz => ?_, fun s hz => ?_, ?_⟩
  · rw [cntN_append, cntN_one]
    by_cases e : r.s = s
    · rw [if_pos e, ← e, Maps.atKey_put_same hD.isMap (kS_key _)]
      simp
    · rw [if_neg e, Maps.atKey_put_other (kS_ne (fun z => e z.symm)), h.at' s hz]
      simp
  · rw [cntN_append, cntN_one]
    by_cases e : r.s = s
    · rw [if_pos e, ← e, Maps.has_put_same hD.isMap (kS_key _)]
      simp
    · rw [if_neg e, Maps.has_put_other (kS_ne (fun z => e z.symm)), h.has s hz]
      simp
  · rw [Maps.size_put hD, h.has _ hs, h.size, nameN_snoc, cntN_has]
    cases decide (0 < cntN l r.s) <;> simp
theorem Nam.drew {w : World} {b : Nat} {l : List Rc} {D : DataW Unit} (h : Nam w b l D) : Nam w.drew b l D := ⟨h.own.drew, h.at', h.has, h.size⟩
theorem Nam.drewN {w : World} {b : Nat} {l : List Rc} {D : DataW Unit} (h : Nam w b l D) (n : Nat) : Nam (w.drewN n) b l D := ⟨h.own, h.at', h.has, h.size⟩
/-- the document's store, in block c -/
def Che (w : World) (B c : Nat) (F : Nat → Prop) (s : Sto) : Prop :=
  ∃ v, (B ≤ c ∧ c < w.heap.size) ∧ w.cell? ⟨c, 0, none⟩ = some v ∧ w.cell? ⟨c, 1, none⟩ = some (.int .i64 s.last) ∧ w.frozen? ⟨c, 0, none⟩ = false ∧ w.frozen? ⟨c, 1, none⟩ = false ∧ ArrR w B v s.l ∧ v.ownBlock ≠ some c ∧ ∀ k, F k ↔ k = c ∨ v.ownBlock = some k
theorem Che.own {w : World} {B c : Nat} {F : Nat → Prop} {s : Sto} (h : Che w B c F s) : ∀ k, F k → B ≤ k ∧ k < w.heap.size := fun k hk => by
  obtain ⟨v, h1, _, _, _, _, h6, _, h8⟩ := h
  rcases (h8 k).1 hk with y | y
  · subst y; exact h1
  · exact World.ownsRow.lt h6 k y
theorem Che.chg {w w' : World} {B c : Nat} {F : Nat → Prop} {s : Sto} {A : Nat → Prop} (h : Che w B c F s) (hc : Chg A w w') (hn : ∀ k, F k → ¬ A k) : Che w' B c F s := by
  obtain ⟨v, h1, h2, h3, h4, h5, h6, h7, h8⟩ := h
  have hcA : ¬ A c := hn c ((h8 c).2 (.inl rfl))
  exact ⟨v, ⟨h1.1, Nat.lt_of_lt_of_le h1.2 hc.size⟩, by rw [hc.cell (p := ⟨c, 0, none⟩) h1.2 hcA]; exact h2, by rw [hc.cell (p := ⟨c, 1, none⟩) h1.2 hcA]; exact h3, by rw [hc.frozen (p := ⟨c, 0, none⟩) h1.2 hcA]; exact h4, by rw [hc.frozen (p := ⟨c, 1, none⟩) h1.2 hcA]; exact h5, h6.chg hc (fun g hg => hn g ((h8 g).2 (.inr hg))), h7, h8⟩
theorem Che.below {w w' : World} {B c : Nat} {F : Nat → Prop} {s : Sto} (h : Che w B c F s) (hb : Below w.heap.size w w') : Che w' B c F s := h.chg (A := fun _ => False) (Chg.of_below hb) (fun _ _ z => z)
/-- the messages of a store, read -/
theorem Che.read {w : World} {B c : Nat} {F : Nat → Prop} {s : Sto} (h : Che w B c F s) : ∃ a cap, w.cell? ⟨c, 0, none⟩ = some (.slice a s.l.length cap) ∧ w.cell? ⟨c, 1, none⟩ = some (.int .i64 s.last) ∧ s.l.length ≤ cap ∧ cap ≤ maxLen ∧ SlR w a s.l ∧ c < w.heap.size := by
  obtain ⟨v, h1, h2, h3, _, _, h6, _⟩ := h
  obtain ⟨a, cap, rfl, x1, x2, x3⟩ := h6.shape
  exact ⟨a, cap, h2, h3, x1, x2, x3, h1.2⟩
theorem seqB_take {l : List Rc} {k : Nat} (h : k < l.length) (n : Int) : seqB (l.take (k + 1)) n = (seqB (l.take k) n || decide ((rc l k).q = n)) := by
  rw [List.take_succ_eq_append_getElem h, rc_get h]
  unfold seqB
  rw [List.any_append]
  simp
end Go.Proofs.YtohjipnkoiifhagGreatDoor.Dk
