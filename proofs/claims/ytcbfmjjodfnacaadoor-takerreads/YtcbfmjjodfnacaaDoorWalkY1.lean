/-
  Contracts of the landed package plan: isDigit, isNameByte, IsName, isNumber.
-/
import Derived.Test.YtcbfmjjodfnacaaDoorPapPn
import Derived.Test.YtcbfmjjodfnacaaDoorPapPe
namespace Go.Proofs.YtcbfmjjodfnacaaDoor
open Go.RowKit

def digI (c : Int) : Bool := decide (48 ≤ c) && decide (c ≤ 57)
def nameI (c : Int) : Bool := (decide (97 ≤ c) && decide (c ≤ 122)) || (digI c || decide (c = 45))
theorem digI_byte (c : UInt8) : digI (c.toNat : Int) = Pn.isDig c := by
  unfold digI Pn.isDig
  rw [Bool.eq_iff_iff]
  simp
  omega
theorem nameI_byte (c : UInt8) : nameI (c.toNat : Int) = Pn.nameB c := by
  unfold nameI Pn.nameB digI
  rw [Bool.eq_iff_iff]
  simp
  omega

set_option maxHeartbeats 400000 in
theorem digit_any (c : Int) (w : World) :
    Calls Tryd.prog 52 #[.int .u8 c] w fun e w' => e = .returned (.bool (digI c)) ∧ w' = w := by
  go_enter Tryd.func52, Tryd.ntmps52
  go_wp2
  all_goals go_ret
  all_goals refine ⟨ret_bool ?_, rfl⟩
  all_goals simp [digI]
  all_goals omega

set_option maxHeartbeats 400000 in
theorem nameByte_any (c : Int) (w : World) :
    Calls Tryd.prog 39 #[.int .u8 c] w fun e w' => e = .returned (.bool (nameI c)) ∧ w' = w := by
  have HD := hide (digit_any c)
  go_enter Tryd.func39, Tryd.ntmps39
  go_wp2_with (go_at_call 52; refine (unhide HD _).mono ?_; rintro e w' ⟨rfl, rfl⟩)
  all_goals go_ret
  all_goals refine ⟨ret_bool ?_, rfl⟩
  all_goals simp_all [nameI, digI]
  all_goals omega

theorem name_len {s : ByteArray} (h : s.size < 1 ∨ 16 < s.size) : Pn.namedB s = false := by
  unfold Pn.namedB
  rcases h with h | h
  · rw [decide_eq_false (p := 1 ≤ s.size) (by omega)]; simp
  · rw [decide_eq_false (p := s.size ≤ 16) (by omega)]; simp
theorem name_all {s : ByteArray} (h1 : 1 ≤ s.size) (h2 : s.size ≤ 16) (h : namedTo s s.size = true) : Pn.namedB s = true := by
  rw [named_ok h]
  simp
  omega
set_option maxHeartbeats 1000000 in
theorem isName_any (s : ByteArray) (w : World) (hs : s.size ≤ 140737488355328) :
    Calls Tryd.prog 21 #[.string s] w fun e w' => e = .returned (.bool (Pn.namedB s)) ∧ w' = w := by
  by_cases h1 : s.size < 1
  · go_enter Tryd.func21, Tryd.ntmps21
    go_wp2
    go_ret
    exact ⟨ret_is (name_len (Or.inl h1)), rfl⟩
  by_cases h2 : 16 < s.size
  · go_enter Tryd.func21, Tryd.ntmps21
    go_wp2
    go_ret
    exact ⟨ret_is (name_len (Or.inr h2)), rfl⟩
  go_enter Tryd.func21, Tryd.ntmps21
  go_wp2
  go_loop [14] (fun i => ∃ k : Nat, k ≤ s.size ∧ i = .int .i64 k ∧ Hid (namedTo s k = true)) (fun i => s.size - (intOf i).toNat)
  case atStart => exact ⟨0, Nat.zero_le _, rfl, hide rfl⟩
  case round =>
    obtain ⟨k, hk, rfl, hq⟩ := hrel
    by_cases hlt : k < s.size
    · cases ht : nameI (s[k].toNat : Int) with
      | false =>
        have Ht := hide ht
        clear ht
        go_wp2_with (go_at_call 39; refine (nameByte_any _ _).mono ?_; rintro e w' ⟨rfl, rfl⟩; rw [unhide Ht])
        go_ret
        exact ⟨ret_is (named_bad hlt (by rw [← nameI_byte]; exact unhide Ht)), rfl⟩
      | true =>
        have Ht := hide ht
        clear ht
        go_wp2_with (go_at_call 39; refine (nameByte_any _ _).mono ?_; rintro e w' ⟨rfl, rfl⟩; rw [unhide Ht])
        go_round
        case rel => exact ⟨k + 1, by omega, by go_num, hide (by rw [namedTo_succ hlt, unhide hq, ← nameI_byte, unhide Ht]; rfl)⟩
        case measure => simp [intOf]; omega
    · obtain rfl : k = s.size := by omega
      go_wp2
      go_ret
      exact ⟨ret_is (name_all (by omega) (by omega) (unhide hq)), rfl⟩
/-- are the first k bytes all digits? -/
def digTo (s : ByteArray) (k : Nat) : Bool := (s.data.toList.take k).all Pn.isDig
theorem digTo_succ {s : ByteArray} {k : Nat} (h : k < s.size) : digTo s (k + 1) = (digTo s k && Pn.isDig s[k]) := by
  unfold digTo
  rw [take_byte s k h, List.all_append]
  simp
theorem dig_bad {s : ByteArray} {k : Nat} (h : k < s.size) (hb : Pn.isDig s[k] = false) : Pn.numB s.data.toList = false := by
  unfold Pn.numB
  have : s.data.toList.all Pn.isDig = false := by
    rw [List.all_eq_false]
    exact ⟨s[k], by
      have : s.data.toList[k]'(by simpa using h) ∈ s.data.toList := List.getElem_mem _
      exact this, by simp [hb]⟩
  rw [this]; rfl
theorem num_len {s : ByteArray} (h : s.size < 1 ∨ 9 < s.size) : Pn.numB s.data.toList = false := by
  unfold Pn.numB
  have e : s.data.toList.length = s.size := by simp
  rw [e]
  rcases h with h | h
  · rw [decide_eq_false (p := 1 ≤ s.size) (by omega)]; simp
  · rw [decide_eq_false (p := s.size ≤ 9) (by omega)]; simp
theorem head_at {s : ByteArray} (h : 0 < s.size) : s.data.toList.head? = some s[0] := by
  have hl : 0 < s.data.toList.length := by simpa using h
  rw [List.head?_eq_getElem?, List.getElem?_eq_getElem hl]
  rfl
theorem num_nought {s : ByteArray} (h : 0 < s.size) (h0 : s[0].toNat = 48) : Pn.numB s.data.toList = false := by
  unfold Pn.numB
  have e : s[0] = 48 := UInt8.toNat_inj.1 h0
  rw [head_at h, e]
  simp
theorem num_all {s : ByteArray} (h1 : 0 < s.size) (h2 : s.size ≤ 9) (h0 : s[0].toNat ≠ 48) (h : digTo s s.size = true) : Pn.numB s.data.toList = true := by
  unfold digTo at h
  rw [List.take_of_length_le (by simp)] at h
  unfold Pn.numB
  have e : s.data.toList.length = s.size := by simp
  have hn : s[0] ≠ 48 := fun q => h0 (by rw [q]; rfl)
  rw [h, e, head_at h1, decide_eq_true (p := 1 ≤ s.size) (by omega), decide_eq_true h2, decide_eq_true (by intro q; injection q with q; exact hn q)]
  rfl
set_option maxHeartbeats 1000000 in
theorem isNumber_any (s : ByteArray) (w : World) (hs : s.size ≤ 140737488355328) :
    Calls Tryd.prog 90 #[.string s] w fun e w' => e = .returned (.bool (Pn.numB s.data.toList)) ∧ w' = w := by
  by_cases h1 : s.size < 1
  · go_enter Tryd.func90, Tryd.ntmps90
    go_wp2
    go_ret
    exact ⟨ret_is (num_len (Or.inl h1)), rfl⟩
  by_cases h2 : 9 < s.size
  · go_enter Tryd.func90, Tryd.ntmps90
    go_wp2
    go_ret
    exact ⟨ret_is (num_len (Or.inr h2)), rfl⟩
  have hp : 0 < s.size := by omega
  obtain ⟨z, hz⟩ : ∃ z, s[0].toNat = z := ⟨_, rfl⟩
  by_cases h0 : z = 48
  · have HR := hide (num_nought hp (hz.trans h0))
    have g0 : ((z : Int) == 48) = true := by rw [beq_iff_eq]; omega
    go_enter Tryd.func90, Tryd.ntmps90
    go_wp2
    go_ret
    exact ⟨ret_is (unhide HR), rfl⟩
  have HA := hide (num_all hp (by omega) (by rw [hz]; exact h0))
  have g0 : ((z : Int) == 48) = false := by rw [beq_eq_false_iff_ne]; omega
  go_enter Tryd.func90, Tryd.ntmps90
  go_wp2
  go_loop [19] (fun i => ∃ k : Nat, k ≤ s.size ∧ i = .int .i64 k ∧ Hid (digTo s k = true)) (fun i => s.size - (intOf i).toNat)
  case atStart => exact ⟨0, Nat.zero_le _, rfl, hide rfl⟩
  case round =>
    obtain ⟨k, hk, rfl, hq⟩ := hrel
    by_cases hlt : k < s.size
    · cases ht : digI (s[k].toNat : Int) with
      | false =>
        have Ht := hide ht
        clear ht
        go_wp2_with (go_at_call 52; refine (digit_any _ _).mono ?_; rintro e w' ⟨rfl, rfl⟩; rw [unhide Ht])
        go_ret
        exact ⟨ret_is (dig_bad hlt (by rw [← digI_byte]; exact unhide Ht)), rfl⟩
      | true =>
        have Ht := hide ht
        clear ht
        go_wp2_with (go_at_call 52; refine (digit_any _ _).mono ?_; rintro e w' ⟨rfl, rfl⟩; rw [unhide Ht])
        go_round
        case rel => exact ⟨k + 1, by omega, by go_num, hide (by rw [digTo_succ hlt, unhide hq, ← digI_byte, unhide Ht]; rfl)⟩
        case measure => simp [intOf]; omega
    · obtain rfl : k = s.size := by omega
      go_wp2
      go_ret
      exact ⟨ret_is (unhide HA (unhide hq)), rfl⟩
end Go.Proofs.YtcbfmjjodfnacaaDoor
