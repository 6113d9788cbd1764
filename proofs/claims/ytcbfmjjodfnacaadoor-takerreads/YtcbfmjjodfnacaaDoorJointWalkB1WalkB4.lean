/-
  Contracts of rillref.Named and values.
  Contracts of rillref.Joined, front and Digits.
-/
import Derived.Test.YtcbfmjjodfnacaaDoorJointRowPlRowPs
import Derived.Test.YtcbfmjjodfnacaaDoorPapPn
import Derived.Test.YtcbfmjjodfnacaaDoorJointWalk3Walk4
import Derived.Deep.RegionHeld3
import Derived.Test.YtcbfmjjodfnacaaDoorJointPapPbPapPc
import Derived.Test.YtcbfmjjodfnacaaDoorPapPf
namespace Go.Proofs.YtcbfmjjodfnacaaDoor
open Go.RowKit

theorem named_good {s : ByteArray} (h : namedTo s s.size = true) : Pn.namedB s = inI (s.size : Int) 1 16 := by
  unfold namedTo at h
  rw [List.take_of_length_le (by simp)] at h
  unfold Pn.namedB inI
  rw [h, Bool.true_and]
  congr 1
  · simp; omega
  · simp; omega

set_option maxRecDepth 100000 in
set_option maxHeartbeats 4000000 in
theorem rnamed_any (s : ByteArray) (w : World) (hs : s.size ≤ 140737488355328) :
    Calls Tryd.prog 15 #[.string s] w fun e w' => e = .returned (.bool (Pn.namedB s)) ∧ Below w.heap.size w w' := by
  go_enter Tryd.func15, Tryd.ntmps15
  go_wp2_with fail
  go_loopw [3] (fun iv wr => ∃ (k : Nat), iv = .int .i64 k ∧ k ≤ s.size ∧ Hid (namedTo s k = true) ∧ Hid (Below w.heap.size w wr)) (fun iv _ => s.size - (intOf iv).toNat)
  case atStart => exact ⟨0, rfl, Nat.zero_le _, hide rfl, hide (Below.refl _ _)⟩
  case round =>
    obtain ⟨k, rfl, hk, HN, HB⟩ := hrel
    by_cases hlt : k < s.size
    · obtain ⟨n, hn⟩ : ∃ n, s[k].toNat = n := ⟨_, rfl⟩
      have hnb : Hid (Pn.nameB s[k] = ((decide (97 ≤ n) && decide (n ≤ 122)) || ((decide (48 ≤ n) && decide (n ≤ 57)) || decide (n = 45)))) := hide (by unfold Pn.nameB; rw [hn])
      by_cases h1 : 97 ≤ n <;> by_cases h2 : n ≤ 122 <;> by_cases h3 : 48 ≤ n <;> by_cases h4 : n ≤ 57 <;> by_cases h5 : n = 45
      all_goals first
        | (exfalso; omega)
        | (first | have g1 : decide ((97 : Int) ≤ (n : Int)) = true := decide_eq_true (by omega) | have g1 : decide ((97 : Int) ≤ (n : Int)) = false := decide_eq_false (by omega)
           first | have g2 : decide ((n : Int) ≤ 122) = true := decide_eq_true (by omega) | have g2 : decide ((n : Int) ≤ 122) = false := decide_eq_false (by omega)
           first | have g3 : decide ((48 : Int) ≤ (n : Int)) = true := decide_eq_true (by omega) | have g3 : decide ((48 : Int) ≤ (n : Int)) = false := decide_eq_false (by omega)
           first | have g4 : decide ((n : Int) ≤ 57) = true := decide_eq_true (by omega) | have g4 : decide ((n : Int) ≤ 57) = false := decide_eq_false (by omega)
           first | have g5 : ((n : Int) == 45) = true := by (rw [beq_iff_eq]; omega) | have g5 : ((n : Int) == 45) = false := by (rw [beq_eq_false_iff_ne]; omega)
           first
             | (have HS : Hid (namedTo s (k + 1) = true) := hide (by rw [namedTo_succ hlt, unhide HN, unhide hnb]; simp; omega)
                clear h1 h2 h3 h4 h5 hnb HN
                go_wp2_with fail
                refine ⟨⟨k + 1, by go_num, by omega, HS, HB⟩, ?_⟩
                simp [intOf]; omega)
             | (have HF : Hid (Pn.namedB s = false) := hide (named_bad hlt (by rw [unhide hnb]; simp; omega))
                clear h1 h2 h3 h4 h5 hnb HN
                go_wp2_with fail
                go_ret
                rw [unhide HF]
                exact ⟨rfl, unhide HB⟩))
    · obtain rfl : k = s.size := by omega
      have HI := hide (named_good (unhide HN))
      go_wp2_with fail
      refine (in_any _ _ _ _).mono ?_
      rintro e w1 ⟨rfl, rfl⟩
      go_wp2_with fail
      go_ret
      rw [unhide HI]
      exact ⟨rfl, unhide HB⟩
end Go.Proofs.YtcbfmjjodfnacaaDoor

namespace Go.Proofs.YtcbfmjjodfnacaaDoor
open Go.RowKit


/-- front: what is behind it -/
def frontV (s t : ByteArray) : Value := if t.data.toList.isPrefixOf s.data.toList = true then .tuple #[.string (Pn.bs (s.data.toList.drop t.size)), .bool true] else .tuple #[.string ⟨#[]⟩, .bool false]

set_option maxRecDepth 100000 in
set_option maxHeartbeats 2000000 in
theorem rfront_any (s t : ByteArray) (w : World) (ht : t.size ≤ 140737488355328) :
    Calls Tryd.prog 27 #[.string s, .string t] w fun e w' => e = .returned (frontV s t) ∧ w' = w := by
  by_cases h1 : s.size < t.size
  · have HR : Hid (frontV s t = .tuple #[.string ⟨#[]⟩, .bool false]) := hide (by
      unfold frontV
      rw [if_neg]
      intro z
      have := (List.isPrefixOf_iff_prefix.1 z).length_le
      simp at this
      omega)
    have g1 : decide ((s.size : Int) < (t.size : Int)) = true := decide_eq_true (by omega)
    go_enter Tryd.func27, Tryd.ntmps27
    go_wp2_with fail
    go_ret2
    rw [unhide HR]
    exact ⟨rfl, rfl⟩
  · have g1 : decide ((s.size : Int) < (t.size : Int)) = false := decide_eq_false (by omega)
    have hx : (s.extract 0 t.size).data.toList = s.data.toList.take t.size := by rw [Lib.extract_data]; simp
    have hy : Pn.bs (s.data.toList.drop t.size) = s.extract t.size s.size := by
      apply ByteArray.ext
      apply Array.ext'
      rw [Lib.extract_data, Pn.list_bs, List.take_of_length_le (by simp)]
    have hp : t.data.toList.isPrefixOf s.data.toList = ((s.extract 0 t.size).toList == t.toList) := by
      rw [ByteArray.toList_eq, ByteArray.toList_eq, hx, Bool.eq_iff_iff, List.isPrefixOf_iff_prefix, beq_iff_eq, List.prefix_iff_eq_take]
      have e : t.data.toList.length = t.size := by simp
      rw [e]
      exact ⟨fun z => z.symm, fun z => z.symm⟩
    cases hM : ((s.extract 0 t.size).toList == t.toList) with
    | true =>
      have HR : Hid (frontV s t = .tuple #[.string (s.extract t.size s.size), .bool true]) := hide (by unfold frontV; rw [hp, hM, if_pos rfl, hy])
      clear hp hx hy
      go_enter Tryd.func27, Tryd.ntmps27
      go_wp2_with fail
      go_ret2
      rw [unhide HR]
      exact ⟨rfl, rfl⟩
    | false =>
      have HR : Hid (frontV s t = .tuple #[.string ⟨#[]⟩, .bool false]) := hide (by unfold frontV; rw [hp, hM, if_neg (by simp)])
      clear hp hx hy
      go_enter Tryd.func27, Tryd.ntmps27
      go_wp2_with fail
      go_ret2
      rw [unhide HR]
      exact ⟨rfl, rfl⟩

namespace Pn
theorem digs_bad {s : ByteArray} {k : Nat} (h : k < s.size) (hk : k < 10) (hb : isDig s[k] = false) : digV s.data.toList = -1 := by
  unfold digV
  rw [if_neg]
  rintro ⟨z, _⟩
  rw [List.all_eq_true] at z
  have hm : s.data.toList[k]'(by simpa using h) ∈ s.data.toList.take 10 := by
    rw [List.mem_iff_getElem]
    exact ⟨k, by simp; omega, by simp⟩
  have := z _ hm
  have e : s.data.toList[k]'(by simpa using h) = s[k] := rfl
  rw [e, hb] at this
  cases this
theorem val_lt : ∀ (l : List UInt8), (∀ c ∈ l, isDig c = true) → val10 l < 10 ^ l.length := by
  refine fun l => snoc_rec (P := fun l => (∀ c ∈ l, isDig c = true) → val10 l < 10 ^ l.length) ?_ ?_ l
  · intro _; simp [val10]
  · intro a d ih hd
    have h1 := hd d (by simp)
    unfold isDig at h1
    simp at h1
    have := ih (fun c hc => hd c (List.mem_append_left _ hc))
    rw [val10_snoc, List.length_append]
    simp only [List.length_singleton, Nat.pow_succ]
    omega
end Pn

set_option maxRecDepth 100000 in
set_option maxHeartbeats 4000000 in
theorem rdigits_any (s : ByteArray) (w : World) (hs : s.size ≤ 140737488355328) :
    Calls Tryd.prog 48 #[.string s] w fun e w' => e = .returned (.int .i64 (Pn.digV s.data.toList)) ∧ w' = w := by
  go_enter Tryd.func48, Tryd.ntmps48
  go_wp2_with fail
  go_loopw [3, 4] (fun nv iv wr => ∃ (i m : Nat), iv = .int .i64 i ∧ nv = .int .i64 m ∧ i ≤ s.size ∧ i ≤ 10 ∧ Hid (m = Pn.val10 (s.data.toList.take i) ∧ ∀ c ∈ s.data.toList.take i, Pn.isDig c = true) ∧ m < 10000000000 ∧ wr = w) (fun _ iv _ => 10 - (intOf iv).toNat)
  case atStart => exact ⟨0, 0, rfl, rfl, Nat.zero_le _, by omega, hide ⟨rfl, by simp⟩, by omega, rfl⟩
  case round =>
    obtain ⟨i, m, rfl, rfl, hi, hi10, HV, hm, rfl⟩ := hrel
    by_cases hlt : i < s.size ∧ i < 10
    · have hl1 := hlt.1
      have hl2 := hlt.2
      have q1 : decide ((i : Int) < (s.size : Int)) = true := decide_eq_true (by omega)
      have q2 : decide ((i : Int) < 10) = true := decide_eq_true (by omega)
      obtain ⟨n, hn⟩ : ∃ n, s[i].toNat = n := ⟨_, rfl⟩
      have hn256 : n < 256 := by rw [← hn]; exact UInt8.toNat_lt _
      by_cases hd : 48 ≤ n ∧ n ≤ 57
      · have g1 : decide ((n : Int) < 48) = false := decide_eq_false (by omega)
        have g2 : decide ((57 : Int) < (n : Int)) = false := decide_eq_false (by omega)
        have hw1 : IntKind.i64.wrap ((m : Int) * 10) = (m : Int) * 10 := by rw [IntKind.wrap_i64]; omega
        have hw2 : IntKind.i64.wrap ((m : Int) * 10 + (n : Int)) = (m : Int) * 10 + (n : Int) := by rw [IntKind.wrap_i64]; omega
        have hw3 : IntKind.i64.wrap ((m : Int) * 10 + (n : Int) - 48) = ((m * 10 + (n - 48) : Nat) : Int) := by rw [IntKind.wrap_i64]; omega
        have HV2 : Hid (m * 10 + (n - 48) = Pn.val10 (s.data.toList.take (i + 1)) ∧ ∀ c ∈ s.data.toList.take (i + 1), Pn.isDig c = true) := hide (by
          rw [take_snoc s i hl1]
          refine ⟨by rw [Pn.val10_snoc, hn, ← (unhide HV).1], fun c hc => ?_⟩
          rcases List.mem_append.1 hc with y | y
          · exact (unhide HV).2 c y
          · rw [List.mem_singleton.1 y]
            unfold Pn.isDig
            rw [hn]; simp; omega)
        have hm2 : m * 10 + (n - 48) < 10000000000 := by
          have := Pn.val_lt _ (unhide HV2).2
          rw [← (unhide HV2).1, List.length_take] at this
          have h2 : (10 : Nat) ^ min (i + 1) s.data.toList.length ≤ 10 ^ 10 := Nat.pow_le_pow_right (by decide) (by omega)
          have h3 : (10 : Nat) ^ 10 = 10000000000 := by decide
          omega
        clear HV hlt
        go_wp2_with fail
        refine ⟨⟨i + 1, m * 10 + (n - 48), by go_num, rfl, by omega, by omega, HV2, hm2, trivial⟩, ?_⟩
        simp [intOf]; omega
      · have HR : Hid (Pn.digV s.data.toList = -1) := hide (Pn.digs_bad hl1 hl2 (by unfold Pn.isDig; rw [hn]; simp; omega))
        clear HV hlt
        by_cases h48 : n < 48
        · have g1 : decide ((n : Int) < 48) = true := decide_eq_true (by omega)
          go_wp2_with fail
          go_ret
          rw [unhide HR]
          exact ⟨rfl, rfl⟩
        · have g1 : decide ((n : Int) < 48) = false := decide_eq_false (by omega)
          have g2 : decide ((57 : Int) < (n : Int)) = true := decide_eq_true (by omega)
          go_wp2_with fail
          go_ret
          rw [unhide HR]
          exact ⟨rfl, rfl⟩
    · by_cases hA : i = s.size
      · subst hA
        have q1 : decide ((s.size : Int) < (s.size : Int)) = false := decide_eq_false (by omega)
        have hall := (unhide HV).2
        rw [List.take_of_length_le (by simp)] at hall
        have hval : m = Pn.val10 s.data.toList := by
          have := (unhide HV).1
          rwa [List.take_of_length_le (by simp)] at this
        have hlen : s.data.toList.length = s.size := by simp
        have hall10 : (s.data.toList.take 10).all Pn.isDig = true := by
          rw [List.all_eq_true]
          exact fun c hc => hall c (List.mem_of_mem_take hc)
        cases hI : inI (s.size : Int) 1 9 with
        | false =>
          have HR : Hid (Pn.digV s.data.toList = -1) := hide (by
            unfold Pn.digV
            rw [if_neg]
            rintro ⟨_, z1, z2, _⟩
            rw [hlen] at z1 z2
            unfold inI at hI
            simp at hI
            omega)
          have HI := hide hI
          clear hI hval hall hall10 HV hlt hlen
          go_wp2_with fail
          refine (in_any _ _ _ _).mono ?_
          rintro e w1 ⟨rfl, rfl⟩
          rw [unhide HI]
          go_wp2_with fail
          go_ret
          rw [unhide HR]
          exact ⟨rfl, rfl⟩
        | true =>
          have hb : 1 ≤ s.size ∧ s.size ≤ 9 := by
            unfold inI at hI
            simp at hI
            omega
          have hs0 : 0 < s.size := by omega
          have hhead : s.data.toList.head? = some s[0] := by
            rw [List.head?_eq_getElem?, List.getElem?_eq_getElem (by omega)]
            rfl
          have HI := hide hI
          obtain ⟨z, hz⟩ : ∃ z, s[0].toNat = z := ⟨_, rfl⟩
          have hz256 : z < 256 := by rw [← hz]; exact UInt8.toNat_lt _
          have h48 : s.data.toList.head? = some 48 ↔ z = 48 := by
            rw [hhead, Option.some.injEq, ← hz]
            constructor
            · intro y; rw [y]; rfl
            · intro y; exact UInt8.toNat_inj.1 (by rw [y]; rfl)
          by_cases hz0 : z = 48
          · have g1 : ((z : Int) == 48) = true := by rw [beq_iff_eq]; omega
            cases hO : (s.toList == [48]) with
            | true =>
              have e1 : s.data.toList = [48] := by
                rw [beq_iff_eq, ByteArray.toList_eq] at hO
                exact hO
              have HR : Hid (Pn.digV s.data.toList = (m : Int)) := hide (by
                unfold Pn.digV
                rw [if_pos ⟨hall10, by omega, by omega, fun y => y.2 e1⟩, hval])
              clear hI hval hall hall10 HV hlt hlen hhead h48 e1
              go_wp2_with fail
              refine (in_any _ _ _ _).mono ?_
              rintro e w1 ⟨rfl, rfl⟩
              rw [unhide HI]
              go_wp2_with fail
              go_ret
              rw [unhide HR]
              exact ⟨rfl, rfl⟩
            | false =>
              have HR : Hid (Pn.digV s.data.toList = -1) := hide (by
                unfold Pn.digV
                rw [if_neg]
                rintro ⟨_, _, _, y⟩
                refine y ⟨h48.2 hz0, fun q => ?_⟩
                rw [ByteArray.toList_eq, q] at hO
                cases hO)
              clear hI hval hall hall10 HV hlt hlen hhead h48
              go_wp2_with fail
              refine (in_any _ _ _ _).mono ?_
              rintro e w1 ⟨rfl, rfl⟩
              rw [unhide HI]
              go_wp2_with fail
              go_ret
              rw [unhide HR]
              exact ⟨rfl, rfl⟩
          · have g1 : ((z : Int) == 48) = false := by rw [beq_eq_false_iff_ne]; omega
            have HR : Hid (Pn.digV s.data.toList = (m : Int)) := hide (by
              unfold Pn.digV
              rw [if_pos ⟨hall10, by omega, by omega, fun y => hz0 (h48.1 y.1)⟩, hval])
            clear hI hval hall hall10 HV hlt hlen hhead h48
            go_wp2_with fail
            refine (in_any _ _ _ _).mono ?_
            rintro e w1 ⟨rfl, rfl⟩
            rw [unhide HI]
            go_wp2_with fail
            go_ret
            rw [unhide HR]
            exact ⟨rfl, rfl⟩
      · obtain rfl : i = 10 := by omega
        have q1 : decide ((10 : Int) < (s.size : Int)) = true := decide_eq_true (by omega)
        have HI : Hid (inI (s.size : Int) 1 9 = false) := hide (by unfold inI; simp; omega)
        have HR : Hid (Pn.digV s.data.toList = -1) := hide (by
          unfold Pn.digV
          rw [if_neg]
          rintro ⟨_, z1, z2, _⟩
          have hlen : s.data.toList.length = s.size := by simp
          omega)
        clear HV hlt
        go_wp2_with fail
        refine (in_any _ _ _ _).mono ?_
        rintro e w1 ⟨rfl, rfl⟩
        rw [unhide HI]
        go_wp2_with fail
        go_ret
        rw [unhide HR]
        exact ⟨rfl, rfl⟩
end Go.Proofs.YtcbfmjjodfnacaaDoor
