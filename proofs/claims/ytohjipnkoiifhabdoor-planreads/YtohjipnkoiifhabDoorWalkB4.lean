/-
  Contracts of rillref.Joined, front and Digits.
-/
import Derived.Test.YtohjipnkoiifhabDoorWalkB2
import Derived.Test.YtohjipnkoiifhabDoorJointPapPbPapPcPapPd
import Derived.Test.YtohjipnkoiifhabDoorPapPf
namespace Go.Proofs.YtohjipnkoiifhabDoor
open Go.RowKit


set_option maxRecDepth 100000 in
set_option maxHeartbeats 2000000 in
theorem rjoined_any (a : Option Addr) (l : List ByteArray) (c : Nat) (b : UInt8) (w : World) (hsl : SlS w a l) (hz : ∀ k, k < l.length → (tk l k).size ≤ 1000) (hl : l.length ≤ 100000) :
    Calls Tryd.prog 24 #[.slice a l.length c, .string (Pn.bs [b])] w fun e w' => e = .returned (.string (Pn.bs (Pn.glue b (l.map (·.data.toList))))) ∧ Below w.heap.size w w' := by
  have HS := hide hsl
  have HG := hide (Pn.glue_few (b := b) hz)
  have HZ := hide hz
  have hb1 : (Pn.bs [b]).size = 1 := Pn.bs_size [b]
  clear hsl hz
  obtain ⟨W, hW⟩ : ∃ W, W = Pn.bs [b] := ⟨_, rfl⟩
  rw [← hW] at hb1 ⊢
  have HW := hide hW
  clear hW
  go_enter Tryd.func24, Tryd.ntmps24
  go_wp2_with fail
  go_loopw [5, 6] (fun ov iv wr => ∃ (i : Nat) (t : ByteArray), iv = .int .i64 i ∧ i ≤ l.length ∧ ov = .string t ∧ Hid (t = Pn.bs (Pn.glue b ((l.take i).map (·.data.toList)))) ∧ t.size ≤ l.length * 1001 ∧ Hid (SlS wr a l ∧ Below w.heap.size w wr)) (fun _ iv _ => l.length - (intOf iv).toNat)
  case atStart => exact ⟨0, ByteArray.empty, rfl, Nat.zero_le _, rfl, hide rfl, Nat.zero_le _, hide ⟨unhide HS, Below.refl _ _⟩⟩
  case round =>
    obtain ⟨i, t, rfl, hi, rfl, HT, ht, HB⟩ := hrel
    by_cases hlt : i < l.length
    · obtain ⟨ba, o, rfl, _, e1⟩ := (unhide HB).1 i hlt
      have hzi := unhide HZ i hlt
      have hst := Pn.glue_take (b := b) hlt
      have hfew := unhide HG (i + 1)
      by_cases h0 : i = 0
      · subst h0
        have HT2 : Hid (t ++ tk l 0 = Pn.bs (Pn.glue b ((l.take 1).map (·.data.toList)))) := hide (by rw [unhide HT, Pn.bs_app, hst, if_pos rfl]; rfl)
        have hs2 : (t ++ tk l 0).size ≤ l.length * 1001 := by rw [unhide HT2, Pn.bs_size]; exact hfew
        have hsum : t.size + (tk l 0).size ≤ 9223372036854775807 := by omega
        rw [Nat.add_zero] at e1
        clear HT hst hfew
        go_wp2_with fail
        refine ⟨⟨1, t ++ tk l 0, rfl, by omega, rfl, HT2, hs2, HB⟩, ?_⟩
        simp [intOf]; omega
      · have HT2 : Hid (t ++ W ++ tk l i = Pn.bs (Pn.glue b ((l.take (i + 1)).map (·.data.toList)))) := hide (by
          rw [unhide HT, Pn.bs_app, Pn.bs_app, hst, if_neg h0, unhide HW, Pn.list_bs])
        have hs2 : (t ++ W ++ tk l i).size ≤ l.length * 1001 := by rw [unhide HT2, Pn.bs_size]; exact hfew
        have hsum0 : t.size + W.size ≤ 9223372036854775807 := by omega
        have hsz : (t ++ W).size = t.size + 1 := by rw [ByteArray.size_append, hb1]
        have hsum : (t ++ W).size + (tk l i).size ≤ 9223372036854775807 := by omega
        have g0 : decide ((0 : Int) < (i : Int)) = true := decide_eq_true (by omega)
        clear HT hst hfew hsz
        go_wp2_with fail
        refine ⟨⟨i + 1, t ++ W ++ tk l i, by go_num, by omega, rfl, HT2, hs2, HB⟩, ?_⟩
        simp [intOf]; omega
    · obtain rfl : i = l.length := by omega
      have HT2 := HT
      rw [List.take_length] at HT2
      clear HT hlt
      go_wp2_with fail
      go_ret
      rw [unhide HT2]
      exact ⟨rfl, (unhide HB).2⟩

/-- front: what is behind it -/
def frontV (s t : ByteArray) : Value := if t.data.toList.isPrefixOf s.data.toList = true then .tuple #[.string (Pn.bs (s.data.toList.drop t.size)), .bool true] else .tuple #[.string ⟨#[]⟩, .bool false]

set_option maxRecDepth 100000 in
set_option maxHeartbeats 2000000 in
theorem rfront_any (s t : ByteArray) (w : World) (ht : t.size ≤ 140737488355328) :
    Calls Tryd.prog 26 #[.string s, .string t] w fun e w' => e = .returned (frontV s t) ∧ w' = w := by
  by_cases h1 : s.size < t.size
  · have HR : Hid (frontV s t = .tuple #[.string ⟨#[]⟩, .bool false]) := hide (by
      unfold frontV
      rw [if_neg]
      intro z
      have := (List.isPrefixOf_iff_prefix.1 z).length_le
      simp at this
      omega)
    have g1 : decide ((s.size : Int) < (t.size : Int)) = true := decide_eq_true (by omega)
    go_enter Tryd.func26, Tryd.ntmps26
    go_wp2_with fail
    go_ret2
    rw [unhide HR]
    exact ⟨rfl, rfl⟩
  · have g1 : decide ((s.size : Int) < (t.size : Int)) = false := decide_eq_false (by omega)
    have hx : (s.extract 0 t.size).data.toList = s.data.toList.take t.size := by rw [Lib.extract_data]; simp
    have hy : Pn.bs (s.data.toList.drop t.size) = s.extract t.size s.size := by
      apply ByteArray.ext
      apply Array.ext'
      rw [Lib.extract_data, Pn.list_bs, List.take_of_length_le (by simp)]
    have hp : t.data.toList.isPrefixOf s.data.toList = ((s.extract 0 t.size).toList == t.toList) := by
      rw [ByteArray.toList_eq, ByteArray.toList_eq, hx, Bool.eq_iff_iff, List.isPrefixOf_iff_prefix, beq_iff_eq, List.prefix_iff_eq_take]
      have e : t.data.toList.length = t.size := by simp
      rw [e]
      exact ⟨fun z => z.symm, fun z => z.symm⟩
    cases hM : ((s.extract 0 t.size).toList == t.toList) with
    | true =>
      have HR : Hid (frontV s t = .tuple #[.string (s.extract t.size s.size), .bool true]) := hide (by unfold frontV; rw [hp, hM, if_pos rfl, hy])
      clear hp hx hy
      go_enter Tryd.func26, Tryd.ntmps26
      go_wp2_with fail
      go_ret2
      rw [unhide HR]
      exact ⟨rfl, rfl⟩
    | false =>
      have HR : Hid (frontV s t = .tuple #[.string ⟨#[]⟩, .bool false]) := hide (by unfold frontV; rw [hp, hM, if_neg (by simp)])
      clear hp hx hy
      go_enter Tryd.func26, Tryd.ntmps26
      go_wp2_with fail
      go_ret2
      rw [unhide HR]
      exact ⟨rfl, rfl⟩

namespace Pn
theorem digs_bad {s : ByteArray} {k : Nat} (h : k < s.size) (hk : k < 10) (hb : isDig s[k] = false) : digV s.data.toList = -1 := by
  unfold digV
  rw [if_neg]
  rintro ⟨z, _⟩
  rw [List.all_eq_true] at z
  have hm : s.data.toList[k]'(by simpa using h) ∈ s.data.toList.take 10 := by
    rw [List.mem_iff_getElem]
    exact ⟨k, by simp; omega, by simp⟩
  have := z _ hm
  have e : s.data.toList[k]'(by simpa using h) = s[k] := rfl
  rw [e, hb] at this
  cases this
theorem val_lt : ∀ (l : List UInt8), (∀ c ∈ l, isDig c = true) → val10 l < 10 ^ l.length := by
  refine fun l => snoc_rec (P := fun l => (∀ c ∈ l, isDig c = true) → val10 l < 10 ^ l.length) ?_ ?_ l
  · intro _; simp [val10]
  · intro a d ih hd
    have h1 := hd d (by simp)
    unfold isDig at h1
    simp at h1
    have := ih (fun c hc => hd c (List.mem_append_left _ hc))
    rw [val10_snoc, List.length_append]
    simp only [List.length_singleton, Nat.pow_succ]
    omega
end Pn

set_option maxRecDepth 100000 in
set_option maxHeartbeats 4000000 in
theorem rdigits_any (s : ByteArray) (w : World) (hs : s.size ≤ 140737488355328) :
    Calls Tryd.prog 27 #[.string s] w fun e w' => e = .returned (.int .i64 (Pn.digV s.data.toList)) ∧ w' = w := by
  go_enter Tryd.func27, Tryd.ntmps27
  go_wp2_with fail
  go_loopw [3, 4] (fun nv iv wr => ∃ (i m : Nat), iv = .int .i64 i ∧ nv = .int .i64 m ∧ i ≤ s.size ∧ i ≤ 10 ∧ Hid (m = Pn.val10 (s.data.toList.take i) ∧ ∀ c ∈ s.data.toList.take i, Pn.isDig c = true) ∧ m < 10000000000 ∧ wr = w) (fun _ iv _ => 10 - (intOf iv).toNat)
  case atStart => exact ⟨0, 0, rfl, rfl, Nat.zero_le _, by omega, hide ⟨rfl, by simp⟩, by omega, rfl⟩
  case round =>
    obtain ⟨i, m, rfl, rfl, hi, hi10, HV, hm, rfl⟩ := hrel
    by_cases hlt : i < s.size ∧ i < 10
    · have hl1 := hlt.1
      have hl2 := hlt.2
      have q1 : decide ((i : Int) < (s.size : Int)) = true := decide_eq_true (by omega)
      have q2 : decide ((i : Int) < 10) = true := decide_eq_true (by omega)
      obtain ⟨n, hn⟩ : ∃ n, s[i].toNat = n := ⟨_, rfl⟩
      have hn256 : n < 256 := by rw [← hn]; exact UInt8.toNat_lt _
      by_cases hd : 48 ≤ n ∧ n ≤ 57
      · have g1 : decide ((n : Int) < 48) = false := decide_eq_false (by omega)
        have g2 : decide ((57 : Int) < (n : Int)) = false := decide_eq_false (by omega)
        have hw1 : IntKind.i64.wrap ((m : Int) * 10) = (m : Int) * 10 := by rw [IntKind.wrap_i64]; omega
        have hw2 : IntKind.i64.wrap ((m : Int) * 10 + (n : Int)) = (m : Int) * 10 + (n : Int) := by rw [IntKind.wrap_i64]; omega
        have hw3 : IntKind.i64.wrap ((m : Int) * 10 + (n : Int) - 48) = ((m * 10 + (n - 48) : Nat) : Int) := by rw [IntKind.wrap_i64]; omega
        have HV2 : Hid (m * 10 + (n - 48) = Pn.val10 (s.data.toList.take (i + 1)) ∧ ∀ c ∈ s.data.toList.take (i + 1), Pn.isDig c = true) := hide (by
          rw [take_snoc s i hl1]
          refine ⟨by rw [Pn.val10_snoc, hn, ← (unhide HV).1], fun c hc => ?_⟩
          rcases List.mem_append.1 hc with y | y
          · exact (unhide HV).2 c y
          · rw [List.mem_singleton.1 y]
            unfold Pn.isDig
            rw [hn]; simp; omega)
        have hm2 : m * 10 + (n - 48) < 10000000000 := by
          have := Pn.val_lt _ (unhide HV2).2
          rw [← (unhide HV2).1, List.length_take] at this
          have h2 : (10 : Nat) ^ min (i + 1) s.data.toList.length ≤ 10 ^ 10 := Nat.pow_le_pow_right (by decide) (by omega)
          have h3 : (10 : Nat) ^ 10 = 10000000000 := by decide
          omega
        clear HV hlt
        go_wp2_with fail
        refine ⟨⟨i + 1, m * 10 + (n - 48), by go_num, rfl, by omega, by omega, HV2, hm2, trivial⟩, ?_⟩
        simp [intOf]; omega
      · have HR : Hid (Pn.digV s.data.toList = -1) := hide (Pn.digs_bad hl1 hl2 (by unfold Pn.isDig; rw [hn]; simp; omega))
        clear HV hlt
        by_cases h48 : n < 48
        · have g1 : decide ((n : Int) < 48) = true := decide_eq_true (by omega)
          go_wp2_with fail
          go_ret
          rw [unhide HR]
          exact ⟨rfl, rfl⟩
        · have g1 : decide ((n : Int) < 48) = false := decide_eq_false (by omega)
          have g2 : decide ((57 : Int) < (n : Int)) = true := decide_eq_true (by omega)
          go_wp2_with fail
          go_ret
          rw [unhide HR]
          exact ⟨rfl, rfl⟩
    · by_cases hA : i = s.size
      · subst hA
        have q1 : decide ((s.size : Int) < (s.size : Int)) = false := decide_eq_false (by omega)
        have hall := (unhide HV).2
        rw [List.take_of_length_le (by simp)] at hall
        have hval : m = Pn.val10 s.data.toList := by
          have := (unhide HV).1
          rwa [List.take_of_length_le (by simp)] at this
        have hlen : s.data.toList.length = s.size := by simp
        have hall10 : (s.data.toList.take 10).all Pn.isDig = true := by
          rw [List.all_eq_true]
          exact fun c hc => hall c (List.mem_of_mem_take hc)
        cases hI : inI (s.size : Int) 1 9 with
        | false =>
          have HR : Hid (Pn.digV s.data.toList = -1) := hide (by
            unfold Pn.digV
            rw [if_neg]
            rintro ⟨_, z1, z2, _⟩
            rw [hlen] at z1 z2
            unfold inI at hI
            simp at hI
            omega)
          have HI := hide hI
          clear hI hval hall hall10 HV hlt hlen
          go_wp2_with fail
          refine (in_any _ _ _ _).mono ?_
          rintro e w1 ⟨rfl, rfl⟩
          rw [unhide HI]
          go_wp2_with fail
          go_ret
          rw [unhide HR]
          exact ⟨rfl, rfl⟩
        | true =>
          have hb : 1 ≤ s.size ∧ s.size ≤ 9 := by
            unfold inI at hI
            simp at hI
            omega
          have hs0 : 0 < s.size := by omega
          have hhead : s.data.toList.head? = some s[0] := by
            rw [List.head?_eq_getElem?, List.getElem?_eq_getElem (by omega)]
            rfl
          have HI := hide hI
          obtain ⟨z, hz⟩ : ∃ z, s[0].toNat = z := ⟨_, rfl⟩
          have hz256 : z < 256 := by rw [← hz]; exact UInt8.toNat_lt _
          have h48 : s.data.toList.head? = some 48 ↔ z = 48 := by
            rw [hhead, Option.some.injEq, ← hz]
            constructor
            · intro y; rw [y]; rfl
            · intro y; exact UInt8.toNat_inj.1 (by rw [y]; rfl)
          by_cases hz0 : z = 48
          · have g1 : ((z : Int) == 48) = true := by rw [beq_iff_eq]; omega
            cases hO : (s.toList == [48]) with
            | true =>
              have e1 : s.data.toList = [48] := by
                rw [beq_iff_eq, ByteArray.toList_eq] at hO
                exact hO
              have HR : Hid (Pn.digV s.data.toList = (m : Int)) := hide (by
                unfold Pn.digV
                rw [if_pos ⟨hall10, by omega, by omega, fun y => y.2 e1⟩, hval])
              clear hI hval hall hall10 HV hlt hlen hhead h48 e1
              go_wp2_with fail
              refine (in_any _ _ _ _).mono ?_
              rintro e w1 ⟨rfl, rfl⟩
              rw [unhide HI]
              go_wp2_with fail
              go_ret
              rw [unhide HR]
              exact ⟨rfl, rfl⟩
            | false =>
              have HR : Hid (Pn.digV s.data.toList = -1) := hide (by
                unfold Pn.digV
                rw [if_neg]
                rintro ⟨_, _, _, y⟩
                refine y ⟨h48.2 hz0, fun q => ?_⟩
                rw [ByteArray.toList_eq, q] at hO
                cases hO)
              clear hI hval hall hall10 HV hlt hlen hhead h48
              go_wp2_with fail
              refine (in_any _ _ _ _).mono ?_
              rintro e w1 ⟨rfl, rfl⟩
              rw [unhide HI]
              go_wp2_with fail
              go_ret
              rw [unhide HR]
              exact ⟨rfl, rfl⟩
          · have g1 : ((z : Int) == 48) = false := by rw [beq_eq_false_iff_ne]; omega
            have HR : Hid (Pn.digV s.data.toList = (m : Int)) := hide (by
              unfold Pn.digV
              rw [if_pos ⟨hall10, by omega, by omega, fun y => hz0 (h48.1 y.1)⟩, hval])
            clear hI hval hall hall10 HV hlt hlen hhead h48
            go_wp2_with fail
            refine (in_any _ _ _ _).mono ?_
            rintro e w1 ⟨rfl, rfl⟩
            rw [unhide HI]
            go_wp2_with fail
            go_ret
            rw [unhide HR]
            exact ⟨rfl, rfl⟩
      · obtain rfl : i = 10 := by omega
        have q1 : decide ((10 : Int) < (s.size : Int)) = true := decide_eq_true (by omega)
        have HI : Hid (inI (s.size : Int) 1 9 = false) := hide (by unfold inI; simp; omega)
        have HR : Hid (Pn.digV s.data.toList = -1) := hide (by
          unfold Pn.digV
          rw [if_neg]
          rintro ⟨_, z1, z2, _⟩
          have hlen : s.data.toList.length = s.size := by simp
          omega)
        clear HV hlt
        go_wp2_with fail
        refine (in_any _ _ _ _).mono ?_
        rintro e w1 ⟨rfl, rfl⟩
        rw [unhide HI]
        go_wp2_with fail
        go_ret
        rw [unhide HR]
        exact ⟨rfl, rfl⟩
end Go.Proofs.YtohjipnkoiifhabDoor
